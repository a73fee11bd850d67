/-
  How many entries have an epoch that is not above one: the search by halving. Conditions: bounds; epochs never get less.
-/
import Derived.Test.YtabbkghnijebpaaRefMay
namespace Go.Proofs.Ytabbkghnijebpaa
open Go.RowKit
theorem mf (fn : Fn) (first cap : Array Value) (w : World) : (Instr.makeFunc fn first cap).run Try.prog w = .ok (.func fn first cap) w := rfl
set_option maxRecDepth 100000 in
set_option maxHeartbeats 4000000 in
theorem holds_any {w : World} (p : Int × Int) {b : Nat} {ep : Int} (hb : w.cell? ⟨b, 0, none⟩ = some (.int .i64 ep)) :
    Calls Try.prog 36 #[.agg (entA p), .pointer (some ⟨b, 0, none⟩)] w fun e w' => e = .returned (.bool (decide (p.1 ≤ ep))) ∧ Below w.heap.size w w' := by
  have hl : b < w.heap.size := block_lt_of_cell hb
  have hc : (w.alloc (.cells #[.int .i64 p.1, .int .i64 (-1), .int .i64 0, .int .i64 0, .int .i64 1, .int .i64 p.2] 59)).cell? ⟨w.heap.size, 0, none⟩ = some (.int .i64 p.1) := (Blk.new _ _ _).cell 0
  have hb' : (w.alloc (.cells #[.int .i64 p.1, .int .i64 (-1), .int .i64 0, .int .i64 0, .int .i64 1, .int .i64 p.2] 59)).cell? ⟨b, 0, none⟩ = some (.int .i64 ep) := (((Below.refl w.heap.size w).alloc (Nat.le_refl _) _).cell (p := ⟨b, 0, none⟩) hl).trans hb
  have HB := Lib.hid ((Below.refl w.heap.size w).alloc (Nat.le_refl _) (.cells #[.int .i64 p.1, .int .i64 (-1), .int .i64 0, .int .i64 0, .int .i64 1, .int .i64 p.2] 59))
  unfold entA
  go_enter Try.func36, Try.ntmps36
  go_wp2_with fail
  go_ret
  exact ⟨rfl, HB.out⟩
set_option maxRecDepth 100000 in
set_option maxHeartbeats 4000000 in
theorem howMany_any {w : World} {X : Nat → Prop} {A : Option Addr} {n c : Nat} {f : Nat → Int × Int} (h : Lg w X A n f) (hc : n ≤ 1000000000) (hg : Good (fun i => (f i).1) n) {b : Nat} {ep : Int} (hb : w.cell? ⟨b, 0, none⟩ = some (.int .i64 ep)) :
    Calls Try.prog 35 #[.slice A n c, .func (.func 36) #[] #[.pointer (some ⟨b, 0, none⟩)]] w fun e w' => e = .returned (.int .i64 (nab (fun i => (f i).1) ep n : Int)) ∧ Below w.heap.size w w' := by
  have hl : b < w.heap.size := block_lt_of_cell hb
  have HH := Lib.hid h
  have HG := Lib.hid hg
  clear h hg
  go_enter Try.func35, Try.ntmps35
  go_wp2_with fail
  go_loopw [5, 6] (fun x y wr => ∃ p q : Nat, p ≤ q ∧ q ≤ n ∧ x = .int .i64 p ∧ y = .int .i64 q ∧ Hid (∀ i, i < p → (f i).1 ≤ ep) ∧ Hid (∀ i, q ≤ i → i < n → ep < (f i).1) ∧ Below w.heap.size w wr) (fun x y _ => (intOf y).toNat - (intOf x).toNat)
  case atStart => exact ⟨0, n, by omega, by omega, rfl, rfl, Lib.hid (fun i hi => by omega), Lib.hid (fun i h1 h2 => by omega), Below.refl _ _⟩
  case round =>
    obtain ⟨p, q, hpq, hqn, rfl, rfl, hlo, hhi, hbl⟩ := hrel
    by_cases hlt : p < q
    case neg =>
      have hd1 : decide (p < q) = false := by simpa using hlt
      have HE : Hid (nab (fun i => (f i).1) ep n = p) := Lib.hid (nab_of (by omega) hlo.out (fun i h1 h2 => hhi.out i (by omega) h2))
      go_wp2_with fail
      go_ret
      exact ⟨by rw [HE.out]; rfl, hbl⟩
    case pos =>
    obtain ⟨m, hm⟩ : ∃ m : Nat, m = p + (q - p) / 2 := ⟨_, rfl⟩
    have hmq : m < q := by omega
    have hpm : p ≤ m := by omega
    have e1 : (p : Int) + ((q : Int) - (p : Int)) / 2 = (m : Int) := by omega
    have e2 : (p : Int) + Int.tdiv ((q : Int) - (p : Int)) 2 = (m : Int) := by rw [Int.tdiv_eq_ediv_of_nonneg (by omega)]; exact e1
    have HB := Lib.hid hbl
    obtain ⟨ad, rfl, hl2, -, c0, c1, c2, c3, c4, c5⟩ := (HH.out.below hbl).at_ (k := m) (by omega)
    have hcall := holds_any (w := wr) (f m) (b := b) (ep := ep) ((hbl.cell (p := ⟨b, 0, none⟩) hl).trans hb)
    unfold entA at hcall
    clear hbl hm
    have hgd := HG.out
    by_cases hle : (f m).1 ≤ ep
    case pos =>
      have hd : decide ((f m).1 ≤ ep) = true := by simpa using hle
      rw [hd] at hcall
      have HLO : Hid (∀ i, i < m + 1 → (f i).1 ≤ ep) := Lib.hid (fun i hi => by
        have h1 : (f i).1 ≤ (f m).1 := hgd.le (i := i) (j := m) (by omega) (by omega)
        omega)
      clear hgd hle
      go_wp2_with fail
      refine hcall.mono ?_
      rintro e w2 ⟨rfl, hb2⟩
      go_wp2_with fail
      go_roundw
      case rel => exact ⟨m + 1, q, by omega, by omega, by go_num, rfl, HLO, hhi, HB.out.trans (hb2.mono HB.out.size)⟩
      case measure => simp [intOf]; omega
    case neg =>
      have hd : decide ((f m).1 ≤ ep) = false := by simpa using hle
      rw [hd] at hcall
      have HHI : Hid (∀ i, m ≤ i → i < n → ep < (f i).1) := Lib.hid (fun i h1 h2 => by
        have h1 : (f m).1 ≤ (f i).1 := hgd.le (i := m) (j := i) (by omega) (by omega)
        omega)
      clear hgd hle
      go_wp2_with fail
      refine hcall.mono ?_
      rintro e w2 ⟨rfl, hb2⟩
      go_wp2_with fail
      go_roundw
      case rel => exact ⟨p, m, by omega, by omega, rfl, rfl, hlo, HHI, HB.out.trans (hb2.mono HB.out.size)⟩
      case measure => simp [intOf]; omega
set_option maxRecDepth 100000 in
set_option maxHeartbeats 4000000 in
theorem notAbove_any {w : World} {X : Nat → Prop} {A : Option Addr} {n c : Nat} {f : Nat → Int × Int} (h : Lg w X A n f) (hc : n ≤ 1000000000) (hg : Good (fun i => (f i).1) n) (ep : Int) :
    Calls Try.prog 34 #[.slice A n c, .int .i64 ep] w fun e w' => e = .returned (.int .i64 (nab (fun i => (f i).1) ep n : Int)) ∧ Below w.heap.size w w' := by
  have hmf := mf
  have hcall := howMany_any (w := w.alloc (.cells #[.int .i64 ep] 2)) (c := c) (h.alloc _) hc hg (b := w.heap.size) (ep := ep) ((Blk.new _ _ _).cell 0)
  have HB := Lib.hid ((Below.refl w.heap.size w).alloc (Nat.le_refl _) (.cells #[.int .i64 ep] 2))
  clear h hg
  go_enter Try.func34, Try.ntmps34
  go_wp2_with fail
  refine hcall.mono ?_
  rintro e w2 ⟨rfl, hb2⟩
  go_wp2_with fail
  go_ret
  exact ⟨rfl, HB.out.trans (hb2.mono HB.out.size)⟩
/-- The first k of a slice of entries. -/
theorem slice25_to (a : Option Addr) (n c k : Nat) (i : Int) (hi : i = (k : Int)) (hk : k ≤ c) (W : World) : (Instr.slice 25 (.slice a n c) none (some (.int .i64 i)) none).run Try.prog W = .ok (.slice a k c) W := by
  subst hi
  obtain ⟨j, hj, hz0, hz1, hz2⟩ := info_parts el25.info
  have ha : a.map (fun x : Addr => x.add 0) = a := by cases a <;> simp [Addr.add]
  simp [Instr.slice, run_underlying Try.underlying25, Instr.sliceBounds, Instr.sliceBound, asIntOf, hk, sizeOf, typeInfo, hj, ha]
set_option maxRecDepth 100000 in
set_option maxHeartbeats 4000000 in
theorem end_any {w : World} {X : Nat → Prop} {A : Option Addr} {n c : Nat} {f : Nat → Int × Int} (h : Lg w X A n f) (hc : n ≤ 1000000000) (hnc : n ≤ c) (hg : Good (fun i => (f i).1) n) (ep : Int) :
    Calls Try.prog 29 #[.slice A n c, .int .i64 ep] w fun e w' => e = .returned (.tuple #[.int .i64 (lastTo (fun i => (f i).1) (nab (fun i => (f i).1) ep n)), .int .i64 (nab (fun i => (f i).1) ep n : Int)]) ∧ Below w.heap.size w w' := by
  have hcall := notAbove_any (c := c) h hc hg ep
  have hle := nab_le (fun i => (f i).1) ep n
  generalize nab (fun i => (f i).1) ep n = k at *
  have hsl := fun W => slice25_to A n c k (k : Int) rfl (by omega) W
  go_enter Try.func29, Try.ntmps29
  go_wp2_with fail
  refine hcall.mono ?_
  rintro e w2 ⟨rfl, hb2⟩
  have hl := last_any (c := c) ((h.first hle).below hb2) (by omega)
  go_wp2_with fail
  refine hl.mono ?_
  rintro e w3 ⟨rfl, rfl⟩
  go_wp2_with fail
  go_ret2
  exact ⟨rfl, hb2⟩
set_option maxRecDepth 100000 in
set_option maxHeartbeats 4000000 in
theorem fits_any {w : World} {X : Nat → Prop} {A : Option Addr} {n c : Nat} {f : Nat → Int × Int} (h : Lg w X A n f) (hc : n ≤ 1000000000) (hnc : n ≤ c) (m : Int) (hm : 0 ≤ m) (ep : Int) :
    Calls Try.prog 30 #[.slice A n c, .int .i64 m, .int .i64 ep] w fun e w' => e = .returned (.bool (decide (Fits (fun i => (f i).1) n m.toNat ep))) ∧ w = w' := by
  by_cases hle : m ≤ n
  · obtain ⟨k, rfl⟩ := Int.eq_ofNat_of_zero_le hm
    have hsl := fun W => slice25_to A n c k (k : Int) rfl (by omega) W
    have hl := last_any (c := c) (h.first (k := k) (by omega)) (by omega)
    have HE : Hid (decide (Fits (fun i => (f i).1) n (k : Int).toNat ep) = decide (lastTo (fun i => (f i).1) k = ep)) := Lib.hid (by
      rw [decide_eq_decide]
      unfold Fits
      simp
      omega)
    clear h
    go_enter Try.func30, Try.ntmps30
    go_wp2_with fail
    refine hl.mono ?_
    rintro e w3 ⟨rfl, rfl⟩
    go_wp2_with fail
    go_ret
    refine ⟨ret_bool ?_, rfl⟩
    rw [HE.out]
    rfl
  · have HE : Hid (decide (Fits (fun i => (f i).1) n m.toNat ep) = false) := Lib.hid (by
      rw [decide_eq_false_iff_not]
      intro h
      have := h.1
      omega)
    clear h
    go_enter Try.func30, Try.ntmps30
    go_wp2_with fail
    go_ret
    exact ⟨by rw [HE.out]; rfl, rfl⟩
set_option maxRecDepth 100000 in
set_option maxHeartbeats 4000000 in
theorem cut_any {w : World} {X : Nat → Prop} {A : Option Addr} {n c : Nat} {f : Nat → Int × Int} (h : Lg w X A n f) (hc : n ≤ 1000000000) (hg : Good (fun i => (f i).1) n) (ep : Int) (m : Int) (hm : 0 ≤ m) :
    Calls Try.prog 31 #[.slice A n c, .int .i64 ep, .int .i64 m] w fun e w' => e = .returned (.int .i64 ((min (nab (fun i => (f i).1) ep n) m.toNat : Nat) : Int)) ∧ Below w.heap.size w w' := by
  have hcall := notAbove_any (c := c) h hc hg ep
  have hle := nab_le (fun i => (f i).1) ep n
  generalize nab (fun i => (f i).1) ep n = k at *
  clear h hg
  go_enter Try.func31, Try.ntmps31
  go_wp2_with fail
  refine hcall.mono ?_
  rintro e w2 ⟨rfl, hb2⟩
  go_wp2_with fail
  all_goals
    go_ret
    refine ⟨ret_i64 ?_, hb2⟩
    omega
end Go.Proofs.Ytabbkghnijebpaa
