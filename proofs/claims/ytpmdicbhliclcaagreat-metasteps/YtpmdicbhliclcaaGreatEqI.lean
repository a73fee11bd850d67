/-
  Are two lists of numbers the same: by the document, by the library. Conditions: at most 1000000.
-/
import Derived.Test.YtpmdicbhliclcaaGreatRise
namespace Go.Proofs.YtpmdicbhliclcaaGreat
open Go.RowKit Go.Maps
set_option linter.unusedVariables false
section
variable {w : World} {V U : List Int}
set_option maxRecDepth 100000 in
set_option maxHeartbeats 4000000 in
theorem refInts_any {X Y : Nat → Prop} {A B : Option Addr} {n m c d : Nat} (h1 : Rd w X 1 A n (intsOf V)) (h2 : Rd w Y 1 B m (intsOf U)) (hn : n ≤ 1000000) (hm : m ≤ 1000000) :
    Calls Tryz.prog 100 #[.slice A n c, .slice B m d] w fun r w' => r = .returned (.bool (decide (V = U))) ∧ ∃ q, w' = w.drewN q := by
  have hl1 := h1.lenI
  have hl2 := h2.lenI
  by_cases h0 : n = m
  case neg =>
    have H : Hid (decide (V = U) = false) := Lib.hid (decide_eq_false (fun e => by subst e; omega))
    have hb : ((n : Int) != (m : Int)) = true := by simp; omega
    clear h1 h2 hl1 hl2 h0
    go_enter Tryz.func100, Tryz.ntmps100
    go_wp2_with fail
    go_ret
    exact ⟨ret_bool H.out.symm, 0, rfl⟩
  subst h0
  have hb : ((n : Int) != (n : Int)) = false := by simp
  have H1 := Lib.hid h1
  have H2 := Lib.hid h2
  have HL1 := Lib.hid hl1
  have HL2 := Lib.hid hl2
  clear h1 h2 hl1 hl2
  go_enter Tryz.func100, Tryz.ntmps100
  go_wp2_with fail
  go_loopw [5] (fun i wr => ∃ k : Nat, k ≤ n ∧ i = .int .i64 k ∧ Hid (V.take k = U.take k) ∧ ∃ q, wr = w.drewN q) (fun i _ => n - (iOf i).toNat)
  case atStart => exact ⟨0, by omega, rfl, Lib.hid rfl, 0, rfl⟩
  case round =>
    obtain ⟨k, hk, rfl, HT, q, rfl⟩ := hrel
    by_cases hlt : k < n
    case neg =>
      have hd1 : decide (k < n) = false := by simpa using hlt
      have H : Hid (decide (V = U) = true) := Lib.hid (decide_eq_true (by
        have := HT.out
        rwa [List.take_of_length_le (by have := HL1.out; omega), List.take_of_length_le (by have := HL2.out; omega)] at this))
      go_wp2_with fail
      go_ret
      exact ⟨ret_bool H.out.symm, q, rfl⟩
    case pos =>
    obtain ⟨e1, he1⟩ : ∃ e, V[k]? = some e := ⟨_, List.getElem?_eq_getElem (by rw [HL1.out]; exact hlt)⟩
    obtain ⟨e2, he2⟩ : ∃ e, U[k]? = some e := ⟨_, List.getElem?_eq_getElem (by rw [HL2.out]; exact hlt)⟩
    obtain ⟨a1, rfl, c0⟩ := H1.out.intAt he1
    obtain ⟨a2, rfl, d0⟩ := H2.out.intAt he2
    have hd1 : decide (k < n) = true := by simpa using hlt
    have HE := Lib.hid (And.intro he1 he2)
    clear he1 he2
    by_cases h3 : e1 = e2
    case pos =>
      have b3 : (e1 != e2) = false := by simp [h3]
      have HN : Hid (V.take (k + 1) = U.take (k + 1)) := Lib.hid (by rw [List.take_add_one, List.take_add_one, HE.out.1, HE.out.2, HT.out, h3])
      clear h3
      go_wp2_with fail
      go_quiet (fail)
      go_wp2_with fail
      go_round
      case rel => exact ⟨k + 1, by omega, by go_num, HN, _, (by first | rfl | rw [World.drewN_drewN])⟩
      case measure => simp [iOf]; omega
    case neg =>
      have b3 : (e1 != e2) = true := by simp [h3]
      have HN : Hid (decide (V = U) = false) := Lib.hid (decide_eq_false (fun e => by
        subst e
        have h1 := HE.out.1
        rw [HE.out.2] at h1
        injection h1 with h1
        exact h3 h1.symm))
      clear h3
      go_wp2_with fail
      go_quiet (fail)
      go_wp2_with fail
      go_ret
      exact ⟨ret_bool HN.out.symm, _, (by first | rfl | rw [World.drewN_drewN])⟩
set_option maxRecDepth 100000 in
set_option maxHeartbeats 4000000 in
theorem equal_any {X Y : Nat → Prop} {A B : Option Addr} {n m c d : Nat} (h1 : Rd w X 1 A n (intsOf V)) (h2 : Rd w Y 1 B m (intsOf U)) (hn : n ≤ 1000000) (hm : m ≤ 1000000) :
    Calls Tryz.prog 142 #[.slice A n c, .slice B m d] w fun r w' => r = .returned (.bool (decide (V = U))) ∧ ∃ q, w' = w.drewN q := by
  have hl1 := h1.lenI
  have hl2 := h2.lenI
  by_cases h0 : n = m
  case neg =>
    have H : Hid (decide (V = U) = false) := Lib.hid (decide_eq_false (fun e => by subst e; omega))
    have hb : ((n : Int) != (m : Int)) = true := by simp; omega
    clear h1 h2 hl1 hl2 h0
    go_enter Tryz.func142, Tryz.ntmps142
    go_wp2_with fail
    go_ret
    exact ⟨ret_bool H.out.symm, 0, rfl⟩
  subst h0
  have hb : ((n : Int) != (n : Int)) = false := by simp
  have H1 := Lib.hid h1
  have H2 := Lib.hid h2
  have HL1 := Lib.hid hl1
  have HL2 := Lib.hid hl2
  clear h1 h2 hl1 hl2
  go_enter Tryz.func142, Tryz.ntmps142
  go_wp2_with fail
  go_loopw [13] (fun i wr => ∃ k : Nat, k ≤ n ∧ i = .int .i64 k ∧ Hid (V.take k = U.take k) ∧ ∃ q, wr = w.drewN q) (fun i _ => n - (iOf i).toNat)
  case atStart => exact ⟨0, by omega, rfl, Lib.hid rfl, 0, rfl⟩
  case round =>
    obtain ⟨k, hk, rfl, HT, q, rfl⟩ := hrel
    by_cases hlt : k < n
    case neg =>
      have hd1 : decide (k < n) = false := by simpa using hlt
      have H : Hid (decide (V = U) = true) := Lib.hid (decide_eq_true (by
        have := HT.out
        rwa [List.take_of_length_le (by have := HL1.out; omega), List.take_of_length_le (by have := HL2.out; omega)] at this))
      go_wp2_with fail
      go_ret
      exact ⟨ret_bool H.out.symm, q, rfl⟩
    case pos =>
    obtain ⟨e1, he1⟩ : ∃ e, V[k]? = some e := ⟨_, List.getElem?_eq_getElem (by rw [HL1.out]; exact hlt)⟩
    obtain ⟨e2, he2⟩ : ∃ e, U[k]? = some e := ⟨_, List.getElem?_eq_getElem (by rw [HL2.out]; exact hlt)⟩
    obtain ⟨a1, rfl, c0⟩ := H1.out.intAt he1
    obtain ⟨a2, rfl, d0⟩ := H2.out.intAt he2
    have hd1 : decide (k < n) = true := by simpa using hlt
    have HE := Lib.hid (And.intro he1 he2)
    clear he1 he2
    by_cases h3 : e1 = e2
    case pos =>
      have b3 : (e1 != e2) = false := by simp [h3]
      have HN : Hid (V.take (k + 1) = U.take (k + 1)) := Lib.hid (by rw [List.take_add_one, List.take_add_one, HE.out.1, HE.out.2, HT.out, h3])
      clear h3
      go_wp2_with fail
      go_quiet (fail)
      go_wp2_with fail
      go_round
      case rel => exact ⟨k + 1, by omega, by go_num, HN, _, (by first | rfl | rw [World.drewN_drewN])⟩
      case measure => simp [iOf]; omega
    case neg =>
      have b3 : (e1 != e2) = true := by simp [h3]
      have HN : Hid (decide (V = U) = false) := Lib.hid (decide_eq_false (fun e => by
        subst e
        have h1 := HE.out.1
        rw [HE.out.2] at h1
        injection h1 with h1
        exact h3 h1.symm))
      clear h3
      go_wp2_with fail
      go_quiet (fail)
      go_wp2_with fail
      go_ret
      exact ⟨ret_bool HN.out.symm, _, (by first | rfl | rw [World.drewN_drewN])⟩
end
section
variable {w : World} {V : List Int} {X : Nat → Prop} {A : Option Addr} {n k : Nat}
/-- The least that may come next. -/
def leastOf (V : List Int) : Int := match V.getLast? with
  | some z => z + 1
  | none => 0
theorem leastOf_take {V : List Int} {y : Int} {j : Nat} (h : V[j]? = some y) : leastOf (V.take (j + 1)) = y + 1 := by
  unfold leastOf
  rw [List.take_add_one, h]
  simp
theorem leastOf_ge {V : List Int} {j : Nat} {m : Int} (hr : Rise (V.take j) m) (hj : j ≤ V.length) : 0 ≤ leastOf (V.take j) ∧ (leastOf (V.take j) ≤ m ∨ j = 0) ∧ ∀ z, 0 < j → V[j - 1]? = some z → leastOf (V.take j) = z + 1 := by
  rcases j with _ | j
  · refine ⟨by simp [leastOf], .inr rfl, fun z h => absurd h (by omega)⟩
  · obtain ⟨z, hz⟩ : ∃ z, V[j]? = some z := ⟨_, List.getElem?_eq_getElem (by omega)⟩
    have h1 := (rise_take (m := m) hz).1 hr
    rw [leastOf_take hz]
    refine ⟨by omega, .inl (by omega), fun z' _ hz' => ?_⟩
    rw [show j + 1 - 1 = j by omega, hz] at hz'
    injection hz' with hz'
    rw [hz']
theorem rise_least {V : List Int} {m y : Int} {j : Nat} (h : V[j]? = some y) (hr : Rise (V.take j) m) : Rise (V.take (j + 1)) m ↔ leastOf (V.take j) ≤ y ∧ y < m := by
  have hj := (List.getElem?_eq_some_iff.1 h).1
  obtain ⟨l1, l2, l3⟩ := leastOf_ge hr (by omega)
  rw [rise_take h]
  constructor
  · rintro ⟨-, h2, h3⟩
    refine ⟨?_, h2.2⟩
    rcases Nat.eq_zero_or_pos j with h0 | h0
    · subst h0
      show leastOf (V.take 0) ≤ y
      rw [List.take_zero]
      exact h2.1
    · obtain ⟨z, hz⟩ : ∃ z, V[j - 1]? = some z := ⟨_, List.getElem?_eq_getElem (by omega)⟩
      have := h3 z h0 hz
      rw [l3 z h0 hz]; omega
  · rintro ⟨h2, h3⟩
    exact ⟨hr, ⟨by omega, h3⟩, fun z h0 hz => by have := l3 z h0 hz; omega⟩
set_option maxRecDepth 100000 in
set_option maxHeartbeats 8000000 in
theorem areBrokers_any (h : Rd w X 1 A n (intsOf V)) (hn : n ≤ 1000000) (a b c : Int) (ha : 0 ≤ a ∧ a ≤ 1000000) : Calls Tryz.prog 87 #[frm a b c, .slice A n k] w fun r w' => ∃ d, r = .returned (.bool d) ∧ (d = true ↔ V ≠ [] ∧ Rise V a) ∧ Below w.heap.size w w' := by
  have hl1 := h.lenI
  have hal := (Below.refl w.heap.size w).alloc (Nat.le_refl _) (.cells #[.int .i64 a, .int .i64 b, .int .i64 c] 68)
  have HB0 := Lib.hid hal
  have HX0 := Lib.hid (Blk.new w 68 #[.int .i64 a, .int .i64 b, .int .i64 c])
  have HR := Lib.hid (h.below hal)
  clear h hal
  unfold frm
  go_enter Tryz.func87, Tryz.ntmps87
  go_wp2_with fail
  generalize hw1 : w.alloc (.cells #[.int .i64 a, .int .i64 b, .int .i64 c] 68) = w1 at *
  clear hw1
  generalize hbx : w.heap.size = bx at *
  have HBW : Hid (bx = w.heap.size) := Lib.hid hbx.symm
  clear hbx
  refine wp_scope_jumps 0 (fun a' w' => (∃ u0 u1 u2 u3 u4 u5 u6 u7 u8 u9 u10 u11 u12 u13 u14 u15 u16 u17 u18 u19 u20 u21 u22 u23 u24 u25 u26 u27 u28 : Value, a' = { tmps := #[u0, u1, u2, u3, u4, u5, u6, u7, u8, u9, u10, u11, u12, u13, u14, u15, u16, u17, u18, u19, u20, u21, u22, u23, u24, u25, u26, u27, u28], defers := [] }) ∧ Hid (¬ (V ≠ [] ∧ Rise V a)) ∧ Below bx w w') (fun _ _ => 0) rfl ?_ ?_
  · by_cases hn0 : n = 0
    · have e0 : ((n : Int) == 0) = true := by simp [hn0]
      have HF : Hid (¬ (V ≠ [] ∧ Rise V a)) := Lib.hid (fun q => q.1 (List.eq_nil_of_length_eq_zero (by omega)))
      clear hn0
      go_wp2_with fail
      go_step3
      exact ⟨rfl, ⟨_, _, _, _, _, _, _, _, _, _, _, _, _, _, _, _, _, _, _, _, _, _, _, _, _, _, _, _, _, rfl⟩, HF, HB0.out⟩
    have e0 : ((n : Int) == 0) = false := by simp [hn0]
    go_wp2_with fail
    go_loopw [5, 13] (fun l i wv => ∃ j : Nat, j ≤ n ∧ i = .int .i64 j ∧ l = .int .i64 (leastOf (V.take j)) ∧ Below w1.heap.size w1 wv ∧ Hid (Rise (V.take j) a)) (fun _ i _ => n - (iOf i).toNat)
    case atStart => exact ⟨0, by omega, rfl, by rw [List.take_zero]; rfl, Below.refl _ _, Lib.hid (by rw [List.take_zero]; exact Rise.nil a)⟩
    case round =>
      obtain ⟨j, hj, rfl, rfl, hb, HI⟩ := hrel
      have HB := Lib.hid hb
      have HBB := Lib.hid (HB0.out.trans (hb.mono (by have := HB0.out.size; have := HBW.out; omega)))
      clear hb
      by_cases hlt : j < n
      case neg =>
        have hd1 : decide (j < n) = false := by simpa using hlt
        have HF : Hid (V ≠ [] ∧ Rise V a) := Lib.hid (by
          have := HI.out
          rw [List.take_of_length_le (by omega)] at this
          exact ⟨fun e => by subst e; simp at hl1; omega, this⟩)
        clear hlt
        go_wp2_with fail
        simp only [Exit.jump]
        go_ret
        exact ⟨true, rfl, ⟨fun _ => HF.out, fun _ => rfl⟩, by rw [← HBW.out]; exact HBB.out⟩
      case pos =>
      have hd1 : decide (j < n) = true := by simpa using hlt
      obtain ⟨y, hy⟩ : ∃ y, V[j]? = some y := ⟨_, List.getElem?_eq_getElem (by omega)⟩
      obtain ⟨ad, rfl, c0⟩ := (HR.out.below HB.out).intAt hy
      have HLT := Lib.hid (leastOf_take hy)
      have HRL := Lib.hid (rise_least hy HI.out)
      have HRV : Hid (Rise V a → Rise (V.take (j + 1)) a) := Lib.hid (fun hr => rise_of_take hr)
      have HLG := Lib.hid (leastOf_ge HI.out (by omega))
      have hx := HX0.out.below HB.out HX0.out.lt
      have x0 := hx.cell 0
      have x1 := hx.cell 1
      have x2 := hx.cell 2
      have hhb := hasBroker_any wr a b c y
      unfold frm at hhb
      clear hx hy
      generalize leastOf (V.take j) = l at *
      by_cases h1 : y < l
      · have e1 : decide (y < l) = true := decide_eq_true h1
        have HF : Hid (¬ (V ≠ [] ∧ Rise V a)) := Lib.hid (fun q => by have := (HRL.out.1 (HRV.out q.2)).1; omega)
        clear h1 hhb
        go_wp2_with fail
        go_step3
        exact ⟨rfl, ⟨_, _, _, _, _, _, _, _, _, _, _, _, _, _, _, _, _, _, _, _, _, _, _, _, _, _, _, _, _, rfl⟩, HF, HBB.out⟩
      have e1 : decide (y < l) = false := decide_eq_false h1
      by_cases h2 : y < a
      case neg =>
        have HF : Hid (¬ (V ≠ [] ∧ Rise V a)) := Lib.hid (fun q => by have := (HRL.out.1 (HRV.out q.2)).2; omega)
        rw [decide_eq_false (fun q => h2 q.2)] at hhb
        clear h1 h2
        go_wp2_with fail
        refine hhb.mono ?_
        rintro r w5 ⟨rfl, hb5⟩
        have HB5 := Lib.hid (HBB.out.trans (hb5.mono (by have := HBB.out.size; have := HBW.out; omega)))
        clear hhb hb5 x0 x1 x2 c0
        go_wp2_with fail
        go_step3
        exact ⟨rfl, ⟨_, _, _, _, _, _, _, _, _, _, _, _, _, _, _, _, _, _, _, _, _, _, _, _, _, _, _, _, _, rfl⟩, HF, HB5.out⟩
      case pos =>
        have hl0 := HLG.out.1
        rw [decide_eq_true ⟨by omega, h2⟩] at hhb
        have HN : Hid (Rise (V.take (j + 1)) a) := Lib.hid (HRL.out.2 ⟨by omega, h2⟩)
        have ew : IntKind.i64.wrap (y + 1) = y + 1 := by rw [IntWalk.i64_in _ (by omega)]
        clear h1 h2
        go_wp2_with fail
        refine hhb.mono ?_
        rintro r w5 ⟨rfl, hb5⟩
        have HB5 := Lib.hid (HB.out.trans (hb5.mono HB.out.size))
        clear hhb hb5 x0 x1 x2 c0
        go_wp2_with fail
        go_roundw
        case rel => exact ⟨j + 1, by omega, by go_num, by rw [HLT.out], HB5.out, HN⟩
        case measure => simp [iOf]; omega
  · rintro a' w' ⟨⟨u0, u1, u2, u3, u4, u5, u6, u7, u8, u9, u10, u11, u12, u13, u14, u15, u16, u17, u18, u19, u20, u21, u22, u23, u24, u25, u26, u27, u28, rfl⟩, HF, hb⟩
    go_wp2_with fail
    simp only [Exit.jump]
    go_ret
    exact ⟨false, rfl, ⟨fun q => (by cases q), fun g => absurd g HF.out⟩, by rw [← HBW.out]; exact hb⟩
end
end Go.Proofs.YtpmdicbhliclcaaGreat
