/-
  The last epoch of a log; whether a log may be: the program's answer and the document's. Conditions: bounds.
-/
import Derived.Test.YtabbkghnijebpaaSpec
import Derived.WalkMore
import Derived.ScopeJumps
import Derived.LoopTactic
namespace Go.Proofs.Ytabbkghnijebpaa
open Go.RowKit
set_option maxRecDepth 100000 in
set_option maxHeartbeats 4000000 in
theorem last_any {w : World} {X : Nat → Prop} {A : Option Addr} {n c : Nat} {f : Nat → Int × Int} (h : Lg w X A n f) (hc : n ≤ 1000000000) :
    Calls Try.prog 28 #[.slice A n c] w fun e w' => e = .returned (.int .i64 (lastTo (fun i => (f i).1) n)) ∧ w = w' := by
  have HH := Lib.hid h
  clear h
  rcases Nat.eq_zero_or_pos n with h0 | h0
  · subst h0
    go_enter Try.func28, Try.ntmps28
    go_wp2_with fail
    go_ret
    exact ⟨rfl, rfl⟩
  · obtain ⟨ad, rfl, hl, -, hcell, -⟩ := HH.out.at_ (k := n - 1) (by omega)
    have HE : Hid (lastTo (fun i => (f i).1) n = (f (n - 1)).1) := Lib.hid (by unfold lastTo; rw [if_neg (by omega)])
    obtain ⟨m, rfl⟩ : ∃ m, n = m + 1 := ⟨n - 1, by omega⟩
    simp only [Nat.add_sub_cancel] at hcell
    go_enter Try.func28, Try.ntmps28
    go_wp2_with fail
    go_ret
    rw [HE.out]
    exact ⟨rfl, rfl⟩
set_option maxRecDepth 100000 in
set_option maxHeartbeats 4000000 in
theorem refLast_any {w : World} {X : Nat → Prop} {A : Option Addr} {n c : Nat} {f : Nat → Int × Int} (h : Lg w X A n f) (hc : n ≤ 1000000000) :
    Calls Try.prog 15 #[.slice A n c] w fun e w' => e = .returned (.int .i64 (lastTo (fun i => (f i).1) n)) ∧ w = w' := by
  have HH := Lib.hid h
  clear h
  rcases Nat.eq_zero_or_pos n with h0 | h0
  · subst h0
    go_enter Try.func15, Try.ntmps15
    go_wp2_with fail
    go_ret
    exact ⟨rfl, rfl⟩
  · obtain ⟨ad, rfl, hl, -, hcell, -⟩ := HH.out.at_ (k := n - 1) (by omega)
    have HE : Hid (lastTo (fun i => (f i).1) n = (f (n - 1)).1) := Lib.hid (by unfold lastTo; rw [if_neg (by omega)])
    obtain ⟨m, rfl⟩ : ∃ m, n = m + 1 := ⟨n - 1, by omega⟩
    simp only [Nat.add_sub_cancel] at hcell
    go_enter Try.func15, Try.ntmps15
    go_wp2_with fail
    go_ret
    rw [HE.out]
    exact ⟨rfl, rfl⟩
/-- The least epoch that may stand at place k. -/
def least (E : Nat → Int) (k : Nat) : Int := if k = 0 then 1 else E (k - 1)
theorem good_succ {E : Nat → Int} {k : Nat} (h : Good E k) : Good E (k + 1) ↔ least E k ≤ E k ∧ E k ≤ 2147483647 := by
  unfold least
  constructor
  · intro g
    obtain ⟨h1, h2, h3⟩ := g k (by omega)
    refine ⟨?_, h2⟩
    split
    · exact h1
    · exact h3 (by omega)
  · rintro ⟨h1, h2⟩ i hi
    rcases Nat.lt_or_ge i k with hk | hk
    · exact h i hk
    · obtain rfl : i = k := by omega
      split at h1
      · exact ⟨h1, h2, fun h => by omega⟩
      · have := h (i - 1) (by omega)
        exact ⟨by omega, h2, fun _ => h1⟩
theorem may_false {E : Nat → Int} {n k : Nat} (h : ¬ Good E k) (hk : k ≤ n) : decide (May E n) = false := by
  rw [decide_eq_false_iff_not]
  exact fun g => h (g.2.less hk)
set_option maxRecDepth 100000 in
set_option maxHeartbeats 4000000 in
theorem may_any {w : World} {X : Nat → Prop} {A : Option Addr} {n c : Nat} {f : Nat → Int × Int} (h : Lg w X A n f) (hc : n ≤ 1000000000) :
    Calls Try.prog 14 #[.slice A n c] w fun e w' => e = .returned (.bool (decide (May (fun i => (f i).1) n))) ∧ Below w.heap.size w w' := by
  have HH := Lib.hid h
  clear h
  go_enter Try.func14, Try.ntmps14
  go_wp2_with fail
  refine wp_scope_jumps 0 (fun a' w' => (∃ u0 u1 u2 u3 u4 u5 u6 u7 u8 u9 u10 u11 u12 u13 u14 u15 u16 u17 u18 u19 u20 u21 u22 u23 u24 u25 u26 : Value, a' = { tmps := #[u0, u1, u2, u3, u4, u5, u6, u7, u8, u9, u10, u11, u12, u13, u14, u15, u16, u17, u18, u19, u20, u21, u22, u23, u24, u25, u26], defers := [] }) ∧ Hid (decide (May (fun i => (f i).1) n) = false) ∧ Below w.heap.size w w') (fun _ _ => 0) rfl ?_ ?_
  · by_cases hbig : 4096 < n
    · go_wp2_with fail
      go_step3
      refine ⟨rfl, ⟨_, _, _, _, _, _, _, _, _, _, _, _, _, _, _, _, _, _, _, _, _, _, _, _, _, _, _, rfl⟩, Lib.hid ?_, Below.refl _ _⟩
      rw [decide_eq_false_iff_not]
      exact fun h => by have := h.1; omega
    go_wp2_with fail
    go_loopw [3, 11] (fun m i wr => ∃ k : Nat, k ≤ n ∧ i = .int .i64 k ∧ Hid (Good (fun i => (f i).1) k) ∧ m = .int .i64 (least (fun i => (f i).1) k) ∧ Below w.heap.size w wr) (fun _ i _ => n - (intOf i).toNat)
    case atStart => exact ⟨0, by omega, rfl, Lib.hid (fun i hi => by omega), rfl, Below.refl _ _⟩
    case round =>
      obtain ⟨k, hk, rfl, hgd, rfl, hb⟩ := hrel
      by_cases hlt : k < n
      case neg =>
        have hd1 : decide (k < n) = false := by simpa using hlt
        go_wp2_with fail
        simp only [Exit.jump]
        go_ret
        refine ⟨ret_bool ?_, hb⟩
        symm
        rw [decide_eq_true_iff]
        obtain rfl : k = n := by omega
        exact ⟨by omega, hgd.out⟩
      case pos =>
      obtain ⟨ad, rfl, hl, -, c0, c1, c2, c3, c4, c5⟩ := (HH.out.below hb).at_ hlt
      have hz := hb.size
      have HB := Lib.hid (hb.alloc hz (.cells #[.int .i64 (f k).1, .int .i64 (-1), .int .i64 0, .int .i64 0, .int .i64 1, .int .i64 (f k).2] 59))
      have HM := Lib.hid (good_succ hgd.out)
      have hp : Hid (Good (fun i => (f i).1) (k + 1) → (least (fun i => (f i).1) (k + 1) = (f k).1)) := Lib.hid (fun _ => by unfold least; simp)
      have hk0 : (wr.alloc (.cells #[.int .i64 (f k).1, .int .i64 (-1), .int .i64 0, .int .i64 0, .int .i64 1, .int .i64 (f k).2] 59)).cell? ⟨wr.heap.size, 0, none⟩ = some (.int .i64 (f k).1) := (Blk.new _ _ _).cell 0
      clear hb
      by_cases h1 : least (fun i => (f i).1) k ≤ (f k).1
      case neg =>
        have h1' : decide ((f k).1 < least (fun i => (f i).1) k) = true := by simp; omega
        go_wp2_with fail
        go_step3
        refine ⟨rfl, ⟨_, _, _, _, _, _, _, _, _, _, _, _, _, _, _, _, _, _, _, _, _, _, _, _, _, _, _, rfl⟩, Lib.hid (may_false (E := fun i => (f i).1) (k := k + 1) (fun g => by have q : least (fun i => (f i).1) k ≤ (f k).1 := (HM.out.1 g).1; omega) (by omega)), HB.out⟩
      case pos =>
      have h1' : decide ((f k).1 < least (fun i => (f i).1) k) = false := by simp; omega
      by_cases h2 : (f k).1 ≤ 2147483647
      case neg =>
        have h2' : decide (2147483647 < (f k).1) = true := by simp; omega
        go_wp2_with fail
        go_step3
        refine ⟨rfl, ⟨_, _, _, _, _, _, _, _, _, _, _, _, _, _, _, _, _, _, _, _, _, _, _, _, _, _, _, rfl⟩, Lib.hid (may_false (E := fun i => (f i).1) (k := k + 1) (fun g => by have q : (f k).1 ≤ 2147483647 := (HM.out.1 g).2; omega) (by omega)), HB.out⟩
      case pos =>
      have h2' : decide (2147483647 < (f k).1) = false := by simp; omega
      go_wp2_with fail
      go_roundw
      case rel => exact ⟨k + 1, by omega, by go_num, Lib.hid (HM.out.2 ⟨h1, h2⟩), by unfold least; simp, HB.out⟩
      case measure => simp [intOf]; omega
  · rintro a' w' ⟨⟨u0, u1, u2, u3, u4, u5, u6, u7, u8, u9, u10, u11, u12, u13, u14, u15, u16, u17, u18, u19, u20, u21, u22, u23, u24, u25, u26, rfl⟩, hm, hb⟩
    go_wp2_with fail
    simp only [Exit.jump]
    go_ret
    exact ⟨by rw [hm.out]; rfl, hb⟩
end Go.Proofs.Ytabbkghnijebpaa
