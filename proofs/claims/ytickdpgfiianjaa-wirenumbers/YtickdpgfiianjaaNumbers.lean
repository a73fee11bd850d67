/-
  What wire.Number, wire.Signed and waystationref02.InSign answer.
-/
import Derived.Test.YtickdpgfiianjaaPut
namespace Go.Proofs.Ytickdpgfiianjaa
open Go.RowKit
/-- What is known behind wire.Number and wire.Signed where they give bytes. -/
def Gave (w : World) (l : List UInt8) (e : Ending) (w' : World) : Prop := ∃ v, e = .returned (.tuple #[v, .int .i64 0]) ∧ Own w' w.heap.size v l ∧ Below w.heap.size w w'
set_option maxRecDepth 100000 in
theorem wireNumber_yes (N : Nat) (hN : N < 9223372036854775808) (w : World) : Calls Try.prog 15 #[.int .i64 (N : Int)] w (Gave w (num N)) := by
  go_enter Try.func15, Try.ntmps15
  go_wp2_with fail
  refine (put_any w.heap.size _ [] N hN w (Own.nil _ _) (Nat.le_refl _) (by simp)).mono ?_
  rintro e w1 ⟨v, rfl, ho, hg⟩
  rw [List.nil_append] at ho
  have hb := hg.low (Own.nil w w.heap.size) (Nat.le_refl _)
  clear hg
  go_wp2_with fail
  go_ret2
  exact ⟨_, rfl, ho, hb⟩
set_option maxRecDepth 100000 in
theorem wireNumber_no (n : Int) (hN : n < 0) (w : World) : Calls Try.prog 15 #[.int .i64 n] w fun e w' => e = .returned (.tuple #[.slice none 0 0, .int .i64 2]) ∧ w = w' := by
  go_enter Try.func15, Try.ntmps15
  go_wp2_with fail
  go_ret2
  exact ⟨rfl, rfl⟩
set_option maxRecDepth 100000 in
theorem wireSigned_yes (n : Int) (h1 : -4611686018427387904 ≤ n) (h2 : n ≤ 4611686018427387903) (w : World) : Calls Try.prog 16 #[.int .i64 n] w (Gave w (num (fold n))) := by
  have hlt : fold n < 9223372036854775808 := by unfold fold; split <;> omega
  go_enter Try.func16, Try.ntmps16
  go_wp2_with fail
  refine (between_any n _ _ w).mono ?_
  rintro e w' ⟨rfl, rfl⟩
  rw [decide_eq_true (show -4611686018427387904 ≤ n ∧ n ≤ 4611686018427387903 from ⟨h1, h2⟩)]
  go_wp2_with fail
  refine (folded_any n h1 h2 w).mono ?_
  rintro e w' ⟨rfl, rfl⟩
  generalize fold n = N at *
  go_wp2_with fail
  refine (put_any w.heap.size _ [] N hlt w (Own.nil _ _) (Nat.le_refl _) (by simp)).mono ?_
  rintro e w1 ⟨v, rfl, ho, hg⟩
  rw [List.nil_append] at ho
  have hb := hg.low (Own.nil w w.heap.size) (Nat.le_refl _)
  clear hg
  go_wp2_with fail
  go_ret2
  exact ⟨_, rfl, ho, hb⟩
set_option maxRecDepth 100000 in
theorem wireSigned_no (n : Int) (h : ¬ (-4611686018427387904 ≤ n ∧ n ≤ 4611686018427387903)) (w : World) : Calls Try.prog 16 #[.int .i64 n] w fun e w' => e = .returned (.tuple #[.slice none 0 0, .int .i64 2]) ∧ w = w' := by
  go_enter Try.func16, Try.ntmps16
  go_wp2_with fail
  refine (between_any n _ _ w).mono ?_
  rintro e w' ⟨rfl, rfl⟩
  rw [decide_eq_false h]
  clear h
  go_wp2_with fail
  go_ret2
  exact ⟨rfl, rfl⟩
set_option maxRecDepth 100000 in
theorem inSign_yes (n : Int) (h1 : -4611686018427387904 ≤ n) (h2 : n ≤ 4611686018427387903) (w : World) : Calls Try.prog 18 #[.int .i64 n] w fun e w' => e = .returned (.bool true) ∧ w = w' := by
  have h3 : n < 4611686018427387904 := by omega
  go_enter Try.func18, Try.ntmps18
  go_wp2_with fail
  go_ret
  exact ⟨rfl, rfl⟩
set_option maxRecDepth 100000 in
theorem inSign_no (n : Int) (h : ¬ (-4611686018427387904 ≤ n ∧ n ≤ 4611686018427387903)) (w : World) : Calls Try.prog 18 #[.int .i64 n] w fun e w' => e = .returned (.bool false) ∧ w = w' := by
  by_cases h1 : n < -4611686018427387904
  · have h2 : ¬ (-4611686018427387904 ≤ n) := by omega
    clear h
    go_enter Try.func18, Try.ntmps18
    go_wp2_with fail
    go_ret
    exact ⟨rfl, rfl⟩
  · have h2 : -4611686018427387904 ≤ n := by omega
    have h3 : ¬ (n < 4611686018427387904) := by omega
    clear h
    go_enter Try.func18, Try.ntmps18
    go_wp2_with fail
    go_ret
    exact ⟨rfl, rfl⟩
end Go.Proofs.Ytickdpgfiianjaa
