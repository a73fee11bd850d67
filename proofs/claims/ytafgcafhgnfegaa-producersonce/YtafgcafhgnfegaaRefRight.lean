/-
  What waystationref02.Right answers: whether an entry may be. Nothing is assumed.
-/
import Derived.Test.YtafgcafhgnfegaaMay
namespace Go.Proofs.Ytafgcafhgnfegaa
open Go.RowKit
theorem within_yes {n a b : Int} (h : a ≤ n ∧ n ≤ b) (w : World) : Calls Try.prog 49 #[.int .i64 n, .int .i64 a, .int .i64 b] w fun e w' => e = .returned (.bool true) ∧ w = w' := by
  have := within_any n a b w
  rwa [decide_eq_true h] at this
theorem within_no {n a b : Int} (h : ¬ (a ≤ n ∧ n ≤ b)) (w : World) : Calls Try.prog 49 #[.int .i64 n, .int .i64 a, .int .i64 b] w fun e w' => e = .returned (.bool false) ∧ w = w' := by
  have := within_any n a b w
  rwa [decide_eq_false h] at this
set_option maxRecDepth 100000 in
set_option maxHeartbeats 8000000 in
theorem right_any (e : Ent) (w : World) : Calls Try.prog 35 #[e.val] w fun r w' => r = .returned (.bool (decide (Right e))) ∧ Below w.heap.size w w' := by
  have HW := Lib.hid ((Below.refl w.heap.size w).alloc (Nat.le_refl _) (.cells e.cells 26))
  unfold Ent.val
  unfold Ent.cells at HW ⊢
  have HR : Hid (decide (Right e) = decide ((1 ≤ e.epoch ∧ e.epoch ≤ 2147483647) ∧ (1 ≤ e.kind ∧ e.kind ≤ 3) ∧ (-1 ≤ e.id ∧ e.id ≤ 3) ∧ ¬ (1 < e.kind ∧ e.id < 0) ∧ ((e.id < 0 ∧ e.num = 0 ∧ e.seq = 0) ∨ (0 ≤ e.id ∧ 1 ≤ e.num ∧ e.num ≤ 2147483647)) ∧ ¬ (1 < e.kind ∧ ¬ (e.seq = 0 ∧ e.value = 0)) ∧ (0 ≤ e.seq ∧ e.seq ≤ 2147483647) ∧ (-2147483648 ≤ e.value ∧ e.value ≤ 2147483647))) := Lib.hid (by
    apply decide_eq_decide.2
    unfold Right
    omega)
  by_cases h1 : 1 ≤ e.epoch ∧ e.epoch ≤ 2147483647
  case neg =>
    have H : Hid (decide (Right e) = false) := Lib.hid (by rw [HR.out]; exact decide_eq_false (by omega))
    clear HR
    go_enter Try.func35, Try.ntmps35
    go_wp2_with fail
    refine (within_no h1 _).mono ?_
    rintro r w1 ⟨rfl, rfl⟩
    go_wp2_with fail
    go_ret
    exact ⟨ret_bool H.out.symm, HW.out⟩
  by_cases h2 : e.kind < 1
  case pos =>
    have H : Hid (decide (Right e) = false) := Lib.hid (by rw [HR.out]; exact decide_eq_false (by omega))
    clear HR
    go_enter Try.func35, Try.ntmps35
    go_wp2_with fail
    refine (within_yes h1 _).mono ?_
    rintro r w1 ⟨rfl, rfl⟩
    go_wp2_with fail
    go_ret
    exact ⟨ret_bool H.out.symm, HW.out⟩
  by_cases h3 : 3 < e.kind
  case pos =>
    have H : Hid (decide (Right e) = false) := Lib.hid (by rw [HR.out]; exact decide_eq_false (by omega))
    clear HR
    go_enter Try.func35, Try.ntmps35
    go_wp2_with fail
    refine (within_yes h1 _).mono ?_
    rintro r w1 ⟨rfl, rfl⟩
    go_wp2_with fail
    go_ret
    exact ⟨ret_bool H.out.symm, HW.out⟩
  by_cases h4 : -1 ≤ e.id ∧ e.id ≤ 3
  case neg =>
    have H : Hid (decide (Right e) = false) := Lib.hid (by rw [HR.out]; exact decide_eq_false (by omega))
    clear HR
    go_enter Try.func35, Try.ntmps35
    go_wp2_with fail
    refine (within_yes h1 _).mono ?_
    rintro r w1 ⟨rfl, rfl⟩
    go_wp2_with fail
    refine (within_no h4 _).mono ?_
    rintro r w1 ⟨rfl, rfl⟩
    go_wp2_with fail
    go_ret
    exact ⟨ret_bool H.out.symm, HW.out⟩
  by_cases h5 : 1 < e.kind
  case pos =>
    by_cases h6 : e.id < 0
    case pos =>
      have H : Hid (decide (Right e) = false) := Lib.hid (by rw [HR.out]; exact decide_eq_false (by omega))
      clear HR
      go_enter Try.func35, Try.ntmps35
      go_wp2_with fail
      refine (within_yes h1 _).mono ?_
      rintro r w1 ⟨rfl, rfl⟩
      go_wp2_with fail
      refine (within_yes h4 _).mono ?_
      rintro r w1 ⟨rfl, rfl⟩
      go_wp2_with fail
      go_ret
      exact ⟨ret_bool H.out.symm, HW.out⟩
    have h6' : 0 ≤ e.id := by omega
    by_cases h7 : 1 ≤ e.num ∧ e.num ≤ 2147483647
    case neg =>
      have H : Hid (decide (Right e) = false) := Lib.hid (by rw [HR.out]; exact decide_eq_false (by omega))
      clear HR
      go_enter Try.func35, Try.ntmps35
      go_wp2_with fail
      refine (within_yes h1 _).mono ?_
      rintro r w1 ⟨rfl, rfl⟩
      go_wp2_with fail
      refine (within_yes h4 _).mono ?_
      rintro r w1 ⟨rfl, rfl⟩
      go_wp2_with fail
      refine (within_no h7 _).mono ?_
      rintro r w1 ⟨rfl, rfl⟩
      go_wp2_with fail
      go_ret
      exact ⟨ret_bool H.out.symm, HW.out⟩
    by_cases h8 : e.seq = 0
    case neg =>
      have b8 : (e.seq != 0) = true := by simp [h8]
      have H : Hid (decide (Right e) = false) := Lib.hid (by rw [HR.out]; exact decide_eq_false (by omega))
      clear HR
      go_enter Try.func35, Try.ntmps35
      go_wp2_with fail
      refine (within_yes h1 _).mono ?_
      rintro r w1 ⟨rfl, rfl⟩
      go_wp2_with fail
      refine (within_yes h4 _).mono ?_
      rintro r w1 ⟨rfl, rfl⟩
      go_wp2_with fail
      refine (within_yes h7 _).mono ?_
      rintro r w1 ⟨rfl, rfl⟩
      go_wp2_with fail
      go_ret
      exact ⟨ret_bool H.out.symm, HW.out⟩
    have b8 : (e.seq != 0) = false := by simp [h8]
    by_cases h9 : e.value = 0
    case neg =>
      have b9 : (e.value != 0) = true := by simp [h9]
      have H : Hid (decide (Right e) = false) := Lib.hid (by rw [HR.out]; exact decide_eq_false (by omega))
      clear HR h8
      go_enter Try.func35, Try.ntmps35
      go_wp2_with fail
      refine (within_yes h1 _).mono ?_
      rintro r w1 ⟨rfl, rfl⟩
      go_wp2_with fail
      refine (within_yes h4 _).mono ?_
      rintro r w1 ⟨rfl, rfl⟩
      go_wp2_with fail
      refine (within_yes h7 _).mono ?_
      rintro r w1 ⟨rfl, rfl⟩
      go_wp2_with fail
      go_ret
      exact ⟨ret_bool H.out.symm, HW.out⟩
    have b9 : (e.value != 0) = false := by simp [h9]
    have h10 : 0 ≤ e.seq ∧ e.seq ≤ 2147483647 := by omega
    have h11 : -2147483648 ≤ e.value ∧ e.value ≤ 2147483647 := by omega
    have H : Hid (decide (Right e) = true) := Lib.hid (by rw [HR.out]; exact decide_eq_true (by omega))
    clear HR h8 h9
    go_enter Try.func35, Try.ntmps35
    go_wp2_with fail
    refine (within_yes h1 _).mono ?_
    rintro r w1 ⟨rfl, rfl⟩
    go_wp2_with fail
    refine (within_yes h4 _).mono ?_
    rintro r w1 ⟨rfl, rfl⟩
    go_wp2_with fail
    refine (within_yes h7 _).mono ?_
    rintro r w1 ⟨rfl, rfl⟩
    go_wp2_with fail
    refine (within_yes h10 _).mono ?_
    rintro r w1 ⟨rfl, rfl⟩
    go_wp2_with fail
    refine (within_yes h11 _).mono ?_
    rintro r w1 ⟨rfl, rfl⟩
    go_wp2_with fail
    go_ret
    exact ⟨ret_bool H.out.symm, HW.out⟩
  by_cases h6 : e.id < 0
  case pos =>
    have h6' : ¬ 0 ≤ e.id := by omega
    by_cases h7 : e.num = 0
    case neg =>
      have b7 : (e.num != 0) = true := by simp [h7]
      have H : Hid (decide (Right e) = false) := Lib.hid (by rw [HR.out]; exact decide_eq_false (by omega))
      clear HR
      go_enter Try.func35, Try.ntmps35
      go_wp2_with fail
      refine (within_yes h1 _).mono ?_
      rintro r w1 ⟨rfl, rfl⟩
      go_wp2_with fail
      refine (within_yes h4 _).mono ?_
      rintro r w1 ⟨rfl, rfl⟩
      go_wp2_with fail
      go_ret
      exact ⟨ret_bool H.out.symm, HW.out⟩
    have b7 : (e.num != 0) = false := by simp [h7]
    by_cases h8 : e.seq = 0
    case neg =>
      have b8 : (e.seq != 0) = true := by simp [h8]
      have H : Hid (decide (Right e) = false) := Lib.hid (by rw [HR.out]; exact decide_eq_false (by omega))
      clear HR h7
      go_enter Try.func35, Try.ntmps35
      go_wp2_with fail
      refine (within_yes h1 _).mono ?_
      rintro r w1 ⟨rfl, rfl⟩
      go_wp2_with fail
      refine (within_yes h4 _).mono ?_
      rintro r w1 ⟨rfl, rfl⟩
      go_wp2_with fail
      go_ret
      exact ⟨ret_bool H.out.symm, HW.out⟩
    have b8 : (e.seq != 0) = false := by simp [h8]
    have h10 : 0 ≤ e.seq ∧ e.seq ≤ 2147483647 := by omega
    by_cases h11 : -2147483648 ≤ e.value ∧ e.value ≤ 2147483647
    case neg =>
      have H : Hid (decide (Right e) = false) := Lib.hid (by rw [HR.out]; exact decide_eq_false (by omega))
      clear HR h7 h8
      go_enter Try.func35, Try.ntmps35
      go_wp2_with fail
      refine (within_yes h1 _).mono ?_
      rintro r w1 ⟨rfl, rfl⟩
      go_wp2_with fail
      refine (within_yes h4 _).mono ?_
      rintro r w1 ⟨rfl, rfl⟩
      go_wp2_with fail
      refine (within_yes h10 _).mono ?_
      rintro r w1 ⟨rfl, rfl⟩
      go_wp2_with fail
      refine (within_no h11 _).mono ?_
      rintro r w1 ⟨rfl, rfl⟩
      go_wp2_with fail
      go_ret
      exact ⟨ret_bool H.out.symm, HW.out⟩
    have H : Hid (decide (Right e) = true) := Lib.hid (by rw [HR.out]; exact decide_eq_true (by omega))
    clear HR h7 h8
    go_enter Try.func35, Try.ntmps35
    go_wp2_with fail
    refine (within_yes h1 _).mono ?_
    rintro r w1 ⟨rfl, rfl⟩
    go_wp2_with fail
    refine (within_yes h4 _).mono ?_
    rintro r w1 ⟨rfl, rfl⟩
    go_wp2_with fail
    refine (within_yes h10 _).mono ?_
    rintro r w1 ⟨rfl, rfl⟩
    go_wp2_with fail
    refine (within_yes h11 _).mono ?_
    rintro r w1 ⟨rfl, rfl⟩
    go_wp2_with fail
    go_ret
    exact ⟨ret_bool H.out.symm, HW.out⟩
  have h6' : 0 ≤ e.id := by omega
  by_cases h7 : 1 ≤ e.num ∧ e.num ≤ 2147483647
  case neg =>
    have H : Hid (decide (Right e) = false) := Lib.hid (by rw [HR.out]; exact decide_eq_false (by omega))
    clear HR
    go_enter Try.func35, Try.ntmps35
    go_wp2_with fail
    refine (within_yes h1 _).mono ?_
    rintro r w1 ⟨rfl, rfl⟩
    go_wp2_with fail
    refine (within_yes h4 _).mono ?_
    rintro r w1 ⟨rfl, rfl⟩
    go_wp2_with fail
    refine (within_no h7 _).mono ?_
    rintro r w1 ⟨rfl, rfl⟩
    go_wp2_with fail
    go_ret
    exact ⟨ret_bool H.out.symm, HW.out⟩
  by_cases h10 : 0 ≤ e.seq ∧ e.seq ≤ 2147483647
  case neg =>
    have H : Hid (decide (Right e) = false) := Lib.hid (by rw [HR.out]; exact decide_eq_false (by omega))
    clear HR
    go_enter Try.func35, Try.ntmps35
    go_wp2_with fail
    refine (within_yes h1 _).mono ?_
    rintro r w1 ⟨rfl, rfl⟩
    go_wp2_with fail
    refine (within_yes h4 _).mono ?_
    rintro r w1 ⟨rfl, rfl⟩
    go_wp2_with fail
    refine (within_yes h7 _).mono ?_
    rintro r w1 ⟨rfl, rfl⟩
    go_wp2_with fail
    refine (within_no h10 _).mono ?_
    rintro r w1 ⟨rfl, rfl⟩
    go_wp2_with fail
    go_ret
    exact ⟨ret_bool H.out.symm, HW.out⟩
  by_cases h11 : -2147483648 ≤ e.value ∧ e.value ≤ 2147483647
  case neg =>
    have H : Hid (decide (Right e) = false) := Lib.hid (by rw [HR.out]; exact decide_eq_false (by omega))
    clear HR
    go_enter Try.func35, Try.ntmps35
    go_wp2_with fail
    refine (within_yes h1 _).mono ?_
    rintro r w1 ⟨rfl, rfl⟩
    go_wp2_with fail
    refine (within_yes h4 _).mono ?_
    rintro r w1 ⟨rfl, rfl⟩
    go_wp2_with fail
    refine (within_yes h7 _).mono ?_
    rintro r w1 ⟨rfl, rfl⟩
    go_wp2_with fail
    refine (within_yes h10 _).mono ?_
    rintro r w1 ⟨rfl, rfl⟩
    go_wp2_with fail
    refine (within_no h11 _).mono ?_
    rintro r w1 ⟨rfl, rfl⟩
    go_wp2_with fail
    go_ret
    exact ⟨ret_bool H.out.symm, HW.out⟩
  have H : Hid (decide (Right e) = true) := Lib.hid (by rw [HR.out]; exact decide_eq_true (by omega))
  clear HR
  go_enter Try.func35, Try.ntmps35
  go_wp2_with fail
  refine (within_yes h1 _).mono ?_
  rintro r w1 ⟨rfl, rfl⟩
  go_wp2_with fail
  refine (within_yes h4 _).mono ?_
  rintro r w1 ⟨rfl, rfl⟩
  go_wp2_with fail
  refine (within_yes h7 _).mono ?_
  rintro r w1 ⟨rfl, rfl⟩
  go_wp2_with fail
  refine (within_yes h10 _).mono ?_
  rintro r w1 ⟨rfl, rfl⟩
  go_wp2_with fail
  refine (within_yes h11 _).mono ?_
  rintro r w1 ⟨rfl, rfl⟩
  go_wp2_with fail
  go_ret
  exact ⟨ret_bool H.out.symm, HW.out⟩
end Go.Proofs.Ytafgcafhgnfegaa
