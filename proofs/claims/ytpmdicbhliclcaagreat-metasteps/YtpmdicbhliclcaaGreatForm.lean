/-
  What a controller's form says. Nothing is assumed.
-/
import Derived.Test.YtpmdicbhliclcaaGreatMem
import Derived.Laws.StructEq
import Derived.Scope
import Derived.ScopeJumps
namespace Go.Proofs.YtpmdicbhliclcaaGreat
open Go.RowKit Go.Maps
set_option linter.unusedVariables false
def iOf : Value → Int | .int _ q => q | _ => 0
/-- A form that may be. -/
def FormOk (a b c : Int) : Prop := (1 ≤ a ∧ a ≤ 4) ∧ (1 ≤ b ∧ b ≤ 4) ∧ 1 ≤ c ∧ c ≤ 4
instance (a b c : Int) : Decidable (FormOk a b c) := by unfold FormOk; infer_instance
def frm (a b c : Int) : Value := .agg #[.int .i64 a, .int .i64 b, .int .i64 c]
section
variable {w : World} {a b c : Int} {g : Nat}
theorem hasPart_any (w : World) (a b c x : Int) : Calls Tryz.prog 53 #[frm a b c, .int .i64 x] w fun r w' => r = .returned (.bool (decide (0 ≤ x ∧ x < b))) ∧ Below w.heap.size w w' := by
  have HB := Lib.hid ((Below.refl w.heap.size w).alloc (Nat.le_refl _) (.cells #[.int .i64 a, .int .i64 b, .int .i64 c] 68))
  unfold frm
  by_cases h0 : 0 ≤ x
  · have d0 : decide (0 ≤ x) = true := decide_eq_true h0
    by_cases h1 : x < b
    · have d1 : decide (x < b) = true := decide_eq_true h1
      have HF : Hid (decide (0 ≤ x ∧ x < b) = true) := Lib.hid (decide_eq_true ⟨h0, h1⟩)
      clear h0 h1
      go_enter Tryz.func53, Tryz.ntmps53
      go_wp2_with fail
      go_ret
      exact ⟨by rw [HF.out]; rfl, HB.out⟩
    · have d1 : decide (x < b) = false := decide_eq_false h1
      have HF : Hid (decide (0 ≤ x ∧ x < b) = false) := Lib.hid (decide_eq_false fun q => h1 q.2)
      clear h0 h1
      go_enter Tryz.func53, Tryz.ntmps53
      go_wp2_with fail
      go_ret
      exact ⟨by rw [HF.out]; rfl, HB.out⟩
  · have d0 : decide (0 ≤ x) = false := decide_eq_false h0
    have HF : Hid (decide (0 ≤ x ∧ x < b) = false) := Lib.hid (decide_eq_false fun q => h0 q.1)
    clear h0
    go_enter Tryz.func53, Tryz.ntmps53
    go_wp2_with fail
    go_ret
    exact ⟨by rw [HF.out]; rfl, HB.out⟩
theorem hasBroker_any (w : World) (a b c x : Int) : Calls Tryz.prog 55 #[frm a b c, .int .i64 x] w fun r w' => r = .returned (.bool (decide (0 ≤ x ∧ x < a))) ∧ Below w.heap.size w w' := by
  have HB := Lib.hid ((Below.refl w.heap.size w).alloc (Nat.le_refl _) (.cells #[.int .i64 a, .int .i64 b, .int .i64 c] 68))
  unfold frm
  by_cases h0 : 0 ≤ x
  · have d0 : decide (0 ≤ x) = true := decide_eq_true h0
    by_cases h1 : x < a
    · have d1 : decide (x < a) = true := decide_eq_true h1
      have HF : Hid (decide (0 ≤ x ∧ x < a) = true) := Lib.hid (decide_eq_true ⟨h0, h1⟩)
      clear h0 h1
      go_enter Tryz.func55, Tryz.ntmps55
      go_wp2_with fail
      go_ret
      exact ⟨by rw [HF.out]; rfl, HB.out⟩
    · have d1 : decide (x < a) = false := decide_eq_false h1
      have HF : Hid (decide (0 ≤ x ∧ x < a) = false) := Lib.hid (decide_eq_false fun q => h1 q.2)
      clear h0 h1
      go_enter Tryz.func55, Tryz.ntmps55
      go_wp2_with fail
      go_ret
      exact ⟨by rw [HF.out]; rfl, HB.out⟩
  · have d0 : decide (0 ≤ x) = false := decide_eq_false h0
    have HF : Hid (decide (0 ≤ x ∧ x < a) = false) := Lib.hid (decide_eq_false fun q => h0 q.1)
    clear h0
    go_enter Tryz.func55, Tryz.ntmps55
    go_wp2_with fail
    go_ret
    exact ⟨by rw [HF.out]; rfl, HB.out⟩
theorem hasID_any (w : World) (a b c x : Int) : Calls Tryz.prog 57 #[frm a b c, .int .i64 x] w fun r w' => r = .returned (.bool (decide (0 ≤ x ∧ x < c))) ∧ Below w.heap.size w w' := by
  have HB := Lib.hid ((Below.refl w.heap.size w).alloc (Nat.le_refl _) (.cells #[.int .i64 a, .int .i64 b, .int .i64 c] 68))
  unfold frm
  by_cases h0 : 0 ≤ x
  · have d0 : decide (0 ≤ x) = true := decide_eq_true h0
    by_cases h1 : x < c
    · have d1 : decide (x < c) = true := decide_eq_true h1
      have HF : Hid (decide (0 ≤ x ∧ x < c) = true) := Lib.hid (decide_eq_true ⟨h0, h1⟩)
      clear h0 h1
      go_enter Tryz.func57, Tryz.ntmps57
      go_wp2_with fail
      go_ret
      exact ⟨by rw [HF.out]; rfl, HB.out⟩
    · have d1 : decide (x < c) = false := decide_eq_false h1
      have HF : Hid (decide (0 ≤ x ∧ x < c) = false) := Lib.hid (decide_eq_false fun q => h1 q.2)
      clear h0 h1
      go_enter Tryz.func57, Tryz.ntmps57
      go_wp2_with fail
      go_ret
      exact ⟨by rw [HF.out]; rfl, HB.out⟩
  · have d0 : decide (0 ≤ x) = false := decide_eq_false h0
    have HF : Hid (decide (0 ≤ x ∧ x < c) = false) := Lib.hid (decide_eq_false fun q => h0 q.1)
    clear h0
    go_enter Tryz.func57, Tryz.ntmps57
    go_wp2_with fail
    go_ret
    exact ⟨by rw [HF.out]; rfl, HB.out⟩
theorem neq68 (a b c : Int) (w : World) : (binOp .neq 68 (frm a b c) (frm 0 0 0)).run Tryz.prog w = .ok (.bool (!(decide (a = 0 ∧ b = 0 ∧ c = 0)))) w := by
  have e : (Op.equalIn 10000 68 (frm a b c) (frm 0 0 0)).run Tryz.prog w = .ok (decide (a = 0 ∧ b = 0 ∧ c = 0)) w := by
    have hS : Tryz.prog.underlying 68 = some (.struct (Tryz.prog.fieldsOf 68)) := by kernel_rfl
    have hp : Tryz.prog.stoodInHeld 68 = false := by kernel_rfl
    unfold frm
    rw [show (10000 : Nat) = 9999 + 1 from rfl, run_equalIn_agg w 9999 68 _ _ hS hp]
    have u3 := Tryz.underlying3
    have a3 := Tryz.isAgg3
    have z3 := Tryz.sizeOf3
    simp only [Program.fieldsOf, Tryz.underlying68]
    by_cases h1 : a = 0
    · by_cases h2 : b = 0
      · by_cases h3 : c = 0
        · subst h1 h2 h3; go_simp
        · subst h1 h2; rw [decide_eq_false (fun q => h3 q.2.2)]; go_simp
      · subst h1; rw [decide_eq_false (fun q => h2 q.2.1)]; go_simp
    · rw [decide_eq_false (fun q => h1 q.1)]; go_simp
  unfold frm at *
  rw [run_neq_struct, e]; rfl
theorem made_yes (h0 : w.cell? ⟨g, 0, none⟩ = some (.int .i64 a)) (h1 : w.cell? ⟨g, 1, none⟩ = some (.int .i64 b)) (h2 : w.cell? ⟨g, 2, none⟩ = some (.int .i64 c)) (ha : a ≠ 0) :
    Calls Tryz.prog 48 #[.pointer (some ⟨g, 0, none⟩)] w fun r w' => r = .returned (.bool true) ∧ w = w' := by
  have hq := fun w => neq68 a b c w
  rw [decide_eq_false (fun q => ha q.1)] at hq
  unfold frm at hq
  go_enter Tryz.func48, Tryz.ntmps48
  go_wp2_with fail
  go_ret
  exact ⟨rfl, rfl⟩
theorem made_zero (h0 : w.cell? ⟨g, 0, none⟩ = some (.int .i64 0)) (h1 : w.cell? ⟨g, 1, none⟩ = some (.int .i64 0)) (h2 : w.cell? ⟨g, 2, none⟩ = some (.int .i64 0)) :
    Calls Tryz.prog 48 #[.pointer (some ⟨g, 0, none⟩)] w fun r w' => r = .returned (.bool false) ∧ w = w' := by
  have hq := fun w => neq68 0 0 0 w
  rw [decide_eq_true ⟨rfl, rfl, rfl⟩] at hq
  unfold frm at hq
  go_enter Tryz.func48, Tryz.ntmps48
  go_wp2_with fail
  go_ret
  exact ⟨rfl, rfl⟩
theorem made_no (w : World) : Calls Tryz.prog 48 #[.pointer none] w fun r w' => r = .returned (.bool false) ∧ w = w' := by
  go_enter Tryz.func48, Tryz.ntmps48
  go_wp2_with fail
  go_ret
  exact ⟨rfl, rfl⟩
set_option maxRecDepth 100000 in
theorem mayBe_any (w : World) (a b c : Int) : Calls Tryz.prog 34 #[frm a b c] w fun r w' => r = .returned (.bool (decide (FormOk a b c))) ∧ Below w.heap.size w w' := by
  have HB := Lib.hid ((Below.refl w.heap.size w).alloc (Nat.le_refl _) (.cells #[.int .i64 a, .int .i64 b, .int .i64 c] 68))
  unfold frm
  go_enter Tryz.func34, Tryz.ntmps34
  go_wp2_with fail
  refine wp_scope_jumps 0 (fun a' w' => (∃ u0 u1 u2 u3 u4 u5 u6 u7 u8 u9 u10 u11 u12 u13 u14 u15 u16 u17 u18 u19 u20 u21 u22 u23 u24 u25 u26 : Value, a' = { tmps := #[u0, u1, u2, u3, u4, u5, u6, u7, u8, u9, u10, u11, u12, u13, u14, u15, u16, u17, u18, u19, u20, u21, u22, u23, u24, u25, u26], defers := [] }) ∧ Hid (decide (FormOk a b c) = false) ∧ Below w.heap.size w w') (fun _ _ => 0) rfl ?_ ?_
  · by_cases h0 : 1 ≤ a
    case neg =>
      have d0 : decide (a < 1) = true := decide_eq_true (by omega)
      have HF : Hid (decide (FormOk a b c) = false) := Lib.hid (decide_eq_false fun q => h0 (by have := q.1; have := q.2.1; have := q.2.2; omega))
      clear h0
      go_wp2_with fail
      go_step3
      exact ⟨rfl, ⟨_, _, _, _, _, _, _, _, _, _, _, _, _, _, _, _, _, _, _, _, _, _, _, _, _, _, _, rfl⟩, HF, HB.out⟩
    case pos =>
    have d0 : decide (a < 1) = false := decide_eq_false (by omega)
    by_cases h1 : a ≤ 4
    case neg =>
      have d1 : decide (4 < a) = true := decide_eq_true (by omega)
      have HF : Hid (decide (FormOk a b c) = false) := Lib.hid (decide_eq_false fun q => h1 (by have := q.1; have := q.2.1; have := q.2.2; omega))
      clear h1
      go_wp2_with fail
      go_step3
      exact ⟨rfl, ⟨_, _, _, _, _, _, _, _, _, _, _, _, _, _, _, _, _, _, _, _, _, _, _, _, _, _, _, rfl⟩, HF, HB.out⟩
    case pos =>
    have d1 : decide (4 < a) = false := decide_eq_false (by omega)
    by_cases h2 : 1 ≤ b
    case neg =>
      have d2 : decide (b < 1) = true := decide_eq_true (by omega)
      have HF : Hid (decide (FormOk a b c) = false) := Lib.hid (decide_eq_false fun q => h2 (by have := q.1; have := q.2.1; have := q.2.2; omega))
      clear h2
      go_wp2_with fail
      go_step3
      exact ⟨rfl, ⟨_, _, _, _, _, _, _, _, _, _, _, _, _, _, _, _, _, _, _, _, _, _, _, _, _, _, _, rfl⟩, HF, HB.out⟩
    case pos =>
    have d2 : decide (b < 1) = false := decide_eq_false (by omega)
    by_cases h3 : b ≤ 4
    case neg =>
      have d3 : decide (4 < b) = true := decide_eq_true (by omega)
      have HF : Hid (decide (FormOk a b c) = false) := Lib.hid (decide_eq_false fun q => h3 (by have := q.1; have := q.2.1; have := q.2.2; omega))
      clear h3
      go_wp2_with fail
      go_step3
      exact ⟨rfl, ⟨_, _, _, _, _, _, _, _, _, _, _, _, _, _, _, _, _, _, _, _, _, _, _, _, _, _, _, rfl⟩, HF, HB.out⟩
    case pos =>
    have d3 : decide (4 < b) = false := decide_eq_false (by omega)
    by_cases h4 : 1 ≤ c
    case neg =>
      have d4 : decide (c < 1) = true := decide_eq_true (by omega)
      have HF : Hid (decide (FormOk a b c) = false) := Lib.hid (decide_eq_false fun q => h4 (by have := q.1; have := q.2.1; have := q.2.2; omega))
      clear h4
      go_wp2_with fail
      go_step3
      exact ⟨rfl, ⟨_, _, _, _, _, _, _, _, _, _, _, _, _, _, _, _, _, _, _, _, _, _, _, _, _, _, _, rfl⟩, HF, HB.out⟩
    case pos =>
    have d4 : decide (c < 1) = false := decide_eq_false (by omega)
    by_cases h5 : c ≤ 4
    case neg =>
      have d5 : decide (4 < c) = true := decide_eq_true (by omega)
      have HF : Hid (decide (FormOk a b c) = false) := Lib.hid (decide_eq_false fun q => h5 (by have := q.1; have := q.2.1; have := q.2.2; omega))
      clear h5
      go_wp2_with fail
      go_step3
      exact ⟨rfl, ⟨_, _, _, _, _, _, _, _, _, _, _, _, _, _, _, _, _, _, _, _, _, _, _, _, _, _, _, rfl⟩, HF, HB.out⟩
    case pos =>
    have d5 : decide (4 < c) = false := decide_eq_false (by omega)
    have HF : Hid (decide (FormOk a b c) = true) := Lib.hid (decide_eq_true ⟨⟨h0, h1⟩, ⟨h2, h3⟩, h4, h5⟩)
    clear h0 h1 h2 h3 h4 h5
    go_wp2_with fail
    simp only [Exit.jump]
    go_ret
    exact ⟨by rw [HF.out]; rfl, HB.out⟩
  · rintro a' w1 ⟨⟨u0, u1, u2, u3, u4, u5, u6, u7, u8, u9, u10, u11, u12, u13, u14, u15, u16, u17, u18, u19, u20, u21, u22, u23, u24, u25, u26, rfl⟩, HF, hb⟩
    go_wp2_with fail
    simp only [Exit.jump]
    go_ret
    exact ⟨by rw [HF.out]; rfl, hb⟩
end
end Go.Proofs.YtpmdicbhliclcaaGreat
