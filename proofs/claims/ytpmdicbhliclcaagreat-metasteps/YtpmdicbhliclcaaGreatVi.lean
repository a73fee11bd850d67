/-
  A partition's view in memory, within a greater block: what is asked of it. Conditions: at most 1000000 in step.
-/
import Derived.Test.YtpmdicbhliclcaaGreatMark
namespace Go.Proofs.YtpmdicbhliclcaaGreat
open Go.RowKit Go.Maps
set_option linter.unusedVariables false
def Vw.minds (V : Vw) (b : Int) : Bool := decide (V.leader = b ∨ (b ∈ V.isr ∧ 1 < V.isr.length))
section
variable {w w' : World} {g o n c : Nat} {A : Option Addr} {cs : Array Value} {V : Vw} {X : Nat → Prop} {pv : Value}
theorem inStep_any (hb : Blk w g 75 cs) (hs : Seg cs o (vcells V (.slice A n c))) (hr : Rd w X 1 A n (intsOf V.isr)) (hn : n ≤ 1000000) (x : Int) : Calls Tryz.prog 82 #[.pointer (some ⟨g, o, none⟩), .int .i64 x] w fun r w' => r = .returned (.bool (decide (x ∈ V.isr))) ∧ w' = w := by
  have c3 : w.cell? ⟨g, o + 3, none⟩ = some (.slice A n c) := hb.seg hs (j := 3) rfl
  have hc := contains_any (c := c) hr hn x
  clear hb hs hr
  go_enter Tryz.func82, Tryz.ntmps82
  go_wp2_with fail
  refine hc.mono ?_
  rintro r w1 ⟨rfl, rfl⟩
  clear hc
  go_wp2_with fail
  go_ret
  exact ⟨rfl, rfl⟩
theorem atEnd_any (hb : Blk w g 75 cs) (hs : Seg cs o (vcells V pv)) : Calls Tryz.prog 84 #[.pointer (some ⟨g, o, none⟩)] w fun r w' => r = .returned (.bool (decide (V.version = 2147483647))) ∧ w' = w := by
  have c2 : w.cell? ⟨g, o + 2, none⟩ = some (.int .i64 V.version) := hb.seg hs (j := 2) rfl
  clear hb hs
  by_cases h : V.version = 2147483647
  · have e := eqb h
    have HF : Hid (decide (V.version = 2147483647) = true) := Lib.hid (decide_eq_true h)
    clear h
    generalize V.version = x at *
    go_enter Tryz.func84, Tryz.ntmps84
    go_wp2_with fail
    go_ret
    exact ⟨by rw [HF.out]; rfl, rfl⟩
  · have e := neb h
    have HF : Hid (decide (V.version = 2147483647) = false) := Lib.hid (decide_eq_false h)
    clear h
    generalize V.version = x at *
    go_enter Tryz.func84, Tryz.ntmps84
    go_wp2_with fail
    go_ret
    exact ⟨by rw [HF.out]; rfl, rfl⟩
theorem is_any (hb : Blk w g 75 cs) (hs : Seg cs o (vcells V pv)) (l e v : Int) : Calls Tryz.prog 90 #[.pointer (some ⟨g, o, none⟩), .int .i64 l, .int .i64 e, .int .i64 v] w fun r w' => r = .returned (.bool (decide (V.leader = l ∧ V.epoch = e ∧ V.version = v))) ∧ w' = w := by
  have c0 : w.cell? ⟨g, o, none⟩ = some (.int .i64 V.leader) := hb.seg hs (j := 0) rfl
  have c1 : w.cell? ⟨g, o + 1, none⟩ = some (.int .i64 V.epoch) := hb.seg hs (j := 1) rfl
  have c2 : w.cell? ⟨g, o + 2, none⟩ = some (.int .i64 V.version) := hb.seg hs (j := 2) rfl
  clear hb hs
  generalize V.leader = a at *
  generalize V.epoch = b at *
  generalize V.version = d at *
  by_cases h1 : a = l
  case neg =>
    have e1 := neb h1
    have HF : Hid (decide (a = l ∧ b = e ∧ d = v) = false) := Lib.hid (decide_eq_false fun q => h1 q.1)
    clear h1
    go_enter Tryz.func90, Tryz.ntmps90
    go_wp2_with fail
    go_ret
    exact ⟨by rw [HF.out]; rfl, rfl⟩
  case pos =>
  have e1 := eqb h1
  by_cases h2 : b = e
  case neg =>
    have e2 := neb h2
    have HF : Hid (decide (a = l ∧ b = e ∧ d = v) = false) := Lib.hid (decide_eq_false fun q => h2 q.2.1)
    clear h1 h2
    go_enter Tryz.func90, Tryz.ntmps90
    go_wp2_with fail
    go_ret
    exact ⟨by rw [HF.out]; rfl, rfl⟩
  case pos =>
  have e2 := eqb h2
  by_cases h3 : d = v
  case neg =>
    have e3 := neb h3
    have HF : Hid (decide (a = l ∧ b = e ∧ d = v) = false) := Lib.hid (decide_eq_false fun q => h3 q.2.2)
    clear h1 h2 h3
    go_enter Tryz.func90, Tryz.ntmps90
    go_wp2_with fail
    go_ret
    exact ⟨by rw [HF.out]; rfl, rfl⟩
  case pos =>
    have e3 := eqb h3
    have HF : Hid (decide (a = l ∧ b = e ∧ d = v) = true) := Lib.hid (decide_eq_true ⟨h1, h2, h3⟩)
    clear h1 h2 h3
    go_enter Tryz.func90, Tryz.ntmps90
    go_wp2_with fail
    go_ret
    exact ⟨by rw [HF.out]; rfl, rfl⟩
theorem minds_any (hb : Blk w g 75 cs) (hs : Seg cs o (vcells V (.slice A n c))) (hr : Rd w X 1 A n (intsOf V.isr)) (hn : n ≤ 1000000) (x : Int) : Calls Tryz.prog 110 #[.pointer (some ⟨g, o, none⟩), .int .i64 x] w fun r w' => r = .returned (.bool (V.minds x)) ∧ w' = w := by
  have hin := inStep_any hb hs hr hn x
  have c0 : w.cell? ⟨g, o, none⟩ = some (.int .i64 V.leader) := hb.seg hs (j := 0) rfl
  have c3 : w.cell? ⟨g, o + 3, none⟩ = some (.slice A n c) := hb.seg hs (j := 3) rfl
  have hl := hr.lenI
  clear hb hs hr
  by_cases h1 : V.leader = x
  · have e1 := eqb h1
    have HF : Hid (V.minds x = true) := Lib.hid (decide_eq_true (.inl h1))
    clear h1 hl
    generalize V.leader = a at *
    go_enter Tryz.func110, Tryz.ntmps110
    go_wp2_with fail
    go_ret
    exact ⟨by rw [HF.out]; rfl, rfl⟩
  · have e1 := neb h1
    by_cases h2 : x ∈ V.isr
    · rw [decide_eq_true h2] at hin
      by_cases h3 : 1 < n
      · have d1 : decide (1 < n) = true := decide_eq_true h3
        have d2 : decide ((1 : Int) < (n : Int)) = true := decide_eq_true (by omega)
        have HF : Hid (V.minds x = true) := Lib.hid (decide_eq_true (.inr ⟨h2, by omega⟩))
        clear h1 h2 h3 hl
        generalize V.leader = a at *
        go_enter Tryz.func110, Tryz.ntmps110
        go_wp2_with fail
        refine hin.mono ?_
        rintro r w1 ⟨rfl, rfl⟩
        clear hin
        go_wp2_with fail
        go_ret
        exact ⟨by rw [HF.out]; rfl, rfl⟩
      · have d1 : decide (1 < n) = false := decide_eq_false h3
        have d2 : decide ((1 : Int) < (n : Int)) = false := decide_eq_false (by omega)
        have HF : Hid (V.minds x = false) := Lib.hid (decide_eq_false fun q => q.elim h1 (fun q => by have := q.2; omega))
        clear h1 h2 h3 hl
        generalize V.leader = a at *
        go_enter Tryz.func110, Tryz.ntmps110
        go_wp2_with fail
        refine hin.mono ?_
        rintro r w1 ⟨rfl, rfl⟩
        clear hin
        go_wp2_with fail
        go_ret
        exact ⟨by rw [HF.out]; rfl, rfl⟩
    · rw [decide_eq_false h2] at hin
      have HF : Hid (V.minds x = false) := Lib.hid (decide_eq_false fun q => q.elim h1 (fun q => h2 q.1))
      clear h1 h2 hl
      generalize V.leader = a at *
      go_enter Tryz.func110, Tryz.ntmps110
      go_wp2_with fail
      refine hin.mono ?_
      rintro r w1 ⟨rfl, rfl⟩
      clear hin
      go_wp2_with fail
      go_ret
      exact ⟨by rw [HF.out]; rfl, rfl⟩
end
end Go.Proofs.YtpmdicbhliclcaaGreat
