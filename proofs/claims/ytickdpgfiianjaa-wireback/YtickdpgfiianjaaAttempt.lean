/-
  What wire.attempt answers: the error with which what it calls gave up, or OK. Condition: what it calls leaves attempt's own memory alone.
-/
import Derived.Test.YtickdpgfiianjaaEntry
import Derived.Defers
import Derived.Recover
namespace Go.Proofs.Ytickdpgfiianjaa
open Go.RowKit
theorem catch_idle (p : Addr) (w : World) :
    CallsD Try.prog 55 #[.pointer (some p)] .returning w fun e u' w' => e = .returned (.tuple #[]) ∧ u' = .returning ∧ w = w' := by
  refine callsD_of_wpS Try.func55 rfl fun c₀ cs hu => ?_
  apply wpS_seq
  apply wpS_region
  simp [wpOpsS, go_sem, recoverD, hu, Try.ntmps55, Exit.thenS]
  apply wpS_seq
  apply wpS_region
  simp [wpOpsS, go_sem, Exit.thenS]
  refine wpS_cond (t := false) (by simp [Act.eval, Array.replicate]) ?_
  simp only [Bool.false_eq_true, if_false]
  refine wpS_of_wp (wp_skip ?_)
  cases c₀
  simp_all [bodyPostS, results, Try.results55]
theorem assert24 (c : Int) (W : World) : (Instr.typeAssert (.iface 24 (.int .i64 c)) 20 24 true).run Try.prog W = .ok (.tuple #[.int .i64 c, .bool true]) W := by kernel_rfl
set_option maxRecDepth 100000 in
theorem catch_told (p : Addr) (x : Int) (c : Int) (w : World) (hc : w.cell? p = some (.int .i64 x)) (hz : w.frozen? p = false) :
    CallsD Try.prog 55 #[.pointer (some p)] (.panicking [{ v := .iface 24 (.int .i64 c), recovered := false }]) w fun e u' w' =>
      e = .returned (.tuple #[]) ∧ u' = .panicking [{ v := .iface 24 (.int .i64 c), recovered := true }] ∧ (w.setCell p (.int .i64 121)).setCell p (.int .i64 c) = w' := by
  refine callsD_of_wpS Try.func55 rfl fun c₀ cs hu => ?_
  apply wpS_seq
  apply wpS_region
  simp [wpOpsS, go_sem, recoverD, hu, Try.ntmps55, Exit.thenS]
  refine wpS_of_wp ?_
  simp only [Array.replicate_succ, Array.replicate_zero, List.push_toArray, List.append_toArray, List.nil_append, List.cons_append, List.setIfInBounds_toArray, List.set_cons_zero, List.set_cons_succ]
  have f1 : (w.setCell p (.int .i64 121)).cell? p = some (.int .i64 121) := World.cell?_setCell_same w p _ hc
  have f2 : (w.setCell p (.int .i64 121)).frozen? p = false := by rw [World.frozen?_setCell]; exact hz
  have hta := assert24 c
  go_wp2_with fail
  simp [bodyPostS, results, Try.results55]
set_option maxRecDepth 100000 in
set_option maxHeartbeats 1000000 in
theorem attempt_take (x y z : Addr) (w : World) (R : Int → World → Prop)
    (hf : Calls Try.prog 41 #[.pointer (some x), .pointer (some y), .pointer (some z)] (w.alloc (.cells #[.int .i64 0] 24)) fun e w' => Blk w' w.heap.size 24 #[.int .i64 0] ∧ ((e = .returned (.tuple #[]) ∧ R 0 w') ∨ ∃ c, e = panicE c ∧ R c w'))
    (hR : ∀ c v w', R c w' → R c (w'.setCell ⟨w.heap.size, 0, none⟩ v)) :
    Calls Try.prog 40 #[.func (.func 41) #[] #[.pointer (some x), .pointer (some y), .pointer (some z)]] w fun e w' => ∃ c, e = .returned (.int .i64 c) ∧ R c w' := by
  have hmf := mf
  have HF := Lib.hid hf
  have HR := Lib.hid hR
  clear hf hR
  go_enter_defers Try.func40, Try.ntmps40
  go_wp2_with fail
  refine HF.out.mono ?_
  rintro e w1 ⟨hb, ⟨rfl, h0⟩ | ⟨c, rfl, h0⟩⟩
  · have hc : w1.cell? ⟨w.heap.size, 0, none⟩ = some (.int .i64 0) := hb.cell 0
    have hz := hb.frozen 0
    have hb2 := hb.set_ 0 (.int .i64 0)
    have h1 := HR.out 0 (.int .i64 0) w1 h0
    clear hb h0 HR HF
    go_wp2_with fail
    clear hc hz
    generalize w1.setCell ⟨w.heap.size, 0, none⟩ (.int .i64 0) = w2 at *
    have hc2 : w2.cell? ⟨w.heap.size, 0, none⟩ = some (.int .i64 0) := hb2.cell 0
    refine leaves_cons (f := 55) (args := #[.pointer (some ⟨w.heap.size, 0, none⟩)]) (by simp) (by simp [go_sem]) ?_
    refine (catch_idle _ _).mono ?_
    rintro e u' w3 ⟨rfl, rfl, rfl⟩
    simp [Leaves, settle, results, Try.results40, go_sem, hc2]
    exact h1
  · have hc : w1.cell? ⟨w.heap.size, 0, none⟩ = some (.int .i64 0) := hb.cell 0
    have hz := hb.frozen 0
    have hb2 := (hb.set_ 0 (.int .i64 121)).set_ 0 (.int .i64 c)
    have h1 := HR.out c (.int .i64 c) _ (HR.out c (.int .i64 121) w1 h0)
    clear hb h0 HR HF
    unfold panicE
    go_wp2_with fail
    refine leaves_cons (f := 55) (args := #[.pointer (some ⟨w.heap.size, 0, none⟩)]) (by simp) (by simp [go_sem]) ?_
    refine (catch_told _ 0 c _ hc hz).mono ?_
    rintro e u' w3 ⟨rfl, rfl, hw⟩
    rw [hw] at hb2 h1
    clear hw hc hz
    have hc2 : w3.cell? ⟨w.heap.size, 0, none⟩ = some (.int .i64 c) := hb2.cell 0
    simp [Leaves, settle, results, Try.results40, go_sem, hc2]
    exact h1
set_option maxRecDepth 100000 in
set_option maxHeartbeats 1000000 in
theorem attempt_read (x y z : Addr) (w : World) (R : Int → World → Prop)
    (hf : Calls Try.prog 49 #[.pointer (some x), .pointer (some y), .pointer (some z)] (w.alloc (.cells #[.int .i64 0] 24)) fun e w' => Blk w' w.heap.size 24 #[.int .i64 0] ∧ ((e = .returned (.tuple #[]) ∧ R 0 w') ∨ ∃ c, e = panicE c ∧ R c w'))
    (hR : ∀ c v w', R c w' → R c (w'.setCell ⟨w.heap.size, 0, none⟩ v)) :
    Calls Try.prog 40 #[.func (.func 49) #[] #[.pointer (some x), .pointer (some y), .pointer (some z)]] w fun e w' => ∃ c, e = .returned (.int .i64 c) ∧ R c w' := by
  have hmf := mf
  have HF := Lib.hid hf
  have HR := Lib.hid hR
  clear hf hR
  go_enter_defers Try.func40, Try.ntmps40
  go_wp2_with fail
  refine HF.out.mono ?_
  rintro e w1 ⟨hb, ⟨rfl, h0⟩ | ⟨c, rfl, h0⟩⟩
  · have hc : w1.cell? ⟨w.heap.size, 0, none⟩ = some (.int .i64 0) := hb.cell 0
    have hz := hb.frozen 0
    have hb2 := hb.set_ 0 (.int .i64 0)
    have h1 := HR.out 0 (.int .i64 0) w1 h0
    clear hb h0 HR HF
    go_wp2_with fail
    clear hc hz
    generalize w1.setCell ⟨w.heap.size, 0, none⟩ (.int .i64 0) = w2 at *
    have hc2 : w2.cell? ⟨w.heap.size, 0, none⟩ = some (.int .i64 0) := hb2.cell 0
    refine leaves_cons (f := 55) (args := #[.pointer (some ⟨w.heap.size, 0, none⟩)]) (by simp) (by simp [go_sem]) ?_
    refine (catch_idle _ _).mono ?_
    rintro e u' w3 ⟨rfl, rfl, rfl⟩
    simp [Leaves, settle, results, Try.results40, go_sem, hc2]
    exact h1
  · have hc : w1.cell? ⟨w.heap.size, 0, none⟩ = some (.int .i64 0) := hb.cell 0
    have hz := hb.frozen 0
    have hb2 := (hb.set_ 0 (.int .i64 121)).set_ 0 (.int .i64 c)
    have h1 := HR.out c (.int .i64 c) _ (HR.out c (.int .i64 121) w1 h0)
    clear hb h0 HR HF
    unfold panicE
    go_wp2_with fail
    refine leaves_cons (f := 55) (args := #[.pointer (some ⟨w.heap.size, 0, none⟩)]) (by simp) (by simp [go_sem]) ?_
    refine (catch_told _ 0 c _ hc hz).mono ?_
    rintro e u' w3 ⟨rfl, rfl, hw⟩
    rw [hw] at hb2 h1
    clear hw hc hz
    have hc2 : w3.cell? ⟨w.heap.size, 0, none⟩ = some (.int .i64 c) := hb2.cell 0
    simp [Leaves, settle, results, Try.results40, go_sem, hc2]
    exact h1
set_option maxRecDepth 100000 in
set_option maxHeartbeats 1000000 in
theorem attempt_all (x y : Addr) (w : World) (R : Int → World → Prop)
    (hf : Calls Try.prog 53 #[.pointer (some x), .pointer (some y)] (w.alloc (.cells #[.int .i64 0] 24)) fun e w' => Blk w' w.heap.size 24 #[.int .i64 0] ∧ ((e = .returned (.tuple #[]) ∧ R 0 w') ∨ ∃ c, e = panicE c ∧ R c w'))
    (hR : ∀ c v w', R c w' → R c (w'.setCell ⟨w.heap.size, 0, none⟩ v)) :
    Calls Try.prog 40 #[.func (.func 53) #[] #[.pointer (some x), .pointer (some y)]] w fun e w' => ∃ c, e = .returned (.int .i64 c) ∧ R c w' := by
  have hmf := mf
  have HF := Lib.hid hf
  have HR := Lib.hid hR
  clear hf hR
  go_enter_defers Try.func40, Try.ntmps40
  go_wp2_with fail
  refine HF.out.mono ?_
  rintro e w1 ⟨hb, ⟨rfl, h0⟩ | ⟨c, rfl, h0⟩⟩
  · have hc : w1.cell? ⟨w.heap.size, 0, none⟩ = some (.int .i64 0) := hb.cell 0
    have hz := hb.frozen 0
    have hb2 := hb.set_ 0 (.int .i64 0)
    have h1 := HR.out 0 (.int .i64 0) w1 h0
    clear hb h0 HR HF
    go_wp2_with fail
    clear hc hz
    generalize w1.setCell ⟨w.heap.size, 0, none⟩ (.int .i64 0) = w2 at *
    have hc2 : w2.cell? ⟨w.heap.size, 0, none⟩ = some (.int .i64 0) := hb2.cell 0
    refine leaves_cons (f := 55) (args := #[.pointer (some ⟨w.heap.size, 0, none⟩)]) (by simp) (by simp [go_sem]) ?_
    refine (catch_idle _ _).mono ?_
    rintro e u' w3 ⟨rfl, rfl, rfl⟩
    simp [Leaves, settle, results, Try.results40, go_sem, hc2]
    exact h1
  · have hc : w1.cell? ⟨w.heap.size, 0, none⟩ = some (.int .i64 0) := hb.cell 0
    have hz := hb.frozen 0
    have hb2 := (hb.set_ 0 (.int .i64 121)).set_ 0 (.int .i64 c)
    have h1 := HR.out c (.int .i64 c) _ (HR.out c (.int .i64 121) w1 h0)
    clear hb h0 HR HF
    unfold panicE
    go_wp2_with fail
    refine leaves_cons (f := 55) (args := #[.pointer (some ⟨w.heap.size, 0, none⟩)]) (by simp) (by simp [go_sem]) ?_
    refine (catch_told _ 0 c _ hc hz).mono ?_
    rintro e u' w3 ⟨rfl, rfl, hw⟩
    rw [hw] at hb2 h1
    clear hw hc hz
    have hc2 : w3.cell? ⟨w.heap.size, 0, none⟩ = some (.int .i64 c) := hb2.cell 0
    simp [Leaves, settle, results, Try.results40, go_sem, hc2]
    exact h1
end Go.Proofs.Ytickdpgfiianjaa
