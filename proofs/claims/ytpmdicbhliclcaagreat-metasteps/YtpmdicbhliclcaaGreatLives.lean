/-
  Lives. Conditions: a controller that New made.
-/
import Derived.Test.YtpmdicbhliclcaaGreatReg
namespace Go.Proofs.YtpmdicbhliclcaaGreat
open Go.RowKit Go.Maps
set_option linter.unusedVariables false
section
variable {w : World} {S : Nat → Prop} {g : Nat} {M : Mt}
/-- What Lives answers. -/
def LivesP (w : World) (S : Nat → Prop) (g : Nat) (M : Mt) (x : Int) (r : Ending) (w' : World) : Prop :=
  Mm w' S g M ∧ Below w.heap.size w w' ∧ ((¬ (0 ≤ x ∧ x < (M.nb : Int)) ∧ r = .returned (.tuple #[.bool false, .int .i64 2])) ∨ ∃ b : Nat, x = (b : Int) ∧ b < M.nb ∧ r = .returned (.tuple #[.bool (M.lives b), .int .i64 0]))
set_option maxRecDepth 100000 in
set_option maxHeartbeats 4000000 in
theorem lives_any (h : Mm w S g M) (hn : 1 ≤ M.nb ∧ M.nb ≤ 4) (x : Int) : Calls Tryz.prog 21 #[.pointer (some ⟨g, 0, none⟩), .int .i64 x] w (LivesP w S g M x) := by
  have hal := ((Below.refl w.heap.size w).alloc (Nat.le_refl _) (.cells #[.pointer (some ⟨g, 0, none⟩)] 27)).alloc (by simp) (.cells #[.int .i64 x] 3)
  have hm0 : Blk ((w.alloc (.cells #[.pointer (some ⟨g, 0, none⟩)] 27)).alloc (.cells #[.int .i64 x] 3)) w.heap.size 27 #[.pointer (some ⟨g, 0, none⟩)] := (Blk.new w 27 _).alloc _
  have hi0 : Blk ((w.alloc (.cells #[.pointer (some ⟨g, 0, none⟩)] 27)).alloc (.cells #[.int .i64 x] 3)) (w.heap.size + 1) 3 #[.int .i64 x] := by
    have := Blk.new (w.alloc (.cells #[.pointer (some ⟨g, 0, none⟩)] 27)) 3 #[.int .i64 x]
    rwa [show (w.alloc (.cells #[.pointer (some ⟨g, 0, none⟩)] 27)).heap.size = w.heap.size + 1 by simp] at this
  have HM0 := Lib.hid hm0
  have HI0 := Lib.hid hi0
  have HB0 := Lib.hid hal
  have HM := Lib.hid (h.below hal)
  have HGL := Lib.hid h.lt
  clear hal hm0 hi0 h
  go_enter Tryz.func21, Tryz.ntmps21
  go_upto_region 1 with fail
  generalize hw2 : ((w.alloc (.cells #[.pointer (some ⟨g, 0, none⟩)] 27)).alloc (.cells #[.int .i64 x] 3)) = w2 at *
  clear hw2
  have r0 := HM0.out.cell 0
  have hC : Cap w2 w.heap.size (w.heap.size + 1) g (M.nb : Int) (M.np : Int) (M.ni : Int) x := ⟨HM0.out.cell 0, HI0.out.cell 0, HM.out.form.1, HM.out.form.2.1, HM.out.form.2.2⟩
  have HC := Lib.hid hC
  have hal2 := (Below.refl w2.heap.size w2).alloc (Nat.le_refl _) (.cells #[.int .i64 2, .func (.func 54) #[] #[.pointer (some ⟨w.heap.size, 0, none⟩), .pointer (some ⟨w.heap.size + 1, 0, none⟩)]] 105)
  have hcw := hC.below hal2
  have hwr := wrong_any (w := w2.alloc (.cells #[.int .i64 2, .func (.func 54) #[] #[.pointer (some ⟨w.heap.size, 0, none⟩), .pointer (some ⟨w.heap.size + 1, 0, none⟩)]] 105)) (k := 1) (fs := [⟨2, 54, #[.pointer (some ⟨w.heap.size, 0, none⟩), .pointer (some ⟨w.heap.size + 1, 0, none⟩)]⟩]) (A := some ⟨w2.heap.size, 0, none⟩)
    (fun _ => !decide (0 ≤ x ∧ x < (M.nb : Int))) hcw.f0 hcw.f1 hcw.f2 (by omega) (rd_one w2 105 _ rfl (by simp [Value.oneCell']) (fun h => h)) (by simp) (fun i f hf hz => by
      rcases i with _ | i
      · injection hf with hf
        subst hf
        exact ⟨fun args w => by go_simp, fun W hW => arg54_any (hcw.below hW)⟩
      · simp at hf)
  have HB3 := Lib.hid hal2
  clear hC hal2 hcw
  go_wp2_with fail
  refine hwr.mono ?_
  rintro r w4 ⟨rfl, hb4⟩
  have HB4 := Lib.hid (HB3.out.trans (hb4.mono HB3.out.size))
  have HMM := Lib.hid (HM.out.below HB4.out)
  have HCC := Lib.hid (HC.out.below HB4.out)
  have HBT := Lib.hid (HB0.out.trans (HB4.out.mono HB0.out.size))
  clear hwr hb4 r0
  by_cases hx : 0 ≤ x ∧ x < (M.nb : Int)
  case neg =>
    have hfe : firstE (fun _ => !decide (0 ≤ x ∧ x < (M.nb : Int))) 0 [⟨2, 54, #[.pointer (some ⟨w.heap.size, 0, none⟩), .pointer (some ⟨w.heap.size + 1, 0, none⟩)]⟩] = 2 := by
      show (if (!decide (0 ≤ x ∧ x < (M.nb : Int))) = true then (2 : Int) else 0) = 2
      rw [decide_eq_false hx]; rfl
    rw [hfe]
    have HX := Lib.hid hx
    have e2 : ((2 : Int) == 0) = false := by simp
    clear hfe hx
    go_wp2_with fail
    go_quiet (fail)
    go_wp2_with fail
    refine bodyPost_ret (results_tmp2 (by rfl) _ _ _) rfl ?_
    exact ⟨HMM.out.below (below_drewN (Below.refl _ _) _), below_drewN HBT.out _, .inl ⟨HX.out, rfl⟩⟩
  case pos =>
    have hfe : firstE (fun _ => !decide (0 ≤ x ∧ x < (M.nb : Int))) 0 [⟨2, 54, #[.pointer (some ⟨w.heap.size, 0, none⟩), .pointer (some ⟨w.heap.size + 1, 0, none⟩)]⟩] = 0 := by
      show (if (!decide (0 ≤ x ∧ x < (M.nb : Int))) = true then (2 : Int) else 0) = 0
      rw [decide_eq_true hx]; rfl
    rw [hfe]
    obtain ⟨b, rfl⟩ : ∃ b : Nat, x = (b : Int) := ⟨x.toNat, by omega⟩
    have hbn : b < M.nb := by omega
    have hb4 : b < 4 := by omega
    have hb4i : (b : Int) < 4 := by omega
    have HX := Lib.hid hbn
    have e2 : ((0 : Int) == 0) = true := by simp
    have q0 := HCC.out.m
    have q1 := HCC.out.i
    have q2 : w4.cell? ⟨g, 3 + b, none⟩ = some (.bool (M.lives b)) := by
      obtain ⟨cs, rv, h1, -⟩ := HMM.out
      rw [h1.blk.cell]; exact h1.lay.lv b hb4
    clear hfe hx
    go_wp2_with fail
    go_quiet (fail)
    go_wp2_with fail
    refine bodyPost_ret (results_tmp2 (by rfl) _ _ _) rfl ?_
    exact ⟨HMM.out.below (below_drewN (Below.refl _ _) _), below_drewN HBT.out _, .inr ⟨b, rfl, HX.out, rfl⟩⟩
end
end Go.Proofs.YtpmdicbhliclcaaGreat
