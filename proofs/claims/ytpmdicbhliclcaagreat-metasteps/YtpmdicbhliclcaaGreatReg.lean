/-
  Register. Conditions: a controller that New made.
-/
import Derived.Test.YtpmdicbhliclcaaGreatArg
namespace Go.Proofs.YtpmdicbhliclcaaGreat
open Go.RowKit Go.Maps
set_option linter.unusedVariables false
section
variable {w : World} {S : Nat → Prop} {g : Nat} {M : Mt}
theorem Mm.lt (h : Mm w S g M) : g < w.heap.size := by
  obtain ⟨cs, rv, h1, -⟩ := h
  exact h1.blk.lt
theorem Mm.form (h : Mm w S g M) : w.cell? ⟨g, 0, none⟩ = some (.int .i64 (M.nb : Int)) ∧ w.cell? ⟨g, 1, none⟩ = some (.int .i64 (M.np : Int)) ∧ w.cell? ⟨g, 2, none⟩ = some (.int .i64 (M.ni : Int)) := by
  obtain ⟨cs, rv, h1, -⟩ := h
  exact ⟨by rw [h1.blk.cell]; exact h1.lay.n0, by rw [h1.blk.cell]; exact h1.lay.n1, by rw [h1.blk.cell]; exact h1.lay.n2⟩
theorem capSet {V : World} {bm bi j : Nat} {a b c x : Int} {u : Value} (h : Cap V bm bi g a b c x) (hm : g ≠ bm) (hi : g ≠ bi) (F : (V.setCell ⟨g, 3 + j, none⟩ u).cell? ⟨g, 0, none⟩ = some (.int .i64 a) ∧ (V.setCell ⟨g, 3 + j, none⟩ u).cell? ⟨g, 1, none⟩ = some (.int .i64 b) ∧ (V.setCell ⟨g, 3 + j, none⟩ u).cell? ⟨g, 2, none⟩ = some (.int .i64 c)) : Cap (V.setCell ⟨g, 3 + j, none⟩ u) bm bi g a b c x :=
  have ht : Turn (fun q => q = g) V (V.setCell ⟨g, 3 + j, none⟩ u) := (Turn.refl (fun q => q = g) V).setCell (p := ⟨g, 3 + j, none⟩) (fun _ => rfl) _
  ⟨(ht.cell (p := ⟨bm, 0, none⟩) (block_lt_of_cell h.m) (fun e => hm e.symm)).trans h.m, (ht.cell (p := ⟨bi, 0, none⟩) (block_lt_of_cell h.i) (fun e => hi e.symm)).trans h.i,
    F.1, F.2.1, F.2.2⟩
/-- What is known behind Register. -/
def RegP (w : World) (S : Nat → Prop) (g : Nat) (M : Mt) (x : Int) (r : Ending) (w' : World) : Prop :=
  (¬ (0 ≤ x ∧ x < (M.nb : Int)) ∧ r = .returned (.int .i64 2) ∧ Mm w' S g M ∧ Below w.heap.size w w') ∨
    ∃ b : Nat, x = (b : Int) ∧ b < M.nb ∧ r = .returned (.int .i64 0) ∧ Mm w' S g { M with lives := setAt M.lives b true } ∧ Turn (fun q => q = g) w w'
set_option maxRecDepth 100000 in
set_option maxHeartbeats 4000000 in
theorem register_any (h : Mm w S g M) (hn : 1 ≤ M.nb ∧ M.nb ≤ 4) (x : Int) : Calls Tryz.prog 29 #[.pointer (some ⟨g, 0, none⟩), .int .i64 x] w (RegP w S g M x) := by
  have hal := ((Below.refl w.heap.size w).alloc (Nat.le_refl _) (.cells #[.pointer (some ⟨g, 0, none⟩)] 27)).alloc (by simp) (.cells #[.int .i64 x] 3)
  have hm0 : Blk ((w.alloc (.cells #[.pointer (some ⟨g, 0, none⟩)] 27)).alloc (.cells #[.int .i64 x] 3)) w.heap.size 27 #[.pointer (some ⟨g, 0, none⟩)] := (Blk.new w 27 _).alloc _
  have hi0 : Blk ((w.alloc (.cells #[.pointer (some ⟨g, 0, none⟩)] 27)).alloc (.cells #[.int .i64 x] 3)) (w.heap.size + 1) 3 #[.int .i64 x] := by
    have := Blk.new (w.alloc (.cells #[.pointer (some ⟨g, 0, none⟩)] 27)) 3 #[.int .i64 x]
    rwa [show (w.alloc (.cells #[.pointer (some ⟨g, 0, none⟩)] 27)).heap.size = w.heap.size + 1 by simp] at this
  have HM0 := Lib.hid hm0
  have HI0 := Lib.hid hi0
  have HB0 := Lib.hid hal
  have HM := Lib.hid (h.below hal)
  have HGL := Lib.hid h.lt
  clear hal hm0 hi0 h
  go_enter Tryz.func29, Tryz.ntmps29
  go_upto_region 1 with fail
  generalize hw2 : ((w.alloc (.cells #[.pointer (some ⟨g, 0, none⟩)] 27)).alloc (.cells #[.int .i64 x] 3)) = w2 at *
  clear hw2
  have r0 := HM0.out.cell 0
  have hC : Cap w2 w.heap.size (w.heap.size + 1) g (M.nb : Int) (M.np : Int) (M.ni : Int) x := ⟨HM0.out.cell 0, HI0.out.cell 0, HM.out.form.1, HM.out.form.2.1, HM.out.form.2.2⟩
  have HC := Lib.hid hC
  have hal2 := (Below.refl w2.heap.size w2).alloc (Nat.le_refl _) (.cells #[.int .i64 2, .func (.func 78) #[] #[.pointer (some ⟨w.heap.size, 0, none⟩), .pointer (some ⟨w.heap.size + 1, 0, none⟩)]] 105)
  have hcw := hC.below hal2
  have hwr := wrong_any (w := w2.alloc (.cells #[.int .i64 2, .func (.func 78) #[] #[.pointer (some ⟨w.heap.size, 0, none⟩), .pointer (some ⟨w.heap.size + 1, 0, none⟩)]] 105)) (k := 1) (fs := [⟨2, 78, #[.pointer (some ⟨w.heap.size, 0, none⟩), .pointer (some ⟨w.heap.size + 1, 0, none⟩)]⟩]) (A := some ⟨w2.heap.size, 0, none⟩)
    (fun _ => !decide (0 ≤ x ∧ x < (M.nb : Int))) hcw.f0 hcw.f1 hcw.f2 (by omega) (rd_one w2 105 _ rfl (by simp [Value.oneCell']) (fun h => h)) (by simp) (fun i f hf hz => by
      rcases i with _ | i
      · injection hf with hf
        subst hf
        exact ⟨fun args w => by go_simp, fun W hW => arg78_any (hcw.below hW)⟩
      · simp at hf)
  have HB3 := Lib.hid hal2
  clear hC hal2 hcw
  go_wp2_with fail
  refine hwr.mono ?_
  rintro r w4 ⟨rfl, hb4⟩
  have HB4 := Lib.hid (HB3.out.trans (hb4.mono HB3.out.size))
  have HMM := Lib.hid (HM.out.below HB4.out)
  have HCC := Lib.hid (HC.out.below HB4.out)
  have HBT := Lib.hid (HB0.out.trans (HB4.out.mono HB0.out.size))
  clear hwr hb4 r0
  by_cases hx : 0 ≤ x ∧ x < (M.nb : Int)
  case neg =>
    have hfe : firstE (fun _ => !decide (0 ≤ x ∧ x < (M.nb : Int))) 0 [⟨2, 78, #[.pointer (some ⟨w.heap.size, 0, none⟩), .pointer (some ⟨w.heap.size + 1, 0, none⟩)]⟩] = 2 := by
      show (if (!decide (0 ≤ x ∧ x < (M.nb : Int))) = true then (2 : Int) else 0) = 2
      rw [decide_eq_false hx]; rfl
    rw [hfe]
    have HX := Lib.hid hx
    have e2 : ((2 : Int) == 0) = false := by simp
    clear hfe hx
    go_wp2_with fail
    go_ret
    exact .inl ⟨HX.out, rfl, HMM.out, HBT.out⟩
  case pos =>
    have hfe : firstE (fun _ => !decide (0 ≤ x ∧ x < (M.nb : Int))) 0 [⟨2, 78, #[.pointer (some ⟨w.heap.size, 0, none⟩), .pointer (some ⟨w.heap.size + 1, 0, none⟩)]⟩] = 0 := by
      show (if (!decide (0 ≤ x ∧ x < (M.nb : Int))) = true then (2 : Int) else 0) = 0
      rw [decide_eq_true hx]; rfl
    rw [hfe]
    obtain ⟨b, rfl⟩ : ∃ b : Nat, x = (b : Int) := ⟨x.toNat, by omega⟩
    have hbn : b < M.nb := by omega
    have hb4 : b < 4 := by omega
    have hb4i : (b : Int) < 4 := by omega
    have HX := Lib.hid hbn
    have e2 : ((0 : Int) == 0) = true := by simp
    clear hfe hx
    go_upto_region 3 with fail
    refine wp_region_np ?_
    refine wp_region_held_drew (S := fun W => Cap W w.heap.size (w.heap.size + 1) g (M.nb : Int) (M.np : Int) (M.ni : Int) (b : Int)) (by kernel_rfl) (show Cap w4.drew w.heap.size (w.heap.size + 1) g (M.nb : Int) (M.np : Int) (M.ni : Int) (b : Int) from HCC.out.below (Below.refl _ _).drew) (fun hHeld => ?_)
    have hmv : Mm w4.drew S g M := HMM.out.below (Below.refl _ _).drew
    have hbt : Below w.heap.size w w4.drew := HBT.out.drew
    generalize hv0 : w4.drew = V0 at *
    clear hv0
    obtain ⟨cs, rv, hMx, hSg, hSr⟩ := hmv
    have hwl := HGL.out
    refine wpAnyH_takeAt (i := 0) (d := 13) (v := ?vq0x) rfl rfl (by kernel_rfl) (by kernel_rfl) (by kernel_rfl) (fun _ _ _ h => h) (Or.inl ⟨by rfl, ?hyq0x⟩) hHeld ?_
    case hyq0x =>
      intro W hSw
      have hh := hSw; obtain ⟨q0, q1, q2, q3, q4⟩ := hh; clear hSw
      (go_simp; try with_reducible rfl)
    simp only [List.setIfInBounds_toArray, List.set_cons_zero, List.set_cons_succ]
    refine wpAnyH_takeAt (i := 1) (d := 14) (v := ?vq1x) rfl rfl (by kernel_rfl) (by kernel_rfl) (by kernel_rfl) (fun _ _ _ h => h) (Or.inl ⟨by rfl, ?hyq1x⟩) hHeld ?_
    case hyq1x =>
      intro W hSw
      have hh := hSw; obtain ⟨q0, q1, q2, q3, q4⟩ := hh; clear hSw
      (go_simp; try with_reducible rfl)
    simp only [List.setIfInBounds_toArray, List.set_cons_zero, List.set_cons_succ]
    refine wpAnyH_takeAt (i := 2) (d := 15) (v := ?vq2x) rfl rfl (by kernel_rfl) (by kernel_rfl) (by kernel_rfl) (fun _ _ _ h => h) (Or.inl ⟨by rfl, ?hyq2x⟩) hHeld ?_
    case hyq2x =>
      intro W hSw
      clear hSw
      (go_simp; try with_reducible rfl)
    simp only [List.setIfInBounds_toArray, List.set_cons_zero, List.set_cons_succ]
    refine wpAnyH_takeAt (i := 3) (d := 16) (v := ?vq3x) rfl rfl (by kernel_rfl) (by kernel_rfl) (by kernel_rfl) (fun _ _ _ h => h) (Or.inl ⟨by rfl, ?hyq3x⟩) hHeld ?_
    case hyq3x =>
      intro W hSw
      clear hSw
      (go_simp; try with_reducible rfl)
    simp only [List.setIfInBounds_toArray, List.set_cons_zero, List.set_cons_succ]
    refine wpAnyH_takeAt (i := 4) (d := 17) (v := ?vq4x) rfl rfl (by kernel_rfl) (by kernel_rfl) (by kernel_rfl) (fun _ _ _ h => h) (Or.inl ⟨by rfl, ?hyq4x⟩) hHeld ?_
    case hyq4x =>
      intro W hSw
      clear hSw
      (go_simp; try with_reducible rfl)
    simp only [List.setIfInBounds_toArray, List.set_cons_zero, List.set_cons_succ]
    refine wpAnyH_ready (rs := [5]) (by kernel_rfl) (by simp) (AllReadyH.cons rfl (fun K hK => ?_) AllReadyH.nil)
    have hlive := hMx.live (b := b) (x := true) hb4
    have hfz := hMx.blk.frozen (3 + b)
    have hce : V0.cell? ⟨g, 3 + b, none⟩ = some (.bool (M.lives b)) := by rw [hMx.blk.cell]; exact hMx.lay.lv b hb4
    go_simp
    have HF : Hid (Mm (V0.setCell ⟨g, 3 + b, none⟩ (.bool true)) S g { M with lives := setAt M.lives b true } ∧ Turn (fun q => q = g) w (V0.setCell ⟨g, 3 + b, none⟩ (.bool true))) := Lib.hid ⟨⟨_, _, hlive, hSg, hSr⟩, (Turn.of_below hbt _).trans ((Turn.refl (fun q => q = g) V0).setCell (p := ⟨g, 3 + b, none⟩) (fun _ => rfl) _) (fun _ _ h => h)⟩
    refine hK.out _ _ (capSet hHeld (by omega) (by omega) HF.out.1.form) (fun hHeld => ?_)
    clear hK K hlive hfz hce
    try simp only [List.setIfInBounds_toArray, List.set_cons_zero, List.set_cons_succ]
    refine wpAnyH_done (by kernel_rfl) ?_ _
    clear hHeld hMx hSg hSr hbt
    go_wp2_with fail
    go_ret
    exact .inr ⟨b, rfl, HX.out, rfl, HF.out.1, HF.out.2⟩
end
end Go.Proofs.YtpmdicbhliclcaaGreat
