/-
  Form. Conditions: a controller that New made, or none.
-/
import Derived.Test.YtpmdicbhliclcaaGreatLives
namespace Go.Proofs.YtpmdicbhliclcaaGreat
open Go.RowKit Go.Maps
set_option linter.unusedVariables false
section
variable {w : World} {S : Nat → Prop} {g : Nat} {M : Mt}
/-- Its blocks are there. -/
theorem Mm.tight (h : Mm w S g M) : Mm w (fun b => S b ∧ b < w.heap.size) g M := by
  obtain ⟨cs, rv, h1, h2, h3⟩ := h
  exact ⟨cs, rv, h1, ⟨h2, h1.blk.lt⟩, fun k hk b hb => ⟨h3 k hk b hb, (h1.own k hk).lt hb⟩⟩
theorem Mm.wide {T : Nat → Prop} (h : Mm w S g M) (hT : ∀ b, S b → T b) : Mm w T g M := by
  obtain ⟨cs, rv, h1, h2, h3⟩ := h
  exact ⟨cs, rv, h1, hT _ h2, fun k hk b hb => hT _ (h3 k hk b hb)⟩
/-- What turns a block that is new leaves it. -/
theorem Mm.apart {w1 w2 : World} {T : Nat → Prop} (h : Mm w S g M) (hb : Below w.heap.size w w1) (ht : Turn T w1 w2) (hT : ∀ b, T b → w.heap.size ≤ b) : Mm w2 S g M :=
  ((h.tight.below hb).keep ht (fun b hq e => by have := hT b e; have := hq.2; omega)).wide (fun _ q => q.1)
theorem und23 : Tryz.prog.underlying 23 = some (.struct (Tryz.prog.fieldsOf 23)) := by kernel_rfl
set_option maxRecDepth 100000 in
set_option maxHeartbeats 4000000 in
theorem form_nil (w : World) : Calls Tryz.prog 33 #[.pointer none] w fun r w' => r = .returned (.agg #[.int .i64 0, .int .i64 0, .int .i64 0]) ∧ Below w.heap.size w w' := by
  have HB0 := Lib.hid ((Below.refl w.heap.size w).alloc (Nat.le_refl _) (.cells #[.int .i64 0, .int .i64 0, .int .i64 0] 23))
  have HZ : Hid (Blk (w.alloc (.cells #[.int .i64 0, .int .i64 0, .int .i64 0] 23)) w.heap.size 23 #[.int .i64 0, .int .i64 0, .int .i64 0]) := Lib.hid (Blk.new w 23 _)
  have hm := made_no (w.alloc (.cells #[.int .i64 0, .int .i64 0, .int .i64 0] 23))
  go_enter Tryz.func33, Tryz.ntmps33
  go_upto_region 1 with fail
  generalize hw2 : w.alloc (.cells #[.int .i64 0, .int .i64 0, .int .i64 0] 23) = w2 at *
  clear hw2
  go_wp2_with fail
  refine hm.mono ?_
  rintro r w3 ⟨rfl, rfl⟩
  clear hm
  go_wp2_with (with_reducible refine at_store 23 rfl ?_)
  refine Stop.go (wpList_store_blk (by rfl) (by rfl) 23 _ _ (by rfl) w.heap.size _ #[.int .i64 0, .int .i64 0, .int .i64 0] (by rfl) (by rfl) 23 HZ.out (by rfl) (by kernel_rfl) (by simp [Value.oneCell']) ?_)
  intro w4 hB4 hg4 hs4
  have hT4 : Turn (fun x => x = w.heap.size) w2 w4 := Turn.of_grown hg4 (fun r e => by injection e with e; exact e.symm)
  have HF : Hid (Blk w4 w.heap.size 23 #[.int .i64 0, .int .i64 0, .int .i64 0] ∧ Below w.heap.size w w4) := Lib.hid ⟨hB4, HB0.out.trans (hT4.below HB0.out.size (fun x e => by omega))⟩
  clear hB4 hg4 hs4 hT4
  go_wp2_with fail
  refine bodyPost_ret (v := .agg #[.int .i64 0, .int .i64 0, .int .i64 0]) (results_cell (by rfl) _ _ w.heap.size 23 _ (0, 0) _ (by rfl) HF.out.1 und23 (by rfl) (by kernel_rfl)) rfl ?_
  exact ⟨rfl, HF.out.2⟩
set_option maxRecDepth 100000 in
set_option maxHeartbeats 4000000 in
theorem form_any (h : Mm w S g M) (hn : 1 ≤ M.nb) : Calls Tryz.prog 33 #[.pointer (some ⟨g, 0, none⟩)] w fun r w' => r = .returned (.agg #[.int .i64 (M.nb : Int), .int .i64 (M.np : Int), .int .i64 (M.ni : Int)]) ∧ Mm w' S g M ∧ Below w.heap.size w w' := by
  have hal := (Below.refl w.heap.size w).alloc (Nat.le_refl _) (.cells #[.int .i64 0, .int .i64 0, .int .i64 0] 23)
  have HB0 := Lib.hid hal
  have HZ : Hid (Blk (w.alloc (.cells #[.int .i64 0, .int .i64 0, .int .i64 0] 23)) w.heap.size 23 #[.int .i64 0, .int .i64 0, .int .i64 0]) := Lib.hid (Blk.new w 23 _)
  have HM := Lib.hid (h.below hal)
  have HW := Lib.hid h
  have HGL := Lib.hid h.lt
  have hm := made_yes HM.out.form.1 HM.out.form.2.1 HM.out.form.2.2 (by omega)
  clear hal h
  go_enter Tryz.func33, Tryz.ntmps33
  go_upto_region 1 with fail
  generalize hw2 : w.alloc (.cells #[.int .i64 0, .int .i64 0, .int .i64 0] 23) = w2 at *
  clear hw2
  go_wp2_with fail
  refine hm.mono ?_
  rintro r w3 ⟨rfl, rfl⟩
  clear hm
  go_upto_region 3 with fail
  refine wp_region_np ?_
  refine wp_region_held_drew (S := fun W => W.cell? ⟨g, 0, none⟩ = some (.int .i64 (M.nb : Int)) ∧ W.cell? ⟨g, 1, none⟩ = some (.int .i64 (M.np : Int)) ∧ W.cell? ⟨g, 2, none⟩ = some (.int .i64 (M.ni : Int))) (by kernel_rfl) (show (fun W => W.cell? ⟨g, 0, none⟩ = some (.int .i64 (M.nb : Int)) ∧ W.cell? ⟨g, 1, none⟩ = some (.int .i64 (M.np : Int)) ∧ W.cell? ⟨g, 2, none⟩ = some (.int .i64 (M.ni : Int))) w2.drew from (HM.out.below (Below.refl _ _).drew).form) (fun hHeld => ?_)
  have hb0 : Below w2.heap.size w2 w2.drew := (Below.refl _ _).drew
  generalize hv0 : w2.drew = V0 at *
  clear hv0
  refine wpAnyH_takeAt (i := 0) (d := 7) (v := ?vq0x) rfl rfl (by kernel_rfl) (by kernel_rfl) (by kernel_rfl) (fun _ _ _ h => h) (Or.inl ⟨by rfl, ?hyq0x⟩) hHeld ?_
  case hyq0x =>
    intro W hSw
    clear hSw
    (go_simp; try with_reducible rfl)
  simp only [List.setIfInBounds_toArray, List.set_cons_zero, List.set_cons_succ]
  refine wpAnyH_takeAt (i := 1) (d := 8) (v := ?vq1x) rfl rfl (by kernel_rfl) (by kernel_rfl) (by kernel_rfl) (fun _ _ _ h => h) (Or.inl ⟨by rfl, ?hyq1x⟩) hHeld ?_
  case hyq1x =>
    intro W hSw
    clear hSw
    (go_simp; try with_reducible rfl)
  simp only [List.setIfInBounds_toArray, List.set_cons_zero, List.set_cons_succ]
  refine wpAnyH_takeAt (i := 2) (d := 9) (v := ?vq2x) rfl rfl (by kernel_rfl) (by kernel_rfl) (by kernel_rfl) (fun _ _ _ h => h) (Or.inl ⟨by rfl, ?hyq2x⟩) hHeld ?_
  case hyq2x =>
    intro W hSw
    clear hSw
    (go_simp; try with_reducible rfl)
  simp only [List.setIfInBounds_toArray, List.set_cons_zero, List.set_cons_succ]
  refine wpAnyH_takeAt (i := 3) (d := 10) (v := ?vq3x) rfl rfl (by kernel_rfl) (by kernel_rfl) (by kernel_rfl) (fun _ _ _ h => h) (Or.inl ⟨by rfl, ?hyq3x⟩) hHeld ?_
  case hyq3x =>
    intro W hSw
    clear hSw
    (go_simp; try with_reducible rfl)
  simp only [List.setIfInBounds_toArray, List.set_cons_zero, List.set_cons_succ]
  refine wpAnyH_takeAt (i := 4) (d := 11) (v := ?vq4x) rfl rfl (by kernel_rfl) (by kernel_rfl) (by kernel_rfl) (fun _ _ _ h => h) (Or.inl ⟨by rfl, ?hyq4x⟩) hHeld ?_
  case hyq4x =>
    intro W hSw
    have hh := hSw; obtain ⟨r0, r1, r2⟩ := hh; clear hSw
    (go_simp; try with_reducible rfl)
  simp only [List.setIfInBounds_toArray, List.set_cons_zero, List.set_cons_succ]
  refine wpAnyH_takeAt (i := 5) (d := 12) (v := ?vq5x) rfl rfl (by kernel_rfl) (by kernel_rfl) (by kernel_rfl) (fun _ _ _ h => h) (Or.inl ⟨by rfl, ?hyq5x⟩) hHeld ?_
  case hyq5x =>
    intro W hSw
    clear hSw
    (go_simp; try with_reducible rfl)
  simp only [List.setIfInBounds_toArray, List.set_cons_zero, List.set_cons_succ]
  refine wpAnyH_takeAt (i := 6) (d := 13) (v := ?vq6x) rfl rfl (by kernel_rfl) (by kernel_rfl) (by kernel_rfl) (fun _ _ _ h => h) (Or.inl ⟨by rfl, ?hyq6x⟩) hHeld ?_
  case hyq6x =>
    intro W hSw
    clear hSw
    (go_simp; try with_reducible rfl)
  simp only [List.setIfInBounds_toArray, List.set_cons_zero, List.set_cons_succ]
  refine wpAnyH_takeAt (i := 7) (d := 14) (v := ?vq7x) rfl rfl (by kernel_rfl) (by kernel_rfl) (by kernel_rfl) (fun _ _ _ h => h) (Or.inl ⟨by rfl, ?hyq7x⟩) hHeld ?_
  case hyq7x =>
    intro W hSw
    clear hSw
    (go_simp; try with_reducible rfl)
  simp only [List.setIfInBounds_toArray, List.set_cons_zero, List.set_cons_succ]
  refine wpAnyH_takeAt (i := 8) (d := 15) (v := ?vq8x) rfl rfl (by kernel_rfl) (by kernel_rfl) (by kernel_rfl) (fun _ _ _ h => h) (Or.inl ⟨by rfl, ?hyq8x⟩) hHeld ?_
  case hyq8x =>
    intro W hSw
    clear hSw
    (go_simp; try with_reducible rfl)
  simp only [List.setIfInBounds_toArray, List.set_cons_zero, List.set_cons_succ]
  refine wpAnyH_takeAt (i := 9) (d := 16) (v := ?vq9x) rfl rfl (by kernel_rfl) (by kernel_rfl) (by kernel_rfl) (fun _ _ _ h => h) (Or.inl ⟨by rfl, ?hyq9x⟩) hHeld ?_
  case hyq9x =>
    intro W hSw
    have hh := hSw; obtain ⟨r0, r1, r2⟩ := hh; clear hSw
    (go_simp; try with_reducible rfl)
  simp only [List.setIfInBounds_toArray, List.set_cons_zero, List.set_cons_succ]
  refine wpAnyH_takeAt (i := 10) (d := 17) (v := ?vq10x) rfl rfl (by kernel_rfl) (by kernel_rfl) (by kernel_rfl) (fun _ _ _ h => h) (Or.inl ⟨by rfl, ?hyq10x⟩) hHeld ?_
  case hyq10x =>
    intro W hSw
    clear hSw
    (go_simp; try with_reducible rfl)
  simp only [List.setIfInBounds_toArray, List.set_cons_zero, List.set_cons_succ]
  refine wpAnyH_takeAt (i := 11) (d := 18) (v := ?vq11x) rfl rfl (by kernel_rfl) (by kernel_rfl) (by kernel_rfl) (fun _ _ _ h => h) (Or.inl ⟨by rfl, ?hyq11x⟩) hHeld ?_
  case hyq11x =>
    intro W hSw
    clear hSw
    (go_simp; try with_reducible rfl)
  simp only [List.setIfInBounds_toArray, List.set_cons_zero, List.set_cons_succ]
  refine wpAnyH_takeAt (i := 12) (d := 19) (v := ?vq12x) rfl rfl (by kernel_rfl) (by kernel_rfl) (by kernel_rfl) (fun _ _ _ h => h) (Or.inl ⟨by rfl, ?hyq12x⟩) hHeld ?_
  case hyq12x =>
    intro W hSw
    clear hSw
    (go_simp; try with_reducible rfl)
  simp only [List.setIfInBounds_toArray, List.set_cons_zero, List.set_cons_succ]
  refine wpAnyH_takeAt (i := 13) (d := 20) (v := ?vq13x) rfl rfl (by kernel_rfl) (by kernel_rfl) (by kernel_rfl) (fun _ _ _ h => h) (Or.inl ⟨by rfl, ?hyq13x⟩) hHeld ?_
  case hyq13x =>
    intro W hSw
    clear hSw
    (go_simp; try with_reducible rfl)
  simp only [List.setIfInBounds_toArray, List.set_cons_zero, List.set_cons_succ]
  refine wpAnyH_takeAt (i := 14) (d := 21) (v := ?vq14x) rfl rfl (by kernel_rfl) (by kernel_rfl) (by kernel_rfl) (fun _ _ _ h => h) (Or.inl ⟨by rfl, ?hyq14x⟩) hHeld ?_
  case hyq14x =>
    intro W hSw
    have hh := hSw; obtain ⟨r0, r1, r2⟩ := hh; clear hSw
    (go_simp; try with_reducible rfl)
  simp only [List.setIfInBounds_toArray, List.set_cons_zero, List.set_cons_succ]
  refine wpAnyH_takeAt (i := 15) (d := 22) (v := ?vq15x) rfl rfl (by kernel_rfl) (by kernel_rfl) (by kernel_rfl) (fun _ _ _ h => h) (Or.inl ⟨by rfl, ?hyq15x⟩) hHeld ?_
  case hyq15x =>
    intro W hSw
    clear hSw
    (go_simp; try with_reducible rfl)
  simp only [List.setIfInBounds_toArray, List.set_cons_zero, List.set_cons_succ]
  refine wpAnyH_ready (rs := [16]) (by kernel_rfl) (by simp) (AllReadyH.cons rfl (fun K hK => ?_) AllReadyH.nil)
  have hZ3 := HZ.out.below hb0 HZ.out.lt
  refine step_store_blk (by rfl) (by rfl) 23 _ _ (by rfl) w.heap.size _ #[.int .i64 (M.nb : Int), .int .i64 (M.np : Int), .int .i64 (M.ni : Int)] (by rfl) (by rfl) 23 hZ3 (by rfl) (by kernel_rfl) (by simp [Value.oneCell']) ?_
  intro V4 hX hg hs
  have hTx : Turn (fun x => x = w.heap.size) V0 V4 := Turn.of_grown hg (fun r e => by injection e with e; exact e.symm)
  have hgl := HGL.out
  have hs0 := HB0.out.size
  have hs1 := hb0.size
  have HF : Hid (Blk V4 w.heap.size 23 #[.int .i64 (M.nb : Int), .int .i64 (M.np : Int), .int .i64 (M.ni : Int)] ∧ Mm V4 S g M ∧ Below w.heap.size w V4) := Lib.hid ⟨hX, HW.out.apart (HB0.out.trans (hb0.mono hs0)) hTx (fun b e => by omega), (HB0.out.trans (hb0.mono hs0)).trans (hTx.below (by omega) (fun x e => by omega))⟩
  have hHeld2 : (fun W => W.cell? ⟨g, 0, none⟩ = some (.int .i64 (M.nb : Int)) ∧ W.cell? ⟨g, 1, none⟩ = some (.int .i64 (M.np : Int)) ∧ W.cell? ⟨g, 2, none⟩ = some (.int .i64 (M.ni : Int))) V4 := HF.out.2.1.form
  refine hK.out _ _ hHeld2 (fun hHeld => ?_)
  clear hK K hHeld2 hX hg hs hTx hZ3 hb0
  refine wpAnyH_done (by kernel_rfl) ?_ _
  clear hHeld
  go_wp2_with fail
  refine bodyPost_ret (v := .agg #[.int .i64 (M.nb : Int), .int .i64 (M.np : Int), .int .i64 (M.ni : Int)]) (results_cell (by rfl) _ _ w.heap.size 23 _ (0, 0) _ (by rfl) HF.out.1 und23 (by rfl) (by kernel_rfl)) rfl ?_
  exact ⟨rfl, HF.out.2⟩
end
end Go.Proofs.YtpmdicbhliclcaaGreat
