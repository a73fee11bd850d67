/-
  Writing. Conditions: a controller that New made.
-/
import Derived.Test.YtpmdicbhliclcaaGreatView
namespace Go.Proofs.YtpmdicbhliclcaaGreat
open Go.RowKit Go.Maps
set_option linter.unusedVariables false
section
variable {w : World} {S : Nat → Prop} {g : Nat} {M : Mt}
theorem und55 : Tryz.prog.underlying 55 = some (.struct (Tryz.prog.fieldsOf 55)) := by kernel_rfl
/-- What Writing answers. -/
def WritingP (w : World) (S : Nat → Prop) (g : Nat) (M : Mt) (x : Int) (r : Ending) (w' : World) : Prop :=
  Mm w' S g M ∧ Below w.heap.size w w' ∧ ((¬ (0 ≤ x ∧ x < (M.ni : Int)) ∧ r = .returned (.tuple #[.agg #[.int .i64 0, .int .i64 0, .int .i64 0, .slice none 0 0, .int .i64 0, .int .i64 0], .int .i64 2])) ∨ ∃ (p : Nat) (v : Value), x = (p : Int) ∧ p < M.ni ∧ r = .returned (.tuple #[.agg #[.int .i64 (M.wrs p).session, .int .i64 (M.wrs p).num, .int .i64 (M.wrs p).state, v, .int .i64 (M.wrs p).offset, .int .i64 (M.wrs p).next], .int .i64 0]) ∧ OwnK w' 3 1 v (intsOf (M.wrs p).parts) ∧ ∀ b, v.ownBlock = some b → w.heap.size ≤ b)
/-- The cells of one. -/
def WritingAt (W : World) (g : Nat) (M : Mt) (p : Nat) (v : Value) : Prop := W.cell? ⟨g, 23 + p * 6, none⟩ = some (.int .i64 (M.wrs p).session) ∧ W.cell? ⟨g, 23 + p * 6 + 1, none⟩ = some (.int .i64 (M.wrs p).num) ∧ W.cell? ⟨g, 23 + p * 6 + 2, none⟩ = some (.int .i64 (M.wrs p).state) ∧ W.cell? ⟨g, 23 + p * 6 + 3, none⟩ = some (v) ∧ W.cell? ⟨g, 23 + p * 6 + 4, none⟩ = some (.int .i64 (M.wrs p).offset) ∧ W.cell? ⟨g, 23 + p * 6 + 5, none⟩ = some (.int .i64 (M.wrs p).next)
theorem WritingAt.below {w' : World} {p : Nat} {v : Value} (h : WritingAt w g M p v) (hb : Below w.heap.size w w') : WritingAt w' g M p v := by
  obtain ⟨h0, h1, h2, h3, h4, h5⟩ := h
  exact ⟨(hb.cell (p := ⟨g, _, none⟩) (block_lt_of_cell h0)).trans h0, (hb.cell (p := ⟨g, _, none⟩) (block_lt_of_cell h1)).trans h1, (hb.cell (p := ⟨g, _, none⟩) (block_lt_of_cell h2)).trans h2, (hb.cell (p := ⟨g, _, none⟩) (block_lt_of_cell h3)).trans h3, (hb.cell (p := ⟨g, _, none⟩) (block_lt_of_cell h4)).trans h4, (hb.cell (p := ⟨g, _, none⟩) (block_lt_of_cell h5)).trans h5⟩
theorem WritingAt.turn {w' : World} {T : Nat → Prop} {p : Nat} {v : Value} (h : WritingAt w g M p v) (ht : Turn T w w') (hg : ¬ T g) : WritingAt w' g M p v := by
  obtain ⟨h0, h1, h2, h3, h4, h5⟩ := h
  exact ⟨(ht.cell (p := ⟨g, _, none⟩) (block_lt_of_cell h0) hg).trans h0, (ht.cell (p := ⟨g, _, none⟩) (block_lt_of_cell h1) hg).trans h1, (ht.cell (p := ⟨g, _, none⟩) (block_lt_of_cell h2) hg).trans h2, (ht.cell (p := ⟨g, _, none⟩) (block_lt_of_cell h3) hg).trans h3, (ht.cell (p := ⟨g, _, none⟩) (block_lt_of_cell h4) hg).trans h4, (ht.cell (p := ⟨g, _, none⟩) (block_lt_of_cell h5) hg).trans h5⟩
theorem Mm.atWriting {p : Nat} (h : Mm w S g M) (hp : p < 4) : ∃ A c, WritingAt w g M p (.slice A (M.wrs p).parts.length c) ∧ Rd w No 1 A (M.wrs p).parts.length (intsOf (M.wrs p).parts) := by
  obtain ⟨cs, rv, h1, -, -⟩ := h
  have ho := h1.own (4 + p) (by omega)
  rw [show M.row (4 + p) = (M.wrs p).parts by unfold Mt.row; rw [if_neg (by omega)]; congr 2; omega] at ho
  obtain ⟨A, c, hv, -⟩ := ints_form ho
  have hs := h1.lay.wr p hp
  rw [hv] at hs ho
  exact ⟨A, c, ⟨by rw [h1.blk.cell]; exact hs 0 _ rfl, by rw [h1.blk.cell]; exact hs 1 _ rfl, by rw [h1.blk.cell]; exact hs 2 _ rfl, by rw [h1.blk.cell]; exact hs 3 _ rfl, by rw [h1.blk.cell]; exact hs 4 _ rfl, by rw [h1.blk.cell]; exact hs 5 _ rfl⟩, ho.rd (fun _ _ q => q)⟩
set_option maxRecDepth 100000 in
set_option maxHeartbeats 8000000 in
theorem writing_any (h : Mm w S g M) (hn : 1 ≤ M.nb) (hp4 : M.ni ≤ 4) (hI : ∀ p, p < M.ni → (M.wrs p).parts.length ≤ 1000000) (x : Int) : Calls Tryz.prog 23 #[.pointer (some ⟨g, 0, none⟩), .int .i64 x] w (WritingP w S g M x) := by
  have hal := (((Below.refl w.heap.size w).alloc (Nat.le_refl _) (.cells #[.pointer (some ⟨g, 0, none⟩)] 27)).alloc (by simp) (.cells #[.int .i64 x] 3)).alloc (by simp; omega) (.cells #[.int .i64 0, .int .i64 0, .int .i64 0, .slice none 0 0, .int .i64 0, .int .i64 0] 55)
  have hm0 : Blk (((w.alloc (.cells #[.pointer (some ⟨g, 0, none⟩)] 27)).alloc (.cells #[.int .i64 x] 3)).alloc (.cells #[.int .i64 0, .int .i64 0, .int .i64 0, .slice none 0 0, .int .i64 0, .int .i64 0] 55)) w.heap.size 27 #[.pointer (some ⟨g, 0, none⟩)] := ((Blk.new w 27 _).alloc _).alloc _
  have hi0 : Blk (((w.alloc (.cells #[.pointer (some ⟨g, 0, none⟩)] 27)).alloc (.cells #[.int .i64 x] 3)).alloc (.cells #[.int .i64 0, .int .i64 0, .int .i64 0, .slice none 0 0, .int .i64 0, .int .i64 0] 55)) (w.heap.size + 1) 3 #[.int .i64 x] := (blk_new (w.alloc (.cells #[.pointer (some ⟨g, 0, none⟩)] 27)) 3 #[.int .i64 x] (by simp)).alloc _
  have hz0 : Blk (((w.alloc (.cells #[.pointer (some ⟨g, 0, none⟩)] 27)).alloc (.cells #[.int .i64 x] 3)).alloc (.cells #[.int .i64 0, .int .i64 0, .int .i64 0, .slice none 0 0, .int .i64 0, .int .i64 0] 55)) (w.heap.size + 2) 55 #[.int .i64 0, .int .i64 0, .int .i64 0, .slice none 0 0, .int .i64 0, .int .i64 0] := blk_new ((w.alloc (.cells #[.pointer (some ⟨g, 0, none⟩)] 27)).alloc (.cells #[.int .i64 x] 3)) 55 #[.int .i64 0, .int .i64 0, .int .i64 0, .slice none 0 0, .int .i64 0, .int .i64 0] (by simp)
  have HW := Lib.hid h
  have HM0 := Lib.hid hm0
  have HI0 := Lib.hid hi0
  have HZ0 := Lib.hid hz0
  have HB0 := Lib.hid hal
  have HM := Lib.hid (h.below hal)
  clear hal hm0 hi0 hz0 h
  go_enter Tryz.func23, Tryz.ntmps23
  go_upto_region 1 with fail
  generalize hw2 : (((w.alloc (.cells #[.pointer (some ⟨g, 0, none⟩)] 27)).alloc (.cells #[.int .i64 x] 3)).alloc (.cells #[.int .i64 0, .int .i64 0, .int .i64 0, .slice none 0 0, .int .i64 0, .int .i64 0] 55)) = w2 at *
  clear hw2
  have r0 := HM0.out.cell 0
  have hC : Cap w2 w.heap.size (w.heap.size + 1) g (M.nb : Int) (M.np : Int) (M.ni : Int) x := ⟨HM0.out.cell 0, HI0.out.cell 0, HM.out.form.1, HM.out.form.2.1, HM.out.form.2.2⟩
  have HC := Lib.hid hC
  have hal2 := (Below.refl w2.heap.size w2).alloc (Nat.le_refl _) (.cells #[.int .i64 2, .func (.func 56) #[] #[.pointer (some ⟨w.heap.size, 0, none⟩), .pointer (some ⟨w.heap.size + 1, 0, none⟩)]] 105)
  have hcw := hC.below hal2
  have hwr := wrong_any (w := w2.alloc (.cells #[.int .i64 2, .func (.func 56) #[] #[.pointer (some ⟨w.heap.size, 0, none⟩), .pointer (some ⟨w.heap.size + 1, 0, none⟩)]] 105)) (k := 1) (fs := [⟨2, 56, #[.pointer (some ⟨w.heap.size, 0, none⟩), .pointer (some ⟨w.heap.size + 1, 0, none⟩)]⟩]) (A := some ⟨w2.heap.size, 0, none⟩)
    (fun _ => !decide (0 ≤ x ∧ x < (M.ni : Int))) hcw.f0 hcw.f1 hcw.f2 (by omega) (rd_one w2 105 _ rfl (by simp [Value.oneCell']) (fun h => h)) (by simp) (fun i f hf hz => by
      rcases i with _ | i
      · injection hf with hf
        subst hf
        exact ⟨fun args w => by go_simp, fun W hW => arg56_any (hcw.below hW)⟩
      · simp at hf)
  have HB3 := Lib.hid hal2
  clear hC hal2 hcw
  go_wp2_with fail
  refine hwr.mono ?_
  rintro r w4 ⟨rfl, hb4⟩
  have HB4 := Lib.hid (HB3.out.trans (hb4.mono HB3.out.size))
  have HMM := Lib.hid (HM.out.below HB4.out)
  have HCC := Lib.hid (HC.out.below HB4.out)
  have HBT := Lib.hid (HB0.out.trans (HB4.out.mono HB0.out.size))
  have HZ4 := Lib.hid (HZ0.out.below HB4.out HZ0.out.lt)
  have HS4 := Lib.hid (Nat.le_trans HB0.out.size HB4.out.size)
  clear hwr hb4 r0
  by_cases hx : 0 ≤ x ∧ x < (M.ni : Int)
  case neg =>
    have hfe : firstE (fun _ => !decide (0 ≤ x ∧ x < (M.ni : Int))) 0 [⟨2, 56, #[.pointer (some ⟨w.heap.size, 0, none⟩), .pointer (some ⟨w.heap.size + 1, 0, none⟩)]⟩] = 2 := by
      show (if (!decide (0 ≤ x ∧ x < (M.ni : Int))) = true then (2 : Int) else 0) = 2
      rw [decide_eq_false hx]; rfl
    rw [hfe]
    have HX := Lib.hid hx
    have e2 : ((2 : Int) == 0) = false := by simp
    clear hfe hx
    go_wp2_with (with_reducible refine at_store 55 rfl ?_)
    refine Stop.go (wpList_store_blk (by rfl) (by rfl) 55 _ _ (by rfl) (w.heap.size + 2) _ #[.int .i64 0, .int .i64 0, .int .i64 0, .slice none 0 0, .int .i64 0, .int .i64 0] (by rfl) (by rfl) 55 HZ4.out (by rfl) (by kernel_rfl) (by simp [Value.oneCell']) ?_)
    intro w5 hB5 hg5 hs5
    have hT5 : Turn (fun y => y = w.heap.size + 2) w4 w5 := Turn.of_grown hg5 (fun r e => by injection e with e; exact e.symm)
    have HF : Hid (Blk w5 (w.heap.size + 2) 55 #[.int .i64 0, .int .i64 0, .int .i64 0, .slice none 0 0, .int .i64 0, .int .i64 0] ∧ Mm w5 S g M ∧ Below w.heap.size w w5) := Lib.hid ⟨hB5, HW.out.apart HBT.out hT5 (fun b e => by omega), HBT.out.trans (hT5.below HS4.out (fun y e => by omega))⟩
    clear hB5 hg5 hs5 hT5
    go_wp2_with fail
    refine bodyPost_ret (results_ct (by rfl) _ _ (w.heap.size + 2) 55 _ (0, 0) _ (by rfl) HF.out.1 und55 (by rfl) (by kernel_rfl) (by rfl)) rfl ?_
    exact ⟨HF.out.2.1, HF.out.2.2, .inl ⟨HX.out, rfl⟩⟩
  case pos =>
    have hfe : firstE (fun _ => !decide (0 ≤ x ∧ x < (M.ni : Int))) 0 [⟨2, 56, #[.pointer (some ⟨w.heap.size, 0, none⟩), .pointer (some ⟨w.heap.size + 1, 0, none⟩)]⟩] = 0 := by
      show (if (!decide (0 ≤ x ∧ x < (M.ni : Int))) = true then (2 : Int) else 0) = 0
      rw [decide_eq_true hx]; rfl
    rw [hfe]
    obtain ⟨p, rfl⟩ : ∃ p : Nat, x = (p : Int) := ⟨x.toNat, by omega⟩
    have hpn : p < M.ni := by omega
    have hp : p < 4 := by omega
    have hpi : (p : Int) < 4 := by omega
    have HX := Lib.hid hpn
    have HIp := Lib.hid (hI p hpn)
    have e2 : ((0 : Int) == 0) = true := by simp
    obtain ⟨A, c, hat, hrd⟩ := HMM.out.atWriting hp
    have HAT := Lib.hid hat
    have HRD := Lib.hid hrd
    clear hfe hx hI hat hrd hpn
    go_upto_region 4 with fail
    refine wp_region_np ?_
    refine wp_region_held_drew (S := fun W => Cap W w.heap.size (w.heap.size + 1) g (M.nb : Int) (M.np : Int) (M.ni : Int) (p : Int) ∧ WritingAt W g M p (.slice A (M.wrs p).parts.length c)) (by kernel_rfl) (show (fun W => Cap W w.heap.size (w.heap.size + 1) g (M.nb : Int) (M.np : Int) (M.ni : Int) (p : Int) ∧ WritingAt W g M p (.slice A (M.wrs p).parts.length c)) w4.drew from ⟨HCC.out.below (Below.refl _ _).drew, HAT.out.below (Below.refl _ _).drew⟩) (fun hHeld => ?_)
    have hb0 : Below w4.heap.size w4 w4.drew := (Below.refl _ _).drew
    generalize hv0 : w4.drew = V0 at *
    clear hv0
    refine wpAnyH_takeAt (i := 0) (d := 16) (v := ?vq7x) rfl rfl (by kernel_rfl) (by kernel_rfl) (by kernel_rfl) (fun _ _ _ h => h) (Or.inl ⟨by rfl, ?hyq7x⟩) hHeld ?_
    case hyq7x =>
      intro W hSw
      have hh := hSw; obtain ⟨⟨q0, q1, q2, q3, q4⟩, -⟩ := hh; clear hSw
      (go_simp; try with_reducible rfl)
    simp only [List.setIfInBounds_toArray, List.set_cons_zero, List.set_cons_succ]
    refine wpAnyH_takeAt (i := 1) (d := 17) (v := ?vq8x) rfl rfl (by kernel_rfl) (by kernel_rfl) (by kernel_rfl) (fun _ _ _ h => h) (Or.inl ⟨by rfl, ?hyq8x⟩) hHeld ?_
    case hyq8x =>
      intro W hSw
      have hh := hSw; obtain ⟨⟨q0, q1, q2, q3, q4⟩, -⟩ := hh; clear hSw
      (go_simp; try with_reducible rfl)
    simp only [List.setIfInBounds_toArray, List.set_cons_zero, List.set_cons_succ]
    refine wpAnyH_takeAt (i := 2) (d := 18) (v := ?vq9x) rfl rfl (by kernel_rfl) (by kernel_rfl) (by kernel_rfl) (fun _ _ _ h => h) (Or.inl ⟨by rfl, ?hyq9x⟩) hHeld ?_
    case hyq9x =>
      intro W hSw
      clear hSw
      (go_simp; try with_reducible rfl)
    simp only [List.setIfInBounds_toArray, List.set_cons_zero, List.set_cons_succ]
    refine wpAnyH_takeAt (i := 3) (d := 19) (v := ?vq10x) rfl rfl (by kernel_rfl) (by kernel_rfl) (by kernel_rfl) (fun _ _ _ h => h) (Or.inl ⟨by rfl, ?hyq10x⟩) hHeld ?_
    case hyq10x =>
      intro W hSw
      clear hSw
      (go_simp; try with_reducible rfl)
    simp only [List.setIfInBounds_toArray, List.set_cons_zero, List.set_cons_succ]
    refine wpAnyH_takeAt (i := 4) (d := 20) (v := ?vq11x) rfl rfl (by kernel_rfl) (by kernel_rfl) (by kernel_rfl) (fun _ _ _ h => h) (Or.inl ⟨by rfl, ?hyq11x⟩) hHeld ?_
    case hyq11x =>
      intro W hSw
      clear hSw
      (go_simp; try with_reducible rfl)
    simp only [List.setIfInBounds_toArray, List.set_cons_zero, List.set_cons_succ]
    refine wpAnyH_takeAt (i := 5) (d := 21) (v := ?vq12x) rfl rfl (by kernel_rfl) (by kernel_rfl) (by kernel_rfl) (fun _ _ _ h => h) (Or.inl ⟨by rfl, ?hyq12x⟩) hHeld ?_
    case hyq12x =>
      intro W hSw
      have hh := hSw; obtain ⟨-, q0, q1, q2, q3, q4, q5⟩ := hh; clear hSw
      (go_simp; try with_reducible rfl)
    simp only [List.setIfInBounds_toArray, List.set_cons_zero, List.set_cons_succ]
    refine wpAnyH_ready (rs := [6]) (by kernel_rfl) (by simp) (AllReadyH.cons rfl (fun K hK => ?_) AllReadyH.nil)
    go_simp
    refine (wcopied_any (HRD.out.below hb0) HIp.out _ _ _ _ _).mono ?_
    rintro x' V1 ⟨v1, rfl, ho1, hv1, hb1⟩
    obtain ⟨A1, c1, rfl, -⟩ := ints_form ho1
    dsimp only
    have hHeld2 : (fun W => Cap W w.heap.size (w.heap.size + 1) g (M.nb : Int) (M.np : Int) (M.ni : Int) (p : Int) ∧ WritingAt W g M p (.slice A (M.wrs p).parts.length c)) V1 := ⟨hHeld.1.below hb1, hHeld.2.below hb1⟩
    refine hK.out _ _ hHeld2 (fun hHeld => ?_)
    clear hK K hHeld2
    try simp only [List.setIfInBounds_toArray, List.set_cons_zero, List.set_cons_succ]
    refine wpAnyH_ready (rs := [7]) (by kernel_rfl) (by simp) (AllReadyH.cons rfl (fun K hK => ?_) AllReadyH.nil)
    have hs4 := HS4.out
    have hs0 := hb0.size
    have hs1 := hb1.size
    have hzl := HZ4.out.lt
    have hZ3 := (HZ4.out.below hb0 HZ4.out.lt).below hb1 (by omega)
    refine step_store_blk (by rfl) (by rfl) 55 _ _ (by rfl) (w.heap.size + 2) _ #[.int .i64 (M.wrs p).session, .int .i64 (M.wrs p).num, .int .i64 (M.wrs p).state, .slice A1 (M.wrs p).parts.length c1, .int .i64 (M.wrs p).offset, .int .i64 (M.wrs p).next] (by rfl) (by rfl) 55 hZ3 (by rfl) (by kernel_rfl) (by simp [Value.oneCell']) ?_
    intro V4 hX hg hs
    have hTx : Turn (fun y => y = w.heap.size + 2) V1 V4 := Turn.of_grown hg (fun r e => by injection e with e; exact e.symm)
    have hb01 := (HBT.out.trans (hb0.mono hs4)).trans (hb1.mono (by omega))
    have HF : Hid (Blk V4 (w.heap.size + 2) 55 #[.int .i64 (M.wrs p).session, .int .i64 (M.wrs p).num, .int .i64 (M.wrs p).state, .slice A1 (M.wrs p).parts.length c1, .int .i64 (M.wrs p).offset, .int .i64 (M.wrs p).next] ∧ Mm V4 S g M ∧ Below w.heap.size w V4 ∧ OwnK V4 3 1 (.slice A1 (M.wrs p).parts.length c1) (intsOf (M.wrs p).parts) ∧ ∀ b, (Value.slice A1 (M.wrs p).parts.length c1).ownBlock = some b → w.heap.size ≤ b) := Lib.hid ⟨hX, HW.out.apart hb01 hTx (fun b e => by omega), hb01.trans (hTx.below (by omega) (fun y e => by omega)), ho1.keep hTx (fun b hb e => by have := hv1 b hb; omega), fun b hb => by have := hv1 b hb; omega⟩
    have hHeld2 : (fun W => Cap W w.heap.size (w.heap.size + 1) g (M.nb : Int) (M.np : Int) (M.ni : Int) (p : Int) ∧ WritingAt W g M p (.slice A (M.wrs p).parts.length c)) V4 := ⟨⟨(hTx.cell (p := ⟨w.heap.size, 0, none⟩) (block_lt_of_cell hHeld.1.m) (by show ¬ w.heap.size = w.heap.size + 2; omega)).trans hHeld.1.m, (hTx.cell (p := ⟨w.heap.size + 1, 0, none⟩) (block_lt_of_cell hHeld.1.i) (by show ¬ w.heap.size + 1 = w.heap.size + 2; omega)).trans hHeld.1.i, HF.out.2.1.form.1, HF.out.2.1.form.2.1, HF.out.2.1.form.2.2⟩, hHeld.2.turn hTx (by have := HW.out.lt; omega)⟩
    refine hK.out _ _ hHeld2 (fun hHeld => ?_)
    clear hK K hHeld2 hX hg hs hTx hZ3 hb01 ho1 hv1
    refine wpAnyH_takeAt (i := 8) (d := 5) (v := ?vq13x) rfl rfl (by kernel_rfl) (by kernel_rfl) (by kernel_rfl) (fun _ _ _ h => h) (Or.inl ⟨by rfl, ?hyq13x⟩) hHeld ?_
    case hyq13x =>
      intro W hSw
      clear hSw
      (go_simp; try with_reducible rfl)
    simp only [List.setIfInBounds_toArray, List.set_cons_zero, List.set_cons_succ]
    refine wpAnyH_done (by kernel_rfl) ?_ _
    clear hHeld
    go_wp2_with fail
    refine bodyPost_ret (results_ct (by rfl) _ _ (w.heap.size + 2) 55 _ (0, 0) _ (by rfl) HF.out.1 und55 (by rfl) (by kernel_rfl) (by rfl)) rfl ?_
    exact ⟨HF.out.2.1, HF.out.2.2.1, .inr ⟨p, _, rfl, HX.out, rfl, HF.out.2.2.2.1, HF.out.2.2.2.2⟩⟩
end
end Go.Proofs.YtpmdicbhliclcaaGreat
