/-
  Marked. Conditions: a controller as it is between two calls.
-/
import Derived.Test.YtpmdicbhliclcaaGreatMeth
namespace Go.Proofs.YtpmdicbhliclcaaGreat
open Go.RowKit Go.Maps
set_option linter.unusedVariables false
section
variable {w : World} {S X : Nat → Prop} {g : Nat} {M : Mt}
set_option maxRecDepth 100000 in
set_option maxHeartbeats 8000000 in
theorem marked32_any (h : Mm w S g M) (hk : M.ok) (x n y : Int) : Calls Tryz.prog 32 #[.pointer (some ⟨g, 0, none⟩), .int .i64 x, .int .i64 n, .int .i64 y] w (MeP w S g M (M.setW x.toNat ((M.wrs x.toNat).mark y)) (M.markedE x n y) (.int .i64 (M.markedE x n y))) := by
  suffices hsuf : Calls Tryz.prog 32 #[.pointer (some ⟨g, 0, none⟩), .int .i64 x, .int .i64 n, .int .i64 y] w (MeP w (fun b => S b ∧ b < w.heap.size) g M (M.setW x.toNat ((M.wrs x.toNat).mark y)) (M.markedE x n y) (.int .i64 (M.markedE x n y))) from hsuf.mono (fun _ _ q => q.wide (fun _ q => q.1))
  have h := h.tight
  obtain ⟨T, hT⟩ : ∃ T : Nat → Prop, T = fun b => S b ∧ b < w.heap.size := ⟨_, rfl⟩
  rw [← hT] at h ⊢
  have HTL : Hid (∀ b, T b → b < w.heap.size) := Lib.hid (by rw [hT]; exact fun b q => q.2)
  clear hT
  obtain ⟨M1, hM1⟩ : ∃ M1, (M.setW x.toNat ((M.wrs x.toNat).mark y)) = M1 := ⟨_, rfl⟩
  obtain ⟨ee, hee⟩ : ∃ ee, M.markedE x n y = ee := ⟨_, rfl⟩
  have HM1 := Lib.hid hM1
  rw [hM1, hee]
  have hal : Below w.heap.size w ((((w.alloc (.cells #[.pointer (some ⟨g, 0, none⟩)] 27)).alloc (.cells #[.int .i64 x] 3)).alloc (.cells #[.int .i64 n] 2)).alloc (.cells #[.int .i64 y] 3)) := (((((Below.refl w.heap.size w).alloc (Nat.le_refl _) (.cells #[.pointer (some ⟨g, 0, none⟩)] 27)).alloc (le_alloc (Nat.le_refl _) _) (.cells #[.int .i64 x] 3)).alloc (le_alloc (le_alloc (Nat.le_refl _) _) _) (.cells #[.int .i64 n] 2)).alloc (le_alloc (le_alloc (le_alloc (Nat.le_refl _) _) _) _) (.cells #[.int .i64 y] 3))
  have hb0 : Blk ((((w.alloc (.cells #[.pointer (some ⟨g, 0, none⟩)] 27)).alloc (.cells #[.int .i64 x] 3)).alloc (.cells #[.int .i64 n] 2)).alloc (.cells #[.int .i64 y] 3)) w.heap.size 27 #[.pointer (some ⟨g, 0, none⟩)] := ((((Blk.new w 27 _).alloc _).alloc _).alloc _)
  have hb1 : Blk ((((w.alloc (.cells #[.pointer (some ⟨g, 0, none⟩)] 27)).alloc (.cells #[.int .i64 x] 3)).alloc (.cells #[.int .i64 n] 2)).alloc (.cells #[.int .i64 y] 3)) (w.heap.size + 1) 3 #[.int .i64 x] := (((blk_new (w.alloc (.cells #[.pointer (some ⟨g, 0, none⟩)] 27)) 3 #[.int .i64 x] (by simp)).alloc _).alloc _)
  have hb2 : Blk ((((w.alloc (.cells #[.pointer (some ⟨g, 0, none⟩)] 27)).alloc (.cells #[.int .i64 x] 3)).alloc (.cells #[.int .i64 n] 2)).alloc (.cells #[.int .i64 y] 3)) (w.heap.size + 2) 2 #[.int .i64 n] := ((blk_new ((w.alloc (.cells #[.pointer (some ⟨g, 0, none⟩)] 27)).alloc (.cells #[.int .i64 x] 3)) 2 #[.int .i64 n] (by simp)).alloc _)
  have hb3 : Blk ((((w.alloc (.cells #[.pointer (some ⟨g, 0, none⟩)] 27)).alloc (.cells #[.int .i64 x] 3)).alloc (.cells #[.int .i64 n] 2)).alloc (.cells #[.int .i64 y] 3)) (w.heap.size + 3) 3 #[.int .i64 y] := (blk_new (((w.alloc (.cells #[.pointer (some ⟨g, 0, none⟩)] 27)).alloc (.cells #[.int .i64 x] 3)).alloc (.cells #[.int .i64 n] 2)) 3 #[.int .i64 y] (by simp))
  have HB0 := Lib.hid hal
  have HX0 := Lib.hid hb0
  have HX1 := Lib.hid hb1
  have HX2 := Lib.hid hb2
  have HX3 := Lib.hid hb3
  have HM := Lib.hid (h.below hal)
  have HGL := Lib.hid h.lt
  have HK := Lib.hid hk
  clear hal hb0 hb1 hb2 hb3 h hk hM1
  go_enter Tryz.func32, Tryz.ntmps32
  go_upto_region 1 with fail
  generalize hw2 : ((((w.alloc (.cells #[.pointer (some ⟨g, 0, none⟩)] 27)).alloc (.cells #[.int .i64 x] 3)).alloc (.cells #[.int .i64 n] 2)).alloc (.cells #[.int .i64 y] 3)) = w2 at *
  clear hw2
  have r0 := HX0.out.cell 0
  have hC : Cap w2 w.heap.size (w.heap.size + 1) g (M.nb : Int) (M.np : Int) (M.ni : Int) x := ⟨HX0.out.cell 0, HX1.out.cell 0, HM.out.form.1, HM.out.form.2.1, HM.out.form.2.2⟩
  have HC := Lib.hid hC
  have hal2 := (Below.refl w2.heap.size w2).alloc (Nat.le_refl _) (.cells #[.int .i64 2, .func (.func 96) #[] #[.pointer (some ⟨w.heap.size, 0, none⟩), .pointer (some ⟨w.heap.size + 1, 0, none⟩), .pointer (some ⟨w.heap.size + 3, 0, none⟩)], .int .i64 200, .func (.func 97) #[] #[.pointer (some ⟨w.heap.size, 0, none⟩), .pointer (some ⟨w.heap.size + 1, 0, none⟩), .pointer (some ⟨w.heap.size + 2, 0, none⟩), .pointer (some ⟨w.heap.size + 3, 0, none⟩)]] 105)
  have hcw := hC.below hal2
  have hmw := HM.out.below hal2
  have hB1 := cell_below (HX1.out.cell 0) hal2
  have hB2 := cell_below (HX2.out.cell 0) hal2
  have hB3 := cell_below (HX3.out.cell 0) hal2
  obtain ⟨bs, hbs⟩ : ∃ bs : Nat → Bool, bs = fun i => if i = 0 then decide (¬ ((0 ≤ x ∧ x < (M.ni : Int)) ∧ 0 ≤ y ∧ y < (M.np : Int))) else decide ((M.wrs x.toNat).wants n y = false) := ⟨_, rfl⟩
  have b0 : bs 0 = decide (¬ ((0 ≤ x ∧ x < (M.ni : Int)) ∧ 0 ≤ y ∧ y < (M.np : Int))) := by rw [hbs]; rfl
  have b1 : bs 1 = decide ((M.wrs x.toNat).wants n y = false) := by rw [hbs]; rfl
  have hwr := wrong_any (w := w2.alloc (.cells #[.int .i64 2, .func (.func 96) #[] #[.pointer (some ⟨w.heap.size, 0, none⟩), .pointer (some ⟨w.heap.size + 1, 0, none⟩), .pointer (some ⟨w.heap.size + 3, 0, none⟩)], .int .i64 200, .func (.func 97) #[] #[.pointer (some ⟨w.heap.size, 0, none⟩), .pointer (some ⟨w.heap.size + 1, 0, none⟩), .pointer (some ⟨w.heap.size + 2, 0, none⟩), .pointer (some ⟨w.heap.size + 3, 0, none⟩)]] 105)) (k := 2) (fs := [⟨2, 96, #[.pointer (some ⟨w.heap.size, 0, none⟩), .pointer (some ⟨w.heap.size + 1, 0, none⟩), .pointer (some ⟨w.heap.size + 3, 0, none⟩)]⟩, ⟨200, 97, #[.pointer (some ⟨w.heap.size, 0, none⟩), .pointer (some ⟨w.heap.size + 1, 0, none⟩), .pointer (some ⟨w.heap.size + 2, 0, none⟩), .pointer (some ⟨w.heap.size + 3, 0, none⟩)]⟩]) (A := some ⟨w2.heap.size, 0, none⟩)
    bs hcw.f0 hcw.f1 hcw.f2 (by have := HK.out.nb; omega) (rd_new w2 105 _ (flt_sized [⟨2, 96, #[.pointer (some ⟨w.heap.size, 0, none⟩), .pointer (some ⟨w.heap.size + 1, 0, none⟩), .pointer (some ⟨w.heap.size + 3, 0, none⟩)]⟩, ⟨200, 97, #[.pointer (some ⟨w.heap.size, 0, none⟩), .pointer (some ⟨w.heap.size + 1, 0, none⟩), .pointer (some ⟨w.heap.size + 2, 0, none⟩), .pointer (some ⟨w.heap.size + 3, 0, none⟩)]⟩]) rfl (fun h => h)) (by simp) (fun i f hf hz => by
      rcases i with _ | _ | i
      · injection hf with hf
        subst hf
        rw [b0]
        refine ⟨fun args w => by go_simp, fun W hW => ?_⟩
        exact ans_conv (arg96_any (hcw.below hW) (cell_below hB3 hW)) decide_not.symm
      · injection hf with hf
        subst hf
        rw [b1]
        refine ⟨fun args w => by go_simp, fun W hW => ?_⟩
        have hz0 := hz 0 (by omega)
        rw [b0] at hz0
        have hz0 := of_decide_eq_false hz0
        obtain ⟨hz1, hz2⟩ := Decidable.not_not.1 hz0
        obtain ⟨p, rfl⟩ : ∃ p : Nat, x = (p : Int) := ⟨x.toNat, by omega⟩
        have hn1 := HK.out.ni
        have hn2 := HK.out.np
        have hp : p < 4 := by omega
        have hlen := (HK.out.wr p (by omega)).len
        exact ans_conv (arg97_any (hcw.below hW) (hmw.below hW) hp (by omega) (cell_below hB2 hW) (cell_below hB3 hW)) (by simp only [Int.toNat_natCast]; rw [Bool.eq_iff_iff]; simp)
      · simp at hf)
  have hfe : firstE bs 0 [⟨2, 96, #[.pointer (some ⟨w.heap.size, 0, none⟩), .pointer (some ⟨w.heap.size + 1, 0, none⟩), .pointer (some ⟨w.heap.size + 3, 0, none⟩)]⟩, ⟨200, 97, #[.pointer (some ⟨w.heap.size, 0, none⟩), .pointer (some ⟨w.heap.size + 1, 0, none⟩), .pointer (some ⟨w.heap.size + 2, 0, none⟩), .pointer (some ⟨w.heap.size + 3, 0, none⟩)]⟩] = M.markedE x n y := by
    unfold Mt.markedE
    simp only [firstE]
    rw [b0, b1, if_dec, if_dec]
  rw [hfe, hee] at hwr
  have HE := Lib.hid hee
  have HB3 := Lib.hid hal2
  clear hee
  clear hC hal2 hcw hmw hfe b0 b1 hbs hB1 hB2 hB3
  go_wp2_with fail
  refine hwr.mono ?_
  rintro r w4 ⟨rfl, hb4⟩
  have HB4 := Lib.hid (HB3.out.trans (hb4.mono HB3.out.size))
  have HMM := Lib.hid (HM.out.below HB4.out)
  have HCC := Lib.hid (HC.out.below HB4.out)
  have HBT := Lib.hid (HB0.out.trans (HB4.out.mono HB0.out.size))
  have HY3 := Lib.hid (cell_below (HX3.out.cell 0) HB4.out)
  clear hwr hb4 r0
  by_cases hx : ee = 0
  case neg =>
    have HX := Lib.hid hx
    have HF : Hid (Did w T g (if ee = 0 then M1 else M) w4) := Lib.hid (by rw [if_neg hx]; exact Did.of_below HMM.out HBT.out)
    have e2 : (ee == 0) = false := by simpa using hx
    clear hx
    go_wp2_with fail
    go_ret
    exact ⟨rfl, HF.out⟩
  case pos =>
    subst hx
    have hx := HE.out
    unfold Mt.markedE at hx
    by_cases hin : (0 ≤ x ∧ x < (M.ni : Int)) ∧ 0 ≤ y ∧ y < (M.np : Int)
    case neg => rw [if_pos hin] at hx; omega
    rw [if_neg (fun q => q hin)] at hx
    obtain ⟨hi1, hi2⟩ := hin
    obtain ⟨p, rfl⟩ : ∃ p : Nat, x = (p : Int) := ⟨x.toNat, by omega⟩
    simp only [Int.toNat_natCast] at hx HM1
    have hni := HK.out.ni
    have hnp := HK.out.np
    have hp : p < 4 := by omega
    have hpi : (p : Int) < 4 := by omega
    have hle := (HK.out.wr p (by omega)).len
    have HQ : Hid ((M.wrs p).parts.length ≤ 1000000) := Lib.hid (by omega)
    clear hi1 hi2 hni hnp hle
    clear hx
    have e2 : ((0 : Int) == 0) = true := by simp
    go_upto_region 3 with fail
    refine wp_region_np ?_
    refine wp_region_held_drew (S := fun W => Cap W w.heap.size (w.heap.size + 1) g (M.nb : Int) (M.np : Int) (M.ni : Int) (p : Int) ∧ W.cell? ⟨w.heap.size + 3, 0, none⟩ = some (.int .i64 y)) (by kernel_rfl) (show (fun W => Cap W w.heap.size (w.heap.size + 1) g (M.nb : Int) (M.np : Int) (M.ni : Int) (p : Int) ∧ W.cell? ⟨w.heap.size + 3, 0, none⟩ = some (.int .i64 y)) w4.drew from ⟨HCC.out.below (Below.refl _ _).drew, HY3.out⟩) (fun hHeld => ?_)
    have hmv : Mm w4.drew T g M := HMM.out.below (Below.refl _ _).drew
    have hbt : Below w.heap.size w w4.drew := HBT.out.drew
    generalize hv0 : w4.drew = V0 at *
    clear hv0
    refine wpAnyH_takeAt (i := 0) (d := 19) (v := ?vq25x) rfl rfl (by kernel_rfl) (by kernel_rfl) (by kernel_rfl) (fun _ _ _ h => h) (Or.inl ⟨by rfl, ?hyq25x⟩) hHeld ?_
    case hyq25x =>
      intro W hSw
      obtain ⟨⟨q0, q1, q2, q3, q4⟩, yy⟩ := hSw
      (go_simp; try with_reducible rfl)
    simp only [List.setIfInBounds_toArray, List.set_cons_zero, List.set_cons_succ]
    refine wpAnyH_takeAt (i := 1) (d := 20) (v := ?vq26x) rfl rfl (by kernel_rfl) (by kernel_rfl) (by kernel_rfl) (fun _ _ _ h => h) (Or.inl ⟨by rfl, ?hyq26x⟩) hHeld ?_
    case hyq26x =>
      intro W hSw
      obtain ⟨⟨q0, q1, q2, q3, q4⟩, yy⟩ := hSw
      (go_simp; try with_reducible rfl)
    simp only [List.setIfInBounds_toArray, List.set_cons_zero, List.set_cons_succ]
    refine wpAnyH_takeAt (i := 2) (d := 21) (v := ?vq27x) rfl rfl (by kernel_rfl) (by kernel_rfl) (by kernel_rfl) (fun _ _ _ h => h) (Or.inl ⟨by rfl, ?hyq27x⟩) hHeld ?_
    case hyq27x =>
      intro W hSw
      clear hSw
      (go_simp; try with_reducible rfl)
    simp only [List.setIfInBounds_toArray, List.set_cons_zero, List.set_cons_succ]
    refine wpAnyH_takeAt (i := 3) (d := 22) (v := ?vq28x) rfl rfl (by kernel_rfl) (by kernel_rfl) (by kernel_rfl) (fun _ _ _ h => h) (Or.inl ⟨by rfl, ?hyq28x⟩) hHeld ?_
    case hyq28x =>
      intro W hSw
      clear hSw
      (go_simp; try with_reducible rfl)
    simp only [List.setIfInBounds_toArray, List.set_cons_zero, List.set_cons_succ]
    refine wpAnyH_takeAt (i := 4) (d := 23) (v := ?vq29x) rfl rfl (by kernel_rfl) (by kernel_rfl) (by kernel_rfl) (fun _ _ _ h => h) (Or.inl ⟨by rfl, ?hyq29x⟩) hHeld ?_
    case hyq29x =>
      intro W hSw
      clear hSw
      (go_simp; try with_reducible rfl)
    simp only [List.setIfInBounds_toArray, List.set_cons_zero, List.set_cons_succ]
    refine wpAnyH_takeAt (i := 5) (d := 24) (v := ?vq30x) rfl rfl (by kernel_rfl) (by kernel_rfl) (by kernel_rfl) (fun _ _ _ h => h) (Or.inl ⟨by rfl, ?hyq30x⟩) hHeld ?_
    case hyq30x =>
      intro W hSw
      obtain ⟨⟨q0, q1, q2, q3, q4⟩, yy⟩ := hSw
      (go_simp; try with_reducible rfl)
    simp only [List.setIfInBounds_toArray, List.set_cons_zero, List.set_cons_succ]
    refine wpAnyH_ready (rs := [6]) (by kernel_rfl) (by simp) (AllReadyH.cons rfl (fun K hK => ?_) AllReadyH.nil)
    go_simp
    obtain ⟨cs, rv, hMx, hSg, hSr⟩ := hmv
    have ho := hMx.own (4 + p) (by omega)
    rw [show M.row (4 + p) = (M.wrs p).parts by unfold Mt.row; rw [if_neg (by omega)]; congr 2; omega] at ho
    obtain ⟨A9, k9, hv9, -⟩ := ints_form ho
    have hs9 := hMx.lay.wr p hp
    have hng := hMx.ng (4 + p) (by omega)
    rw [hv9] at hs9 ho hng
    refine (mark_any hMx.blk hs9 ho HQ.out hng y).mono ?_
    rintro r V1 ⟨rfl, hwp⟩
    have hwp := hwp.wa
    rw [← hv9] at hwp
    dsimp only
    have hdid := hMx.written hSg hSr hp hwp
    have HF : Hid (Did w T g M1 V1) := Lib.hid (by rw [← HM1.out]; exact Did.later hbt hdid)
    have hHeld2 : (fun W => Cap W w.heap.size (w.heap.size + 1) g (M.nb : Int) (M.np : Int) (M.ni : Int) (p : Int) ∧ W.cell? ⟨w.heap.size + 3, 0, none⟩ = some (.int .i64 y)) V1 := ⟨⟨(hdid.2.cell (p := ⟨w.heap.size, 0, none⟩) (block_lt_of_cell hHeld.1.m) (fun e => absurd (HTL.out _ e) (Nat.lt_irrefl _))).trans hHeld.1.m, (hdid.2.cell (p := ⟨w.heap.size + 1, 0, none⟩) (block_lt_of_cell hHeld.1.i) (fun e => absurd (HTL.out _ e) (Nat.not_lt.2 (Nat.le_add_right _ _)))).trans hHeld.1.i, hdid.1.form.1, hdid.1.form.2.1, hdid.1.form.2.2⟩, (hdid.2.cell (p := ⟨w.heap.size + 3, 0, none⟩) (block_lt_of_cell hHeld.2) (fun e => absurd (HTL.out _ e) (Nat.not_lt.2 (Nat.le_add_right _ _)))).trans hHeld.2⟩
    refine hK.out _ _ hHeld2 (fun hHeld => ?_)
    clear hK K hwp hMx hHeld2 hSg hSr hbt hdid
    try simp only [List.setIfInBounds_toArray, List.set_cons_zero, List.set_cons_succ]
    refine wpAnyH_done (by kernel_rfl) ?_ _
    clear hHeld
    go_wp2_with fail
    go_ret
    exact ⟨rfl, by rw [if_pos rfl]; exact HF.out⟩
end
end Go.Proofs.YtpmdicbhliclcaaGreat
