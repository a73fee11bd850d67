/-
  Elect. Conditions: a controller as it is between two calls.
-/
import Derived.Test.YtpmdicbhliclcaaGreatMeth
namespace Go.Proofs.YtpmdicbhliclcaaGreat
open Go.RowKit Go.Maps
set_option linter.unusedVariables false
section
variable {w : World} {S X : Nat → Prop} {g : Nat} {M : Mt}
set_option maxRecDepth 100000 in
set_option maxHeartbeats 8000000 in
theorem elect30_any (h : Mm w S g M) (hk : M.ok) (x y : Int) (un : Bool) : Calls Tryz.prog 30 #[.pointer (some ⟨g, 0, none⟩), .int .i64 x, .int .i64 y, .bool un] w (MeP w S g M (M.setV x.toNat ((M.views x.toNat).elect y)) (M.electE x y un) (.int .i64 (M.electE x y un))) := by
  suffices hsuf : Calls Tryz.prog 30 #[.pointer (some ⟨g, 0, none⟩), .int .i64 x, .int .i64 y, .bool un] w (MeP w (fun b => S b ∧ b < w.heap.size) g M (M.setV x.toNat ((M.views x.toNat).elect y)) (M.electE x y un) (.int .i64 (M.electE x y un))) from hsuf.mono (fun _ _ q => q.wide (fun _ q => q.1))
  have h := h.tight
  obtain ⟨T, hT⟩ : ∃ T : Nat → Prop, T = fun b => S b ∧ b < w.heap.size := ⟨_, rfl⟩
  rw [← hT] at h ⊢
  have HTL : Hid (∀ b, T b → b < w.heap.size) := Lib.hid (by rw [hT]; exact fun b q => q.2)
  clear hT
  obtain ⟨M1, hM1⟩ : ∃ M1, (M.setV x.toNat ((M.views x.toNat).elect y)) = M1 := ⟨_, rfl⟩
  obtain ⟨ee, hee⟩ : ∃ ee, M.electE x y un = ee := ⟨_, rfl⟩
  have HM1 := Lib.hid hM1
  rw [hM1, hee]
  have hal : Below w.heap.size w ((((w.alloc (.cells #[.pointer (some ⟨g, 0, none⟩)] 27)).alloc (.cells #[.int .i64 x] 3)).alloc (.cells #[.int .i64 y] 3)).alloc (.cells #[.bool un] 4)) := (((((Below.refl w.heap.size w).alloc (Nat.le_refl _) (.cells #[.pointer (some ⟨g, 0, none⟩)] 27)).alloc (le_alloc (Nat.le_refl _) _) (.cells #[.int .i64 x] 3)).alloc (le_alloc (le_alloc (Nat.le_refl _) _) _) (.cells #[.int .i64 y] 3)).alloc (le_alloc (le_alloc (le_alloc (Nat.le_refl _) _) _) _) (.cells #[.bool un] 4))
  have hb0 : Blk ((((w.alloc (.cells #[.pointer (some ⟨g, 0, none⟩)] 27)).alloc (.cells #[.int .i64 x] 3)).alloc (.cells #[.int .i64 y] 3)).alloc (.cells #[.bool un] 4)) w.heap.size 27 #[.pointer (some ⟨g, 0, none⟩)] := ((((Blk.new w 27 _).alloc _).alloc _).alloc _)
  have hb1 : Blk ((((w.alloc (.cells #[.pointer (some ⟨g, 0, none⟩)] 27)).alloc (.cells #[.int .i64 x] 3)).alloc (.cells #[.int .i64 y] 3)).alloc (.cells #[.bool un] 4)) (w.heap.size + 1) 3 #[.int .i64 x] := (((blk_new (w.alloc (.cells #[.pointer (some ⟨g, 0, none⟩)] 27)) 3 #[.int .i64 x] (by simp)).alloc _).alloc _)
  have hb2 : Blk ((((w.alloc (.cells #[.pointer (some ⟨g, 0, none⟩)] 27)).alloc (.cells #[.int .i64 x] 3)).alloc (.cells #[.int .i64 y] 3)).alloc (.cells #[.bool un] 4)) (w.heap.size + 2) 3 #[.int .i64 y] := ((blk_new ((w.alloc (.cells #[.pointer (some ⟨g, 0, none⟩)] 27)).alloc (.cells #[.int .i64 x] 3)) 3 #[.int .i64 y] (by simp)).alloc _)
  have hb3 : Blk ((((w.alloc (.cells #[.pointer (some ⟨g, 0, none⟩)] 27)).alloc (.cells #[.int .i64 x] 3)).alloc (.cells #[.int .i64 y] 3)).alloc (.cells #[.bool un] 4)) (w.heap.size + 3) 4 #[.bool un] := (blk_new (((w.alloc (.cells #[.pointer (some ⟨g, 0, none⟩)] 27)).alloc (.cells #[.int .i64 x] 3)).alloc (.cells #[.int .i64 y] 3)) 4 #[.bool un] (by simp))
  have HB0 := Lib.hid hal
  have HX0 := Lib.hid hb0
  have HX1 := Lib.hid hb1
  have HX2 := Lib.hid hb2
  have HX3 := Lib.hid hb3
  have HM := Lib.hid (h.below hal)
  have HGL := Lib.hid h.lt
  have HK := Lib.hid hk
  clear hal hb0 hb1 hb2 hb3 h hk hM1
  go_enter Tryz.func30, Tryz.ntmps30
  go_upto_region 1 with fail
  generalize hw2 : ((((w.alloc (.cells #[.pointer (some ⟨g, 0, none⟩)] 27)).alloc (.cells #[.int .i64 x] 3)).alloc (.cells #[.int .i64 y] 3)).alloc (.cells #[.bool un] 4)) = w2 at *
  clear hw2
  have r0 := HX0.out.cell 0
  have hC : Cap w2 w.heap.size (w.heap.size + 1) g (M.nb : Int) (M.np : Int) (M.ni : Int) x := ⟨HX0.out.cell 0, HX1.out.cell 0, HM.out.form.1, HM.out.form.2.1, HM.out.form.2.2⟩
  have HC := Lib.hid hC
  have hal2 := (Below.refl w2.heap.size w2).alloc (Nat.le_refl _) (.cells #[.int .i64 2, .func (.func 79) #[] #[.pointer (some ⟨w.heap.size, 0, none⟩), .pointer (some ⟨w.heap.size + 1, 0, none⟩), .pointer (some ⟨w.heap.size + 2, 0, none⟩)], .int .i64 201, .func (.func 80) #[] #[.pointer (some ⟨w.heap.size, 0, none⟩), .pointer (some ⟨w.heap.size + 2, 0, none⟩)], .int .i64 202, .func (.func 81) #[] #[.pointer (some ⟨w.heap.size + 3, 0, none⟩), .pointer (some ⟨w.heap.size, 0, none⟩), .pointer (some ⟨w.heap.size + 1, 0, none⟩), .pointer (some ⟨w.heap.size + 2, 0, none⟩)], .int .i64 204, .func (.func 83) #[] #[.pointer (some ⟨w.heap.size, 0, none⟩), .pointer (some ⟨w.heap.size + 1, 0, none⟩)]] 105)
  have hcw := hC.below hal2
  have hmw := HM.out.below hal2
  have hB1 := cell_below (HX1.out.cell 0) hal2
  have hB2 := cell_below (HX2.out.cell 0) hal2
  have hB3 := cell_below (HX3.out.cell 0) hal2
  obtain ⟨bs, hbs⟩ : ∃ bs : Nat → Bool, bs = fun i => if i = 0 then decide (¬ ((0 ≤ x ∧ x < (M.np : Int)) ∧ 0 ≤ y ∧ y < (M.nb : Int))) else if i = 1 then decide (M.lives y.toNat = false) else if i = 2 then decide (un = false ∧ y ∉ (M.views x.toNat).isr) else decide ((M.views x.toNat).version = 2147483647) := ⟨_, rfl⟩
  have b0 : bs 0 = decide (¬ ((0 ≤ x ∧ x < (M.np : Int)) ∧ 0 ≤ y ∧ y < (M.nb : Int))) := by rw [hbs]; rfl
  have b1 : bs 1 = decide (M.lives y.toNat = false) := by rw [hbs]; rfl
  have b2 : bs 2 = decide (un = false ∧ y ∉ (M.views x.toNat).isr) := by rw [hbs]; rfl
  have b3 : bs 3 = decide ((M.views x.toNat).version = 2147483647) := by rw [hbs]; rfl
  have hwr := wrong_any (w := w2.alloc (.cells #[.int .i64 2, .func (.func 79) #[] #[.pointer (some ⟨w.heap.size, 0, none⟩), .pointer (some ⟨w.heap.size + 1, 0, none⟩), .pointer (some ⟨w.heap.size + 2, 0, none⟩)], .int .i64 201, .func (.func 80) #[] #[.pointer (some ⟨w.heap.size, 0, none⟩), .pointer (some ⟨w.heap.size + 2, 0, none⟩)], .int .i64 202, .func (.func 81) #[] #[.pointer (some ⟨w.heap.size + 3, 0, none⟩), .pointer (some ⟨w.heap.size, 0, none⟩), .pointer (some ⟨w.heap.size + 1, 0, none⟩), .pointer (some ⟨w.heap.size + 2, 0, none⟩)], .int .i64 204, .func (.func 83) #[] #[.pointer (some ⟨w.heap.size, 0, none⟩), .pointer (some ⟨w.heap.size + 1, 0, none⟩)]] 105)) (k := 4) (fs := [⟨2, 79, #[.pointer (some ⟨w.heap.size, 0, none⟩), .pointer (some ⟨w.heap.size + 1, 0, none⟩), .pointer (some ⟨w.heap.size + 2, 0, none⟩)]⟩, ⟨201, 80, #[.pointer (some ⟨w.heap.size, 0, none⟩), .pointer (some ⟨w.heap.size + 2, 0, none⟩)]⟩, ⟨202, 81, #[.pointer (some ⟨w.heap.size + 3, 0, none⟩), .pointer (some ⟨w.heap.size, 0, none⟩), .pointer (some ⟨w.heap.size + 1, 0, none⟩), .pointer (some ⟨w.heap.size + 2, 0, none⟩)]⟩, ⟨204, 83, #[.pointer (some ⟨w.heap.size, 0, none⟩), .pointer (some ⟨w.heap.size + 1, 0, none⟩)]⟩]) (A := some ⟨w2.heap.size, 0, none⟩)
    bs hcw.f0 hcw.f1 hcw.f2 (by have := HK.out.nb; omega) (rd_new w2 105 _ (flt_sized [⟨2, 79, #[.pointer (some ⟨w.heap.size, 0, none⟩), .pointer (some ⟨w.heap.size + 1, 0, none⟩), .pointer (some ⟨w.heap.size + 2, 0, none⟩)]⟩, ⟨201, 80, #[.pointer (some ⟨w.heap.size, 0, none⟩), .pointer (some ⟨w.heap.size + 2, 0, none⟩)]⟩, ⟨202, 81, #[.pointer (some ⟨w.heap.size + 3, 0, none⟩), .pointer (some ⟨w.heap.size, 0, none⟩), .pointer (some ⟨w.heap.size + 1, 0, none⟩), .pointer (some ⟨w.heap.size + 2, 0, none⟩)]⟩, ⟨204, 83, #[.pointer (some ⟨w.heap.size, 0, none⟩), .pointer (some ⟨w.heap.size + 1, 0, none⟩)]⟩]) rfl (fun h => h)) (by simp) (fun i f hf hz => by
      rcases i with _ | _ | _ | _ | i
      · injection hf with hf
        subst hf
        rw [b0]
        refine ⟨fun args w => by go_simp, fun W hW => ?_⟩
        exact ans_conv (arg79_any (hcw.below hW) (cell_below hB2 hW)) decide_not.symm
      · injection hf with hf
        subst hf
        rw [b1]
        refine ⟨fun args w => by go_simp, fun W hW => ?_⟩
        have hz0 := hz 0 (by omega)
        rw [b0] at hz0
        have hz0 := of_decide_eq_false hz0
        obtain ⟨hz1, hz2⟩ := Decidable.not_not.1 hz0
        obtain ⟨p, rfl⟩ : ∃ p : Nat, x = (p : Int) := ⟨x.toNat, by omega⟩
        obtain ⟨q, rfl⟩ : ∃ q : Nat, y = (q : Int) := ⟨y.toNat, by omega⟩
        have hn1 := HK.out.nb
        have hn2 := HK.out.np
        have hp : p < 4 := by omega
        have hq : q < 4 := by omega
        have hlen := (HK.out.vw p (by omega)).len
        exact ans_conv (arg80_any (bi := w.heap.size + 2) ⟨(hcw.below hW).m, cell_below hB2 hW, (hcw.below hW).f0, (hcw.below hW).f1, (hcw.below hW).f2⟩ (hmw.below hW) hq) (by simp only [Int.toNat_natCast]; rw [Bool.eq_iff_iff]; simp)
      · injection hf with hf
        subst hf
        rw [b2]
        refine ⟨fun args w => by go_simp, fun W hW => ?_⟩
        have hz0 := hz 0 (by omega)
        rw [b0] at hz0
        have hz0 := of_decide_eq_false hz0
        obtain ⟨hz1, hz2⟩ := Decidable.not_not.1 hz0
        obtain ⟨p, rfl⟩ : ∃ p : Nat, x = (p : Int) := ⟨x.toNat, by omega⟩
        obtain ⟨q, rfl⟩ : ∃ q : Nat, y = (q : Int) := ⟨y.toNat, by omega⟩
        have hn1 := HK.out.nb
        have hn2 := HK.out.np
        have hp : p < 4 := by omega
        have hq : q < 4 := by omega
        have hlen := (HK.out.vw p (by omega)).len
        exact ans_conv (arg81_any (hcw.below hW) (hmw.below hW) hp (by omega) (cell_below hB3 hW) (cell_below hB2 hW)) (by simp only [Int.toNat_natCast])
      · injection hf with hf
        subst hf
        rw [b3]
        refine ⟨fun args w => by go_simp, fun W hW => ?_⟩
        have hz0 := hz 0 (by omega)
        rw [b0] at hz0
        have hz0 := of_decide_eq_false hz0
        obtain ⟨hz1, hz2⟩ := Decidable.not_not.1 hz0
        obtain ⟨p, rfl⟩ : ∃ p : Nat, x = (p : Int) := ⟨x.toNat, by omega⟩
        obtain ⟨q, rfl⟩ : ∃ q : Nat, y = (q : Int) := ⟨y.toNat, by omega⟩
        have hn1 := HK.out.nb
        have hn2 := HK.out.np
        have hp : p < 4 := by omega
        have hq : q < 4 := by omega
        have hlen := (HK.out.vw p (by omega)).len
        exact ans_conv (arg83_any (hcw.below hW) (hmw.below hW) hp) (by simp only [Int.toNat_natCast])
      · simp at hf)
  have hfe : firstE bs 0 [⟨2, 79, #[.pointer (some ⟨w.heap.size, 0, none⟩), .pointer (some ⟨w.heap.size + 1, 0, none⟩), .pointer (some ⟨w.heap.size + 2, 0, none⟩)]⟩, ⟨201, 80, #[.pointer (some ⟨w.heap.size, 0, none⟩), .pointer (some ⟨w.heap.size + 2, 0, none⟩)]⟩, ⟨202, 81, #[.pointer (some ⟨w.heap.size + 3, 0, none⟩), .pointer (some ⟨w.heap.size, 0, none⟩), .pointer (some ⟨w.heap.size + 1, 0, none⟩), .pointer (some ⟨w.heap.size + 2, 0, none⟩)]⟩, ⟨204, 83, #[.pointer (some ⟨w.heap.size, 0, none⟩), .pointer (some ⟨w.heap.size + 1, 0, none⟩)]⟩] = M.electE x y un := by
    unfold Mt.electE
    simp only [firstE]
    rw [b0, b1, b2, b3, if_dec, if_dec, if_dec, if_dec]
  rw [hfe, hee] at hwr
  have HE := Lib.hid hee
  have HB3 := Lib.hid hal2
  clear hee
  clear hC hal2 hcw hmw hfe b0 b1 b2 b3 hbs hB1 hB2 hB3
  go_wp2_with fail
  refine hwr.mono ?_
  rintro r w4 ⟨rfl, hb4⟩
  have HB4 := Lib.hid (HB3.out.trans (hb4.mono HB3.out.size))
  have HMM := Lib.hid (HM.out.below HB4.out)
  have HCC := Lib.hid (HC.out.below HB4.out)
  have HBT := Lib.hid (HB0.out.trans (HB4.out.mono HB0.out.size))
  have HY2 := Lib.hid (cell_below (HX2.out.cell 0) HB4.out)
  clear hwr hb4 r0
  by_cases hx : ee = 0
  case neg =>
    have HX := Lib.hid hx
    have HF : Hid (Did w T g (if ee = 0 then M1 else M) w4) := Lib.hid (by rw [if_neg hx]; exact Did.of_below HMM.out HBT.out)
    have e2 : (ee == 0) = false := by simpa using hx
    clear hx
    go_wp2_with fail
    go_ret
    exact ⟨rfl, HF.out⟩
  case pos =>
    subst hx
    have hx := HE.out
    unfold Mt.electE at hx
    by_cases hin : (0 ≤ x ∧ x < (M.np : Int)) ∧ 0 ≤ y ∧ y < (M.nb : Int)
    case neg => rw [if_pos hin] at hx; omega
    rw [if_neg (fun q => q hin)] at hx
    obtain ⟨hi1, hi2⟩ := hin
    obtain ⟨p, rfl⟩ : ∃ p : Nat, x = (p : Int) := ⟨x.toNat, by omega⟩
    simp only [Int.toNat_natCast] at hx HM1
    have hnp := HK.out.np
    have hp : p < 4 := by omega
    have hpi : (p : Int) < 4 := by omega
    have hok := HK.out.vw p (by omega)
    have hnv : (M.views p).version ≠ 2147483647 := fun e => by
      rw [if_pos e] at hx
      split at hx
      · omega
      · split at hx <;> omega
    have hle := hok.len
    have hnb := HK.out.nb
    have h1 := hok.e0
    have h2 := hok.ev
    have h3 := hok.v1
    have HQ : Hid ((M.views p).isr.length ≤ 1000000 ∧ (0 ≤ (M.views p).epoch ∧ (M.views p).epoch < 2147483647) ∧ (0 ≤ (M.views p).version ∧ (M.views p).version < 2147483647)) := Lib.hid ⟨by omega, ⟨h1, by omega⟩, by omega, by omega⟩
    clear hi1 hi2 hnp hok hnv hle hnb h1 h2 h3
    clear hx
    have e2 : ((0 : Int) == 0) = true := by simp
    go_upto_region 3 with fail
    refine wp_region_np ?_
    refine wp_region_held_drew (S := fun W => Cap W w.heap.size (w.heap.size + 1) g (M.nb : Int) (M.np : Int) (M.ni : Int) (p : Int) ∧ W.cell? ⟨w.heap.size + 2, 0, none⟩ = some (.int .i64 y)) (by kernel_rfl) (show (fun W => Cap W w.heap.size (w.heap.size + 1) g (M.nb : Int) (M.np : Int) (M.ni : Int) (p : Int) ∧ W.cell? ⟨w.heap.size + 2, 0, none⟩ = some (.int .i64 y)) w4.drew from ⟨HCC.out.below (Below.refl _ _).drew, HY2.out⟩) (fun hHeld => ?_)
    have hmv : Mm w4.drew T g M := HMM.out.below (Below.refl _ _).drew
    have hbt : Below w.heap.size w w4.drew := HBT.out.drew
    generalize hv0 : w4.drew = V0 at *
    clear hv0
    refine wpAnyH_takeAt (i := 0) (d := 23) (v := ?vq0x) rfl rfl (by kernel_rfl) (by kernel_rfl) (by kernel_rfl) (fun _ _ _ h => h) (Or.inl ⟨by rfl, ?hyq0x⟩) hHeld ?_
    case hyq0x =>
      intro W hSw
      obtain ⟨⟨q0, q1, q2, q3, q4⟩, yy⟩ := hSw
      (go_simp; try with_reducible rfl)
    simp only [List.setIfInBounds_toArray, List.set_cons_zero, List.set_cons_succ]
    refine wpAnyH_takeAt (i := 1) (d := 24) (v := ?vq1x) rfl rfl (by kernel_rfl) (by kernel_rfl) (by kernel_rfl) (fun _ _ _ h => h) (Or.inl ⟨by rfl, ?hyq1x⟩) hHeld ?_
    case hyq1x =>
      intro W hSw
      obtain ⟨⟨q0, q1, q2, q3, q4⟩, yy⟩ := hSw
      (go_simp; try with_reducible rfl)
    simp only [List.setIfInBounds_toArray, List.set_cons_zero, List.set_cons_succ]
    refine wpAnyH_takeAt (i := 2) (d := 25) (v := ?vq2x) rfl rfl (by kernel_rfl) (by kernel_rfl) (by kernel_rfl) (fun _ _ _ h => h) (Or.inl ⟨by rfl, ?hyq2x⟩) hHeld ?_
    case hyq2x =>
      intro W hSw
      clear hSw
      (go_simp; try with_reducible rfl)
    simp only [List.setIfInBounds_toArray, List.set_cons_zero, List.set_cons_succ]
    refine wpAnyH_takeAt (i := 3) (d := 26) (v := ?vq3x) rfl rfl (by kernel_rfl) (by kernel_rfl) (by kernel_rfl) (fun _ _ _ h => h) (Or.inl ⟨by rfl, ?hyq3x⟩) hHeld ?_
    case hyq3x =>
      intro W hSw
      clear hSw
      (go_simp; try with_reducible rfl)
    simp only [List.setIfInBounds_toArray, List.set_cons_zero, List.set_cons_succ]
    refine wpAnyH_takeAt (i := 4) (d := 27) (v := ?vq4x) rfl rfl (by kernel_rfl) (by kernel_rfl) (by kernel_rfl) (fun _ _ _ h => h) (Or.inl ⟨by rfl, ?hyq4x⟩) hHeld ?_
    case hyq4x =>
      intro W hSw
      clear hSw
      (go_simp; try with_reducible rfl)
    simp only [List.setIfInBounds_toArray, List.set_cons_zero, List.set_cons_succ]
    refine wpAnyH_takeAt (i := 5) (d := 28) (v := ?vq5x) rfl rfl (by kernel_rfl) (by kernel_rfl) (by kernel_rfl) (fun _ _ _ h => h) (Or.inl ⟨by rfl, ?hyq5x⟩) hHeld ?_
    case hyq5x =>
      intro W hSw
      obtain ⟨⟨q0, q1, q2, q3, q4⟩, yy⟩ := hSw
      (go_simp; try with_reducible rfl)
    simp only [List.setIfInBounds_toArray, List.set_cons_zero, List.set_cons_succ]
    refine wpAnyH_ready (rs := [6]) (by kernel_rfl) (by simp) (AllReadyH.cons rfl (fun K hK => ?_) AllReadyH.nil)
    go_simp
    obtain ⟨cs, rv, hMx, hSg, hSr⟩ := hmv
    have ho := hMx.own p (by omega)
    rw [show M.row p = (M.views p).isr by exact if_pos hp] at ho
    obtain ⟨A9, k9, hv9, -⟩ := ints_form ho
    have hs9 := hMx.lay.vw p hp
    have hng := hMx.ng p (by omega)
    rw [hv9] at hs9 ho hng
    refine (elect_any hMx.blk hs9 ho HQ.out.1 hng HQ.out.2.1 HQ.out.2.2 y).mono ?_
    rintro r V1 ⟨rfl, hwp⟩
    rw [← hv9] at hwp
    dsimp only
    have hdid := hMx.viewed hSg hSr hp hwp
    have HF : Hid (Did w T g M1 V1) := Lib.hid (by rw [← HM1.out]; exact Did.later hbt hdid)
    have hHeld2 : (fun W => Cap W w.heap.size (w.heap.size + 1) g (M.nb : Int) (M.np : Int) (M.ni : Int) (p : Int) ∧ W.cell? ⟨w.heap.size + 2, 0, none⟩ = some (.int .i64 y)) V1 := ⟨⟨(hdid.2.cell (p := ⟨w.heap.size, 0, none⟩) (block_lt_of_cell hHeld.1.m) (fun e => absurd (HTL.out _ e) (Nat.lt_irrefl _))).trans hHeld.1.m, (hdid.2.cell (p := ⟨w.heap.size + 1, 0, none⟩) (block_lt_of_cell hHeld.1.i) (fun e => absurd (HTL.out _ e) (Nat.not_lt.2 (Nat.le_add_right _ _)))).trans hHeld.1.i, hdid.1.form.1, hdid.1.form.2.1, hdid.1.form.2.2⟩, (hdid.2.cell (p := ⟨w.heap.size + 2, 0, none⟩) (block_lt_of_cell hHeld.2) (fun e => absurd (HTL.out _ e) (Nat.not_lt.2 (Nat.le_add_right _ _)))).trans hHeld.2⟩
    refine hK.out _ _ hHeld2 (fun hHeld => ?_)
    clear hK K hwp hMx hHeld2 hSg hSr hbt hdid
    try simp only [List.setIfInBounds_toArray, List.set_cons_zero, List.set_cons_succ]
    refine wpAnyH_done (by kernel_rfl) ?_ _
    clear hHeld
    go_wp2_with fail
    go_ret
    exact ⟨rfl, by rw [if_pos rfl]; exact HF.out⟩
end
end Go.Proofs.YtpmdicbhliclcaaGreat
