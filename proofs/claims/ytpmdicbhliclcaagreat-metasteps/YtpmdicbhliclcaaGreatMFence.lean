/-
  Fence. Conditions: a controller as it is between two calls.
-/
import Derived.Test.YtpmdicbhliclcaaGreatMeth
namespace Go.Proofs.YtpmdicbhliclcaaGreat
open Go.RowKit Go.Maps
set_option linter.unusedVariables false
theorem Mt.ends_succ (M : Mt) (q : Nat) (x : Int) : M.ends (q + 1) x = (M.ends q x || ((M.views q).minds x && decide ((M.views q).version = 2147483647))) := by
  unfold Mt.ends
  rw [List.range_succ, List.any_append]
  simp
theorem Mt.ends_of {M : Mt} {q n : Nat} {x : Int} (hq : q < n) (h1 : (M.views q).minds x = true) (h2 : (M.views q).version = 2147483647) : M.ends n x = true := by
  unfold Mt.ends
  rw [List.any_eq_true]
  exact ⟨q, List.mem_range.2 hq, by rw [h1, h2]; rfl⟩
theorem Mt.fenceTo_succ (M : Mt) (q : Nat) (x : Int) : (M.fenceTo q x).setV q (((M.fenceTo q x).views q).fence x) = M.fenceTo (q + 1) x := by
  unfold Mt.fenceTo Mt.setV
  simp only [Mt.mk.injEq, true_and, and_true]
  funext p
  unfold setAt
  by_cases hpq : p = q
  · subst hpq
    rw [if_pos rfl, if_neg (Nat.lt_irrefl _), if_pos (Nat.lt_succ_self _)]
  · rw [if_neg hpq]
    show (if p < q then (M.views p).fence x else M.views p) = _
    by_cases hl : p < q
    · rw [if_pos hl, if_pos (by omega)]
    · rw [if_neg hl, if_neg (by omega)]
theorem Mt.fenceTo_zero (M : Mt) (b : Nat) : ({ M with lives := setAt M.lives b false } : Mt) = M.fenceTo 0 (b : Int) := by
  unfold Mt.fenceTo
  simp
section
variable {w : World} {S : Nat → Prop} {g : Nat} {M : Mt} {bm bi : Nat} {a b c x : Int}
set_option maxRecDepth 100000 in
set_option maxHeartbeats 4000000 in
theorem ends_any (h : Mm w S g M) (hk : M.ok) (x : Int) : Calls Tryz.prog 76 #[.pointer (some ⟨g, 0, none⟩), .int .i64 x] w fun r w' => r = .returned (.bool (M.ends M.np x)) ∧ w' = w := by
  have f1 := h.form.2.1
  obtain ⟨cs, rv, hMx, -, -⟩ := h
  have HX := Lib.hid hMx
  have HK := Lib.hid hk
  have hn4 := hk.np.2
  clear hMx hk
  go_enter Tryz.func76, Tryz.ntmps76
  go_wp2_with fail
  go_loopw [12] (fun i wv => ∃ q : Nat, q ≤ M.np ∧ i = .int .i64 q ∧ wv = w ∧ Hid (M.ends q x = false)) (fun i _ => M.np - (iOf i).toNat)
  case atStart => exact ⟨0, by omega, rfl, rfl, Lib.hid rfl⟩
  case round =>
    obtain ⟨q, hq, rfl, rfl, HZ⟩ := hrel
    by_cases hlt : q < M.np
    case neg =>
      have hd1 : decide (q < M.np) = false := decide_eq_false (by omega)
      have HE : Hid (M.ends M.np x = false) := Lib.hid (by rw [show M.np = q by omega]; exact HZ.out)
      clear hlt
      go_wp2_with fail
      go_ret
      exact ⟨by rw [HE.out]; rfl, rfl⟩
    case pos =>
    have hd1 : decide (q < M.np) = true := decide_eq_true (by omega)
    have HLT := Lib.hid hlt
    have hq4 : q < 4 := by omega
    have hqi : (q : Int) < 4 := by omega
    have hqn : (0 : Int) ≤ (q : Int) := by omega
    have ho := HX.out.own q (by omega)
    rw [show M.row q = (M.views q).isr by exact if_pos hq4] at ho
    obtain ⟨A9, k9, hv9, -⟩ := ints_form ho
    have hs9 := HX.out.lay.vw q hq4
    rw [hv9] at hs9 ho
    have hlen := (HK.out.vw q hlt).len
    have hnb := HK.out.nb
    have hmi := minds_any HX.out.blk hs9 (ho.rd (X := No) (fun _ _ e => e)) (by omega) x
    have hat := atEnd_any HX.out.blk hs9
    clear ho hv9 hs9 hlen hnb
    have hstep : ∀ d1 d2, (M.views q).minds x = d1 → decide ((M.views q).version = 2147483647) = d2 → (d1 && d2) = false → Hid (M.ends (q + 1) x = false) := fun d1 d2 e1 e2 e3 => Lib.hid (by rw [Mt.ends_succ, HZ.out, e1, e2, e3]; rfl)
    cases h1 : (M.views q).minds x with
    | false =>
      have HN := hstep _ _ h1 rfl rfl
      rw [h1] at hmi
      clear h1 hstep hat
      go_wp2_with fail
      refine hmi.mono ?_
      rintro r w1 ⟨rfl, rfl⟩
      clear hmi
      go_wp2_with fail
      go_round
      case rel => exact ⟨q + 1, HLT.out, by go_num, (by first | rfl | trivial), HN⟩
      case measure => simp [iOf]; omega
    | true =>
      rw [h1] at hmi
      by_cases h2 : (M.views q).version = 2147483647
      · have HE : Hid (M.ends M.np x = true) := Lib.hid (Mt.ends_of hlt h1 h2)
        rw [decide_eq_true h2] at hat
        clear h1 h2 hstep
        go_wp2_with fail
        refine hmi.mono ?_
        rintro r w1 ⟨rfl, rfl⟩
        clear hmi
        go_wp2_with fail
        refine hat.mono ?_
        rintro r w2 ⟨rfl, rfl⟩
        clear hat
        go_wp2_with fail
        go_ret
        exact ⟨by rw [HE.out]; rfl, rfl⟩
      · have HN := hstep _ _ h1 (decide_eq_false h2) rfl
        rw [decide_eq_false h2] at hat
        clear h1 h2 hstep
        go_wp2_with fail
        refine hmi.mono ?_
        rintro r w1 ⟨rfl, rfl⟩
        clear hmi
        go_wp2_with fail
        refine hat.mono ?_
        rintro r w2 ⟨rfl, rfl⟩
        clear hat
        go_wp2_with fail
        go_round
        case rel => exact ⟨q + 1, HLT.out, by go_num, (by first | rfl | trivial), HN⟩
        case measure => simp [iOf]; omega
set_option maxRecDepth 100000 in
theorem arg75_any (h : Cap w bm bi g a b c x) (hm : Mm w S g M) (hk : M.ok) : Calls Tryz.prog 75 #[.pointer (some ⟨bm, 0, none⟩), .pointer (some ⟨bi, 0, none⟩)] w fun r w' => r = .returned (.bool (M.ends M.np x)) ∧ Below w.heap.size w w' := by
  have he := ends_any hm hk x
  obtain ⟨q0, q1, -, -, -⟩ := h
  clear hm hk
  generalize M.ends M.np x = d at *
  go_enter Tryz.func75, Tryz.ntmps75
  go_wp2_with fail
  refine he.mono ?_
  rintro r w1 ⟨rfl, rfl⟩
  clear he
  go_wp2_with fail
  go_ret
  exact ⟨rfl, Below.refl _ _⟩
theorem FI_ne {T : Nat → Prop} {n k : Nat} (hT : ∀ b, T b → b < n) (h1 : n ≤ k) (h2 : k < n + 2) (e : T k ∨ n + 2 ≤ k) : False := by
  rcases e with e | e
  · have := hT _ e; omega
  · omega
/-- Between two rounds of Fence. -/
structure FenI (w : World) (T : Nat → Prop) (g : Nat) (M : Mt) (x : Int) (q : Nat) (W : World) : Prop where
  mm : Mm W (fun b => T b ∨ w.heap.size + 2 ≤ b) g (M.fenceTo q x)
  tn : Turn T w W
  bx : W.cell? ⟨w.heap.size, 0, none⟩ = some (.pointer (some ⟨g, 0, none⟩))
  bi : W.cell? ⟨w.heap.size + 1, 0, none⟩ = some (.int .i64 x)
  hi : w.heap.size + 2 ≤ W.heap.size
set_option maxRecDepth 100000 in
set_option maxHeartbeats 8000000 in
theorem fence28_any (h : Mm w S g M) (hk : M.ok) (x : Int) : Calls Tryz.prog 28 #[.pointer (some ⟨g, 0, none⟩), .int .i64 x] w (MeP w S g M (M.fenceTo M.np x) (M.fenceE x) (.int .i64 (M.fenceE x))) := by
  suffices hsuf : Calls Tryz.prog 28 #[.pointer (some ⟨g, 0, none⟩), .int .i64 x] w (MeP w (fun b => S b ∧ b < w.heap.size) g M (M.fenceTo M.np x) (M.fenceE x) (.int .i64 (M.fenceE x))) from hsuf.mono (fun _ _ q => q.wide (fun _ q => q.1))
  have h := h.tight
  obtain ⟨T, hT⟩ : ∃ T : Nat → Prop, T = fun b => S b ∧ b < w.heap.size := ⟨_, rfl⟩
  rw [← hT] at h ⊢
  have HTL : Hid (∀ b, T b → b < w.heap.size) := Lib.hid (by rw [hT]; exact fun b q => q.2)
  clear hT
  obtain ⟨ee, hee⟩ : ∃ ee, M.fenceE x = ee := ⟨_, rfl⟩
  obtain ⟨M1, hM1⟩ : ∃ M1, M.fenceTo M.np x = M1 := ⟨_, rfl⟩
  have HM1 := Lib.hid hM1
  rw [hM1, hee]
  have hal : Below w.heap.size w ((w.alloc (.cells #[.pointer (some ⟨g, 0, none⟩)] 27)).alloc (.cells #[.int .i64 x] 3)) := (((Below.refl w.heap.size w).alloc (Nat.le_refl _) (.cells #[.pointer (some ⟨g, 0, none⟩)] 27)).alloc (le_alloc (Nat.le_refl _) _) (.cells #[.int .i64 x] 3))
  have hb0 : Blk ((w.alloc (.cells #[.pointer (some ⟨g, 0, none⟩)] 27)).alloc (.cells #[.int .i64 x] 3)) w.heap.size 27 #[.pointer (some ⟨g, 0, none⟩)] := ((Blk.new w 27 _).alloc _)
  have hb1 : Blk ((w.alloc (.cells #[.pointer (some ⟨g, 0, none⟩)] 27)).alloc (.cells #[.int .i64 x] 3)) (w.heap.size + 1) 3 #[.int .i64 x] := (blk_new (w.alloc (.cells #[.pointer (some ⟨g, 0, none⟩)] 27)) 3 #[.int .i64 x] (by simp))
  have HB0 := Lib.hid hal
  have HX0 := Lib.hid hb0
  have HX1 := Lib.hid hb1
  have HM := Lib.hid (h.below hal)
  have HGL := Lib.hid h.lt
  have HK := Lib.hid hk
  have HSZ : Hid (w.heap.size + 2 ≤ (((w.alloc (.cells #[.pointer (some ⟨g, 0, none⟩)] 27)).alloc (.cells #[.int .i64 x] 3))).heap.size) := Lib.hid (by simp)
  clear hal hb0 hb1 h hk hM1
  go_enter Tryz.func28, Tryz.ntmps28
  go_upto_region 1 with fail
  generalize hw2 : ((w.alloc (.cells #[.pointer (some ⟨g, 0, none⟩)] 27)).alloc (.cells #[.int .i64 x] 3)) = w2 at *
  clear hw2
  have r0 := HX0.out.cell 0
  have hC : Cap w2 w.heap.size (w.heap.size + 1) g (M.nb : Int) (M.np : Int) (M.ni : Int) x := ⟨HX0.out.cell 0, HX1.out.cell 0, HM.out.form.1, HM.out.form.2.1, HM.out.form.2.2⟩
  have HC := Lib.hid hC
  have hal2 := (Below.refl w2.heap.size w2).alloc (Nat.le_refl _) (.cells #[.int .i64 2, .func (.func 74) #[] #[.pointer (some ⟨w.heap.size, 0, none⟩), .pointer (some ⟨w.heap.size + 1, 0, none⟩)], .int .i64 204, .func (.func 75) #[] #[.pointer (some ⟨w.heap.size, 0, none⟩), .pointer (some ⟨w.heap.size + 1, 0, none⟩)]] 105)
  have hcw := hC.below hal2
  have hmw := HM.out.below hal2
  obtain ⟨bs, hbs⟩ : ∃ bs : Nat → Bool, bs = fun i => if i = 0 then decide (¬ (0 ≤ x ∧ x < (M.nb : Int))) else decide (M.ends M.np x = true) := ⟨_, rfl⟩
  have b0 : bs 0 = decide (¬ (0 ≤ x ∧ x < (M.nb : Int))) := by rw [hbs]; rfl
  have b1 : bs 1 = decide (M.ends M.np x = true) := by rw [hbs]; rfl
  have hwr := wrong_any (w := w2.alloc (.cells #[.int .i64 2, .func (.func 74) #[] #[.pointer (some ⟨w.heap.size, 0, none⟩), .pointer (some ⟨w.heap.size + 1, 0, none⟩)], .int .i64 204, .func (.func 75) #[] #[.pointer (some ⟨w.heap.size, 0, none⟩), .pointer (some ⟨w.heap.size + 1, 0, none⟩)]] 105)) (k := 2) (fs := [⟨2, 74, #[.pointer (some ⟨w.heap.size, 0, none⟩), .pointer (some ⟨w.heap.size + 1, 0, none⟩)]⟩, ⟨204, 75, #[.pointer (some ⟨w.heap.size, 0, none⟩), .pointer (some ⟨w.heap.size + 1, 0, none⟩)]⟩]) (A := some ⟨w2.heap.size, 0, none⟩)
    bs hcw.f0 hcw.f1 hcw.f2 (by have := HK.out.nb; omega) (rd_new w2 105 _ (flt_sized [⟨2, 74, #[.pointer (some ⟨w.heap.size, 0, none⟩), .pointer (some ⟨w.heap.size + 1, 0, none⟩)]⟩, ⟨204, 75, #[.pointer (some ⟨w.heap.size, 0, none⟩), .pointer (some ⟨w.heap.size + 1, 0, none⟩)]⟩]) rfl (fun h => h)) (by simp) (fun i f hf hz => by
      rcases i with _ | _ | i
      · injection hf with hf
        subst hf
        rw [b0]
        exact ⟨fun args w => by go_simp, fun W hW => ans_conv (arg74_any (hcw.below hW)) decide_not.symm⟩
      · injection hf with hf
        subst hf
        rw [b1]
        exact ⟨fun args w => by go_simp, fun W hW => ans_conv (arg75_any (hcw.below hW) (hmw.below hW) HK.out) Bool.decide_eq_true.symm⟩
      · simp at hf)
  have hfe : firstE bs 0 [⟨2, 74, #[.pointer (some ⟨w.heap.size, 0, none⟩), .pointer (some ⟨w.heap.size + 1, 0, none⟩)]⟩, ⟨204, 75, #[.pointer (some ⟨w.heap.size, 0, none⟩), .pointer (some ⟨w.heap.size + 1, 0, none⟩)]⟩] = M.fenceE x := by
    unfold Mt.fenceE
    simp only [firstE]
    rw [b0, b1, if_dec, if_dec]
  rw [hfe, hee] at hwr
  have HE := Lib.hid hee
  have HB3 := Lib.hid hal2
  clear hee
  clear hC hal2 hcw hmw hfe b0 b1 hbs
  go_wp2_with fail
  refine hwr.mono ?_
  rintro r w4 ⟨rfl, hb4⟩
  have HB4 := Lib.hid (HB3.out.trans (hb4.mono HB3.out.size))
  have HMM := Lib.hid (HM.out.below HB4.out)
  have HCC := Lib.hid (HC.out.below HB4.out)
  have HBT := Lib.hid (HB0.out.trans (HB4.out.mono HB0.out.size))
  have HS4 : Hid (w.heap.size + 2 ≤ w4.heap.size) := Lib.hid (Nat.le_trans HSZ.out HB4.out.size)
  clear hwr hb4 r0
  by_cases hx : ee = 0
  case neg =>
    have HX := Lib.hid hx
    have HF : Hid (Did w T g (if ee = 0 then M1 else M) w4) := Lib.hid (by rw [if_neg hx]; exact Did.of_below HMM.out HBT.out)
    have e2 : (ee != 0) = true := by simpa using hx
    clear hx
    go_wp2_with fail
    go_ret
    exact ⟨rfl, HF.out⟩
  case pos =>
    subst hx
    have hx := HE.out
    unfold Mt.fenceE at hx
    by_cases hin : 0 ≤ x ∧ x < (M.nb : Int)
    case neg => rw [if_pos hin] at hx; omega
    rw [if_neg (fun q => q hin)] at hx
    have hno : M.ends M.np x = false := by
      cases he : M.ends M.np x with
      | false => rfl
      | true => rw [he] at hx; simp at hx
    obtain ⟨b, rfl⟩ : ∃ b : Nat, x = (b : Int) := ⟨x.toNat, by omega⟩
    have hnb := HK.out.nb
    have hb4 : b < 4 := by omega
    have hbi : (b : Int) < 4 := by omega
    have HNO := Lib.hid hno
    clear hx hin hnb hno
    have e2 : ((0 : Int) != 0) = false := by simp
    go_upto_region 4 with fail
    refine wp_region_np ?_
    refine wp_region_held_drew (S := fun W => Cap W w.heap.size (w.heap.size + 1) g (M.nb : Int) (M.np : Int) (M.ni : Int) (b : Int)) (by kernel_rfl) (show (fun W => Cap W w.heap.size (w.heap.size + 1) g (M.nb : Int) (M.np : Int) (M.ni : Int) (b : Int)) w4.drew from HCC.out.below (Below.refl _ _).drew) (fun hHeld => ?_)
    have hmv : Mm w4.drew T g M := HMM.out.below (Below.refl _ _).drew
    have hbt : Below w.heap.size w w4.drew := HBT.out.drew
    have hs0 : w.heap.size + 2 ≤ w4.drew.heap.size := HS4.out
    generalize hv0 : w4.drew = V0 at *
    clear hv0
    obtain ⟨cs, rv, hMx, hSg, hSr⟩ := hmv
    refine wpAnyH_takeAt (i := 0) (d := 17) (v := ?vq0x) rfl rfl (by kernel_rfl) (by kernel_rfl) (by kernel_rfl) (fun _ _ _ h => h) (Or.inl ⟨by rfl, ?hyq0x⟩) hHeld ?_
    case hyq0x =>
      intro W hSw
      have hh := hSw; obtain ⟨q0, q1, q2, q3, q4⟩ := hh; clear hSw
      (go_simp; try with_reducible rfl)
    simp only [List.setIfInBounds_toArray, List.set_cons_zero, List.set_cons_succ]
    refine wpAnyH_takeAt (i := 1) (d := 18) (v := ?vq1x) rfl rfl (by kernel_rfl) (by kernel_rfl) (by kernel_rfl) (fun _ _ _ h => h) (Or.inl ⟨by rfl, ?hyq1x⟩) hHeld ?_
    case hyq1x =>
      intro W hSw
      have hh := hSw; obtain ⟨q0, q1, q2, q3, q4⟩ := hh; clear hSw
      (go_simp; try with_reducible rfl)
    simp only [List.setIfInBounds_toArray, List.set_cons_zero, List.set_cons_succ]
    refine wpAnyH_takeAt (i := 2) (d := 19) (v := ?vq2x) rfl rfl (by kernel_rfl) (by kernel_rfl) (by kernel_rfl) (fun _ _ _ h => h) (Or.inl ⟨by rfl, ?hyq2x⟩) hHeld ?_
    case hyq2x =>
      intro W hSw
      clear hSw
      (go_simp; try with_reducible rfl)
    simp only [List.setIfInBounds_toArray, List.set_cons_zero, List.set_cons_succ]
    refine wpAnyH_takeAt (i := 3) (d := 20) (v := ?vq3x) rfl rfl (by kernel_rfl) (by kernel_rfl) (by kernel_rfl) (fun _ _ _ h => h) (Or.inl ⟨by rfl, ?hyq3x⟩) hHeld ?_
    case hyq3x =>
      intro W hSw
      clear hSw
      (go_simp; try with_reducible rfl)
    simp only [List.setIfInBounds_toArray, List.set_cons_zero, List.set_cons_succ]
    refine wpAnyH_takeAt (i := 4) (d := 21) (v := ?vq4x) rfl rfl (by kernel_rfl) (by kernel_rfl) (by kernel_rfl) (fun _ _ _ h => h) (Or.inl ⟨by rfl, ?hyq4x⟩) hHeld ?_
    case hyq4x =>
      intro W hSw
      clear hSw
      (go_simp; try with_reducible rfl)
    simp only [List.setIfInBounds_toArray, List.set_cons_zero, List.set_cons_succ]
    refine wpAnyH_ready (rs := [5]) (by kernel_rfl) (by simp) (AllReadyH.cons rfl (fun K hK => ?_) AllReadyH.nil)
    have hlive := hMx.live (b := b) (x := false) hb4
    have hfz := hMx.blk.frozen (3 + b)
    have hce : V0.cell? ⟨g, 3 + b, none⟩ = some (.bool (M.lives b)) := by rw [hMx.blk.cell]; exact hMx.lay.lv b hb4
    go_simp
    have hwl := HGL.out
    have ht1 : Turn (fun q => q = g) V0 (V0.setCell ⟨g, 3 + b, none⟩ (.bool false)) := (Turn.refl (fun q => q = g) V0).setCell (p := ⟨g, 3 + b, none⟩) (fun _ => rfl) _
    have hM2 : Mm (V0.setCell ⟨g, 3 + b, none⟩ (.bool false)) T g { M with lives := setAt M.lives b false } := ⟨_, _, hlive, hSg, hSr⟩
    have hHeld2 : (fun W => Cap W w.heap.size (w.heap.size + 1) g (M.nb : Int) (M.np : Int) (M.ni : Int) (b : Int)) (V0.setCell ⟨g, 3 + b, none⟩ (.bool false)) := capSet hHeld (by omega) (by omega) hM2.form
    have HF : Hid (FenI w T g M (b : Int) 0 (V0.setCell ⟨g, 3 + b, none⟩ (.bool false))) := Lib.hid ⟨by rw [← Mt.fenceTo_zero]; exact hM2.wide (fun _ q => .inl q), (Turn.of_below hbt T).trans ht1 (fun q _ e => e ▸ hSg), hHeld2.m, hHeld2.i, Nat.le_trans hs0 ht1.size⟩
    refine hK.out _ _ hHeld2 (fun hHeld => ?_)
    clear hK K hlive hfz hce ht1 hM2 hHeld2
    try simp only [List.setIfInBounds_toArray, List.set_cons_zero, List.set_cons_succ]
    refine wpAnyH_done (by kernel_rfl) ?_ _
    clear hHeld hMx hSg hSr hbt hs0
    have q0 := HF.out.bx
    have q1 := HF.out.mm.form.2.1
    have hpn : ((M.fenceTo 0 (b : Int)).np : Int) = (M.np : Int) := rfl
    rw [hpn] at q1
    generalize V0.setCell ⟨g, 3 + b, none⟩ (.bool false) = W0 at *
    have hn4 := HK.out.np.2
    clear hpn
    go_wp2_with fail
    clear q0 q1
    go_loopw [27] (fun i wv => ∃ q : Nat, q ≤ M.np ∧ i = .int .i64 q ∧ Hid (FenI w T g M (b : Int) q wv)) (fun i _ => M.np - (iOf i).toNat)
    case atStart => exact ⟨0, by omega, rfl, HF⟩
    case round =>
      obtain ⟨q, hq, rfl, HFI⟩ := hrel
      by_cases hlt : q < M.np
      case neg =>
        have hd1 : decide (q < M.np) = false := decide_eq_false (by omega)
        have HD : Hid (Did w T g M1 wr) := Lib.hid (by
          rw [← HM1.out, show M.np = q by omega]
          exact ⟨HFI.out.mm.wide (fun z e => e.imp_right (fun e => by omega)), HFI.out.tn⟩)
        clear hlt
        go_wp2_with fail
        go_ret
        exact ⟨rfl, by rw [if_pos rfl]; exact HD.out⟩
      case pos =>
      have hd1 : decide (q < M.np) = true := decide_eq_true (by omega)
      have HLT := Lib.hid hlt
      have hq4 : q < 4 := by omega
      have hqi : (q : Int) < 4 := by omega
      have HVQ : Hid ((M.fenceTo q (b : Int)).views q = M.views q) := Lib.hid (if_neg (Nat.lt_irrefl _))
      have hok := HK.out.vw q hlt
      have hle := hok.len
      have hnb := HK.out.nb
      have HQ : Hid ((M.views q).isr.length ≤ 1000000 ∧ (0 ≤ (M.views q).epoch ∧ (M.views q).epoch ≤ (M.views q).version) ∧ (M.views q).version ≤ 2147483647 ∧ ((M.views q).minds (b : Int) = true → (M.views q).version < 2147483647)) := Lib.hid ⟨by omega, ⟨hok.e0, hok.ev⟩, hok.v1, fun hm => by
        have h1 := hok.v1
        rcases Decidable.em ((M.views q).version = 2147483647) with e | e
        · have := Mt.ends_of hlt hm e
          rw [HNO.out] at this
          cases this
        · omega⟩
      clear hok hle hnb
      go_upto_region 8 with fail
      refine wp_region_np ?_
      refine wp_region_held_drew (S := fun W => W.cell? ⟨w.heap.size, 0, none⟩ = some (.pointer (some ⟨g, 0, none⟩)) ∧ W.cell? ⟨w.heap.size + 1, 0, none⟩ = some (.int .i64 (b : Int))) (by kernel_rfl) (show (fun W => W.cell? ⟨w.heap.size, 0, none⟩ = some (.pointer (some ⟨g, 0, none⟩)) ∧ W.cell? ⟨w.heap.size + 1, 0, none⟩ = some (.int .i64 (b : Int))) wr.drew from ⟨HFI.out.bx, HFI.out.bi⟩) (fun hHeld => ?_)
      have hFI : FenI w T g M (b : Int) q wr.drew := ⟨HFI.out.mm.below (Below.refl _ _).drew, HFI.out.tn.drew, HFI.out.bx, HFI.out.bi, HFI.out.hi⟩
      generalize hv8 : wr.drew = V8 at *
      clear hv8
      refine wpAnyH_takeAt (i := 0) (d := 30) (v := ?vq5x) rfl rfl (by kernel_rfl) (by kernel_rfl) (by kernel_rfl) (fun _ _ _ h => h) (Or.inl ⟨by rfl, ?hyq5x⟩) hHeld ?_
      case hyq5x =>
        intro W hSw
        obtain ⟨q0, q1⟩ := hSw
        (go_simp; try with_reducible rfl)
      simp only [List.setIfInBounds_toArray, List.set_cons_zero, List.set_cons_succ]
      refine wpAnyH_takeAt (i := 1) (d := 31) (v := ?vq6x) rfl rfl (by kernel_rfl) (by kernel_rfl) (by kernel_rfl) (fun _ _ _ h => h) (Or.inl ⟨by rfl, ?hyq6x⟩) hHeld ?_
      case hyq6x =>
        intro W hSw
        clear hSw
        (go_simp; try with_reducible rfl)
      simp only [List.setIfInBounds_toArray, List.set_cons_zero, List.set_cons_succ]
      refine wpAnyH_takeAt (i := 2) (d := 32) (v := ?vq7x) rfl rfl (by kernel_rfl) (by kernel_rfl) (by kernel_rfl) (fun _ _ _ h => h) (Or.inl ⟨by rfl, ?hyq7x⟩) hHeld ?_
      case hyq7x =>
        intro W hSw
        clear hSw
        (go_simp; try with_reducible rfl)
      simp only [List.setIfInBounds_toArray, List.set_cons_zero, List.set_cons_succ]
      refine wpAnyH_takeAt (i := 3) (d := 33) (v := ?vq8x) rfl rfl (by kernel_rfl) (by kernel_rfl) (by kernel_rfl) (fun _ _ _ h => h) (Or.inl ⟨by rfl, ?hyq8x⟩) hHeld ?_
      case hyq8x =>
        intro W hSw
        clear hSw
        (go_simp; try with_reducible rfl)
      simp only [List.setIfInBounds_toArray, List.set_cons_zero, List.set_cons_succ]
      refine wpAnyH_takeAt (i := 4) (d := 34) (v := ?vq9x) rfl rfl (by kernel_rfl) (by kernel_rfl) (by kernel_rfl) (fun _ _ _ h => h) (Or.inl ⟨by rfl, ?hyq9x⟩) hHeld ?_
      case hyq9x =>
        intro W hSw
        clear hSw
        (go_simp; try with_reducible rfl)
      simp only [List.setIfInBounds_toArray, List.set_cons_zero, List.set_cons_succ]
      refine wpAnyH_takeAt (i := 5) (d := 35) (v := ?vq10x) rfl rfl (by kernel_rfl) (by kernel_rfl) (by kernel_rfl) (fun _ _ _ h => h) (Or.inl ⟨by rfl, ?hyq10x⟩) hHeld ?_
      case hyq10x =>
        intro W hSw
        obtain ⟨q0, q1⟩ := hSw
        (go_simp; try with_reducible rfl)
      simp only [List.setIfInBounds_toArray, List.set_cons_zero, List.set_cons_succ]
      refine wpAnyH_ready (rs := [6]) (by kernel_rfl) (by simp) (AllReadyH.cons rfl (fun K hK => ?_) AllReadyH.nil)
      go_simp
      obtain ⟨cs, rv, hMx, hSg, hSr⟩ := hFI.mm
      have ho := hMx.own q (by omega)
      rw [show (M.fenceTo q (b : Int)).row q = ((M.fenceTo q (b : Int)).views q).isr by exact if_pos hq4] at ho
      obtain ⟨A9, k9, hv9, -⟩ := ints_form ho
      have hs9 := hMx.lay.vw q hq4
      have hng := hMx.ng q (by omega)
      rw [hv9] at hs9 ho hng
      rw [HVQ.out] at hs9 ho hng hv9
      refine (fence_any hMx.blk hs9 ho HQ.out.1 hng HQ.out.2.1 HQ.out.2.2.1 (b : Int) HQ.out.2.2.2).mono ?_
      rintro r V1 ⟨rfl, hwp⟩
      rw [← hv9] at hwp
      dsimp only
      have hdid := hMx.viewed hSg hSr hq4 hwp
      have hwl := HTL.out
      have hHeld2 : (fun W => W.cell? ⟨w.heap.size, 0, none⟩ = some (.pointer (some ⟨g, 0, none⟩)) ∧ W.cell? ⟨w.heap.size + 1, 0, none⟩ = some (.int .i64 (b : Int))) V1 := ⟨(hdid.2.cell (p := ⟨w.heap.size, 0, none⟩) (block_lt_of_cell hHeld.1) (fun e => FI_ne hwl (Nat.le_refl _) (show w.heap.size < w.heap.size + 2 by omega) e)).trans hHeld.1, (hdid.2.cell (p := ⟨w.heap.size + 1, 0, none⟩) (block_lt_of_cell hHeld.2) (fun e => FI_ne hwl (Nat.le_add_right _ 1) (Nat.lt_succ_self _) e)).trans hHeld.2⟩
      have hlow := hFI.hi
      have HN : Hid (FenI w T g M (b : Int) (q + 1) V1) := Lib.hid ⟨by
        rw [← Mt.fenceTo_succ, HVQ.out]
        exact hdid.1.wide (fun z e => by
          rcases e with e | e
          · exact e
          · exact .inr (by omega)), hFI.tn.trans hdid.2 (fun z hz e => by
          rcases e with e | e
          · exact e
          · omega), hHeld2.1, hHeld2.2, Nat.le_trans hlow hdid.2.size⟩
      refine hK.out _ _ hHeld2 (fun hHeld => ?_)
      clear hK K hwp hMx hHeld2 hSg hSr hdid hFI
      try simp only [List.setIfInBounds_toArray, List.set_cons_zero, List.set_cons_succ]
      refine wpAnyH_done (by kernel_rfl) ?_ _
      clear hHeld
      go_wp2_with fail
      go_round
      case rel => exact ⟨q + 1, HLT.out, by go_num, HN⟩
      case measure => simp [iOf]; omega
end
end Go.Proofs.YtpmdicbhliclcaaGreat
