/-
  Init. Conditions: a controller that New made, sessions that are numbers.
-/
import Derived.Test.YtpmdicbhliclcaaGreatArg2
namespace Go.Proofs.YtpmdicbhliclcaaGreat
open Go.RowKit Go.Maps
set_option linter.unusedVariables false
theorem rd_new (w : World) (t : TypeId) (cs : Array Value) {k : Nat} {css : List (Array Value)} {X : Nat → Prop} (hk : Sized k css) (hf : cs.toList = flatA css) (hX : ¬ X w.heap.size) : Rd (w.alloc (.cells cs t)) X k (some ⟨w.heap.size, 0, none⟩) css.length css := by
  refine ⟨rfl, hk, fun _ => ⟨_, rfl, by simp, hX, fun j u hu => ?_⟩⟩
  have hadd : (⟨w.heap.size, 0, none⟩ : Addr).add j = ⟨w.heap.size, j, none⟩ := by unfold Addr.add; split <;> simp_all
  rw [hadd, (Blk.new w t cs).cell j, ← Array.getElem?_toList, hf]
  exact hu
theorem flt_sized (fs : List Flt) : Sized 2 (fs.map Flt.cells) := fun c hc => by
  obtain ⟨f, -, rfl⟩ := List.mem_map.1 hc
  exact ⟨rfl, fun u hu => by
    simp [Flt.cells] at hu
    rcases hu with rfl | rfl <;> simp [Value.oneCell']⟩
/-- The first fault of Init. -/
def Mt.initE (M : Mt) (x : Int) : Int := if ¬ (0 ≤ x ∧ x < (M.ni : Int)) then 2 else if (M.wrs x.toNat).ending = true then 203 else if (M.wrs x.toNat).session = 2147483647 then 204 else 0
section
variable {w : World} {S : Nat → Prop} {g : Nat} {M : Mt}
/-- One writer's numbers have turned. -/
theorem Mm.turned {w' : World} {cs : Array Value} {rv : Nat → Value} {p : Nat} {W' : Wt} (h : Mx w g M cs rv) (hg : S g) (hS : ∀ k, k < 8 → ∀ b, (rv k).ownBlock = some b → S b) (hp : p < 4) (hq : W'.parts = (M.wrs p).parts) (hw : WrP w g (23 + p * 6) cs W' (rv (4 + p)) w') : Mm w' S g { M with wrs := setAt M.wrs p W' } := by
  obtain ⟨cs', h1, h2, h3, h4⟩ := hw
  have ho := h.own (4 + p) (by omega)
  rw [show M.row (4 + p) = (M.wrs p).parts by unfold Mt.row; rw [if_neg (by omega)]; congr 2; omega, ← hq] at ho
  have hk := ho.keep h4 (fun b hb e => h.ng (4 + p) (by omega) (e ▸ hb))
  refine ⟨cs', _, h.writer hp h1 h2 h3 hk (fun b hb => .inl hb) (h4.mono (fun b _ e => .inl e)), hg, fun k hk b hb => ?_⟩
  by_cases hkp : k = 4 + p
  · subst hkp; rw [setAt_self] at hb; exact hS (4 + p) hk b hb
  · rw [setAt_ne _ hkp] at hb; exact hS k hk b hb
/-- What is known behind Init. -/
def InitP (w : World) (S : Nat → Prop) (g : Nat) (M : Mt) (x : Int) (r : Ending) (w' : World) : Prop :=
  (M.initE x ≠ 0 ∧ r = .returned (.tuple #[.int .i64 0, .int .i64 (M.initE x)]) ∧ Mm w' S g M ∧ Below w.heap.size w w') ∨
    (M.initE x = 0 ∧ ∃ p : Nat, x = (p : Int) ∧ p < M.ni ∧ r = .returned (.tuple (if (M.wrs p).state = 2 then #[.int .i64 0, .int .i64 203] else #[.int .i64 ((M.wrs p).session + 1), .int .i64 0])) ∧ Mm w' S g { M with wrs := setAt M.wrs p (M.wrs p).begin } ∧ Turn (fun q => q = g) w w')
set_option maxRecDepth 100000 in
set_option maxHeartbeats 8000000 in
theorem init_any (h : Mm w S g M) (hn : 1 ≤ M.nb) (hp4 : M.ni ≤ 4) (hI : ∀ p, p < M.ni → 0 ≤ (M.wrs p).session ∧ (M.wrs p).session ≤ 2147483647) (x : Int) : Calls Tryz.prog 24 #[.pointer (some ⟨g, 0, none⟩), .int .i64 x] w (InitP w S g M x) := by
  have hal := ((Below.refl w.heap.size w).alloc (Nat.le_refl _) (.cells #[.pointer (some ⟨g, 0, none⟩)] 27)).alloc (by simp) (.cells #[.int .i64 x] 3)
  have hm0 : Blk ((w.alloc (.cells #[.pointer (some ⟨g, 0, none⟩)] 27)).alloc (.cells #[.int .i64 x] 3)) w.heap.size 27 #[.pointer (some ⟨g, 0, none⟩)] := (Blk.new w 27 _).alloc _
  have hi0 : Blk ((w.alloc (.cells #[.pointer (some ⟨g, 0, none⟩)] 27)).alloc (.cells #[.int .i64 x] 3)) (w.heap.size + 1) 3 #[.int .i64 x] := blk_new (w.alloc (.cells #[.pointer (some ⟨g, 0, none⟩)] 27)) 3 #[.int .i64 x] (by simp)
  have HM0 := Lib.hid hm0
  have HI0 := Lib.hid hi0
  have HB0 := Lib.hid hal
  have HM := Lib.hid (h.below hal)
  have HGL := Lib.hid h.lt
  clear hal hm0 hi0 h
  go_enter Tryz.func24, Tryz.ntmps24
  go_upto_region 1 with fail
  generalize hw2 : ((w.alloc (.cells #[.pointer (some ⟨g, 0, none⟩)] 27)).alloc (.cells #[.int .i64 x] 3)) = w2 at *
  clear hw2
  have r0 := HM0.out.cell 0
  have hC : Cap w2 w.heap.size (w.heap.size + 1) g (M.nb : Int) (M.np : Int) (M.ni : Int) x := ⟨HM0.out.cell 0, HI0.out.cell 0, HM.out.form.1, HM.out.form.2.1, HM.out.form.2.2⟩
  have HC := Lib.hid hC
  have hal2 := (Below.refl w2.heap.size w2).alloc (Nat.le_refl _) (.cells #[.int .i64 2, .func (.func 58) #[] #[.pointer (some ⟨w.heap.size, 0, none⟩), .pointer (some ⟨w.heap.size + 1, 0, none⟩)], .int .i64 203, .func (.func 59) #[] #[.pointer (some ⟨w.heap.size, 0, none⟩), .pointer (some ⟨w.heap.size + 1, 0, none⟩)], .int .i64 204, .func (.func 61) #[] #[.pointer (some ⟨w.heap.size, 0, none⟩), .pointer (some ⟨w.heap.size + 1, 0, none⟩)]] 105)
  have hcw := hC.below hal2
  have hmw := HM.out.below hal2
  obtain ⟨bs, hbs⟩ : ∃ bs : Nat → Bool, bs = fun i => if i = 0 then !decide (0 ≤ x ∧ x < (M.ni : Int)) else if i = 1 then (M.wrs x.toNat).ending else ((M.wrs x.toNat).session == 2147483647) := ⟨_, rfl⟩
  have b0 : bs 0 = !decide (0 ≤ x ∧ x < (M.ni : Int)) := by rw [hbs]; rfl
  have b1 : bs 1 = (M.wrs x.toNat).ending := by rw [hbs]; rfl
  have b2 : bs 2 = ((M.wrs x.toNat).session == 2147483647) := by rw [hbs]; rfl
  have hin : bs 0 = false → ∃ p : Nat, x = (p : Int) ∧ p < M.ni := fun e => by
    rw [b0] at e
    have : 0 ≤ x ∧ x < (M.ni : Int) := by simpa using e
    exact ⟨x.toNat, by omega, by omega⟩
  have hwr := wrong_any (w := w2.alloc (.cells #[.int .i64 2, .func (.func 58) #[] #[.pointer (some ⟨w.heap.size, 0, none⟩), .pointer (some ⟨w.heap.size + 1, 0, none⟩)], .int .i64 203, .func (.func 59) #[] #[.pointer (some ⟨w.heap.size, 0, none⟩), .pointer (some ⟨w.heap.size + 1, 0, none⟩)], .int .i64 204, .func (.func 61) #[] #[.pointer (some ⟨w.heap.size, 0, none⟩), .pointer (some ⟨w.heap.size + 1, 0, none⟩)]] 105)) (k := 3) (fs := [⟨2, 58, #[.pointer (some ⟨w.heap.size, 0, none⟩), .pointer (some ⟨w.heap.size + 1, 0, none⟩)]⟩, ⟨203, 59, #[.pointer (some ⟨w.heap.size, 0, none⟩), .pointer (some ⟨w.heap.size + 1, 0, none⟩)]⟩, ⟨204, 61, #[.pointer (some ⟨w.heap.size, 0, none⟩), .pointer (some ⟨w.heap.size + 1, 0, none⟩)]⟩]) (A := some ⟨w2.heap.size, 0, none⟩)
    bs hcw.f0 hcw.f1 hcw.f2 (by omega) (rd_new w2 105 _ (flt_sized [⟨2, 58, #[.pointer (some ⟨w.heap.size, 0, none⟩), .pointer (some ⟨w.heap.size + 1, 0, none⟩)]⟩, ⟨203, 59, #[.pointer (some ⟨w.heap.size, 0, none⟩), .pointer (some ⟨w.heap.size + 1, 0, none⟩)]⟩, ⟨204, 61, #[.pointer (some ⟨w.heap.size, 0, none⟩), .pointer (some ⟨w.heap.size + 1, 0, none⟩)]⟩]) rfl (fun h => h)) (by simp) (fun i f hf hz => by
      rcases i with _ | _ | _ | i
      · injection hf with hf
        subst hf
        rw [b0]
        exact ⟨fun args w => by go_simp, fun W hW => arg58_any (hcw.below hW)⟩
      · injection hf with hf
        subst hf
        rw [b1]
        obtain ⟨p, rfl, hp⟩ := hin (hz 0 (by omega))
        exact ⟨fun args w => by go_simp, fun W hW => arg59_any (hcw.below hW) (hmw.below hW) (by omega)⟩
      · injection hf with hf
        subst hf
        rw [b2]
        obtain ⟨p, rfl, hp⟩ := hin (hz 0 (by omega))
        exact ⟨fun args w => by go_simp, fun W hW => arg61_any (hcw.below hW) (hmw.below hW) (by omega)⟩
      · simp at hf)
  have hfe : firstE bs 0 [⟨2, 58, #[.pointer (some ⟨w.heap.size, 0, none⟩), .pointer (some ⟨w.heap.size + 1, 0, none⟩)]⟩, ⟨203, 59, #[.pointer (some ⟨w.heap.size, 0, none⟩), .pointer (some ⟨w.heap.size + 1, 0, none⟩)]⟩, ⟨204, 61, #[.pointer (some ⟨w.heap.size, 0, none⟩), .pointer (some ⟨w.heap.size + 1, 0, none⟩)]⟩] = M.initE x := by
    unfold Mt.initE
    simp only [firstE]
    rw [b0, b1, b2]
    by_cases e : 0 ≤ x ∧ x < (M.ni : Int)
    · rw [if_neg (c := (!decide (0 ≤ x ∧ x < (M.ni : Int))) = true) (by rw [decide_eq_true e]; simp), if_neg (c := ¬ (0 ≤ x ∧ x < (M.ni : Int))) (fun q => q e)]
      simp only [beq_iff_eq]
    · rw [if_pos (by rw [decide_eq_false e]; rfl), if_pos e]
  rw [hfe] at hwr
  have HB3 := Lib.hid hal2
  clear hC hal2 hcw hmw hfe hin b0 b1 b2 hbs
  go_wp2_with fail
  refine hwr.mono ?_
  rintro r w4 ⟨rfl, hb4⟩
  have HB4 := Lib.hid (HB3.out.trans (hb4.mono HB3.out.size))
  have HMM := Lib.hid (HM.out.below HB4.out)
  have HCC := Lib.hid (HC.out.below HB4.out)
  have HBT := Lib.hid (HB0.out.trans (HB4.out.mono HB0.out.size))
  clear hwr hb4 r0
  by_cases hx : M.initE x = 0
  case neg =>
    obtain ⟨q, hq⟩ : ∃ q, M.initE x = q := ⟨_, rfl⟩
    rw [hq] at hx ⊢
    have HX := Lib.hid hx
    have HQ := Lib.hid hq
    have e2 : (q == 0) = false := by simpa using hx
    clear hx hq
    go_wp2_with fail
    refine bodyPost_ret (results_tmp2 (by rfl) _ _ _) rfl ?_
    exact .inl ⟨by rw [HQ.out]; exact HX.out, by rw [HQ.out]; rfl, HMM.out, HBT.out⟩
  case pos =>
    rw [hx]
    have HX0 := Lib.hid hx
    have hr : 0 ≤ x ∧ x < (M.ni : Int) := by
      unfold Mt.initE at hx
      by_cases e : 0 ≤ x ∧ x < (M.ni : Int)
      · exact e
      · rw [if_pos e] at hx; omega
    obtain ⟨p, rfl⟩ : ∃ p : Nat, x = (p : Int) := ⟨x.toNat, by omega⟩
    have hpn : p < M.ni := by omega
    have hp : p < 4 := by omega
    have hpi : (p : Int) < 4 := by omega
    have hs0 := hI p hpn
    have hs1 : (M.wrs p).session ≠ 2147483647 := by
      intro e
      unfold Mt.initE at hx
      rw [if_neg (by omega)] at hx
      simp only [Int.toNat_natCast] at hx
      rw [if_pos e] at hx
      split at hx <;> omega
    have HX := Lib.hid hpn
    have HS := Lib.hid (And.intro hs0.1 (show (M.wrs p).session < 2147483647 by omega))
    have e2 : ((0 : Int) == 0) = true := by simp
    clear hx hI hr hs0 hs1 hpn
    go_upto_region 4 with fail
    refine wp_region_np ?_
    refine wp_region_held_drew (S := fun W => Cap W w.heap.size (w.heap.size + 1) g (M.nb : Int) (M.np : Int) (M.ni : Int) (p : Int)) (by kernel_rfl) (show (fun W => Cap W w.heap.size (w.heap.size + 1) g (M.nb : Int) (M.np : Int) (M.ni : Int) (p : Int)) w4.drew from HCC.out.below (Below.refl _ _).drew) (fun hHeld => ?_)
    have hmv : Mm w4.drew S g M := HMM.out.below (Below.refl _ _).drew
    have hbt : Below w.heap.size w w4.drew := HBT.out.drew
    generalize hv0 : w4.drew = V0 at *
    clear hv0
    refine wpAnyH_takeAt (i := 0) (d := 19) (v := ?vq0x) rfl rfl (by kernel_rfl) (by kernel_rfl) (by kernel_rfl) (fun _ _ _ h => h) (Or.inl ⟨by rfl, ?hyq0x⟩) hHeld ?_
    case hyq0x =>
      intro W hSw
      have hh := hSw; obtain ⟨q0, q1, q2, q3, q4⟩ := hh; clear hSw
      (go_simp; try with_reducible rfl)
    simp only [List.setIfInBounds_toArray, List.set_cons_zero, List.set_cons_succ]
    refine wpAnyH_takeAt (i := 1) (d := 20) (v := ?vq1x) rfl rfl (by kernel_rfl) (by kernel_rfl) (by kernel_rfl) (fun _ _ _ h => h) (Or.inl ⟨by rfl, ?hyq1x⟩) hHeld ?_
    case hyq1x =>
      intro W hSw
      have hh := hSw; obtain ⟨q0, q1, q2, q3, q4⟩ := hh; clear hSw
      (go_simp; try with_reducible rfl)
    simp only [List.setIfInBounds_toArray, List.set_cons_zero, List.set_cons_succ]
    refine wpAnyH_takeAt (i := 2) (d := 21) (v := ?vq2x) rfl rfl (by kernel_rfl) (by kernel_rfl) (by kernel_rfl) (fun _ _ _ h => h) (Or.inl ⟨by rfl, ?hyq2x⟩) hHeld ?_
    case hyq2x =>
      intro W hSw
      clear hSw
      (go_simp; try with_reducible rfl)
    simp only [List.setIfInBounds_toArray, List.set_cons_zero, List.set_cons_succ]
    refine wpAnyH_takeAt (i := 3) (d := 22) (v := ?vq3x) rfl rfl (by kernel_rfl) (by kernel_rfl) (by kernel_rfl) (fun _ _ _ h => h) (Or.inl ⟨by rfl, ?hyq3x⟩) hHeld ?_
    case hyq3x =>
      intro W hSw
      clear hSw
      (go_simp; try with_reducible rfl)
    simp only [List.setIfInBounds_toArray, List.set_cons_zero, List.set_cons_succ]
    refine wpAnyH_takeAt (i := 4) (d := 23) (v := ?vq4x) rfl rfl (by kernel_rfl) (by kernel_rfl) (by kernel_rfl) (fun _ _ _ h => h) (Or.inl ⟨by rfl, ?hyq4x⟩) hHeld ?_
    case hyq4x =>
      intro W hSw
      clear hSw
      (go_simp; try with_reducible rfl)
    simp only [List.setIfInBounds_toArray, List.set_cons_zero, List.set_cons_succ]
    refine wpAnyH_ready (rs := [5]) (by kernel_rfl) (by simp) (AllReadyH.cons rfl (fun K hK => ?_) AllReadyH.nil)
    go_simp
    obtain ⟨cs, rv, hMx, hSg, hSr⟩ := hmv
    refine (begin_any hMx.blk (hMx.lay.wr p hp) HS.out.1 HS.out.2).mono ?_
    rintro r V1 ⟨rfl, hwp⟩
    dsimp only
    have hT : Turn (fun q => q = g) V0 V1 := by obtain ⟨_, -, -, -, h4⟩ := hwp; exact h4
    have HF : Hid (Mm V1 S g { M with wrs := setAt M.wrs p (M.wrs p).begin } ∧ Turn (fun q => q = g) w V1) := Lib.hid ⟨Mm.turned hMx hSg hSr hp (by unfold Wt.begin; split <;> rfl) hwp, (Turn.of_below hbt _).trans hT (fun _ _ h => h)⟩
    have hwl := HGL.out
    have hHeld2 : (fun W => Cap W w.heap.size (w.heap.size + 1) g (M.nb : Int) (M.np : Int) (M.ni : Int) (p : Int)) V1 := ⟨(hT.cell (p := ⟨w.heap.size, 0, none⟩) (block_lt_of_cell hHeld.m) (by show ¬ w.heap.size = g; omega)).trans hHeld.m, (hT.cell (p := ⟨w.heap.size + 1, 0, none⟩) (block_lt_of_cell hHeld.i) (by show ¬ w.heap.size + 1 = g; omega)).trans hHeld.i, HF.out.1.form.1, HF.out.1.form.2.1, HF.out.1.form.2.2⟩
    refine hK.out _ _ hHeld2 (fun hHeld => ?_)
    clear hK K hwp hT hMx hHeld2 hSg hSr hbt
    try simp only [List.setIfInBounds_toArray, List.set_cons_zero, List.set_cons_succ]
    refine wpAnyH_takeAt (i := 6) (d := 25) (v := ?vq5x) rfl rfl (by kernel_rfl) (by kernel_rfl) (by kernel_rfl) (fun _ _ _ h => h) (Or.inl ⟨by rfl, ?hyq5x⟩) hHeld ?_
    case hyq5x =>
      intro W hSw
      clear hSw
      (go_simp; try with_reducible rfl)
    simp only [List.setIfInBounds_toArray, List.set_cons_zero, List.set_cons_succ]
    refine wpAnyH_done (by kernel_rfl) ?_ _
    have HD := Lib.hid hHeld
    clear hHeld
    by_cases h2 : (M.wrs p).state = 2
    case pos =>
      have d2 : decide ((M.wrs p).state ≠ 2) = false := by simp [h2]
      rw [d2]
      have H2 := Lib.hid h2
      clear h2 d2
      go_wp2_with fail
      refine bodyPost_ret (results_tmp2 (by rfl) _ _ _) rfl ?_
      exact .inr ⟨HX0.out, p, rfl, HX.out, by rw [if_pos H2.out]; rfl, HF.out.1, HF.out.2⟩
    case neg =>
      have d2 : decide ((M.wrs p).state ≠ 2) = true := by simp [h2]
      rw [d2]
      have H2 := Lib.hid h2
      have q0 := HD.out.m
      have q1 := HD.out.i
      obtain ⟨A, k, ⟨q2, -, -, -, -, -⟩, -⟩ := HF.out.1.atWriting hp
      dsimp only at q2
      rw [setAt_self, show (M.wrs p).begin.session = (M.wrs p).session + 1 by unfold Wt.begin; rw [if_neg h2]] at q2
      clear h2 d2
      go_wp2_with fail
      go_quiet (fail)
      go_wp2_with fail
      refine bodyPost_ret (results_tmp2 (by rfl) _ _ _) rfl ?_
      exact .inr ⟨HX0.out, p, rfl, HX.out, by rw [if_neg H2.out]; rfl, HF.out.1.below (below_drewN (Below.refl _ _) _), HF.out.2.trans (Turn.of_below (below_drewN (Below.refl _ _) _) _) (fun _ _ h => h)⟩
end
end Go.Proofs.YtpmdicbhliclcaaGreat
