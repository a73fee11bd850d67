/-
  The law helpers: a known run, what is the same, what is large. Conditions: a controller as it is between two calls.
-/
import Derived.Test.YtpmdicbhliclcaaGreatNear
import Derived.Test.YtpmdicbhliclcaaGreatRef40
import Derived.Test.YtpmdicbhliclcaaGreatMElect
namespace Go.Proofs.YtpmdicbhliclcaaGreat
open Go.RowKit Go.Maps
set_option linter.unusedVariables false
set_option linter.unusedSimpArgs false
theorem neq23 (a b c : Int) (w : World) : (binOp .neq 23 (.agg #[.int .i64 a, .int .i64 b, .int .i64 c]) (.agg #[.int .i64 a, .int .i64 b, .int .i64 c])).run Tryz.prog w = .ok (.bool false) w := by
  have e : (Op.equalIn 10000 23 (.agg #[.int .i64 a, .int .i64 b, .int .i64 c]) (.agg #[.int .i64 a, .int .i64 b, .int .i64 c])).run Tryz.prog w = .ok true w := by
    have hS : Tryz.prog.underlying 23 = some (.struct (Tryz.prog.fieldsOf 23)) := by kernel_rfl
    have hp : Tryz.prog.stoodInHeld 23 = false := by kernel_rfl
    rw [show (10000 : Nat) = 9999 + 1 from rfl, run_equalIn_agg w 9999 23 _ _ hS hp]
    have u3 := Tryz.underlying3
    have a3 := Tryz.isAgg3
    have z3 := Tryz.sizeOf3
    simp only [Program.fieldsOf, Tryz.underlying23]
    go_simp
  rw [run_neq_struct, e]; rfl
theorem MeP.to {w w' : World} {S : Nat → Prop} {g : Nat} {M M' : Mt} {e : Int} {ans : Value} {r : Ending} (h : MeP w S g M M' e ans r w') (he : e = 0) : r = .returned ans ∧ Did w S g M' w' := ⟨h.1, by have := h.2; rwa [if_pos he] at this⟩
theorem InitP.me2 {w w' : World} {S : Nat → Prop} {g : Nat} {M : Mt} {x : Int} {r : Ending} (h : InitP w S g M x r w') (hg : S g) : MeP w S g M (M.setW x.toNat (M.wrs x.toNat).begin) (M.initE x) (.tuple #[.int .i64 (M.initN x), .int .i64 (M.initF x)]) r w' := by
  rcases h with ⟨h1, rfl, h3, h4⟩ | ⟨h1, p, rfl, h2, rfl, h4, h5⟩
  · obtain ⟨e1, e2⟩ := Mt.init_err (M := M) (x := x) rfl h1
    rw [e1, e2]
    exact ⟨rfl, by rw [if_neg h1]; exact Did.of_below h3 h4⟩
  · refine ⟨?_, ?_⟩
    · unfold Mt.initN Mt.initF
      rw [if_pos h1, if_pos h1]
      simp only [Int.toNat_natCast]
      by_cases h2 : (M.wrs p).state = 2
      · rw [if_pos h2, if_pos h2, if_pos h2]
      · rw [if_neg h2, if_neg h2, if_neg h2]
    · rw [if_pos h1]
      simp only [Int.toNat_natCast]
      exact ⟨h4.wide (fun _ q => .inl q), h5.mono (fun b _ q => q ▸ hg)⟩
section
variable {w : World} {S : Nat → Prop} {g : Nat} {M : Mt} {v : Value}
set_option maxRecDepth 100000 in
set_option maxHeartbeats 4000000 in
theorem known_any (w : World) : Calls Tryz.prog 13 #[] w fun r w' => r = .returned (.bool true) ∧ Below w.heap.size w w' := by
  have hf : FormOk 3 1 1 := by decide
  have hnew := new_any w 3 1 1
  have hk0 : (Mt.fresh 3 1 1 3 1 1).ok := Mt.fresh_ok hf
  obtain ⟨M0, hM0⟩ : ∃ M0, Mt.fresh 3 1 1 3 1 1 = M0 := ⟨_, rfl⟩
  rw [hM0] at hk0
  have hE : M0.electE 0 1 false = 0 := by rw [← hM0]; decide
  obtain ⟨M1, hM1⟩ : ∃ M1, M0.setV (0 : Int).toNat ((M0.views (0 : Int).toNat).elect 1) = M1 := ⟨_, rfl⟩
  have hv0 : (M0.views 0).ok M0.nb := hk0.vw 0 (by rw [← hM0]; decide)
  have hk1 : M1.ok := by
    rw [← hM1]
    exact hk0.view (hv0.elect (by rw [← hM0]; decide) (by rw [← hM0]; decide))
  have hI : M1.initE 0 = 0 ∧ M1.initN 0 = 1 ∧ M1.initF 0 = 0 := by
    rw [← hM1, ← hM0]
    refine ⟨?_, ?_, ?_⟩ <;> decide
  obtain ⟨M2, hM2⟩ : ∃ M2, M1.setW (0 : Int).toNat (M1.wrs (0 : Int).toNat).begin = M2 := ⟨_, rfl⟩
  have hk2 : M2.ok := by
    rw [← hM2]
    exact hk1.writer ((hk1.wr 0 (by rw [← hM1, ← hM0]; decide)).begin (by rw [← hM1, ← hM0]; decide))
  have hV : (M2.views 0).leader = 1 ∧ (M2.views 0).epoch = 1 ∧ (M2.views 0).isr.length = 3 := by
    rw [← hM2, ← hM1, ← hM0]
    refine ⟨?_, ?_, ?_⟩ <;> decide
  have HE := Lib.hid hE
  have HK := Lib.hid (And.intro hk0 (And.intro hk1 hk2))
  have HI := Lib.hid hI
  have HV := Lib.hid hV
  have HM1 := Lib.hid hM1
  have HM2 := Lib.hid hM2
  have HM0 := Lib.hid hM0
  have HF := Lib.hid hf
  clear hE hk0 hk1 hk2 hI hV hM1 hM2 hM0 hv0 hf
  unfold frm at hnew
  go_enter Tryz.func13, Tryz.ntmps13
  go_wp2_with fail
  refine hnew.mono ?_
  rintro r w1 (⟨h1, -, -⟩ | ⟨nb, np, ni, e1, e2, e3, -, rfl, hmm, hb1⟩)
  · exact absurd HF.out h1
  obtain rfl : nb = 3 := by omega
  obtain rfl : np = 1 := by omega
  obtain rfl : ni = 1 := by omega
  rw [HM0.out] at hmm
  have hel := elect30_any hmm HK.out.1 0 1 false
  have HB1 := Lib.hid hb1
  clear hnew e1 e2 e3 hmm hb1
  rw [HE.out] at hel
  go_wp2_with fail
  refine hel.mono ?_
  intro r w2 hme
  obtain ⟨rfl, hd2⟩ := hme.to rfl
  rw [HM1.out] at hd2
  have HB2 : Hid (Below w.heap.size w w2) := Lib.hid (HB1.out.trans (hd2.2.below HB1.out.size (fun z e => e)))
  have hM2' := hd2.1
  have hin := (init_any hM2' HK.out.2.1.nb.1 HK.out.2.1.ni.2 (fun p hp => ⟨(HK.out.2.1.wr p hp).s0, (HK.out.2.1.wr p hp).s1⟩) 0).mono (fun _ _ q => InitP.me2 q (by obtain ⟨_, _, _, q, _⟩ := hM2'; exact q))
  clear hel hme hd2
  rw [HI.out.2.1, HI.out.2.2] at hin
  go_wp2_with fail
  refine hin.mono ?_
  intro r w3 hme
  obtain ⟨rfl, hd3⟩ := hme.to HI.out.1
  rw [HM2.out] at hd3
  have HB3 : Hid (Below w.heap.size w w3) := Lib.hid (HB2.out.trans (hd3.2.below HB2.out.size (fun z e => by have := HB1.out.size; rcases e with e | e <;> omega)))
  have hvw := view_any hd3.1 HK.out.2.2.nb.1 HK.out.2.2.np.2 (fun p hp => by have := (HK.out.2.2.vw p hp).len; have := HK.out.2.2.nb; omega) 0
  clear hin hme hd3 hM2'
  go_wp2_with fail
  refine hvw.mono ?_
  rintro r w4 ⟨-, hb4, h4⟩
  have HB4 := Lib.hid (HB3.out.trans (hb4.mono HB3.out.size))
  rcases h4 with ⟨h5, -⟩ | ⟨p, v, e5, -, rfl, ho, -⟩
  · have := HK.out.2.2.np
    omega
  obtain rfl : p = 0 := by omega
  obtain ⟨A, c, rfl, -⟩ := ints_form ho
  have l1 := eqb HV.out.1
  have l2 := eqb HV.out.2.1
  have l3 : (((M2.views 0).isr.length : Int) == 3) = true := eqb (by have := HV.out.2.2; omega)
  have l4 : ((M2.views 0).isr.length == 3) = true := by have := HV.out.2.2; simpa using this
  clear hvw hb4 e5 ho
  go_wp2_with (with_reducible refine at_store 47 rfl ?_)
  refine Stop.go (wpList_store_blk (by rfl) (by rfl) 47 _ _ (by rfl) w4.heap.size _ #[.int .i64 (M2.views 0).leader, .int .i64 (M2.views 0).epoch, .int .i64 (M2.views 0).version, .slice A (M2.views 0).isr.length c] (by rfl) (by rfl) 47 (Blk.new w4 47 #[.int .i64 0, .int .i64 0, .int .i64 0, .slice none 0 0]) (by rfl) (by kernel_rfl) (by simp [Value.oneCell']) ?_)
  intro w5 hB5 hg5 hs5
  have HB5 : Hid (Below w.heap.size w w5) := Lib.hid (HB4.out.trans ((below_grown ((Below.refl w4.heap.size w4).alloc (Nat.le_refl _) (.cells #[.int .i64 0, .int .i64 0, .int .i64 0, .slice none 0 0] 47)) hg5 (Nat.le_refl _) (Nat.le_refl _)).mono HB4.out.size))
  have x0 := hB5.cell 0
  have x1 := hB5.cell 1
  have x3 := hB5.cell 3
  simp only [List.getElem?_toArray, List.getElem?_cons_zero, List.getElem?_cons_succ] at x0 x1 x3
  clear hB5 hg5 hs5
  go_wp2_with fail
  go_ret
  exact ⟨rfl, HB5.out⟩
end
section
variable {w : World} {S : Nat → Prop} {g : Nat} {M : Mt} {v : Value}
set_option maxRecDepth 100000 in
set_option maxHeartbeats 8000000 in
theorem same17_any (hm : Mm w S g M) (hr : Rf w S M v) (hk : M.ok) : Calls Tryz.prog 17 #[.pointer (some ⟨g, 0, none⟩), v] w fun r w' => r = .returned (.bool true) ∧ Below w.heap.size w w' := by
  obtain ⟨A1, A2, A3, c1, c2, c3, rs, rfl, hR⟩ := hr
  have hal := (Below.refl w.heap.size w).alloc (Nat.le_refl _) (.cells #[.int .i64 (M.nb : Int), .int .i64 (M.np : Int), .int .i64 (M.ni : Int), .slice A1 M.nb c1, .slice A2 M.np c2, .slice A3 M.ni c3] 36)
  have HB := Lib.hid hal
  have HX : Hid (Blk (w.alloc (.cells #[.int .i64 (M.nb : Int), .int .i64 (M.np : Int), .int .i64 (M.ni : Int), .slice A1 M.nb c1, .slice A2 M.np c2, .slice A3 M.ni c3] 36)) w.heap.size 36 #[.int .i64 (M.nb : Int), .int .i64 (M.np : Int), .int .i64 (M.ni : Int), .slice A1 M.nb c1, .slice A2 M.np c2, .slice A3 M.ni c3]) := Lib.hid (Blk.new w 36 _)
  have HM := Lib.hid (hm.below hal)
  have HR := Lib.hid (hR.below hal)
  have HK := Lib.hid hk
  clear hm hR hk hal
  go_enter Tryz.func17, Tryz.ntmps17
  go_upto_region 1 with fail
  generalize hw2 : w.alloc (.cells #[.int .i64 (M.nb : Int), .int .i64 (M.np : Int), .int .i64 (M.ni : Int), .slice A1 M.nb c1, .slice A2 M.np c2, .slice A3 M.ni c3] 36) = w2 at *
  clear hw2
  refine wp_region_np ?_
  refine wp_region_held_drew (S := fun W => Below w2.heap.size w2 W) (by kernel_rfl) (show Below w2.heap.size w2 w2.drew from (Below.refl _ _).drew) (fun hHeld => ?_)
  generalize hv0 : w2.drew = V0 at *
  clear hv0
  refine wpAnyH_takeAt (i := 0) (d := 14) (v := ?vq0x) rfl rfl (by kernel_rfl) (by kernel_rfl) (by kernel_rfl) (fun _ _ _ h => h) (Or.inl ⟨by rfl, ?hyq0x⟩) hHeld ?_
  case hyq0x =>
    intro W hSw
    clear hSw
    (go_simp; try with_reducible rfl)
  simp only [List.setIfInBounds_toArray, List.set_cons_zero, List.set_cons_succ]
  refine wpAnyH_takeAt (i := 2) (d := 16) (v := ?vq1x) rfl rfl (by kernel_rfl) (by kernel_rfl) (by kernel_rfl) (fun _ _ _ h => h) (Or.inl ⟨by rfl, ?hyq1x⟩) hHeld ?_
  case hyq1x =>
    intro W hSw
    clear hSw
    (go_simp; try with_reducible rfl)
  simp only [List.setIfInBounds_toArray, List.set_cons_zero, List.set_cons_succ]
  refine wpAnyH_takeAt (i := 3) (d := 17) (v := ?vq2x) rfl rfl (by kernel_rfl) (by kernel_rfl) (by kernel_rfl) (fun _ _ _ h => h) (Or.inl ⟨by rfl, ?hyq2x⟩) hHeld ?_
  case hyq2x =>
    intro W hSw
    have kb := HX.out.below hSw HX.out.lt; have q0 : W.cell? ⟨w.heap.size, 0, none⟩ = some (.int .i64 (M.nb : Int)) := kb.cell 0; have q1 : W.cell? ⟨w.heap.size, 1, none⟩ = some (.int .i64 (M.np : Int)) := kb.cell 1; have q2 : W.cell? ⟨w.heap.size, 2, none⟩ = some (.int .i64 (M.ni : Int)) := kb.cell 2; clear kb hSw
    (go_simp; try with_reducible rfl)
  simp only [List.setIfInBounds_toArray, List.set_cons_zero, List.set_cons_succ]
  refine wpAnyH_ready (rs := [1]) (by kernel_rfl) (by simp) (AllReadyH.cons rfl (fun K hK => ?_) AllReadyH.nil)
  go_simp
  refine (form_any (HM.out.below hHeld) HK.out.nb.1).mono ?_
  rintro r V1 ⟨rfl, -, hb1⟩
  dsimp only
  refine hK.out _ _ (hHeld.trans (hb1.mono hHeld.size)) (fun hHeld => ?_)
  clear hK K hb1
  try simp only [List.setIfInBounds_toArray, List.set_cons_zero, List.set_cons_succ]
  refine wpAnyH_takeAt (i := 4) (d := 18) (v := ?vq3x) rfl rfl (by kernel_rfl) (by kernel_rfl) (by kernel_rfl) (fun _ _ _ h => h) (Or.inl ⟨by rfl, ?hyq3x⟩) hHeld ?_
  case hyq3x =>
    intro W hSw
    have hq := neq23 (M.nb : Int) (M.np : Int) (M.ni : Int) W; clear hSw
    (go_simp; try with_reducible rfl)
  simp only [List.setIfInBounds_toArray, List.set_cons_zero, List.set_cons_succ]
  refine wpAnyH_done (by kernel_rfl) ?_ _
  have HW := Lib.hid hHeld
  clear hHeld
  go_wp2_with fail
  go_loopw [5] (fun i wv => ∃ q : Nat, q ≤ M.nb ∧ i = .int .i64 q ∧ Hid (Below w2.heap.size w2 wv)) (fun i _ => M.nb - (iOf i).toNat)
  case atStart => exact ⟨0, by omega, rfl, HW⟩
  case round =>
    clear HW
    obtain ⟨q, hq, rfl, HW⟩ := hrel
    have hX := HX.out.below HW.out HX.out.lt
    have b0 : wr.cell? ⟨w.heap.size, 0, none⟩ = some (.int .i64 (M.nb : Int)) := hX.cell 0
    have b1 : wr.cell? ⟨w.heap.size, 1, none⟩ = some (.int .i64 (M.np : Int)) := hX.cell 1
    have b2 : wr.cell? ⟨w.heap.size, 2, none⟩ = some (.int .i64 (M.ni : Int)) := hX.cell 2
    clear hX
    have hnb4 := HK.out.nb.2
    have hnp4 := HK.out.np.2
    have hni4 := HK.out.ni.2
    by_cases hlt : q < M.nb
    case pos =>
      have hd1 : decide (q < M.nb) = true := decide_eq_true hlt
      have hcl := lives_any (HM.out.below HW.out) HK.out.nb (q : Int)
      have HLT := Lib.hid hlt
      go_wp2_with fail
      refine hcl.mono ?_
      rintro r w9 ⟨-, hb9, h9⟩
      rcases h9 with ⟨h9, -⟩ | ⟨q', e9, -, rfl⟩
      · omega
      obtain rfl : q = q' := by omega
      have HW9 := Lib.hid (HW.out.trans (hb9.mono HW.out.size))
      have hX9 := HX.out.below HW9.out HX.out.lt
      obtain ⟨ad, eA, life⟩ := (HR.out.below HW9.out).lifeCell HLT.out
      subst eA
      have s3 : w9.cell? ⟨w.heap.size, 3, none⟩ = some (.slice (some ad) M.nb c1) := hX9.cell 3
      have hbb : (M.lives q != M.lives q) = false := by simp
      clear hcl hb9 e9 hX9 b0 b1 b2
      go_wp2_with fail
      go_round
      case rel => exact ⟨q + 1, by omega, by go_num, HW9⟩
      case measure => simp [iOf]; omega
    case neg =>
    have hd1 : decide (q < M.nb) = false := decide_eq_false hlt
    clear hlt hq
    go_wp2_with fail
    go_loopw [8] (fun i wv => ∃ q : Nat, q ≤ M.np ∧ i = .int .i64 q ∧ Hid (Below w2.heap.size w2 wv)) (fun i _ => M.np - (iOf i).toNat)
    case atStart => exact ⟨0, by omega, rfl, HW⟩
    case round =>
      clear HW
      obtain ⟨q, hq, rfl, HW⟩ := hrel
      have hX := HX.out.below HW.out HX.out.lt
      have b0 : wr.cell? ⟨w.heap.size, 0, none⟩ = some (.int .i64 (M.nb : Int)) := hX.cell 0
      have b1 : wr.cell? ⟨w.heap.size, 1, none⟩ = some (.int .i64 (M.np : Int)) := hX.cell 1
      have b2 : wr.cell? ⟨w.heap.size, 2, none⟩ = some (.int .i64 (M.ni : Int)) := hX.cell 2
      clear hX
      by_cases hlt : q < M.np
      case pos =>
        have hd1 : decide (q < M.np) = true := decide_eq_true hlt
        have hcl := view_any (HM.out.below HW.out) HK.out.nb.1 HK.out.np.2 (fun p hp => by have h1 := (HK.out.vw p hp).len; have h2 := HK.out.nb; omega) (q : Int)
        have HLT := Lib.hid hlt
        go_wp2_with fail
        refine hcl.mono ?_
        rintro r w9 ⟨-, hb9, h9⟩
        rcases h9 with ⟨h9, -⟩ | ⟨q', v9, e9, -, rfl, ho9, -⟩
        · omega
        obtain rfl : q = q' := by omega
        obtain ⟨A9, k9, rfl, -⟩ := ints_form ho9
        have HW9 := Lib.hid (HW.out.trans (hb9.mono HW.out.size))
        have HO9 := Lib.hid ho9
        clear hcl hb9 e9 ho9 b0 b1 b2
        go_wp2_with (with_reducible refine at_store 47 rfl ?_)
        refine Stop.go (wpList_store_blk (by rfl) (by rfl) 47 _ _ (by rfl) w9.heap.size _ #[.int .i64 (M.views q).leader, .int .i64 (M.views q).epoch, .int .i64 (M.views q).version, .slice A9 (M.views q).isr.length k9] (by rfl) (by rfl) 47 (Blk.new w9 47 #[.int .i64 0, .int .i64 0, .int .i64 0, .slice none 0 0]) (by rfl) (by kernel_rfl) (by simp [Value.oneCell']) ?_)
        intro w3 hB3 hg3 hs3
        have hal3 : Below w9.heap.size w9 w3 := below_grown ((Below.refl w9.heap.size w9).alloc (Nat.le_refl _) (.cells #[.int .i64 0, .int .i64 0, .int .i64 0, .slice none 0 0] 47)) hg3 (Nat.le_refl _) (Nat.le_refl _)
        have HW3 := Lib.hid (HW9.out.trans (hal3.mono HW9.out.size))
        have HL3 := Lib.hid hB3
        have HV9 := Lib.hid ((HO9.out.below hal3).rd (X := No) (fun _ _ e => e))
        have HX3 := Lib.hid (HX.out.below HW3.out HX.out.lt)
        have hR3 := HR.out.below HW3.out
        obtain ⟨ad, eA, v0, v1, v2, v3⟩ := hR3.viewCells HLT.out
        obtain ⟨As, ks, es, hrs⟩ := hR3.vr q HLT.out
        rw [es] at v3
        subst eA
        have HS9 := Lib.hid hrs
        have HE := Lib.hid (And.intro v0 (And.intro v1 (And.intro v2 v3)))
        have HLE : Hid ((M.views q).isr.length ≤ 1000000) := Lib.hid (by have h1 := (HK.out.vw q HLT.out).len; have h2 := HK.out.nb; have h3 := HK.out.np; omega)
        clear hB3 hg3 hs3 hal3 hR3 hrs es v0 v1 v2 v3
        generalize w9.heap.size = lx at *
        go_upto_region 13 with fail
        refine wp_region_np ?_
        refine wp_region_held_drew (S := fun W => Blk W lx 47 #[.int .i64 (M.views q).leader, .int .i64 (M.views q).epoch, .int .i64 (M.views q).version, .slice A9 (M.views q).isr.length k9] ∧ Below w3.heap.size w3 W) (by kernel_rfl) (show (fun W => Blk W lx 47 #[.int .i64 (M.views q).leader, .int .i64 (M.views q).epoch, .int .i64 (M.views q).version, .slice A9 (M.views q).isr.length k9] ∧ Below w3.heap.size w3 W) w3.drew from ⟨HL3.out.drew, (Below.refl _ _).drew⟩) (fun hHeld => ?_)
        generalize hv0 : w3.drew = V0 at *
        clear hv0
        refine wpAnyH_takeAt (i := 0) (d := 56) (v := ?vq15x) rfl rfl (by kernel_rfl) (by kernel_rfl) (by kernel_rfl) (fun _ _ _ h => h) (Or.inl ⟨by rfl, ?hyq15x⟩) hHeld ?_
        case hyq15x =>
          intro W hSw
          clear hSw
          (go_simp; try with_reducible rfl)
        simp only [List.setIfInBounds_toArray, List.set_cons_zero, List.set_cons_succ]
        refine wpAnyH_takeAt (i := 1) (d := 57) (v := ?vq16x) rfl rfl (by kernel_rfl) (by kernel_rfl) (by kernel_rfl) (fun _ _ _ h => h) (Or.inl ⟨by rfl, ?hyq16x⟩) hHeld ?_
        case hyq16x =>
          intro W hSw
          clear hSw
          (go_simp; try with_reducible rfl)
        simp only [List.setIfInBounds_toArray, List.set_cons_zero, List.set_cons_succ]
        refine wpAnyH_takeAt (i := 2) (d := 58) (v := ?vq17x) rfl rfl (by kernel_rfl) (by kernel_rfl) (by kernel_rfl) (fun _ _ _ h => h) (Or.inl ⟨by rfl, ?hyq17x⟩) hHeld ?_
        case hyq17x =>
          intro W hSw
          clear hSw
          (go_simp; try with_reducible rfl)
        simp only [List.setIfInBounds_toArray, List.set_cons_zero, List.set_cons_succ]
        refine wpAnyH_takeAt (i := 3) (d := 59) (v := ?vq18x) rfl rfl (by kernel_rfl) (by kernel_rfl) (by kernel_rfl) (fun _ _ _ h => h) (Or.inl ⟨by rfl, ?hyq18x⟩) hHeld ?_
        case hyq18x =>
          intro W hSw
          obtain ⟨kl, kb⟩ := hSw; have q0 : W.cell? ⟨lx, 0, none⟩ = some (.int .i64 (M.views q).leader) := kl.cell 0; have q1 : W.cell? ⟨lx, 1, none⟩ = some (.int .i64 (M.views q).epoch) := kl.cell 1; have q2 : W.cell? ⟨lx, 2, none⟩ = some (.int .i64 (M.views q).version) := kl.cell 2; have q3 : W.cell? ⟨lx, 3, none⟩ = some (.slice A9 (M.views q).isr.length k9) := kl.cell 3; have s5 : W.cell? ⟨w.heap.size, 4, none⟩ = some (.slice (some ad) M.np c2) := (HX3.out.below kb HX3.out.lt).cell 4; have e0 : W.cell? (ad.add (q * 4)) = some (.int .i64 (M.views q).leader) := cell_below HE.out.1 kb; have e1 : W.cell? ⟨(ad.add (q * 4)).block, (ad.add (q * 4)).off + 1, none⟩ = some (.int .i64 (M.views q).epoch) := cell_below HE.out.2.1 kb; have e2 : W.cell? ⟨(ad.add (q * 4)).block, (ad.add (q * 4)).off + 2, none⟩ = some (.int .i64 (M.views q).version) := cell_below HE.out.2.2.1 kb; have e3 : W.cell? ⟨(ad.add (q * 4)).block, (ad.add (q * 4)).off + 3, none⟩ = some (.slice As (M.views q).isr.length ks) := cell_below HE.out.2.2.2 kb; clear kl kb
          (go_simp; try with_reducible rfl)
        simp only [List.setIfInBounds_toArray, List.set_cons_zero, List.set_cons_succ]
        refine wpAnyH_takeAt (i := 4) (d := 60) (v := ?vq19x) rfl rfl (by kernel_rfl) (by kernel_rfl) (by kernel_rfl) (fun _ _ _ h => h) (Or.inl ⟨by rfl, ?hyq19x⟩) hHeld ?_
        case hyq19x =>
          intro W hSw
          clear hSw
          (go_simp; try with_reducible rfl)
        simp only [List.setIfInBounds_toArray, List.set_cons_zero, List.set_cons_succ]
        refine wpAnyH_takeAt (i := 5) (d := 61) (v := ?vq20x) rfl rfl (by kernel_rfl) (by kernel_rfl) (by kernel_rfl) (fun _ _ _ h => h) (Or.inl ⟨by rfl, ?hyq20x⟩) hHeld ?_
        case hyq20x =>
          intro W hSw
          obtain ⟨kl, kb⟩ := hSw; have q0 : W.cell? ⟨lx, 0, none⟩ = some (.int .i64 (M.views q).leader) := kl.cell 0; have q1 : W.cell? ⟨lx, 1, none⟩ = some (.int .i64 (M.views q).epoch) := kl.cell 1; have q2 : W.cell? ⟨lx, 2, none⟩ = some (.int .i64 (M.views q).version) := kl.cell 2; have q3 : W.cell? ⟨lx, 3, none⟩ = some (.slice A9 (M.views q).isr.length k9) := kl.cell 3; have s5 : W.cell? ⟨w.heap.size, 4, none⟩ = some (.slice (some ad) M.np c2) := (HX3.out.below kb HX3.out.lt).cell 4; have e0 : W.cell? (ad.add (q * 4)) = some (.int .i64 (M.views q).leader) := cell_below HE.out.1 kb; have e1 : W.cell? ⟨(ad.add (q * 4)).block, (ad.add (q * 4)).off + 1, none⟩ = some (.int .i64 (M.views q).epoch) := cell_below HE.out.2.1 kb; have e2 : W.cell? ⟨(ad.add (q * 4)).block, (ad.add (q * 4)).off + 2, none⟩ = some (.int .i64 (M.views q).version) := cell_below HE.out.2.2.1 kb; have e3 : W.cell? ⟨(ad.add (q * 4)).block, (ad.add (q * 4)).off + 3, none⟩ = some (.slice As (M.views q).isr.length ks) := cell_below HE.out.2.2.2 kb; clear kl kb
          (go_simp; try with_reducible rfl)
        simp only [List.setIfInBounds_toArray, List.set_cons_zero, List.set_cons_succ]
        refine wpAnyH_takeAt (i := 6) (d := 62) (v := ?vq21x) rfl rfl (by kernel_rfl) (by kernel_rfl) (by kernel_rfl) (fun _ _ _ h => h) (Or.inl ⟨by rfl, ?hyq21x⟩) hHeld ?_
        case hyq21x =>
          intro W hSw
          clear hSw
          (go_simp; try with_reducible rfl)
        simp only [List.setIfInBounds_toArray, List.set_cons_zero, List.set_cons_succ]
        refine wpAnyH_takeAt (i := 7) (d := 63) (v := ?vq22x) rfl rfl (by kernel_rfl) (by kernel_rfl) (by kernel_rfl) (fun _ _ _ h => h) (Or.inl ⟨by rfl, ?hyq22x⟩) hHeld ?_
        case hyq22x =>
          intro W hSw
          clear hSw
          (go_simp; try with_reducible rfl)
        simp only [List.setIfInBounds_toArray, List.set_cons_zero, List.set_cons_succ]
        refine wpAnyH_takeAt (i := 8) (d := 64) (v := ?vq23x) rfl rfl (by kernel_rfl) (by kernel_rfl) (by kernel_rfl) (fun _ _ _ h => h) (Or.inl ⟨by rfl, ?hyq23x⟩) hHeld ?_
        case hyq23x =>
          intro W hSw
          obtain ⟨kl, kb⟩ := hSw; have q0 : W.cell? ⟨lx, 0, none⟩ = some (.int .i64 (M.views q).leader) := kl.cell 0; have q1 : W.cell? ⟨lx, 1, none⟩ = some (.int .i64 (M.views q).epoch) := kl.cell 1; have q2 : W.cell? ⟨lx, 2, none⟩ = some (.int .i64 (M.views q).version) := kl.cell 2; have q3 : W.cell? ⟨lx, 3, none⟩ = some (.slice A9 (M.views q).isr.length k9) := kl.cell 3; have s5 : W.cell? ⟨w.heap.size, 4, none⟩ = some (.slice (some ad) M.np c2) := (HX3.out.below kb HX3.out.lt).cell 4; have e0 : W.cell? (ad.add (q * 4)) = some (.int .i64 (M.views q).leader) := cell_below HE.out.1 kb; have e1 : W.cell? ⟨(ad.add (q * 4)).block, (ad.add (q * 4)).off + 1, none⟩ = some (.int .i64 (M.views q).epoch) := cell_below HE.out.2.1 kb; have e2 : W.cell? ⟨(ad.add (q * 4)).block, (ad.add (q * 4)).off + 2, none⟩ = some (.int .i64 (M.views q).version) := cell_below HE.out.2.2.1 kb; have e3 : W.cell? ⟨(ad.add (q * 4)).block, (ad.add (q * 4)).off + 3, none⟩ = some (.slice As (M.views q).isr.length ks) := cell_below HE.out.2.2.2 kb; clear kl kb
          (go_simp; try with_reducible rfl)
        simp only [List.setIfInBounds_toArray, List.set_cons_zero, List.set_cons_succ]
        refine wpAnyH_ready (rs := [9]) (by kernel_rfl) (by simp) (AllReadyH.cons rfl (fun K hK => ?_) AllReadyH.nil)
        go_simp
        have hsm := sameView_any (X := No) (Y := S) (V := M.views q) (U := M.views q) (s1 := .slice A9 (M.views q).isr.length k9) (s2 := .slice As (M.views q).isr.length ks) ⟨A9, k9, rfl, HV9.out.below hHeld.2⟩ ⟨As, ks, rfl, HS9.out.below hHeld.2⟩ HLE.out HLE.out
        rw [decide_eq_true (⟨rfl, rfl, rfl, rfl⟩)] at hsm
        refine hsm.mono ?_
        rintro r V1 ⟨rfl, hb1⟩
        dsimp only
        have hHeld2 : (fun W => Blk W lx 47 #[.int .i64 (M.views q).leader, .int .i64 (M.views q).epoch, .int .i64 (M.views q).version, .slice A9 (M.views q).isr.length k9] ∧ Below w3.heap.size w3 W) V1 := ⟨hHeld.1.below hb1 hHeld.1.lt, hHeld.2.trans (hb1.mono hHeld.2.size)⟩
        refine hK.out _ _ hHeld2 (fun hHeld => ?_)
        clear hK K hb1 hsm hHeld2
        try simp only [List.setIfInBounds_toArray, List.set_cons_zero, List.set_cons_succ]
        refine wpAnyH_takeAt (i := 10) (d := 66) (v := ?vq24x) rfl rfl (by kernel_rfl) (by kernel_rfl) (by kernel_rfl) (fun _ _ _ h => h) (Or.inl ⟨by rfl, ?hyq24x⟩) hHeld ?_
        case hyq24x =>
          intro W hSw
          clear hSw
          (go_simp; try with_reducible rfl)
        simp only [List.setIfInBounds_toArray, List.set_cons_zero, List.set_cons_succ]
        refine wpAnyH_takeAt (i := 11) (d := 67) (v := ?vq25x) rfl rfl (by kernel_rfl) (by kernel_rfl) (by kernel_rfl) (fun _ _ _ h => h) (Or.inl ⟨by rfl, ?hyq25x⟩) hHeld ?_
        case hyq25x =>
          intro W hSw
          clear hSw
          (go_simp; try with_reducible rfl)
        simp only [List.setIfInBounds_toArray, List.set_cons_zero, List.set_cons_succ]
        refine wpAnyH_done (by kernel_rfl) ?_ _
        have HN := Lib.hid (HW3.out.trans (hHeld.2.mono HW3.out.size))
        clear hHeld
        go_wp2_with fail
        go_round
        case rel => exact ⟨q + 1, by omega, by go_num, HN⟩
        case measure => simp [iOf]; omega
      case neg =>
      have hd1 : decide (q < M.np) = false := decide_eq_false hlt
      clear hlt hq
      go_wp2_with fail
      go_loopw [11] (fun i wv => ∃ q : Nat, q ≤ M.ni ∧ i = .int .i64 q ∧ Hid (Below w2.heap.size w2 wv)) (fun i _ => M.ni - (iOf i).toNat)
      case atStart => exact ⟨0, by omega, rfl, HW⟩
      case round =>
        clear HW
        obtain ⟨q, hq, rfl, HW⟩ := hrel
        have hX := HX.out.below HW.out HX.out.lt
        have b0 : wr.cell? ⟨w.heap.size, 0, none⟩ = some (.int .i64 (M.nb : Int)) := hX.cell 0
        have b1 : wr.cell? ⟨w.heap.size, 1, none⟩ = some (.int .i64 (M.np : Int)) := hX.cell 1
        have b2 : wr.cell? ⟨w.heap.size, 2, none⟩ = some (.int .i64 (M.ni : Int)) := hX.cell 2
        clear hX
        by_cases hlt : q < M.ni
        case pos =>
          have hd1 : decide (q < M.ni) = true := decide_eq_true hlt
          have hcl := writing_any (HM.out.below HW.out) HK.out.nb.1 HK.out.ni.2 (fun p hp => by have h1 := (HK.out.wr p hp).len; have h2 := HK.out.np; omega) (q : Int)
          have HLT := Lib.hid hlt
          go_wp2_with fail
          refine hcl.mono ?_
          rintro r w9 ⟨-, hb9, h9⟩
          rcases h9 with ⟨h9, -⟩ | ⟨q', v9, e9, -, rfl, ho9, -⟩
          · omega
          obtain rfl : q = q' := by omega
          obtain ⟨A9, k9, rfl, -⟩ := ints_form ho9
          have HW9 := Lib.hid (HW.out.trans (hb9.mono HW.out.size))
          have HO9 := Lib.hid ho9
          clear hcl hb9 e9 ho9 b0 b1 b2
          go_wp2_with (with_reducible refine at_store 55 rfl ?_)
          refine Stop.go (wpList_store_blk (by rfl) (by rfl) 55 _ _ (by rfl) w9.heap.size _ #[.int .i64 (M.wrs q).session, .int .i64 (M.wrs q).num, .int .i64 (M.wrs q).state, .slice A9 (M.wrs q).parts.length k9, .int .i64 (M.wrs q).offset, .int .i64 (M.wrs q).next] (by rfl) (by rfl) 55 (Blk.new w9 55 #[.int .i64 0, .int .i64 0, .int .i64 0, .slice none 0 0, .int .i64 0, .int .i64 0]) (by rfl) (by kernel_rfl) (by simp [Value.oneCell']) ?_)
          intro w3 hB3 hg3 hs3
          have hal3 : Below w9.heap.size w9 w3 := below_grown ((Below.refl w9.heap.size w9).alloc (Nat.le_refl _) (.cells #[.int .i64 0, .int .i64 0, .int .i64 0, .slice none 0 0, .int .i64 0, .int .i64 0] 55)) hg3 (Nat.le_refl _) (Nat.le_refl _)
          have HW3 := Lib.hid (HW9.out.trans (hal3.mono HW9.out.size))
          have HL3 := Lib.hid hB3
          have HV9 := Lib.hid ((HO9.out.below hal3).rd (X := No) (fun _ _ e => e))
          have HX3 := Lib.hid (HX.out.below HW3.out HX.out.lt)
          have hR3 := HR.out.below HW3.out
          obtain ⟨ad, eA, v0, v1, v2, v3, v4, v5⟩ := hR3.wrCells HLT.out
          obtain ⟨As, ks, es, hrs⟩ := hR3.wl q HLT.out
          rw [es] at v3
          subst eA
          have HS9 := Lib.hid hrs
          have HE := Lib.hid (And.intro v0 (And.intro v1 (And.intro v2 (And.intro v3 (And.intro v4 v5)))))
          have HLE : Hid ((M.wrs q).parts.length ≤ 1000000) := Lib.hid (by have h1 := (HK.out.wr q HLT.out).len; have h2 := HK.out.nb; have h3 := HK.out.np; omega)
          clear hB3 hg3 hs3 hal3 hR3 hrs es v0 v1 v2 v3 v4 v5
          generalize w9.heap.size = lx at *
          go_upto_region 19 with fail
          refine wp_region_np ?_
          refine wp_region_held_drew (S := fun W => Blk W lx 55 #[.int .i64 (M.wrs q).session, .int .i64 (M.wrs q).num, .int .i64 (M.wrs q).state, .slice A9 (M.wrs q).parts.length k9, .int .i64 (M.wrs q).offset, .int .i64 (M.wrs q).next] ∧ Below w3.heap.size w3 W) (by kernel_rfl) (show (fun W => Blk W lx 55 #[.int .i64 (M.wrs q).session, .int .i64 (M.wrs q).num, .int .i64 (M.wrs q).state, .slice A9 (M.wrs q).parts.length k9, .int .i64 (M.wrs q).offset, .int .i64 (M.wrs q).next] ∧ Below w3.heap.size w3 W) w3.drew from ⟨HL3.out.drew, (Below.refl _ _).drew⟩) (fun hHeld => ?_)
          generalize hv0 : w3.drew = V0 at *
          clear hv0
          refine wpAnyH_takeAt (i := 0) (d := 81) (v := ?vq4x) rfl rfl (by kernel_rfl) (by kernel_rfl) (by kernel_rfl) (fun _ _ _ h => h) (Or.inl ⟨by rfl, ?hyq4x⟩) hHeld ?_
          case hyq4x =>
            intro W hSw
            clear hSw
            (go_simp; try with_reducible rfl)
          simp only [List.setIfInBounds_toArray, List.set_cons_zero, List.set_cons_succ]
          refine wpAnyH_takeAt (i := 1) (d := 82) (v := ?vq5x) rfl rfl (by kernel_rfl) (by kernel_rfl) (by kernel_rfl) (fun _ _ _ h => h) (Or.inl ⟨by rfl, ?hyq5x⟩) hHeld ?_
          case hyq5x =>
            intro W hSw
            clear hSw
            (go_simp; try with_reducible rfl)
          simp only [List.setIfInBounds_toArray, List.set_cons_zero, List.set_cons_succ]
          refine wpAnyH_takeAt (i := 2) (d := 83) (v := ?vq6x) rfl rfl (by kernel_rfl) (by kernel_rfl) (by kernel_rfl) (fun _ _ _ h => h) (Or.inl ⟨by rfl, ?hyq6x⟩) hHeld ?_
          case hyq6x =>
            intro W hSw
            clear hSw
            (go_simp; try with_reducible rfl)
          simp only [List.setIfInBounds_toArray, List.set_cons_zero, List.set_cons_succ]
          refine wpAnyH_takeAt (i := 3) (d := 84) (v := ?vq7x) rfl rfl (by kernel_rfl) (by kernel_rfl) (by kernel_rfl) (fun _ _ _ h => h) (Or.inl ⟨by rfl, ?hyq7x⟩) hHeld ?_
          case hyq7x =>
            intro W hSw
            obtain ⟨kl, kb⟩ := hSw; have q0 : W.cell? ⟨lx, 0, none⟩ = some (.int .i64 (M.wrs q).session) := kl.cell 0; have q1 : W.cell? ⟨lx, 1, none⟩ = some (.int .i64 (M.wrs q).num) := kl.cell 1; have q2 : W.cell? ⟨lx, 2, none⟩ = some (.int .i64 (M.wrs q).state) := kl.cell 2; have q3 : W.cell? ⟨lx, 3, none⟩ = some (.slice A9 (M.wrs q).parts.length k9) := kl.cell 3; have q4 : W.cell? ⟨lx, 4, none⟩ = some (.int .i64 (M.wrs q).offset) := kl.cell 4; have q5 : W.cell? ⟨lx, 5, none⟩ = some (.int .i64 (M.wrs q).next) := kl.cell 5; have s5 : W.cell? ⟨w.heap.size, 5, none⟩ = some (.slice (some ad) M.ni c3) := (HX3.out.below kb HX3.out.lt).cell 5; have e0 : W.cell? (ad.add (q * 6)) = some (.int .i64 (M.wrs q).session) := cell_below HE.out.1 kb; have e1 : W.cell? ⟨(ad.add (q * 6)).block, (ad.add (q * 6)).off + 1, none⟩ = some (.int .i64 (M.wrs q).num) := cell_below HE.out.2.1 kb; have e2 : W.cell? ⟨(ad.add (q * 6)).block, (ad.add (q * 6)).off + 2, none⟩ = some (.int .i64 (M.wrs q).state) := cell_below HE.out.2.2.1 kb; have e3 : W.cell? ⟨(ad.add (q * 6)).block, (ad.add (q * 6)).off + 3, none⟩ = some (.slice As (M.wrs q).parts.length ks) := cell_below HE.out.2.2.2.1 kb; have e4 : W.cell? ⟨(ad.add (q * 6)).block, (ad.add (q * 6)).off + 4, none⟩ = some (.int .i64 (M.wrs q).offset) := cell_below HE.out.2.2.2.2.1 kb; have e5 : W.cell? ⟨(ad.add (q * 6)).block, (ad.add (q * 6)).off + 5, none⟩ = some (.int .i64 (M.wrs q).next) := cell_below HE.out.2.2.2.2.2 kb; clear kl kb
            (go_simp; try with_reducible rfl)
          simp only [List.setIfInBounds_toArray, List.set_cons_zero, List.set_cons_succ]
          refine wpAnyH_takeAt (i := 4) (d := 85) (v := ?vq8x) rfl rfl (by kernel_rfl) (by kernel_rfl) (by kernel_rfl) (fun _ _ _ h => h) (Or.inl ⟨by rfl, ?hyq8x⟩) hHeld ?_
          case hyq8x =>
            intro W hSw
            clear hSw
            (go_simp; try with_reducible rfl)
          simp only [List.setIfInBounds_toArray, List.set_cons_zero, List.set_cons_succ]
          refine wpAnyH_takeAt (i := 5) (d := 86) (v := ?vq9x) rfl rfl (by kernel_rfl) (by kernel_rfl) (by kernel_rfl) (fun _ _ _ h => h) (Or.inl ⟨by rfl, ?hyq9x⟩) hHeld ?_
          case hyq9x =>
            intro W hSw
            obtain ⟨kl, kb⟩ := hSw; have q0 : W.cell? ⟨lx, 0, none⟩ = some (.int .i64 (M.wrs q).session) := kl.cell 0; have q1 : W.cell? ⟨lx, 1, none⟩ = some (.int .i64 (M.wrs q).num) := kl.cell 1; have q2 : W.cell? ⟨lx, 2, none⟩ = some (.int .i64 (M.wrs q).state) := kl.cell 2; have q3 : W.cell? ⟨lx, 3, none⟩ = some (.slice A9 (M.wrs q).parts.length k9) := kl.cell 3; have q4 : W.cell? ⟨lx, 4, none⟩ = some (.int .i64 (M.wrs q).offset) := kl.cell 4; have q5 : W.cell? ⟨lx, 5, none⟩ = some (.int .i64 (M.wrs q).next) := kl.cell 5; have s5 : W.cell? ⟨w.heap.size, 5, none⟩ = some (.slice (some ad) M.ni c3) := (HX3.out.below kb HX3.out.lt).cell 5; have e0 : W.cell? (ad.add (q * 6)) = some (.int .i64 (M.wrs q).session) := cell_below HE.out.1 kb; have e1 : W.cell? ⟨(ad.add (q * 6)).block, (ad.add (q * 6)).off + 1, none⟩ = some (.int .i64 (M.wrs q).num) := cell_below HE.out.2.1 kb; have e2 : W.cell? ⟨(ad.add (q * 6)).block, (ad.add (q * 6)).off + 2, none⟩ = some (.int .i64 (M.wrs q).state) := cell_below HE.out.2.2.1 kb; have e3 : W.cell? ⟨(ad.add (q * 6)).block, (ad.add (q * 6)).off + 3, none⟩ = some (.slice As (M.wrs q).parts.length ks) := cell_below HE.out.2.2.2.1 kb; have e4 : W.cell? ⟨(ad.add (q * 6)).block, (ad.add (q * 6)).off + 4, none⟩ = some (.int .i64 (M.wrs q).offset) := cell_below HE.out.2.2.2.2.1 kb; have e5 : W.cell? ⟨(ad.add (q * 6)).block, (ad.add (q * 6)).off + 5, none⟩ = some (.int .i64 (M.wrs q).next) := cell_below HE.out.2.2.2.2.2 kb; clear kl kb
            (go_simp; try with_reducible rfl)
          simp only [List.setIfInBounds_toArray, List.set_cons_zero, List.set_cons_succ]
          refine wpAnyH_takeAt (i := 6) (d := 87) (v := ?vq10x) rfl rfl (by kernel_rfl) (by kernel_rfl) (by kernel_rfl) (fun _ _ _ h => h) (Or.inl ⟨by rfl, ?hyq10x⟩) hHeld ?_
          case hyq10x =>
            intro W hSw
            clear hSw
            (go_simp; try with_reducible rfl)
          simp only [List.setIfInBounds_toArray, List.set_cons_zero, List.set_cons_succ]
          refine wpAnyH_takeAt (i := 7) (d := 88) (v := ?vq11x) rfl rfl (by kernel_rfl) (by kernel_rfl) (by kernel_rfl) (fun _ _ _ h => h) (Or.inl ⟨by rfl, ?hyq11x⟩) hHeld ?_
          case hyq11x =>
            intro W hSw
            clear hSw
            (go_simp; try with_reducible rfl)
          simp only [List.setIfInBounds_toArray, List.set_cons_zero, List.set_cons_succ]
          refine wpAnyH_takeAt (i := 8) (d := 89) (v := ?vq12x) rfl rfl (by kernel_rfl) (by kernel_rfl) (by kernel_rfl) (fun _ _ _ h => h) (Or.inl ⟨by rfl, ?hyq12x⟩) hHeld ?_
          case hyq12x =>
            intro W hSw
            obtain ⟨kl, kb⟩ := hSw; have q0 : W.cell? ⟨lx, 0, none⟩ = some (.int .i64 (M.wrs q).session) := kl.cell 0; have q1 : W.cell? ⟨lx, 1, none⟩ = some (.int .i64 (M.wrs q).num) := kl.cell 1; have q2 : W.cell? ⟨lx, 2, none⟩ = some (.int .i64 (M.wrs q).state) := kl.cell 2; have q3 : W.cell? ⟨lx, 3, none⟩ = some (.slice A9 (M.wrs q).parts.length k9) := kl.cell 3; have q4 : W.cell? ⟨lx, 4, none⟩ = some (.int .i64 (M.wrs q).offset) := kl.cell 4; have q5 : W.cell? ⟨lx, 5, none⟩ = some (.int .i64 (M.wrs q).next) := kl.cell 5; have s5 : W.cell? ⟨w.heap.size, 5, none⟩ = some (.slice (some ad) M.ni c3) := (HX3.out.below kb HX3.out.lt).cell 5; have e0 : W.cell? (ad.add (q * 6)) = some (.int .i64 (M.wrs q).session) := cell_below HE.out.1 kb; have e1 : W.cell? ⟨(ad.add (q * 6)).block, (ad.add (q * 6)).off + 1, none⟩ = some (.int .i64 (M.wrs q).num) := cell_below HE.out.2.1 kb; have e2 : W.cell? ⟨(ad.add (q * 6)).block, (ad.add (q * 6)).off + 2, none⟩ = some (.int .i64 (M.wrs q).state) := cell_below HE.out.2.2.1 kb; have e3 : W.cell? ⟨(ad.add (q * 6)).block, (ad.add (q * 6)).off + 3, none⟩ = some (.slice As (M.wrs q).parts.length ks) := cell_below HE.out.2.2.2.1 kb; have e4 : W.cell? ⟨(ad.add (q * 6)).block, (ad.add (q * 6)).off + 4, none⟩ = some (.int .i64 (M.wrs q).offset) := cell_below HE.out.2.2.2.2.1 kb; have e5 : W.cell? ⟨(ad.add (q * 6)).block, (ad.add (q * 6)).off + 5, none⟩ = some (.int .i64 (M.wrs q).next) := cell_below HE.out.2.2.2.2.2 kb; clear kl kb
            (go_simp; try with_reducible rfl)
          simp only [List.setIfInBounds_toArray, List.set_cons_zero, List.set_cons_succ]
          refine wpAnyH_ready (rs := [9]) (by kernel_rfl) (by simp) (AllReadyH.cons rfl (fun K hK => ?_) AllReadyH.nil)
          go_simp
          have hsm := sameWriting_any (X := No) (Y := S) (V := M.wrs q) (U := M.wrs q) (s1 := .slice A9 (M.wrs q).parts.length k9) (s2 := .slice As (M.wrs q).parts.length ks) ⟨A9, k9, rfl, HV9.out.below hHeld.2⟩ ⟨As, ks, rfl, HS9.out.below hHeld.2⟩ HLE.out HLE.out
          rw [decide_eq_true (⟨rfl, rfl, rfl, rfl, rfl, rfl⟩)] at hsm
          refine hsm.mono ?_
          rintro r V1 ⟨rfl, hb1⟩
          dsimp only
          have hHeld2 : (fun W => Blk W lx 55 #[.int .i64 (M.wrs q).session, .int .i64 (M.wrs q).num, .int .i64 (M.wrs q).state, .slice A9 (M.wrs q).parts.length k9, .int .i64 (M.wrs q).offset, .int .i64 (M.wrs q).next] ∧ Below w3.heap.size w3 W) V1 := ⟨hHeld.1.below hb1 hHeld.1.lt, hHeld.2.trans (hb1.mono hHeld.2.size)⟩
          refine hK.out _ _ hHeld2 (fun hHeld => ?_)
          clear hK K hb1 hsm hHeld2
          try simp only [List.setIfInBounds_toArray, List.set_cons_zero, List.set_cons_succ]
          refine wpAnyH_takeAt (i := 10) (d := 91) (v := ?vq13x) rfl rfl (by kernel_rfl) (by kernel_rfl) (by kernel_rfl) (fun _ _ _ h => h) (Or.inl ⟨by rfl, ?hyq13x⟩) hHeld ?_
          case hyq13x =>
            intro W hSw
            clear hSw
            (go_simp; try with_reducible rfl)
          simp only [List.setIfInBounds_toArray, List.set_cons_zero, List.set_cons_succ]
          refine wpAnyH_takeAt (i := 11) (d := 92) (v := ?vq14x) rfl rfl (by kernel_rfl) (by kernel_rfl) (by kernel_rfl) (fun _ _ _ h => h) (Or.inl ⟨by rfl, ?hyq14x⟩) hHeld ?_
          case hyq14x =>
            intro W hSw
            clear hSw
            (go_simp; try with_reducible rfl)
          simp only [List.setIfInBounds_toArray, List.set_cons_zero, List.set_cons_succ]
          refine wpAnyH_done (by kernel_rfl) ?_ _
          have HN := Lib.hid (HW3.out.trans (hHeld.2.mono HW3.out.size))
          clear hHeld
          go_wp2_with fail
          go_round
          case rel => exact ⟨q + 1, by omega, by go_num, HN⟩
          case measure => simp [iOf]; omega
        case neg =>
        have hd1 : decide (q < M.ni) = false := decide_eq_false hlt
        clear hlt hq
        go_wp2_with fail
        go_ret
        exact ⟨rfl, HB.out.trans (HW.out.mono HB.out.size)⟩
/-- The acts of a list, in memory. -/
structure ActR (w : World) (X : Nat → Prop) (A : Option Addr) (l : List (Ac × List Int)) : Prop where
  row : ∃ rs : Nat → Value, Rd w X 8 A l.length (rowsOf l.length fun i => match l[i]? with | some x => aArr x.1 (rs i) | none => #[]) ∧ ∀ (i : Nat) (x : Ac × List Int), l[i]? = some x → IsR w X (rs i) x.2
theorem ActR.keep {w w' : World} {X S : Nat → Prop} {A : Option Addr} {l : List (Ac × List Int)} (h : ActR w X A l) (ht : Turn S w w') (hS : ∀ b, b < w.heap.size → S b → X b) : ActR w' X A l := by
  obtain ⟨rs, h1, h2⟩ := h.row
  exact ⟨⟨rs, h1.keep ht hS, fun i x hx => (h2 i x hx).keep ht hS⟩⟩
theorem ActR.wide {w : World} {X Y : Nat → Prop} {A : Option Addr} {l : List (Ac × List Int)} (h : ActR w X A l) (hX : ∀ b, b < w.heap.size → Y b → X b) : ActR w Y A l := by
  obtain ⟨rs, h1, h2⟩ := h.row
  exact ⟨⟨rs, h1.wide hX, fun i x hx => (h2 i x hx).wide hX⟩⟩
theorem ActR.below {w w' : World} {X : Nat → Prop} {A : Option Addr} {l : List (Ac × List Int)} (h : ActR w X A l) (hb : Below w.heap.size w w') : ActR w' X A l := h.keep (S := No) (Turn.of_below hb No) (fun _ _ e => e.elim)
theorem ActR.at_ {w : World} {X : Nat → Prop} {A : Option Addr} {l : List (Ac × List Int)} (h : ActR w X A l) {i : Nat} {x : Ac × List Int} (hx : l[i]? = some x) : ∃ ad L lk, A = some ad ∧ Rd w X 1 L x.2.length (intsOf x.2) ∧ w.cell? (ad.add (i * 8)) = some (.int .i64 x.1.kind) ∧ w.cell? ⟨(ad.add (i * 8)).block, (ad.add (i * 8)).off + 1, none⟩ = some (.int .i64 x.1.a) ∧ w.cell? ⟨(ad.add (i * 8)).block, (ad.add (i * 8)).off + 2, none⟩ = some (.int .i64 x.1.b) ∧ w.cell? ⟨(ad.add (i * 8)).block, (ad.add (i * 8)).off + 3, none⟩ = some (.int .i64 x.1.n) ∧ w.cell? ⟨(ad.add (i * 8)).block, (ad.add (i * 8)).off + 4, none⟩ = some (.int .i64 x.1.o) ∧ w.cell? ⟨(ad.add (i * 8)).block, (ad.add (i * 8)).off + 5, none⟩ = some (.bool x.1.flag) ∧ w.cell? ⟨(ad.add (i * 8)).block, (ad.add (i * 8)).off + 6, none⟩ = some (.bool x.1.near) ∧ w.cell? ⟨(ad.add (i * 8)).block, (ad.add (i * 8)).off + 7, none⟩ = some (.slice L x.2.length lk) := by
  obtain ⟨rs, h1, h2⟩ := h.row
  have hi := (List.getElem?_eq_some_iff.1 hx).1
  have hr := rowsOf_at (fun i => match l[i]? with | some x => aArr x.1 (rs i) | none => #[]) hi
  simp only [hx] at hr
  obtain ⟨L, lk, e, h3⟩ := h2 i x hx
  rw [e] at hr
  obtain ⟨ad, e1, -, -, k0, k1⟩ := h1.load hr
  exact ⟨ad, L, lk, e1, h3, k0 _ rfl, k1 0 _ rfl, k1 1 _ rfl, k1 2 _ rfl, k1 3 _ rfl, k1 4 _ rfl, k1 5 _ rfl, k1 6 _ rfl⟩
/-- Is one of them large? -/
def largeA (l : List (Ac × List Int)) : Bool := l.any fun x => decide (20 < x.2.length)
set_option maxRecDepth 100000 in
set_option maxHeartbeats 4000000 in
theorem large12_any {A : Option Addr} {X : Nat → Prop} {l : List (Ac × List Int)} {c : Nat} (h : ActR w X A l) (hn : l.length ≤ 9223372036854775806) : Calls Tryz.prog 12 #[.slice A l.length c] w fun r w' => r = .returned (.bool (largeA l)) ∧ w' = w := by
  have HA := Lib.hid h
  obtain ⟨n, hln⟩ : ∃ n, l.length = n := ⟨_, rfl⟩
  have HLN := Lib.hid hln
  rw [hln] at hn ⊢
  clear h hln
  go_enter Tryz.func12, Tryz.ntmps12
  go_wp2_with fail
  go_loopw [3] (fun i wv => ∃ q : Nat, q ≤ n ∧ i = .int .i64 q ∧ wv = w ∧ Hid (∀ (j : Nat) (x : Ac × List Int), j < q → l[j]? = some x → ¬ 20 < x.2.length)) (fun i _ => n - (iOf i).toNat)
  case atStart => exact ⟨0, by omega, rfl, rfl, Lib.hid (fun j x hj => by omega)⟩
  case round =>
    obtain ⟨q, hq, rfl, rfl, HNO⟩ := hrel
    by_cases hlt : q < n
    case neg =>
      have hd1 : decide (q < n) = false := decide_eq_false hlt
      have HF : Hid (largeA l = false) := Lib.hid (by
        unfold largeA
        rw [List.any_eq_false]
        intro x hx
        obtain ⟨j, hj⟩ := List.mem_iff_getElem?.1 hx
        have := HNO.out j x (by have := (List.getElem?_eq_some_iff.1 hj).1; have := HLN.out; omega) hj
        simpa using this)
      clear hlt
      go_wp2_with fail
      go_ret
      exact ⟨by rw [HF.out]; rfl, rfl⟩
    case pos =>
    have hd1 : decide (q < n) = true := decide_eq_true hlt
    obtain ⟨x, hx⟩ : ∃ x, l[q]? = some x := ⟨_, List.getElem?_eq_getElem (by have := HLN.out; omega)⟩
    obtain ⟨ad, L, lk, e1, -, -, -, -, -, -, -, -, k7⟩ := HA.out.at_ hx
    subst e1
    by_cases hl : 20 < x.2.length
    case pos =>
      have d2 : decide (20 < x.2.length) = true := decide_eq_true hl
      have d3 : decide ((20 : Int) < (x.2.length : Int)) = true := decide_eq_true (by omega)
      have HF : Hid (largeA l = true) := Lib.hid (by
        unfold largeA
        rw [List.any_eq_true]
        exact ⟨x, List.mem_iff_getElem?.2 ⟨q, hx⟩, d2⟩)
      clear hx hl
      go_wp2_with fail
      go_ret
      exact ⟨by rw [HF.out]; rfl, rfl⟩
    case neg =>
    have d2 : decide (20 < x.2.length) = false := decide_eq_false hl
    have d3 : decide ((20 : Int) < (x.2.length : Int)) = false := decide_eq_false (by omega)
    have HNO2 : Hid (∀ (j : Nat) (z : Ac × List Int), j < q + 1 → l[j]? = some z → ¬ 20 < z.2.length) := Lib.hid (fun j z hj e => by
      by_cases hjk : j < q
      · exact HNO.out j z hjk e
      · obtain rfl : j = q := by omega
        rw [hx] at e
        injection e with e
        rw [← e]
        exact hl)
    clear hx hl
    go_wp2_with fail
    go_round
    case rel => exact ⟨q + 1, by omega, by go_num, (by first | rfl | trivial), HNO2⟩
    case measure => simp [iOf]; omega
end
end Go.Proofs.YtpmdicbhliclcaaGreat
