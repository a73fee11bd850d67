/-
  What is stable and visible of the first entries of any log: by the program as by the document. For every input.
-/
import Derived.Test.YthcphoijanebhaaDoorWhole9
import Derived.Test.YthcphoijanebhaaDoorOpen
import Derived.Test.YthcphoijanebhaaDoorLaid9
import Derived.Test.YthcphoijanebhaaDoorRows
import Derived.Test.YthcphoijanebhaaDoorTie
import Derived.Test.YthcphoijanebhaaDoorCards
import Derived.WalkKit
import Derived.ProofKit
import Derived.OpenShut
import Derived.ShutString
import Derived.ChangeOld
import Derived.Below
import Derived.SevenTiedAt
namespace Go.Proofs.YthcphoijanebhaaDoor.visibleViews
open Go.ChangeShapes Go.WideShapes Go.ChangeAt Go.RowKit Go.Maps
set_option linter.unusedVariables false
theorem own : ownKnob Tryd.prog.godebug = none := by kernel_rfl
theorem laidOut : laidOutB Tryd.prog = true := by kernel_rfl
set_option maxHeartbeats 4000000 in
set_option maxRecDepth 100000 in
theorem walk (a0 : Option Addr) (len0 cap0 : Nat) (l0 : List Ent) (n1 : Int) (w : World) (b0 : Rd w No 6 a0 len0 (cellsOf l0)) (hc0 : len0 ≤ cap0) (hm0 : cap0 ≤ maxLen) (he0 : ∀ e ∈ l0, In64P e.key) (hN : Nob w) :
    Calls Tryd.prog 3 #[.slice a0 len0 cap0, .int .i64 n1] w fun e w' => e = .returned (.bool true) ∧ Below w.heap.size w w' := by
  have HN := Lib.hid hN
  have HR := Lib.hid b0
  have HL := Lib.hid b0.lenE
  clear hN b0 he0 hm0
  by_cases h60 : 60 < len0
  · have d1 : decide ((60 : Int) < (len0 : Int)) = true := decide_eq_true (by omega)
    clear h60
    go_enter Tryd.func3, Tryd.ntmps3
    go_wp2_with fail
    refine (works_any HN.out).mono ?_
    rintro r w1 ⟨rfl, hb⟩
    have HB := Lib.hid hb
    clear hb
    go_wp2_with fail
    go_ret
    exact ⟨rfl, HB.out⟩
  have d1 : decide ((60 : Int) < (len0 : Int)) = false := decide_eq_false (by omega)
  have hle : len0 ≤ 60 := by omega
  clear h60
  go_enter Tryd.func3, Tryd.ntmps3
  go_wp2_with (at_builtin; refine stop ?_)
  have hba := (Below.refl w.heap.size w).alloc (Nat.le_refl _) (.cells #[] 45)
  refine Stop.go (wpList_append_k el22 _ (by rfl) _ _ (by rfl) (.slice (some ⟨w.heap.size, 0, none⟩) 0 0) [] (by rfl) (OwnK.made w) No a0 len0 cap0 (cellsOf l0) (by rfl) (HR.out.below hba) (by simp) (by omega) ?_)
  intro v1 w1 ho hg
  have HB1 := Lib.hid (hba.trans (made_below hg))
  rw [List.nil_append] at ho
  obtain ⟨A1, q1, c1, rfl, hq1, hc1, -⟩ := ho.form
  obtain rfl : len0 = q1 := by rw [hq1]; have := HL.out; simpa [cellsOf] using this.symm
  have HO := Lib.hid ho
  clear ho hg hba hq1
  have hv := View_any (c := c1) (HO.out.rd (X := No) (fun _ _ h => h)) (by omega) (HN.out.low HB1.out) n1
  go_wp2_with fail
  refine hv.mono ?_
  rintro r w2 ⟨hb2, hP⟩
  have HB2 := Lib.hid (HB1.out.trans (hb2.mono HB1.out.size))
  have HO2 := Lib.hid (HO.out.below hb2)
  have hst := Stable_any (c := c1) (HO2.out.rd (X := No) (fun _ _ h => h)) (by omega) (HN.out.low HB2.out) n1
  clear hv hb2
  rcases hP with ⟨hz, rfl⟩ | ⟨hz, hbad, rfl⟩ | ⟨hz, m, N, rfl, hm, hSN, v, rfl, hov, hvo⟩
  case inl =>
    have HZ := Lib.hid hz
    clear hz
    go_wp2_with fail
    refine hst.mono ?_
    rintro r w3 ⟨hb3, hQ⟩
    rcases hQ with ⟨-, rfl⟩ | ⟨hz, -⟩ | ⟨hz, -⟩
    case inr.inl => exact absurd hz HZ.out
    case inr.inr => exact absurd hz HZ.out
    have HB3 := Lib.hid (HB2.out.trans (hb3.mono HB2.out.size))
    have hsm := refSame_any (c := c1) (d := cap0) ((HO2.out.below hb3).rd (X := No) (fun _ _ h => h)) (HR.out.below HB3.out) (by omega) (by omega)
    clear hst hb3
    rw [decide_eq_true rfl] at hsm
    go_wp2_with fail
    refine hsm.mono ?_
    rintro r w4 ⟨rfl, q, rfl⟩
    have HB4 := Lib.hid (HB3.out.trans ((below_drewN (Below.refl w3.heap.size w3) q).mono HB3.out.size))
    generalize w3.drewN q = w4 at *
    have hri := refRight_any (c := cap0) (HR.out.below HB4.out) (by omega)
    rw [decide_eq_false HZ.out] at hri
    clear hsm
    go_wp2_with fail
    refine hri.mono ?_
    rintro r w5 ⟨rfl, hb⟩
    have HB5 := Lib.hid (HB4.out.trans (hb.mono HB4.out.size))
    clear hri hb
    go_wp2_with fail
    refine (num_any _ _).mono ?_
    rintro r w' ⟨rfl, rfl⟩
    go_wp2_with fail
    refine (num_any _ _).mono ?_
    rintro r w' ⟨rfl, rfl⟩
    go_wp2_with fail
    refine (works_any (HN.out.low HB5.out)).mono ?_
    rintro r w6 ⟨rfl, hb⟩
    have HB6 := Lib.hid (HB5.out.trans (hb.mono HB5.out.size))
    clear hb
    go_wp2_with fail
    go_ret
    exact ⟨rfl, HB6.out⟩
  case inr.inl =>
    have HZ := Lib.hid hz
    have HBAD := Lib.hid hbad
    clear hz hbad
    go_wp2_with fail
    refine hst.mono ?_
    rintro r w3 ⟨hb3, hQ⟩
    rcases hQ with ⟨h, -⟩ | ⟨-, -, rfl⟩ | ⟨-, m, N, e, hm, -⟩
    case inl => exact absurd HZ.out h
    case inr.inr => have := HBAD.out; have := HL.out; omega
    have HB3 := Lib.hid (HB2.out.trans (hb3.mono HB2.out.size))
    have hsm := refSame_any (c := c1) (d := cap0) ((HO2.out.below hb3).rd (X := No) (fun _ _ h => h)) (HR.out.below HB3.out) (by omega) (by omega)
    clear hst hb3
    rw [decide_eq_true rfl] at hsm
    go_wp2_with fail
    refine hsm.mono ?_
    rintro r w4 ⟨rfl, q, rfl⟩
    have HB4 := Lib.hid (HB3.out.trans ((below_drewN (Below.refl w3.heap.size w3) q).mono HB3.out.size))
    generalize w3.drewN q = w4 at *
    have hri := refRight_any (c := cap0) (HR.out.below HB4.out) (by omega)
    rw [decide_eq_true HZ.out] at hri
    clear hsm
    go_wp2_with fail
    refine hri.mono ?_
    rintro r w5 ⟨rfl, hb⟩
    have HB5 := Lib.hid (HB4.out.trans (hb.mono HB4.out.size))
    clear hri hb
    by_cases hn0 : n1 < 0
    · have d2 : decide (n1 < 0) = true := decide_eq_true hn0
      clear hn0
      go_wp2_with fail
      refine (num_any _ _).mono ?_
      rintro r w' ⟨rfl, rfl⟩
      go_wp2_with fail
      refine (num_any _ _).mono ?_
      rintro r w' ⟨rfl, rfl⟩
      go_wp2_with fail
      refine (works_any (HN.out.low HB5.out)).mono ?_
      rintro r w9 ⟨rfl, hb⟩
      have HB9 := Lib.hid (HB5.out.trans (hb.mono HB5.out.size))
      clear hb
      go_wp2_with fail
      go_ret
      exact ⟨rfl, HB9.out⟩
    · have d2 : decide (n1 < 0) = false := decide_eq_false hn0
      have d3 : decide ((len0 : Int) < n1) = true := decide_eq_true (by have := HBAD.out; have := HL.out; omega)
      clear hn0
      go_wp2_with fail
      refine (num_any _ _).mono ?_
      rintro r w' ⟨rfl, rfl⟩
      go_wp2_with fail
      refine (num_any _ _).mono ?_
      rintro r w' ⟨rfl, rfl⟩
      go_wp2_with fail
      refine (works_any (HN.out.low HB5.out)).mono ?_
      rintro r w9 ⟨rfl, hb⟩
      have HB9 := Lib.hid (HB5.out.trans (hb.mono HB5.out.size))
      clear hb
      go_wp2_with fail
      go_ret
      exact ⟨rfl, HB9.out⟩
  case inr.inr =>
    have HZ := Lib.hid hz
    have HSN := Lib.hid hSN
    obtain ⟨Av, cv, rfl, hcv⟩ := ints_form hov
    have HV := Lib.hid hov
    have HVL : Hid ((vl l0 m 0 N).length ≤ 1000000) := Lib.hid (by have := vl_len l0 m 0 N; have := hSN.le; have := HL.out; omega)
    have hml : m ≤ len0 := by have := HL.out; omega
    clear hz hSN hov hvo hcv
    generalize hU : vl l0 m 0 N = U at *
    have HU := Lib.hid hU
    clear hU
    go_wp2_with fail
    refine hst.mono ?_
    rintro r w3 ⟨hb3, hQ⟩
    obtain rfl : r = .returned (.tuple #[.int .i64 (N : Int), .int .i64 0]) := by
      rcases hQ with ⟨h, -⟩ | ⟨-, h, -⟩ | ⟨-, m', N', e, hm', hS', hr⟩
      · exact absurd HZ.out h
      · omega
      · obtain rfl : m = m' := by omega
        obtain rfl := stN_one HSN.out hS'
        exact hr
    have HB3 := Lib.hid (HB2.out.trans (hb3.mono HB2.out.size))
    have hsm := refSame_any (c := c1) (d := cap0) ((HO2.out.below hb3).rd (X := No) (fun _ _ h => h)) (HR.out.below HB3.out) (by omega) (by omega)
    have HV3 := Lib.hid (HV.out.below hb3)
    clear hst hb3
    rw [decide_eq_true rfl] at hsm
    go_wp2_with fail
    refine hsm.mono ?_
    rintro r w4 ⟨rfl, q, rfl⟩
    have HB4 := Lib.hid (HB3.out.trans ((below_drewN (Below.refl w3.heap.size w3) q).mono HB3.out.size))
    have HV4 := Lib.hid (HV3.out.below (below_drewN (Below.refl w3.heap.size w3) q))
    generalize w3.drewN q = w4 at *
    have hri := refRight_any (c := cap0) (HR.out.below HB4.out) (by omega)
    rw [decide_eq_true HZ.out] at hri
    clear hsm
    go_wp2_with fail
    refine hri.mono ?_
    rintro r w5 ⟨rfl, hb⟩
    have HB5 := Lib.hid (HB4.out.trans (hb.mono HB4.out.size))
    have HV5 := Lib.hid (HV4.out.below hb)
    clear hri hb
    have d2 : decide ((m : Int) < 0) = false := decide_eq_false (by omega)
    have d3 : decide (len0 < m) = false := decide_eq_false (by omega)
    have hst2 := stab_take (allR_of HZ.out) hm HSN.out
    have hrv := rv_vl (allR_of HZ.out) hm N (by have := HSN.out.le; omega)
    rw [HU.out] at hrv
    have hvw := refView_any (m := m) (c := cap0) (HR.out.below HB5.out) (by omega) (fun x hx => allR_of HZ.out x (List.mem_of_mem_take hx)) hml hc0 (by have := stab_le (l0.take m) 4; rw [List.length_take] at this; omega)
    rw [hst2, hrv] at hvw
    have HST := Lib.hid hst2
    clear hst2 hrv
    go_wp2_with fail
    refine (num_any _ _).mono ?_
    rintro r w' ⟨rfl, rfl⟩
    go_wp2_with fail
    refine (num_any _ _).mono ?_
    rintro r w' ⟨rfl, rfl⟩
    go_wp2_with fail
    refine hvw.mono ?_
    rintro r w6 ⟨v6, rfl, ho6, hv6, hb6⟩
    have HB6 := Lib.hid (HB5.out.trans (hb6.mono HB5.out.size))
    obtain ⟨A6, c6, rfl, -⟩ := ints_form ho6
    have hs6 := sameI_any (c := cv) (d := c6) ((HV5.out.below hb6).rd (X := No) (fun _ _ h => h)) (ho6.rd (X := No) (fun _ _ h => h)) HVL.out HVL.out
    rw [decide_eq_true rfl] at hs6
    have qs := slice22_to a0 len0 cap0 m (by omega)
    clear hvw ho6 hv6 hb6
    go_wp2_with fail
    refine hs6.mono ?_
    rintro r w7 ⟨rfl, q7, rfl⟩
    have HB7 := Lib.hid (HB6.out.trans ((below_drewN (Below.refl w6.heap.size w6) q7).mono HB6.out.size))
    generalize w6.drewN q7 = w7 at *
    have hs7 := refStable_any (c := cap0) ((HR.out.below HB7.out).ents_take hml) (by omega) (fun x hx => allR_of HZ.out x (List.mem_of_mem_take hx))
    rw [HST.out] at hs7
    clear hs6
    go_wp2_with fail
    refine hs7.mono ?_
    rintro r w8 ⟨rfl, hb⟩
    have HB8 := Lib.hid (HB7.out.trans (hb.mono HB7.out.size))
    clear hs7 hb qs
    go_wp2_with fail
    refine (works_any (HN.out.low HB8.out)).mono ?_
    rintro r w9 ⟨rfl, hb⟩
    have HB9 := Lib.hid (HB8.out.trans (hb.mono HB8.out.size))
    clear hb
    go_wp2_with fail
    go_ret
    exact ⟨rfl, HB9.out⟩
set_option maxRecDepth 100000 in
theorem lifted (os : Os) (started : os.Started) (H : Type) (enc : TypeId × Value → H) :
    ReturnsInHanded {} Tryd.checked os 3 .any (fun w args => (Rows.visibleViewsSpec.pre enc Tryd.prog Tryd.f3 [] false w args ∧ laidMetH Tryd.prog [("waystation/visible.nobodys", Rows.laid_waystation_visible_nobodys)] w) ∧ sizedMet enc Tryd.prog Tryd.f3 (OpenSpec.ofChange Rows.visibleViewsSpec) false w args)
      (Rows.visibleViewsSpec.post enc Tryd.prog Tryd.f3 false true false false) := by
  refine returnsInHanded_of_change_and (C := Tryd.checked) (X := fun w _ => laidMetH Tryd.prog [("waystation/visible.nobodys", Rows.laid_waystation_visible_nobodys)] w) (fun _ _ _ hh h => h.of_heap hh) own started (by kernel_rfl) Tryd.func3
    (ChangeSpec.witness_shaped (enc := enc) (C := Tryd.checked) (os := os) (X := fun w _ => laidMetH Tryd.prog [("waystation/visible.nobodys", Rows.laid_waystation_visible_nobodys)] w) false (World.doorLaid Tryd.prog 400 os) #[.slice none 0 0, .int .i64 0] 8 rfl (World.shaped_of_RefB (by kernel_rfl) (by kernel_rfl)) (by kernel_rfl) (by kernel_rfl) (by kernel_rfl) (door_met os _)) ?_
  intro W base args ds gs before hval0 hW _ _ hL _
  have hval : ∀ (j : Nat) t v, Tryd.f3.params[j]? = some t → args[j]? = some v → Value.okWide Tryd.prog W .any base t v := hval0
  have hW' := hW
  obtain ⟨p, q, hA0, hV, rfl, hfz, hnd⟩ := hW
  have hA : DataW.TrodAll enc Tryd.prog W 0 (fun _ => true) true Tryd.f3.params.toList args.toList ds p := hA0
  rw [Tryd.params3] at hA hval
  obtain ⟨v0, vs0, d0, ds0, p0, q0, hargs, rfl, rfl, h0, r0⟩ := trodAll_cons hA
  obtain ⟨v1, vs1, d1, ds1, p1, q1, rfl, rfl, rfl, h1, r1⟩ := trodAll_cons r0
  obtain ⟨rfl, rfl, rfl⟩ := trodAll_nil r1
  obtain rfl : args = #[v0, v1] := by cases args; simp_all
  obtain ⟨rfl, rfl⟩ := trodVars_none hV
  have k0 := h0
  have lt0 : ∀ x ∈ p0, x.block < W.heap.size := by obtain ⟨m, hm⟩ := k0; exact DataW.trod_lt m _ _ _ hm
  obtain ⟨a0, len0, cap0, rfl⟩ := okWide_slice Tryd.underlying22 (hval 0 22 v0 rfl rfl)
  obtain ⟨l0, b0, hc0, hm0, he0⟩ := open_ents h0
  have k1 := h1
  have lt1 : ∀ x ∈ p1, x.block < W.heap.size := by obtain ⟨m, hm⟩ := k1; exact DataW.trod_lt m _ _ _ hm
  obtain ⟨n1, rfl, rfl, rfl, wf1⟩ := open_int Tryd.underlying3 (hval 1 3 v1 rfl rfl) h1
  have hN := nob_of_laid hL
  clear hA0 hval0
  refine (walk a0 len0 cap0 l0 n1 W b0 hc0 hm0 he0 hN).mono fun e W' ⟨he, bel⟩ => ?_
  subst he
  exact ⟨_, rfl, _, _, _, [], _, [], hW', trodAll_mk1 (shut_bool Tryd.underlying4 _), (trodAll_cons_mk (Below.trod laidOut (by kernel_rfl) (of_decide_eq_true (by kernel_rfl)) k0 bel lt0) (trodAll_cons_mk (Below.trod laidOut (by kernel_rfl) (of_decide_eq_true (by kernel_rfl)) k1 bel lt1) trodAll_mk0)), rfl, bel.frame _, fun h => by cases h⟩
theorem over : Rows.VisibleViewsSaid :=
  OpenClaim.holds_of_wide 3 Tryd.f3 rfl rfl rfl rfl rfl rfl rfl ⟨rfl, rfl, rfl, rfl, rfl⟩ rfl rfl rfl rfl rfl (by kernel_rfl) Tryd.func3 (by kernel_rfl)
    (of_decide_eq_true (by kernel_rfl)) (by unfold Func.isWrapper; first | (rw [if_pos (by decide +kernel)]; kernel_rfl) | (rw [if_neg (by decide +kernel)]; exact ⟨rfl, rfl⟩))
    (fun os started H enc _ => lifted os started H enc)
theorem proved : Rows.VisibleViewsCardSaid :=
  Claim7.holds_tied_plain_at .later [] [.data] true (true, "e872fbbcbb45a318d4a21952f2d33522ec05cad25393f9b523959ddf34fff248") true
    over (fun _ h => by cases h) (by kernel_rfl) (fun _ h => by cases h) visibleViews_row_tie rfl ⟨rfl, rfl⟩ (by kernel_rfl) rfl
    (fun f fn hf hfn => by
      obtain rfl : f = 3 := Option.some.inj ((show Tryd.prog.funcNamed "waystation/waystationlaw09.VisibleViews" = some 3 by kernel_rfl).symm.trans hf) |>.symm
      obtain rfl : fn = Tryd.f3 := (Option.some.inj (Tryd.func3.symm.trans hfn)).symm
      exact ⟨by kernel_rfl, fun j t ht => by
        rw [Tryd.params3] at ht
        have hm : t ∈ [22, 3] := by simpa using Array.mem_of_getElem? ht
        have hall : ([22, 3].all fun u => !Tryd.prog.wantsStandIn u) = true := by kernel_rfl
        exact (show Tryd.prog.wantsStandIn t = false by simpa using List.all_eq_true.1 hall t hm)⟩)
    (by kernel_rfl)
end Go.Proofs.YthcphoijanebhaaDoor.visibleViews
namespace Go.Proofs.YthcphoijanebhaaDoor
theorem visibleViews_holds : Rows.VisibleViewsCardSaid := visibleViews.proved
#print axioms visibleViews_holds
end Go.Proofs.YthcphoijanebhaaDoor
