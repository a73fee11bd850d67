/-
  EpochsMeet: it answers true, whatever comes in, and leaves its arguments as they were. No condition.
-/
import Derived.Test.YtabbkghnijebpaaNear
import Derived.WalkKit
import Derived.ProofKit
import Derived.OpenShut
import Derived.ShutString
import Derived.ChangeOld
import Derived.Below
namespace Go.Proofs.Ytabbkghnijebpaa.epochsMeet
open Go.ChangeShapes Go.WideShapes Go.ChangeAt Go.RowKit
set_option linter.unusedVariables false
theorem own : ownKnob Try.prog.godebug = none := by kernel_rfl
theorem laidOut : laidOutB Try.prog = true := by kernel_rfl
set_option maxHeartbeats 4000000 in
set_option maxRecDepth 100000 in
theorem walk (a0 : Option Addr) (len0 cap0 : Nat) (z0 : Nat → Int) (a1 : Option Addr) (len1 cap1 : Nat) (z1 : Nat → Int) (w : World) (b0 : Ints w a0 len0 z0) (hc0 : len0 ≤ cap0) (hm0 : cap0 ≤ maxLen) (b1 : Ints w a1 len1 z1) (hc1 : len1 ≤ cap1) (hm1 : cap1 ≤ maxLen) :
    Calls Try.prog 4 #[.slice a0 len0 cap0, .slice a1 len1 cap1] w fun e w' => e = .returned (.bool true) ∧ Below w.heap.size w w' := by
  have hkn := known_any
  by_cases hb1' : 40 < len0
  · have hd : decide (40 < len0) = true := by simpa using hb1'
    go_enter Try.func4, Try.ntmps4
    go_wp2_with fail
    refine (hkn _).mono ?_
    rintro e w3 ⟨rfl, hb3⟩
    go_wp2_with fail
    go_ret
    exact ⟨rfl, hb3⟩
  have hd0 : decide (40 < len0) = false := by simpa using hb1'
  by_cases hb2' : 40 < len1
  · have hd : decide (40 < len1) = true := by simpa using hb2'
    go_enter Try.func4, Try.ntmps4
    go_wp2_with fail
    refine (hkn _).mono ?_
    rintro e w3 ⟨rfl, hb3⟩
    go_wp2_with fail
    go_ret
    exact ⟨rfl, hb3⟩
  have hd1 : decide (40 < len1) = false := by simpa using hb2'
  have hlg := log_any (c := cap0) b0 (by omega)
  go_enter Try.func4, Try.ntmps4
  go_wp2_with fail
  refine hlg.mono ?_
  rintro e w1 ⟨A, c, rfl, hA, hnc, hcm, hb1⟩
  have hlg2 := log_any (c := cap1) (b1.below hb1) (by omega)
  go_wp2_with fail
  refine hlg2.mono ?_
  rintro e w2 ⟨B, d, rfl, hB, hmd, hdm, hb2⟩
  have HB12 := Lib.hid (hb1.trans (hb2.mono hb1.size))
  have hA2 := hA.below hb2
  clear hlg hlg2 hA b0 b1
  have HA := Lib.hid hA2
  have HBB := Lib.hid hB
  by_cases hmay : May (fun i => (lf z0 i).1) len0 ∧ May (fun i => (lf z1 i).1) len1
  case neg =>
    have hM := Meet_no (c := c) (d := d) hA2 hB (by omega) (by omega) hmay
    clear hA2 hB
    go_wp2_with fail
    refine hM.mono ?_
    rintro e w3 ⟨rfl, hb3⟩
    have HB13 := Lib.hid (HB12.out.trans (hb3.mono HB12.out.size))
    have h1 := refMay_any (c := c) (HA.out.below hb3) (by omega)
    by_cases hf : May (fun i => (lf z0 i).1) len0
    case neg =>
      rw [decide_eq_false hf] at h1
      clear hf hmay
      go_wp2_with fail
      refine h1.mono ?_
      rintro e w4 ⟨rfl, hb4⟩
      have HB14 := Lib.hid (HB13.out.trans (hb4.mono HB13.out.size))
      go_wp2_with fail
      refine (hkn _).mono ?_
      rintro e w5 ⟨rfl, hb5⟩
      go_wp2_with fail
      go_ret
      exact ⟨rfl, HB14.out.trans (hb5.mono HB14.out.size)⟩
    case pos =>
      have hg : ¬ May (fun i => (lf z1 i).1) len1 := fun h => hmay ⟨hf, h⟩
      rw [decide_eq_true hf] at h1
      have HG := Lib.hid hg
      clear hf hmay hg
      go_wp2_with fail
      refine h1.mono ?_
      rintro e w4 ⟨rfl, hb4⟩
      have HB14 := Lib.hid (HB13.out.trans (hb4.mono HB13.out.size))
      have h2 := refMay_any (c := d) (HBB.out.below (hb3.trans (hb4.mono hb3.size))) (by omega)
      rw [decide_eq_false HG.out] at h2
      go_wp2_with fail
      refine h2.mono ?_
      rintro e w5 ⟨rfl, hb5⟩
      have HB15 := Lib.hid (HB14.out.trans (hb5.mono HB14.out.size))
      go_wp2_with fail
      refine (hkn _).mono ?_
      rintro e w6 ⟨rfl, hb6⟩
      go_wp2_with fail
      go_ret
      exact ⟨rfl, HB15.out.trans (hb6.mono HB15.out.size)⟩
  case pos =>
  obtain ⟨hf, hg⟩ := hmay
  have hM := Meet_yes (c := c) (d := d) hA2 hB hnc hmd hf hg
  have hok := meet_ok (L := fun i => (lf z0 i).1) (nl := len0) (E := fun i => (lf z1 i).1) (n := len1) (t := 0)
  obtain ⟨r, hr⟩ : ∃ r, r = meet (fun i => (lf z0 i).1) len0 (fun i => (lf z1 i).1) len1 0 := ⟨_, rfl⟩
  rw [← hr] at hM hok
  obtain ⟨hfit, hle, hsum, -⟩ := hok
  have HFIT := Lib.hid hfit
  have HF := Lib.hid hf
  have HG := Lib.hid hg
  have HR := Lib.hid hr
  clear hA2 hB hf hg hfit hr
  obtain ⟨p, q⟩ := r
  simp only at hM hle hsum HFIT
  go_wp2_with fail
  refine hM.mono ?_
  rintro e w3 ⟨rfl, hb3⟩
  have HB13 := Lib.hid (HB12.out.trans (hb3.mono HB12.out.size))
  have h1 := refMay_any (c := c) (HA.out.below hb3) (by omega)
  rw [decide_eq_true HF.out] at h1
  go_wp2_with fail
  refine h1.mono ?_
  rintro e w4 ⟨rfl, hb4⟩
  have HB14 := Lib.hid (HB13.out.trans (hb4.mono HB13.out.size))
  have hb34 := hb3.trans (hb4.mono hb3.size)
  have h2 := refMay_any (c := d) (HBB.out.below hb34) (by omega)
  rw [decide_eq_true HG.out] at h2
  go_wp2_with fail
  refine h2.mono ?_
  rintro e w5 ⟨rfl, hb5⟩
  have HB15 := Lib.hid (HB14.out.trans (hb5.mono HB14.out.size))
  have hb35 := hb34.trans (hb5.mono hb34.size)
  have hRM := refMeet_any (c := c) (d := d) (HA.out.below hb35) (HBB.out.below hb35) hmd HF.out HG.out
  rw [← HR.out] at hRM
  simp only at hRM
  go_wp2_with fail
  refine hRM.mono ?_
  rintro e w6 ⟨rfl, rfl⟩
  have hsl := fun W => slice25_to B len1 d p (p : Int) rfl (by omega) W
  have hL := refLast_any (c := d) ((HBB.out.below hb35).first (k := p) (by omega)) (by omega)
  go_wp2_with fail
  refine hL.mono ?_
  rintro e w6 ⟨rfl, rfl⟩
  have hFi := Fits_any (c := c) (HA.out.below hb35) (by omega) hnc (p : Int) (lastTo (fun i => (lf z1 i).1) p)
  have hlp : 0 ≤ lastTo (fun i => (lf z1 i).1) p := by
    unfold lastTo
    split
    · omega
    · have := (HG.out.2 (p - 1) (by omega)).1
      omega
  have hcan : Can (fun i => (lf z0 i).1) len0 (lastTo (fun i => (lf z1 i).1) p) (p : Int) := ⟨hlp, by omega, HF.out⟩
  have ep : ((p : Int)).toNat = p := by simp
  rw [ask_yes hcan, ep, decide_eq_true (And.intro hcan HFIT.out)] at hFi
  clear hL hsl hcan ep hlp
  generalize lastTo (fun i => (lf z1 i).1) p = la at *
  go_wp2_with fail
  refine hFi.mono ?_
  rintro e w7 ⟨rfl, hb7⟩
  have HB17 := Lib.hid (HB15.out.trans (hb7.mono HB15.out.size))
  have hql : q ≤ len1 := by omega
  go_wp2_with fail
  refine (hkn _).mono ?_
  rintro e w8 ⟨rfl, hb8⟩
  go_wp2_with fail
  go_ret
  exact ⟨rfl, HB17.out.trans (hb8.mono HB17.out.size)⟩

set_option maxRecDepth 100000 in
theorem lifted (os : Os) (started : os.Started) (H : Type) (enc : TypeId × Value → H) :
    ReturnsInHanded {} Try.checked os 4 .any (Rows.epochsMeetSpec.pre6 enc Try.prog Try.f4 Rows.epochsMeetRow.domain false) (Rows.epochsMeetSpec.post enc Try.prog Try.f4 false true false false) := by
  refine returnsInHanded_of_change (C := Try.checked) own started (by kernel_rfl) Try.func4
    (ChangeSpec.witness6 (enc := enc) (C := Try.checked) false ⟨#[], #[.slice none 0 0, .slice none 0 0], []⟩ 8 (by kernel_rfl) (by kernel_rfl) (by kernel_rfl) (by kernel_rfl)) ?_
  intro W base args ds gs before hval0 hW hcnd _
  have hval : ∀ (j : Nat) t v, Try.f4.params[j]? = some t → args[j]? = some v → Value.okWide Try.prog W .any base t v := hval0
  have hW' := hW
  obtain ⟨p, q, hA0, hV, rfl, hfz, hnd⟩ := hW
  have hA : DataW.TrodAll enc Try.prog W 0 (fun _ => true) true Try.f4.params.toList args.toList ds p := hA0
  rw [Try.params4] at hA hval
  obtain ⟨v0, vs0, d0, ds0, p0, q0, hargs, rfl, rfl, h0, r0⟩ := trodAll_cons hA
  obtain ⟨v1, vs1, d1, ds1, p1, q1, rfl, rfl, rfl, h1, r1⟩ := trodAll_cons r0
  obtain ⟨rfl, rfl, rfl⟩ := trodAll_nil r1
  obtain rfl : args = #[v0, v1] := by cases args; simp_all
  obtain ⟨rfl, rfl⟩ := trodVars_none hV
  have k0 := h0
  have lt0 : ∀ x ∈ p0, x.block < W.heap.size := by obtain ⟨m, hm⟩ := k0; exact DataW.trod_lt m _ _ _ hm
  obtain ⟨a0, len0, cap0, z0, rfl, b0, hc0, hm0, hs0⟩ := open_22 h0 (slice_one Try.underlying22 (hval 0 22 v0 rfl rfl))
  have k1 := h1
  have lt1 : ∀ x ∈ p1, x.block < W.heap.size := by obtain ⟨m, hm⟩ := k1; exact DataW.trod_lt m _ _ _ hm
  obtain ⟨a1, len1, cap1, z1, rfl, b1, hc1, hm1, hs1⟩ := open_22 h1 (slice_one Try.underlying22 (hval 1 22 v1 rfl rfl))
  clear hA0 hval0
  refine (walk a0 len0 cap0 z0 a1 len1 cap1 z1 W b0 hc0 hm0 b1 hc1 hm1).mono fun e W' ⟨he, bel⟩ => ?_
  subst he
  exact ⟨_, rfl, _, _, _, [], _, [], hW', trodAll_mk1 (shut_bool Try.underlying4 _), (trodAll_cons_mk (Below.trod laidOut (by kernel_rfl) (of_decide_eq_true (by kernel_rfl)) k0 bel lt0) (trodAll_cons_mk (Below.trod laidOut (by kernel_rfl) (of_decide_eq_true (by kernel_rfl)) k1 bel lt1) trodAll_mk0)), rfl, bel.frame _, fun h => by cases h⟩

theorem over : Rows.epochsMeetRow.holds Try.pinned (OpenSpec.ofChange Rows.epochsMeetSpec) :=
  OpenClaim.holds_of_wide 4 Try.f4 rfl rfl rfl rfl rfl rfl rfl ⟨rfl, rfl, rfl, rfl, rfl⟩ rfl rfl rfl rfl rfl (by kernel_rfl) Try.func4 (by kernel_rfl)
    (of_decide_eq_true (by kernel_rfl)) (by unfold Func.isWrapper; first | (rw [if_pos (by decide +kernel)]; kernel_rfl) | (rw [if_neg (by decide +kernel)]; exact ⟨rfl, rfl⟩))
    (fun os started H enc _ => lifted os started H enc)

theorem proved : Rows.EpochsMeetSaid := over
end Go.Proofs.Ytabbkghnijebpaa.epochsMeet
namespace Go.Proofs.Ytabbkghnijebpaa
theorem epochsMeet_holds : Rows.EpochsMeetSaid := epochsMeet.proved
#print axioms epochsMeet_holds
end Go.Proofs.Ytabbkghnijebpaa
