/-
  Which names files have, DiskNames: true for every text.
-/
import Derived.Test.YthhiiimmgghhaaaWorks
import Derived.Test.YthhiiimmgghhaaaOpen
import Derived.WalkKit
import Derived.ProofKit
import Derived.OpenShut
import Derived.ShutString
import Derived.ChangeOld
import Derived.Below
namespace Go.Proofs.Ythhiiimmgghhaaa.diskNames
open Go.ChangeShapes Go.WideShapes Go.ChangeAt Go.RowKit
set_option linter.unusedVariables false
theorem own : ownKnob Try.prog.godebug = none := by kernel_rfl
theorem laidOut : laidOutB Try.prog = true := by kernel_rfl
set_option maxHeartbeats 4000000 in
set_option maxRecDepth 100000 in
theorem walk (n0 : Bs) (w : World) (hn0 : n0.length ≤ maxLen) :
    Calls Try.prog 10 #[.string (str n0)] w fun e w' => e = .returned (.bool true) ∧ Below w.heap.size w w' := by
  have hsn := str_size n0
  by_cases hbig : 100 < n0.length
  · go_enter Try.func10, Try.ntmps10
    go_wp2_with (go_at_call 27; refine (works_any w).mono ?_; rintro e w' ⟨rfl, hb⟩)
    go_ret
    exact ⟨rfl, hb⟩
  · have hlen : n0.length ≤ 100 := by omega
    have hlit := lit_step
    go_enter Try.func10, Try.ntmps10
    go_wp2_with fail
    refine (new_mine 100 w (by omega) (by omega)).mono ?_
    rintro e w1 ⟨g, rfl, hM1, hb1⟩
    go_wp2_with fail
    have hM2 := hM1.below ((Below.refl _ w1).alloc (Nat.le_refl _) (.cells (([120] : Bs).map byteV).toArray 5 (1, 2)))
    have hb2 := hb1.alloc hb1.size (.cells (([120] : Bs).map byteV).toArray 5 (1, 2))
    refine (put_mine hM2 n0 _ 1 _ [120] (bys_lit w1 [120] No (1, 2) (fun h => h)) (by omega) (by omega) (by simp [St.size])).mono ?_
    rintro e w3 ⟨rfl, hM3, hb3⟩
    have hb3' := hb2.trans hb3
    clear hlit hM2 hb2 hb3 hM1 hb1
    have hRN := refName_any n0
    by_cases hnm : isNm n0 = true
    · have e1 : putC ⟨100, [], []⟩ n0 [120] = 0 := by unfold putC; rw [if_pos hnm, if_pos (by decide)]
      rw [e1, if_pos rfl] at hM3
      rw [e1]
      have ef : (St.done ⟨100, [], []⟩ (.put n0 [120])).files = [(n0, [120])] := rfl
      have e2 : cutC (St.done ⟨100, [], []⟩ (.put n0 [120])) n0 0 = 0 := by
        unfold cutC missC
        rw [ef]
        simp [hnm, find]
      go_wp2_with fail
      refine (cut_mine hM3 n0 0 (by omega) (by simp [St.size, St.done])).mono ?_
      rintro e w4 ⟨rfl, hM4, hb4⟩
      rw [e2, if_pos rfl, show Int.toNat 0 = 0 from rfl] at hM4
      rw [e2]
      have hb4' := hb3'.trans hb4
      have ef2 : (St.done (St.done ⟨100, [], []⟩ (.put n0 [120])) (.cut n0 0)).files = [(n0, [])] := by rw [St.files_done, ef]; simp [Th.on, cutF]
      have e3 : missC (St.done (St.done ⟨100, [], []⟩ (.put n0 [120])) (.cut n0 0)).files n0 = 0 := by unfold missC; rw [ef2]; simp [hnm, find]
      clear hM3 hb3' hb4
      go_wp2_with fail
      refine (remove_mine hM4 n0 (by omega) (by simp [St.size, St.done])).mono ?_
      rintro e w5 ⟨rfl, hM5, hb5⟩
      rw [e3]
      have hb5' := hb4'.trans hb5
      rw [hnm] at hRN
      have hRN5 := hRN w5 (by omega)
      clear hM4 hM5 hb4' hb5 hRN
      go_wp2_with (first
        | (go_at_call 33; refine hRN5.mono ?_; rintro e w' ⟨rfl, rfl⟩)
        | (go_at_call 17; refine (num_any _ _).mono ?_; rintro e w' ⟨rfl, rfl⟩)
        | (go_at_call 27; refine (works_any w5).mono ?_; rintro e w6 ⟨rfl, hb6⟩))
      go_ret
      exact ⟨rfl, hb5'.trans (hb6.mono hb5'.size)⟩
    · have e1 : putC ⟨100, [], []⟩ n0 [120] = 130 := by unfold putC; rw [if_neg hnm]
      rw [e1, if_neg (by omega)] at hM3
      rw [e1]
      have em : missC (St.files ⟨100, [], []⟩) n0 = 130 := by unfold missC; rw [if_neg hnm]
      have e2 : cutC ⟨100, [], []⟩ n0 0 = 130 := by unfold cutC; rw [em]; rfl
      go_wp2_with fail
      refine (cut_mine hM3 n0 0 (by omega) (by simp [St.size])).mono ?_
      rintro e w4 ⟨rfl, hM4, hb4⟩
      rw [e2, if_neg (by omega)] at hM4
      rw [e2]
      have hb4' := hb3'.trans hb4
      clear hM3 hb3' hb4
      go_wp2_with fail
      refine (remove_mine hM4 n0 (by omega) (by simp [St.size])).mono ?_
      rintro e w5 ⟨rfl, hM5, hb5⟩
      rw [em]
      have hb5' := hb4'.trans hb5
      rw [Bool.not_eq_true] at hnm
      rw [hnm] at hRN
      have hRN5 := hRN w5 (by omega)
      clear hM4 hM5 hb4' hb5 hRN
      go_wp2_with (first
        | (go_at_call 33; refine hRN5.mono ?_; rintro e w' ⟨rfl, rfl⟩)
        | (go_at_call 17; refine (num_any _ _).mono ?_; rintro e w' ⟨rfl, rfl⟩)
        | (go_at_call 27; refine (works_any w5).mono ?_; rintro e w6 ⟨rfl, hb6⟩))
      go_ret
      exact ⟨rfl, hb5'.trans (hb6.mono hb5'.size)⟩

set_option maxRecDepth 100000 in
theorem lifted (os : Os) (started : os.Started) (H : Type) (enc : TypeId × Value → H) :
    ReturnsInHanded {} Try.checked os 10 .any (Rows.diskNamesSpec.pre6 enc Try.prog Try.f10 Rows.diskNamesRow.domain false) (Rows.diskNamesSpec.post enc Try.prog Try.f10 false true false false) := by
  refine returnsInHanded_of_change (C := Try.checked) own started (by kernel_rfl) Try.func10
    (ChangeSpec.witness6 (enc := enc) (C := Try.checked) false ⟨#[], #[.string ⟨#[]⟩], []⟩ 8 (by kernel_rfl) (by kernel_rfl) (by kernel_rfl) (by kernel_rfl)) ?_
  intro W base args ds gs before hval0 hW hcnd _
  have hval : ∀ (j : Nat) t v, Try.f10.params[j]? = some t → args[j]? = some v → Value.okWide Try.prog W .any base t v := hval0
  have hW' := hW
  obtain ⟨p, q, hA0, hV, rfl, hfz, hnd⟩ := hW
  have hA : DataW.TrodAll enc Try.prog W 0 (fun _ => true) true Try.f10.params.toList args.toList ds p := hA0
  rw [Try.params10] at hA hval
  obtain ⟨v0, vs0, d0, ds0, p0, q0, hargs, rfl, rfl, h0, r0⟩ := trodAll_cons hA
  obtain ⟨rfl, rfl, rfl⟩ := trodAll_nil r0
  obtain rfl : args = #[v0] := by cases args; simp_all
  obtain ⟨rfl, rfl⟩ := trodVars_none hV
  have k0 := h0
  have lt0 : ∀ x ∈ p0, x.block < W.heap.size := by obtain ⟨m, hm⟩ := k0; exact DataW.trod_lt m _ _ _ hm
  obtain ⟨n0, rfl, hn0⟩ := open_str (hval 0 9 v0 rfl rfl) h0
  clear hA0 hval0
  refine (walk n0 W hn0).mono fun e W' ⟨he, bel⟩ => ?_
  subst he
  exact ⟨_, rfl, _, _, _, [], _, [], hW', trodAll_mk1 (shut_bool Try.underlying4 _), (trodAll_cons_mk (Below.trod laidOut (by kernel_rfl) (of_decide_eq_true (by kernel_rfl)) k0 bel lt0) trodAll_mk0), rfl, bel.frame _, fun h => by cases h⟩

theorem over : Rows.diskNamesRow.holds Try.pinned (OpenSpec.ofChange Rows.diskNamesSpec) :=
  OpenClaim.holds_of_wide 10 Try.f10 rfl rfl rfl rfl rfl rfl rfl ⟨rfl, rfl, rfl, rfl, rfl⟩ rfl rfl rfl rfl rfl (by kernel_rfl) Try.func10 (by kernel_rfl)
    (of_decide_eq_true (by kernel_rfl)) (by unfold Func.isWrapper; first | (rw [if_pos (by decide +kernel)]; kernel_rfl) | (rw [if_neg (by decide +kernel)]; exact ⟨rfl, rfl⟩))
    (fun os started H enc _ => lifted os started H enc)

theorem proved : Rows.DiskNamesSaid := over
end Go.Proofs.Ythhiiimmgghhaaa.diskNames
namespace Go.Proofs.Ythhiiimmgghhaaa
theorem diskNames_holds : Rows.DiskNamesSaid := diskNames.proved
#print axioms diskNames_holds
end Go.Proofs.Ythhiiimmgghhaaa
