/-
  The bound of a log, and one past it. Nothing is assumed.
-/
import Derived.Test.YtafgcafhgnfegaaLong
import Derived.Test.YtafgcafhgnfegaaTrunc
import Derived.WalkKit
import Derived.ProofKit
import Derived.OpenShut
import Derived.ShutString
import Derived.ChangeOld
import Derived.Below
namespace Go.Proofs.Ytafgcafhgnfegaa.producersLong
open Go.ChangeShapes Go.WideShapes Go.ChangeAt Go.RowKit
set_option linter.unusedVariables false
theorem own : ownKnob Try.prog.godebug = none := by kernel_rfl
theorem laidOut : laidOutB Try.prog = true := by kernel_rfl
set_option maxHeartbeats 4000000 in
set_option maxRecDepth 100000 in
theorem walk (w : World) :
    Calls Try.prog 10 #[] w fun e w' => e = .returned (.bool true) ∧ Below w.heap.size w w' := by
  go_enter Try.func10, Try.ntmps10
  go_wp2_with fail
  refine (new_any w).mono ?_
  rintro r w1 ⟨g, rfl, hT1, hb1⟩
  have HI : Hid (∃ S, Tb w1 S g (rep 0) ∧ (∀ b, S b → w.heap.size ≤ b) ∧ Below w.heap.size w w1) := Lib.hid ⟨_, hT1, fun b h => h.1, hb1⟩
  clear hT1 hb1
  go_wp2_with fail
  go_loopw [2] (fun i wv => ∃ k : Nat, k ≤ 4096 ∧ i = .int .i64 k ∧ ∃ S, Tb wv S g (rep k) ∧ (∀ b, S b → w.heap.size ≤ b) ∧ Below w.heap.size w wv) (fun i _ => 4096 - (iOf i).toNat)
  case atStart => exact ⟨0, by omega, rfl, HI.out⟩
  case round =>
    obtain ⟨k, hk, rfl, S, hT, hS, hb⟩ := hrel
    by_cases hlt : k < 4096
    case pos =>
      have happ := append_any hT pl
      unfold pl Ent.val Ent.cells at happ
      dsimp only at happ
      go_wp2_with fail
      refine happ.mono ?_
      rintro r w2 ⟨rfl, hT2, hU⟩
      have hz : appendE (rep k) ⟨1, -1, 0, 0, 1, 0⟩ = 0 := rep_app hlt right_pl rfl
      rw [hz, if_pos rfl] at hT2
      rw [hz]
      have HN : Hid (∃ S2, Tb w2 S2 g (rep (k + 1)) ∧ (∀ b, S2 b → w.heap.size ≤ b) ∧ Below w.heap.size w w2) := Lib.hid ⟨_, by rw [rep_succ]; exact hT2, more_ge hS hb.size, hb.trans (hU.below hb.size hS)⟩
      clear happ hU hz hT hb hS hT2
      go_wp2_with fail
      refine (num_any _ _).mono ?_
      rintro r w3 ⟨rfl, rfl⟩
      go_wp2_with fail
      go_round
      case rel => exact ⟨k + 1, by omega, by go_num, HN.out⟩
      case measure => simp [iOf]; omega
    case neg =>
      obtain rfl : k = 4096 := by omega
      clear hlt hk HI
      go_wp2_with fail
      refine (data_any 1 0 _).mono ?_
      rintro r w2 ⟨rfl, hb1⟩
      have hT := hT.below hb1
      have hb := hb.trans (hb1.mono hb.size)
      clear hb1
      go_wp2_with fail
      have happ : Calls Try.prog 22 #[.pointer (some ⟨g, 0, none⟩), .agg #[.int .i64 1, .int .i64 0, .int .i64 1, .int .i64 0, .int .i64 1, .int .i64 0]] _ (AppP _ S g (rep 4096) (dat 1 0)) := append_any hT (dat 1 0)
      refine happ.mono ?_
      rintro r w3 ⟨rfl, hT3, hU⟩
      rw [rep_no right_d10, if_neg (by decide)] at hT3
      rw [rep_no right_d10]
      obtain ⟨S3, hT, hS, hb⟩ : ∃ S3, Tb w3 S3 g (rep 4096) ∧ (∀ b, S3 b → w.heap.size ≤ b) ∧ Below w.heap.size w w3 := ⟨_, hT3, more_ge hS hb.size, hb.trans (hU.below hb.size hS)⟩
      clear happ hT3 hU
      go_wp2_with fail
      refine (data_any 1 0 _).mono ?_
      rintro r w4 ⟨rfl, hb1⟩
      have hT := hT.below hb1
      have hb := hb.trans (hb1.mono hb.size)
      clear hb1
      go_wp2_with fail
      have hch := checks_any hT (dat 1 0)
      rw [rep_noC right_d10] at hch
      refine hch.mono ?_
      rintro r w5 ⟨rfl, hb1⟩
      have hT := hT.below hb1
      have hb := hb.trans (hb1.mono hb.size)
      clear hb1 hch
      go_wp2_with fail
      refine (num_any _ _).mono ?_
      rintro r w9 ⟨rfl, rfl⟩
      go_wp2_with fail
      refine (num_any _ _).mono ?_
      rintro r w9 ⟨rfl, rfl⟩
      go_wp2_with fail
      have hln := len_any hT
      rw [rep_len] at hln
      refine hln.mono ?_
      rintro r w9 ⟨rfl, rfl⟩
      clear hln
      go_wp2_with fail
      have hst := stable_any hT
      rw [rep_stab] at hst
      refine hst.mono ?_
      rintro r w6 ⟨rfl, hb1⟩
      have hT := hT.below hb1
      have hb := hb.trans (hb1.mono hb.size)
      clear hb1 hst
      go_wp2_with fail
      have htr := trunc_yes hT (n := 4095) (by rw [rep_len]; omega)
      rw [rep_take (by omega)] at htr
      refine htr.mono ?_
      rintro r w7 ⟨rfl, hT3, hU⟩
      obtain ⟨S7, hT, hS, hb⟩ : ∃ S3, Tb w7 S3 g (rep 4095) ∧ (∀ b, S3 b → w.heap.size ≤ b) ∧ Below w.heap.size w w7 := ⟨_, hT3, more_ge hS hb.size, hb.trans (hU.below hb.size hS)⟩
      clear htr hT3 hU
      go_wp2_with fail
      refine (num_any _ _).mono ?_
      rintro r w9 ⟨rfl, rfl⟩
      go_wp2_with fail
      refine (data_any 1 0 _).mono ?_
      rintro r w8 ⟨rfl, hb1⟩
      have hT := hT.below hb1
      have hb := hb.trans (hb1.mono hb.size)
      clear hb1
      go_wp2_with fail
      have happ : Calls Try.prog 22 #[.pointer (some ⟨g, 0, none⟩), .agg #[.int .i64 1, .int .i64 0, .int .i64 1, .int .i64 0, .int .i64 1, .int .i64 0]] _ (AppP _ S7 g (rep 4095) (dat 1 0)) := append_any hT (dat 1 0)
      refine happ.mono ?_
      rintro r w10 ⟨rfl, hT3, hU⟩
      rw [rep_app (by omega) right_d10 rfl, if_pos rfl] at hT3
      rw [rep_app (by omega) right_d10 rfl]
      obtain ⟨S10, hT, hS, hb⟩ : ∃ S3, Tb w10 S3 g (rep 4095 ++ [dat 1 0]) ∧ (∀ b, S3 b → w.heap.size ≤ b) ∧ Below w.heap.size w w10 := ⟨_, hT3, more_ge hS hb.size, hb.trans (hU.below hb.size hS)⟩
      clear happ hT3 hU
      go_wp2_with fail
      refine (num_any _ _).mono ?_
      rintro r w9 ⟨rfl, rfl⟩
      go_wp2_with fail
      have hst := stable_any hT
      rw [rep_stab1] at hst
      refine hst.mono ?_
      rintro r w11 ⟨rfl, hb1⟩
      have hb := hb.trans (hb1.mono hb.size)
      clear hb1 hst
      go_wp2_with fail
      refine (works_any _).mono ?_
      rintro r w12 ⟨rfl, hb1⟩
      have hb := hb.trans (hb1.mono hb.size)
      clear hb1
      go_wp2_with fail
      go_ret
      exact ⟨rfl, hb⟩

set_option maxRecDepth 100000 in
theorem lifted (os : Os) (started : os.Started) (H : Type) (enc : TypeId × Value → H) :
    ReturnsInHanded {} Try.checked os 10 .any (Rows.producersLongSpec.pre6 enc Try.prog Try.f10 Rows.producersLongRow.domain false) (Rows.producersLongSpec.post enc Try.prog Try.f10 false true false false) := by
  refine returnsInHanded_of_change (C := Try.checked) own started (by kernel_rfl) Try.func10
    (ChangeSpec.witness6 (enc := enc) (C := Try.checked) false ⟨#[], #[], []⟩ 8 (by kernel_rfl) (by kernel_rfl) (by kernel_rfl) (by kernel_rfl)) ?_
  intro W base args ds gs before hval0 hW hcnd _
  have hval : ∀ (j : Nat) t v, Try.f10.params[j]? = some t → args[j]? = some v → Value.okWide Try.prog W .any base t v := hval0
  have hW' := hW
  obtain ⟨p, q, hA0, hV, rfl, hfz, hnd⟩ := hW
  have hA : DataW.TrodAll enc Try.prog W 0 (fun _ => true) true Try.f10.params.toList args.toList ds p := hA0
  rw [Try.params10] at hA hval
  obtain ⟨hnil, rfl, rfl⟩ := trodAll_nil hA
  obtain rfl : args = #[] := by cases args; simp_all
  obtain ⟨rfl, rfl⟩ := trodVars_none hV
  clear hA0 hval0
  refine (walk W).mono fun e W' ⟨he, bel⟩ => ?_
  subst he
  exact ⟨_, rfl, _, _, _, [], _, [], hW', trodAll_mk1 (shut_bool Try.underlying4 _), trodAll_mk0, rfl, bel.frame _, fun h => by cases h⟩

theorem over : Rows.producersLongRow.holds Try.pinned (OpenSpec.ofChange Rows.producersLongSpec) :=
  OpenClaim.holds_of_wide 10 Try.f10 rfl rfl rfl rfl rfl rfl rfl ⟨rfl, rfl, rfl, rfl, rfl⟩ rfl rfl rfl rfl rfl (by kernel_rfl) Try.func10 (by kernel_rfl)
    (of_decide_eq_true (by kernel_rfl)) (by unfold Func.isWrapper; first | (rw [if_pos (by decide +kernel)]; kernel_rfl) | (rw [if_neg (by decide +kernel)]; exact ⟨rfl, rfl⟩))
    (fun os started H enc _ => lifted os started H enc)

theorem proved : Rows.ProducersLongSaid := over
end Go.Proofs.Ytafgcafhgnfegaa.producersLong
namespace Go.Proofs.Ytafgcafhgnfegaa
theorem producersLong_holds : Rows.ProducersLongSaid := producersLong.proved
#print axioms producersLong_holds
end Go.Proofs.Ytafgcafhgnfegaa
