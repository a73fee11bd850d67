/-
  waystationlaw05.NetBounds returns true: the bounds of a net and of the bytes of a message, and one past them. Conditions: none.
-/
import Derived.Test.YticabfmjdjcfnaaRows
import Derived.Test.YticabfmjdjcfnaaBound
import Derived.WalkKit
import Derived.ProofKit
import Derived.OpenShut
import Derived.ShutString
import Derived.ChangeOld
import Derived.Below
namespace Go.Proofs.Yticabfmjdjcfnaa.netBounds
open Go.ChangeShapes Go.WideShapes Go.ChangeAt Go.RowKit
set_option linter.unusedVariables false
theorem own : ownKnob Try.prog.godebug = none := by kernel_rfl
theorem laidOut : laidOutB Try.prog = true := by kernel_rfl
set_option maxHeartbeats 4000000 in
set_option maxRecDepth 100000 in
theorem walk (w : World) :
    Calls Try.prog 7 #[] w fun e w' => e = .returned (.bool true) ∧ Below w.heap.size w w' := by
  go_enter Try.func7, Try.ntmps7
  go_wp2_with fail
  refine (new_mine 4096 w (by omega) (by omega)).mono ?_
  rintro e w1 ⟨g, rfl, hM1, hb1⟩
  have hM1' : Mine w.heap.size g (rep 0) w1 := hM1
  clear hM1
  go_wp2_with fail
  go_loopw [3] (fun i wr => ∃ k : Nat, k ≤ 4096 ∧ i = .int .i64 k ∧ Mine w.heap.size g (rep k) wr ∧ Below w.heap.size w wr) (fun i _ => 4096 - (intOf i).toNat)
  case atStart => exact ⟨0, by omega, rfl, hM1', hb1⟩
  case round =>
    obtain ⟨k, hk, rfl, hM, hb⟩ := hrel
    clear hM1' hb1
    by_cases hlt : k < 4096
    case pos =>
      go_wp2_with fail
      refine (put_mine hM (X := fun b => b = g) (m := m63) ⟨none, 0, 0, rfl, Bys.none_⟩ rfl (by show k ≤ 1000000000; omega)).mono ?_
      rintro e w2 ⟨rfl, hM2, hb2⟩
      rw [rep_ok hlt, (rep_putA hlt).2]
      rw [(rep_putA hlt).1] at hM2
      have hb2' := hb.trans hb2
      clear hM hb hb2
      go_wp2_with (go_at_call 18; refine (num_any _ _).mono ?_; rintro e w' ⟨rfl, rfl⟩)
      go_round
      case rel => exact ⟨k + 1, by omega, by go_num, hM2, hb2'⟩
      case measure => simp [intOf]; omega
    case neg =>
      obtain rfl : k = 4096 := by omega
      clear hlt hk
      go_wp2_with fail
      refine (put_mine hM (X := fun b => b = g) (m := ⟨0, 0, []⟩) (msgV_z _ _) rfl (by decide)).mono ?_
      rintro e w2 ⟨rfl, hM2, hb2⟩
      rw [rep_full, rep_fullA.2]
      rw [rep_fullA.1] at hM2
      have hb2' := hb.trans hb2
      clear hM hb hb2
      go_wp2_with fail
      refine (dup_mine1 hM2 rep_last (by rw [rep_len]; exact Nat.le_refl _)).mono ?_
      rintro e w3 ⟨rfl, hM3, hb3⟩
      have hb3' := hb2'.trans hb3
      clear hM2 hb2' hb3
      go_wp2_with fail
      refine (take_mine hM3 rep_last).mono ?_
      rintro e w4 ⟨⟨v4, rfl, hn4⟩, hM4, hb4⟩
      rw [rep_pick] at hM4
      have hb4' := hb3'.trans hb4
      clear hM3 hb3' hb4
      obtain ⟨A, n, c, rfl⟩ := hn4.row
      clear hn4
      go_wp2_with (with_reducible refine at_store 39 rfl ?_)
      refine Stop.go (wpList_store_blk (by rfl) (by rfl) 39 _ _ (by rfl) w4.heap.size _ #[.int .i64 m63.fr, .int .i64 m63.to, .slice A n c] (by rfl) (by rfl) 39 (Blk.new w4 39 #[.int .i64 0, .int .i64 0, .slice none 0 0]) (by rfl) (info39 _ rfl) (by simp [Value.oneCell']) ?_)
      intro w5 f5 g5 s5
      clear s5 f5
      have hb5 : Below w4.heap.size w4 w5 := below_grown ((Below.refl _ _).alloc (Nat.le_refl _) _) g5 (Nat.le_refl _) (Nat.le_refl _)
      have hM5 := hM4.below hb5
      have hb5' := hb4'.trans (hb5.mono hb4'.size)
      clear g5 hb5 hM4 hb4'
      obtain ⟨w6, hmk, hB6, hb6⟩ := made_noughts 4096 (by omega) w5
      have hmk' : (Instr.makeSlice 37 (.int .i64 4096) (.int .i64 4096)).run Try.prog w5 = .ok (.slice (some ⟨w5.heap.size, 0, none⟩) 4096 4096) w6 := hmk
      have hg5 := hM5.g_lt
      have hM6 := hM5.below hb6
      have hb6' := hb5'.trans (hb6.mono hb5'.size)
      clear hmk hM5 hb6 hb5'
      go_wp2_with fail
      refine (put_mine hM6 (X := fun b => b < w5.heap.size) (m := ⟨0, 0, zs 4096⟩) ⟨_, 4096, _, rfl, hB6⟩ hg5 (by decide)).mono ?_
      rintro e w7 ⟨rfl, hM7, hb7⟩
      rw [cut_ok]
      rw [(putA_yes cut_ok).1] at hM7
      have hb7' := hb6'.trans hb7
      clear hM6 hmk' hB6 hb6' hb7
      obtain ⟨w8, hmk, hB8, hb8⟩ := made_noughts 4097 (by omega) w7
      have hmk' : (Instr.makeSlice 37 (.int .i64 4097) (.int .i64 4097)).run Try.prog w7 = .ok (.slice (some ⟨w7.heap.size, 0, none⟩) 4097 4097) w8 := hmk
      have hg7 := hM7.g_lt
      have hM8 := hM7.below hb8
      have hb8' := hb7'.trans (hb8.mono hb7'.size)
      clear hmk hM7 hb8 hb7'
      go_wp2_with fail
      refine (put_mine hM8 (X := fun b => b < w7.heap.size) (m := ⟨0, 0, zs 4097⟩) ⟨_, 4097, _, rfl, hB8⟩ hg7 (by decide)).mono ?_
      rintro e w9 ⟨rfl, hM9, hb9⟩
      rw [long_no]
      rw [(putA_no (m := ⟨0, 0, zs 4097⟩) (by rw [long_no]; decide)).1] at hM9
      have hb9' := hb8'.trans hb9
      have hcm := came_mine hM9
      have hcm' : Calls Try.prog 25 #[.pointer (some ⟨g, 0, none⟩)] w9 fun e w' => e = .returned (.int .i64 4097) ∧ w9 = w' := hcm
      clear hM8 hmk' hB8 hb8' hb9 hcm hM9
      go_wp2_with (first
        | (go_at_call 18; refine (num_any _ _).mono ?_; rintro e w' ⟨rfl, rfl⟩)
        | (go_at_call 25; refine hcm'.mono ?_; rintro e w' ⟨rfl, rfl⟩)
        | (go_at_call 10; refine (works_any w9).mono ?_; rintro e w' ⟨rfl, hbw⟩))
      go_ret
      exact ⟨rfl, hb9'.trans (hbw.mono hb9'.size)⟩

set_option maxRecDepth 100000 in
theorem lifted (os : Os) (started : os.Started) (H : Type) (enc : TypeId × Value → H) :
    ReturnsInHanded {} Try.checked os 7 .any (Rows.netBoundsSpec.pre6 enc Try.prog Try.f7 Rows.netBoundsRow.domain false) (Rows.netBoundsSpec.post enc Try.prog Try.f7 false true false false) := by
  refine returnsInHanded_of_change (C := Try.checked) own started (by kernel_rfl) Try.func7
    (ChangeSpec.witness6 (enc := enc) (C := Try.checked) false ⟨#[], #[], []⟩ 8 (by kernel_rfl) (by kernel_rfl) (by kernel_rfl) (by kernel_rfl)) ?_
  intro W base args ds gs before hval0 hW hcnd _
  have hval : ∀ (j : Nat) t v, Try.f7.params[j]? = some t → args[j]? = some v → Value.okWide Try.prog W .any base t v := hval0
  have hW' := hW
  obtain ⟨p, q, hA0, hV, rfl, hfz, hnd⟩ := hW
  have hA : DataW.TrodAll enc Try.prog W 0 (fun _ => true) true Try.f7.params.toList args.toList ds p := hA0
  rw [Try.params7] at hA hval
  obtain ⟨rfl, rfl, rfl⟩ := trodAll_none hA
  obtain ⟨rfl, rfl⟩ := trodVars_none hV
  clear hA0 hval0
  refine (walk W).mono fun e W' ⟨he, bel⟩ => ?_
  subst he
  exact ⟨_, rfl, _, _, _, [], _, [], hW', trodAll_mk1 (shut_bool Try.underlying4 _), trodAll_mk0, rfl, bel.frame _, fun h => by cases h⟩

theorem over : Rows.netBoundsRow.holds Try.pinned (OpenSpec.ofChange Rows.netBoundsSpec) :=
  OpenClaim.holds_of_wide 7 Try.f7 rfl rfl rfl rfl rfl rfl rfl ⟨rfl, rfl, rfl, rfl, rfl⟩ rfl rfl rfl rfl rfl (by kernel_rfl) Try.func7 (by kernel_rfl)
    (of_decide_eq_true (by kernel_rfl)) (by unfold Func.isWrapper; first | (rw [if_pos (by decide +kernel)]; kernel_rfl) | (rw [if_neg (by decide +kernel)]; exact ⟨rfl, rfl⟩))
    (fun os started H enc _ => lifted os started H enc)

theorem proved : Rows.NetBoundsSaid := over
end Go.Proofs.Yticabfmjdjcfnaa.netBounds
namespace Go.Proofs.Yticabfmjdjcfnaa
theorem netBounds_holds : Rows.NetBoundsSaid := netBounds.proved
#print axioms netBounds_holds
end Go.Proofs.Yticabfmjdjcfnaa
