/-
  waystationlaw05.NetPlays: played, and works. Nothing is assumed but what the row's domain holds.
-/
import Derived.Test.YticabfmjdjcfnaaRows
import Derived.Test.YticabfmjdjcfnaaPlayed
import Derived.WalkKit
import Derived.ProofKit
import Derived.OpenShut
import Derived.ShutString
import Derived.ChangeOld
import Derived.Below
namespace Go.Proofs.Yticabfmjdjcfnaa.netPlays
open Go.ChangeShapes Go.WideShapes Go.ChangeAt Go.RowKit
set_option linter.unusedVariables false
theorem own : ownKnob Try.prog.godebug = none := by kernel_rfl
theorem laidOut : laidOutB Try.prog = true := by kernel_rfl
set_option maxHeartbeats 4000000 in
set_option maxRecDepth 100000 in
theorem walk (n0 : Int) (a1 : Option Addr) (len1 cap1 : Nat) (xs1 : List Ac) (w : World) (hn0 : -9223372036854775808 ≤ n0 ∧ n0 ≤ 9223372036854775807) (b1 : Acs w No a1 len1 xs1) (hc1 : len1 ≤ cap1) (hm1 : cap1 ≤ maxLen) :
    Calls Try.prog 3 #[.int .i64 n0, .slice a1 len1 cap1] w fun e w' => e = .returned (.bool true) ∧ Below w.heap.size w w' := by
  have HF := Lib.hid (few_any b1 hm1 hc1)
  have hlen := b1.len
  have HB1 := Lib.hid b1
  clear b1
  by_cases hg : 1 ≤ n0 ∧ n0 ≤ 4096
  case neg =>
    have hd : n0 < 1 ∨ 4096 < n0 := by omega
    go_enter Try.func3, Try.ntmps3
    go_wp2_with (go_at_call 10; refine (works_any w).mono ?_; rintro e w' ⟨rfl, hb⟩)
    all_goals first
      | (go_ret; exact ⟨rfl, hb⟩)
      | (exfalso; omega)
  case pos =>
  obtain ⟨hg1, hg2⟩ := hg
  obtain ⟨r, rfl⟩ : ∃ r : Nat, n0 = (r : Int) := ⟨n0.toNat, by omega⟩
  cases hfew : decide (fewN xs1 ≤ 10000) with
  | false =>
    have HF' : Hid (Calls Try.prog 9 #[.slice a1 len1 cap1] w fun e w' => e = .returned (.bool false) ∧ w = w') := Lib.hid (by have := HF.out; rw [hfew] at this; exact this)
    clear hlen hfew HF
    go_enter Try.func3, Try.ntmps3
    go_wp2_with (first
      | (go_at_call 9; refine HF'.out.mono ?_; rintro e w' ⟨rfl, rfl⟩)
      | (go_at_call 10; refine (works_any w).mono ?_; rintro e w' ⟨rfl, hb⟩))
    go_ret
    exact ⟨rfl, hb⟩
  | true =>
  have HF' : Hid (Calls Try.prog 9 #[.slice a1 len1 cap1] w fun e w' => e = .returned (.bool true) ∧ w = w') := Lib.hid (by have := HF.out; rw [hfew] at this; exact this)
  obtain ⟨hn100, hshort⟩ := few_ok (of_decide_eq_true hfew)
  have hl100 : len1 ≤ 100 := by omega
  have HPL := Lib.hid (played_any (cap := cap1) (w := w) (r := r) (by omega) (by omega) HB1.out hl100 hshort)
  clear HF hfew hshort
  go_enter Try.func3, Try.ntmps3
  go_wp2_with (go_at_call 9; refine HF'.out.mono ?_; rintro e w' ⟨rfl, rfl⟩)
  refine HPL.out.mono ?_
  rintro e w1 ⟨g, cs, S, s, rfl, hN, hR, hS, hb, hcm⟩
  obtain ⟨hcz, hca⟩ := hR.size
  clear hN hR hS hcm
  go_wp2_with (with_reducible refine at_store 28 rfl ?_)
  refine Stop.go (wpList_store_blk (by rfl) (by rfl) 28 _ _ (by rfl) w1.heap.size _ cs (by rfl) (by rfl) 28 (Blk.new w1 28 #[.int .i64 0, .slice none 0 0, .int .i64 0]) (by rw [hcz]; rfl) (info28 _ hcz) hca ?_)
  intro w4 f4 g4 s4
  clear s4
  have hal : Below w1.heap.size w1 w4 := below_grown ((Below.refl _ _).alloc (Nat.le_refl _) _) g4 (Nat.le_refl _) (Nat.le_refl _)
  have hb4 := hb.trans (hal.mono hb.size)
  go_wp2_with (go_at_call 10; refine (works_any w4).mono ?_; rintro e w' ⟨rfl, hbk⟩)
  go_ret
  exact ⟨rfl, hb4.trans (hbk.mono hb4.size)⟩

set_option maxRecDepth 100000 in
theorem lifted (os : Os) (started : os.Started) (H : Type) (enc : TypeId × Value → H) :
    ReturnsInHanded {} Try.checked os 3 .any (Rows.netPlaysSpec.pre6 enc Try.prog Try.f3 Rows.netPlaysRow.domain false) (Rows.netPlaysSpec.post enc Try.prog Try.f3 false true false false) := by
  refine returnsInHanded_of_change (C := Try.checked) own started (by kernel_rfl) Try.func3
    (ChangeSpec.witness6 (enc := enc) (C := Try.checked) false ⟨#[], #[.int .i64 0, .slice none 0 0], []⟩ 8 (by kernel_rfl) (by kernel_rfl) (by kernel_rfl) (by kernel_rfl)) ?_
  intro W base args ds gs before hval0 hW hcnd _
  have hval : ∀ (j : Nat) t v, Try.f3.params[j]? = some t → args[j]? = some v → Value.okWide Try.prog W .any base t v := hval0
  have hW' := hW
  obtain ⟨p, q, hA0, hV, rfl, hfz, hnd⟩ := hW
  have hA : DataW.TrodAll enc Try.prog W 0 (fun _ => true) true Try.f3.params.toList args.toList ds p := hA0
  rw [Try.params3] at hA hval
  obtain ⟨v0, vs0, d0, ds0, p0, q0, hargs, rfl, rfl, h0, r0⟩ := trodAll_cons hA
  obtain ⟨v1, vs1, d1, ds1, p1, q1, rfl, rfl, rfl, h1, r1⟩ := trodAll_cons r0
  obtain ⟨rfl, rfl, rfl⟩ := trodAll_nil r1
  obtain rfl : args = #[v0, v1] := by cases args; simp_all
  obtain ⟨rfl, rfl⟩ := trodVars_none hV
  have k0 := h0
  have lt0 : ∀ x ∈ p0, x.block < W.heap.size := by obtain ⟨m, hm⟩ := k0; exact DataW.trod_lt m _ _ _ hm
  obtain ⟨n0, rfl, rfl, rfl, wf0⟩ := open_int Try.underlying3 (hval 0 3 v0 rfl rfl) h0
  have k1 := h1
  have lt1 : ∀ x ∈ p1, x.block < W.heap.size := by obtain ⟨m, hm⟩ := k1; exact DataW.trod_lt m _ _ _ hm
  obtain ⟨a1, len1, cap1, rfl⟩ := okWide_slice Try.underlying22 (hval 1 22 v1 rfl rfl)
  obtain ⟨⟨xs1, b1⟩, hc1, hm1⟩ := open_acs h1
  clear hA0 hval0
  refine (walk n0 a1 len1 cap1 xs1 W (i64_bounds wf0) b1 hc1 hm1).mono fun e W' ⟨he, bel⟩ => ?_
  subst he
  exact ⟨_, rfl, _, _, _, [], _, [], hW', trodAll_mk1 (shut_bool Try.underlying4 _), (trodAll_cons_mk (Below.trod laidOut (by kernel_rfl) (of_decide_eq_true (by kernel_rfl)) k0 bel lt0) (trodAll_cons_mk (Below.trod laidOut (by kernel_rfl) (of_decide_eq_true (by kernel_rfl)) k1 bel lt1) trodAll_mk0)), rfl, bel.frame _, fun h => by cases h⟩

theorem over : Rows.netPlaysRow.holds Try.pinned (OpenSpec.ofChange Rows.netPlaysSpec) :=
  OpenClaim.holds_of_wide 3 Try.f3 rfl rfl rfl rfl rfl rfl rfl ⟨rfl, rfl, rfl, rfl, rfl⟩ rfl rfl rfl rfl rfl (by kernel_rfl) Try.func3 (by kernel_rfl)
    (of_decide_eq_true (by kernel_rfl)) (by unfold Func.isWrapper; first | (rw [if_pos (by decide +kernel)]; kernel_rfl) | (rw [if_neg (by decide +kernel)]; exact ⟨rfl, rfl⟩))
    (fun os started H enc _ => lifted os started H enc)

theorem proved : Rows.NetPlaysSaid := over
end Go.Proofs.Yticabfmjdjcfnaa.netPlays
namespace Go.Proofs.Yticabfmjdjcfnaa
theorem netPlays_holds : Rows.NetPlaysSaid := netPlays.proved
#print axioms netPlays_holds
end Go.Proofs.Yticabfmjdjcfnaa
