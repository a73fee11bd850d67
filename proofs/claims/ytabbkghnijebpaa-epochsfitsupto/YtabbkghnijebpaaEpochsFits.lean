/-
  EpochsFits, where what comes in is of bulk at most 1048576: it answers true, whatever comes in, and leaves its arguments as they were.
-/
import Derived.Test.YtabbkghnijebpaaOpen
import Derived.WalkKit
import Derived.ProofKit
import Derived.OpenShut
import Derived.ShutString
import Derived.ChangeOld
import Derived.Below
namespace Go.Proofs.Ytabbkghnijebpaa.epochsFits
open Go.ChangeShapes Go.WideShapes Go.ChangeAt Go.RowKit
set_option linter.unusedVariables false
theorem own : ownKnob Try.prog.godebug = none := by kernel_rfl
theorem laidOut : laidOutB Try.prog = true := by kernel_rfl
set_option maxHeartbeats 4000000 in
set_option maxRecDepth 100000 in
theorem walk (a0 : Option Addr) (len0 cap0 : Nat) (z0 : Nat → Int) (n1 : Int) (n2 : Int) (w : World) (b0 : Ints w a0 len0 z0) (hc0 : len0 ≤ cap0) (hm0 : cap0 ≤ maxLen) (hs0 : len0 ≤ 1048576) (hn1 : -9223372036854775808 ≤ n1 ∧ n1 ≤ 9223372036854775807) (hn2 : -9223372036854775808 ≤ n2 ∧ n2 ≤ 9223372036854775807) :
    Calls Try.prog 8 #[.slice a0 len0 cap0, .int .i64 n1, .int .i64 n2] w fun e w' => e = .returned (.bool true) ∧ Below w.heap.size w w' := by
  have hlg := log_any (c := cap0) b0 (by omega)
  have hkn := known_any
  go_enter Try.func8, Try.ntmps8
  go_wp2_with fail
  refine hlg.mono ?_
  rintro e w1 ⟨A, c, rfl, hl, hnc, hcm, hb1⟩
  have hb0' := b0.below hb1
  have hF := Fits_any (c := c) hl (by omega) hnc n1 n2
  generalize hE : (fun i => (lf z0 i).1) = E at hF
  generalize hx : decide (Can E len0 n2 n1 ∧ Fits E len0 n1.toNat n2) = x at hF
  generalize hy : askE E len0 n2 n1 = y at hF
  have HX := Lib.hid hx
  have HY := Lib.hid hy
  have HE := Lib.hid hE
  clear hx hy hlg
  go_wp2_with fail
  refine hF.mono ?_
  rintro e w2 ⟨rfl, hb2⟩
  have hb12 := hb1.trans (hb2.mono hb1.size)
  by_cases hbig : 60 < len0
  · have hd : decide (60 < len0) = true := by simpa using hbig
    go_wp2_with fail
    refine (hkn _).mono ?_
    rintro e w3 ⟨rfl, hb3⟩
    go_wp2_with fail
    go_ret
    exact ⟨rfl, hb12.trans (hb3.mono hb12.size)⟩
  have hM := may_any (c := c) (hl.below hb2) (by omega)
  rw [hE] at hM
  have hd0 : decide (60 < len0) = false := by simpa using hbig
  by_cases hmay : May E len0
  case neg =>
    have hm' : decide (May E len0) = false := by simpa using hmay
    rw [hm'] at hM
    go_wp2_with fail
    refine hM.mono ?_
    rintro e w3 ⟨rfl, hb3⟩
    have hb13 := hb12.trans (hb3.mono hb12.size)
    go_wp2_with fail
    refine (hkn _).mono ?_
    rintro e w4 ⟨rfl, hb4⟩
    go_wp2_with fail
    go_ret
    exact ⟨rfl, hb13.trans (hb4.mono hb13.size)⟩
  case pos =>
  have hm' : decide (May E len0) = true := by simpa using hmay
  rw [hm'] at hM
  clear hm'
  have HMAY := Lib.hid hmay
  clear hmay
  go_wp2_with fail
  refine hM.mono ?_
  rintro e w3 ⟨rfl, hb3⟩
  have hb13 := hb12.trans (hb3.mono hb12.size)
  have hb23 := hb2.trans (hb3.mono hb2.size)
  by_cases hneg : n1 < 0 ∨ n2 < 0
  case pos =>
    have hx0 : x = false := by
      rw [← HX.out, decide_eq_false_iff_not]
      rintro ⟨⟨h1, h2, _⟩, _⟩
      omega
    have hy0 : y = 2 := by
      rw [← HY.out, ask_no]
      rintro ⟨h1, h2, _⟩
      omega
    subst hx0 hy0
    by_cases h1 : n1 < 0
    · have h1' : decide (n1 < 0) = true := by simpa using h1
      clear hneg
      go_wp2_with fail
      refine (hkn _).mono ?_
      rintro e w4 ⟨rfl, hb4⟩
      go_wp2_with fail
      go_ret
      exact ⟨rfl, hb13.trans (hb4.mono hb13.size)⟩
    · have h1' : decide (n1 < 0) = false := by simpa using h1
      have h2' : decide (n2 < 0) = true := by simp; omega
      clear hneg
      go_wp2_with fail
      refine (hkn _).mono ?_
      rintro e w4 ⟨rfl, hb4⟩
      go_wp2_with fail
      go_ret
      exact ⟨rfl, hb13.trans (hb4.mono hb13.size)⟩
  case neg =>
  have h1 : 0 ≤ n1 := by omega
  have h2 : 0 ≤ n2 := by omega
  have h1' : decide (n1 < 0) = false := by simp; omega
  have h2' : decide (n2 < 0) = false := by simp; omega
  have hy0 : y = 0 := by
    rw [← HY.out, ask_yes]
    exact ⟨h2, h1, HMAY.out⟩
  subst hy0
  have hxx : x = decide (Fits E len0 n1.toNat n2) := by
    rw [← HX.out, decide_eq_decide]
    exact ⟨fun h => h.2, fun h => ⟨⟨h2, h1, HMAY.out⟩, h⟩⟩
  obtain ⟨m, rfl⟩ := Int.eq_ofNat_of_zero_le h1
  have em : ((m : Int)).toNat = m := by simp
  rw [em] at hxx
  have HXX := Lib.hid hxx
  clear hneg hxx em HX HY
  rcases Nat.eq_zero_or_pos m with h0 | h0
  · subst h0
    by_cases h3 : n2 = 0
    · subst h3
      obtain rfl : x = true := by
        rw [HXX.out, decide_eq_true_iff]
        exact ⟨Nat.zero_le _, rfl⟩
      go_wp2_with fail
      refine (hkn _).mono ?_
      rintro e w4 ⟨rfl, hb4⟩
      go_wp2_with fail
      go_ret
      exact ⟨rfl, hb13.trans (hb4.mono hb13.size)⟩
    · obtain rfl : x = false := by
        rw [HXX.out, decide_eq_false_iff_not]
        rintro ⟨_, h⟩
        exact h3 h.symm
      have h3' : ((0 : Int) == n2) = false := by rw [beq_eq_false_iff_ne]; exact fun h => h3 h.symm
      go_wp2_with fail
      refine (hkn _).mono ?_
      rintro e w4 ⟨rfl, hb4⟩
      go_wp2_with fail
      go_ret
      exact ⟨rfl, hb13.trans (hb4.mono hb13.size)⟩
  obtain ⟨j, rfl⟩ : ∃ j, m = j + 1 := ⟨m - 1, by omega⟩
  by_cases hle : j + 1 ≤ len0
  · obtain ⟨ad, rfl, hadl, c0⟩ := (hb0'.below hb23).at_ (k := j) (by omega)
    have hEj : E j = z0 j := by rw [← HE.out]; rfl
    by_cases h3 : z0 j = n2
    · obtain rfl : x = true := by
        rw [HXX.out, decide_eq_true_iff]
        refine ⟨hle, ?_⟩
        unfold lastTo
        rw [if_neg (by omega)]
        simp only [Nat.add_sub_cancel]
        rw [hEj]
        exact h3
      have h3' : (z0 j == n2) = true := by simpa using h3
      go_wp2_with fail
      refine (hkn _).mono ?_
      rintro e w4 ⟨rfl, hb4⟩
      go_wp2_with fail
      go_ret
      exact ⟨rfl, hb13.trans (hb4.mono hb13.size)⟩
    · obtain rfl : x = false := by
        rw [HXX.out, decide_eq_false_iff_not]
        rintro ⟨_, h⟩
        unfold lastTo at h
        rw [if_neg (by omega)] at h
        simp only [Nat.add_sub_cancel] at h
        rw [hEj] at h
        exact h3 h
      have h3' : (z0 j == n2) = false := by simpa using h3
      go_wp2_with fail
      refine (hkn _).mono ?_
      rintro e w4 ⟨rfl, hb4⟩
      go_wp2_with fail
      go_ret
      exact ⟨rfl, hb13.trans (hb4.mono hb13.size)⟩
  · obtain rfl : x = false := by
      rw [HXX.out, decide_eq_false_iff_not]
      rintro ⟨h, _⟩
      exact hle h
    have h3' : decide (((j + 1 : Nat) : Int) ≤ (len0 : Int)) = false := by simp; omega
    go_wp2_with fail
    refine (hkn _).mono ?_
    rintro e w4 ⟨rfl, hb4⟩
    go_wp2_with fail
    go_ret
    exact ⟨rfl, hb13.trans (hb4.mono hb13.size)⟩

set_option maxRecDepth 100000 in
theorem lifted (os : Os) (started : os.Started) (H : Type) (enc : TypeId × Value → H) (F : _root_.Go.Stop.Interp) :
    ReturnsInHanded {} Try.checked os 8 .any ((Rows.OpenSpec.upto Rows.epochsFitsSpec).pre6 enc Try.prog Try.f8 Rows.epochsFitsUptoRow.domain false) (((Rows.OpenSpec.upto Rows.epochsFitsSpec).at F).post enc Try.prog Try.f8 false true false false) := by
  refine returnsInHanded_of_cond (C := Try.checked) (s := Rows.OpenSpec.upto Rows.epochsFitsSpec) (k := Rows.uptoSmall) rfl own started (by kernel_rfl) Try.func8
    (OpenSpec.witness (enc := enc) (C := Try.checked) (s := Rows.OpenSpec.upto Rows.epochsFitsSpec) (k := Rows.uptoSmall) rfl false ⟨#[], #[.slice none 0 0, .int .i64 0, .int .i64 0], []⟩ 8 (by kernel_rfl) (by kernel_rfl) (by kernel_rfl)
      (x := ([.nil, .lit (.int .i64 0), .lit (.int .i64 0)], [], [])) (by kernel_rfl) rfl (by kernel_rfl)) ?_
  intro W base args ds gs before hval0 hW _ hk _
  have hval : ∀ (j : Nat) t v, Try.f8.params[j]? = some t → args[j]? = some v → Value.okWide Try.prog W .any base t v := hval0
  have hW' := hW
  obtain ⟨p, q, hA0, hV, rfl, hfz, hnd⟩ := hW
  have hA : DataW.TrodAll enc Try.prog W 0 (fun _ => true) true Try.f8.params.toList args.toList ds p := hA0
  rw [Try.params8] at hA hval
  obtain ⟨v0, vs0, d0, ds0, p0, q0, hargs, rfl, rfl, h0, r0⟩ := trodAll_cons hA
  obtain ⟨v1, vs1, d1, ds1, p1, q1, rfl, rfl, rfl, h1, r1⟩ := trodAll_cons r0
  obtain ⟨v2, vs2, d2, ds2, p2, q2, rfl, rfl, rfl, h2, r2⟩ := trodAll_cons r1
  obtain ⟨rfl, rfl, rfl⟩ := trodAll_nil r2
  obtain rfl : args = #[v0, v1, v2] := by cases args; simp_all
  obtain ⟨rfl, rfl⟩ := trodVars_none hV
  have hk' : Rows.uptoBulkAll ([d0, d1, d2] ++ []) ≤ 1048576 := of_decide_eq_true hk
  simp only [List.cons_append, List.nil_append, Rows.uptoBulkAll] at hk'
  have k0 := h0
  have lt0 : ∀ x ∈ p0, x.block < W.heap.size := by obtain ⟨m, hm⟩ := k0; exact DataW.trod_lt m _ _ _ hm
  obtain ⟨a0, len0, cap0, z0, rfl, b0, hc0, hm0, hs0⟩ := open_22 h0 (slice_one Try.underlying22 (hval 0 22 v0 rfl rfl))
  have k1 := h1
  have lt1 : ∀ x ∈ p1, x.block < W.heap.size := by obtain ⟨m, hm⟩ := k1; exact DataW.trod_lt m _ _ _ hm
  obtain ⟨n1, rfl, rfl, rfl, wf1⟩ := open_int Try.underlying3 (hval 1 3 v1 rfl rfl) h1
  have k2 := h2
  have lt2 : ∀ x ∈ p2, x.block < W.heap.size := by obtain ⟨m, hm⟩ := k2; exact DataW.trod_lt m _ _ _ hm
  obtain ⟨n2, rfl, rfl, rfl, wf2⟩ := open_int Try.underlying2 (hval 2 2 v2 rfl rfl) h2
  clear hA0 hval0
  refine (walk a0 len0 cap0 z0 n1 n2 W b0 hc0 hm0 (by omega) (i64_bounds wf1) (i64_bounds wf2)).mono fun e W' ⟨he, bel⟩ => ?_
  subst he
  exact ⟨_, rfl, _, _, _, [], _, [], hW', trodAll_mk1 (shut_bool Try.underlying4 _), (trodAll_cons_mk (Below.trod laidOut (by kernel_rfl) (of_decide_eq_true (by kernel_rfl)) k0 bel lt0) (trodAll_cons_mk (Below.trod laidOut (by kernel_rfl) (of_decide_eq_true (by kernel_rfl)) k1 bel lt1) (trodAll_cons_mk (Below.trod laidOut (by kernel_rfl) (of_decide_eq_true (by kernel_rfl)) k2 bel lt2) trodAll_mk0))), rfl, bel.frame _, fun h => by cases h⟩

theorem over : Rows.epochsFitsUptoRow.holds Try.pinned (Rows.OpenSpec.upto Rows.epochsFitsSpec) :=
  OpenClaim.holds_of_cond 8 Try.f8 rfl rfl rfl rfl rfl rfl rfl ⟨rfl, rfl, rfl, rfl, rfl⟩ rfl rfl rfl rfl rfl (by kernel_rfl) Try.func8 (by kernel_rfl)
    (of_decide_eq_true (by kernel_rfl)) (by unfold Func.isWrapper; first | (rw [if_pos (by decide +kernel)]; kernel_rfl) | (rw [if_neg (by decide +kernel)]; exact ⟨rfl, rfl⟩))
    (fun os started H enc _ F => lifted os started H enc F)

theorem proved : Rows.EpochsFitsUptoSaid := over
end Go.Proofs.Ytabbkghnijebpaa.epochsFits
namespace Go.Proofs.Ytabbkghnijebpaa
theorem epochsFitsUpto_holds : Rows.EpochsFitsUptoSaid := epochsFits.proved
#print axioms epochsFitsUpto_holds
end Go.Proofs.Ytabbkghnijebpaa
