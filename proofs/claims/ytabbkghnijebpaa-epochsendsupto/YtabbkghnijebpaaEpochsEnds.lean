/-
  EpochsEnds, where what comes in is of bulk at most 1048576: it answers true, whatever comes in, and leaves its arguments as they were.
-/
import Derived.Test.YtabbkghnijebpaaOpen
import Derived.WalkKit
import Derived.ProofKit
import Derived.OpenShut
import Derived.ShutString
import Derived.ChangeOld
import Derived.Below
namespace Go.Proofs.Ytabbkghnijebpaa.epochsEnds
open Go.ChangeShapes Go.WideShapes Go.ChangeAt Go.RowKit
set_option linter.unusedVariables false
theorem own : ownKnob Try.prog.godebug = none := by kernel_rfl
theorem laidOut : laidOutB Try.prog = true := by kernel_rfl
set_option maxHeartbeats 4000000 in
set_option maxRecDepth 100000 in
theorem walk (a0 : Option Addr) (len0 cap0 : Nat) (z0 : Nat → Int) (n1 : Int) (n2 : Int) (w : World) (b0 : Ints w a0 len0 z0) (hc0 : len0 ≤ cap0) (hm0 : cap0 ≤ maxLen) (hs0 : len0 ≤ 1048576) (hn1 : -9223372036854775808 ≤ n1 ∧ n1 ≤ 9223372036854775807) (hn2 : -9223372036854775808 ≤ n2 ∧ n2 ≤ 9223372036854775807) :
    Calls Try.prog 6 #[.slice a0 len0 cap0, .int .i64 n1, .int .i64 n2] w fun e w' => e = .returned (.bool true) ∧ Below w.heap.size w w' := by
  have hlg := log_any (c := cap0) b0 (by omega)
  have hkn := known_any
  go_enter Try.func6, Try.ntmps6
  go_wp2_with fail
  refine hlg.mono ?_
  rintro e w1 ⟨A, c, rfl, hl, hnc, hcm, hb1⟩
  have hb0' := b0.below hb1
  have hE := End_any (c := c) hl (by omega) hnc n1
  clear hlg
  by_cases hcan : Can (fun i => (lf z0 i).1) len0 n1 0
  case neg =>
    rw [ask_no hcan, if_neg hcan, if_neg hcan] at hE
    go_wp2_with fail
    refine hE.mono ?_
    rintro e w2 ⟨rfl, hb2⟩
    have hC := Cut_any (c := c) (hl.below hb2) (by omega) n1 n2
    generalize askE (fun i => (lf z0 i).1) len0 n1 n2 = y at hC
    generalize (if Can (fun i => (lf z0 i).1) len0 n1 n2 then ((min (nab (fun i => (lf z0 i).1) n1 len0) n2.toNat : Nat) : Int) else 0) = x at hC
    have hb12 := hb1.trans (hb2.mono hb1.size)
    go_wp2_with fail
    refine hC.mono ?_
    rintro e w3 ⟨rfl, hb3⟩
    have hb13 := hb12.trans (hb3.mono hb12.size)
    by_cases hbig : 60 < len0
    · have hd : decide (60 < len0) = true := by simpa using hbig
      go_wp2_with fail
      refine (hkn _).mono ?_
      rintro e w4 ⟨rfl, hb4⟩
      go_wp2_with fail
      go_ret
      exact ⟨rfl, hb13.trans (hb4.mono hb13.size)⟩
    · have hd : decide (60 < len0) = false := by simpa using hbig
      go_wp2_with fail
      refine (hkn _).mono ?_
      rintro e w4 ⟨rfl, hb4⟩
      go_wp2_with fail
      go_ret
      exact ⟨rfl, hb13.trans (hb4.mono hb13.size)⟩
  case pos =>
  rw [ask_yes hcan, if_pos hcan, if_pos hcan] at hE
  obtain ⟨q, hq⟩ : ∃ q, q = nab (fun i => (lf z0 i).1) n1 len0 := ⟨_, rfl⟩
  have hqn : q ≤ len0 := by rw [hq]; exact nab_le _ _ _
  have HG := Lib.hid hcan.2.2.2
  have HQ := Lib.hid hq
  have HCAN := Lib.hid hcan
  rw [← hq] at hE
  obtain ⟨x, hx⟩ : ∃ x, x = lastTo (fun i => (lf z0 i).1) q := ⟨_, rfl⟩
  have HX := Lib.hid hx
  rw [← hx] at hE
  clear hq hx hcan
  go_wp2_with fail
  refine hE.mono ?_
  rintro e w2 ⟨rfl, hb2⟩
  have hC := Cut_any (c := c) (hl.below hb2) (by omega) n1 n2
  generalize hy : askE (fun i => (lf z0 i).1) len0 n1 n2 = y at hC
  generalize hcc : (if Can (fun i => (lf z0 i).1) len0 n1 n2 then ((min (nab (fun i => (lf z0 i).1) n1 len0) n2.toNat : Nat) : Int) else 0) = cc at hC
  have HY := Lib.hid hy
  have HCC := Lib.hid hcc
  clear hy hcc
  have hb12 := hb1.trans (hb2.mono hb1.size)
  go_wp2_with fail
  refine hC.mono ?_
  rintro e w3 ⟨rfl, hb3⟩
  have hb13 := hb12.trans (hb3.mono hb12.size)
  have hb23 := hb2.trans (hb3.mono hb2.size)
  by_cases hbig : 60 < len0
  · have hd : decide (60 < len0) = true := by simpa using hbig
    go_wp2_with fail
    refine (hkn _).mono ?_
    rintro e w4 ⟨rfl, hb4⟩
    go_wp2_with fail
    go_ret
    exact ⟨rfl, hb13.trans (hb4.mono hb13.size)⟩
  have hd0 : decide (60 < len0) = false := by simpa using hbig
  have hI := hb0'.below hb23
  have HI := Lib.hid hI
  have HLOOP : Hid (∀ i, i < len0 → (decide (z0 i ≤ n1) = decide (i < q))) := Lib.hid (fun i hi => by
    rw [decide_eq_decide]
    have e1 := HQ.out
    constructor
    · intro h
      rcases Nat.lt_or_ge i q with g | g
      · exact g
      · have : n1 < z0 i := nab_above (E := fun i => (lf z0 i).1) (e := n1) (n := len0) (by omega) hi
        omega
    · intro h
      have : z0 i ≤ n1 := nab_below (E := fun i => (lf z0 i).1) (e := n1) (n := len0) HG.out (by omega)
      exact this)
  have hq1 : decide ((q : Int) < 0) = false := by simp
  have hq2 : decide ((len0 : Int) < (q : Int)) = false := by simp; omega
  clear hl hE hC b0 hb0'
  rcases Nat.eq_zero_or_pos q with hq0 | hq0
  · have hx0 : x = 0 := by rw [HX.out, hq0]; rfl
    subst hx0
    have hqi : (q : Int) = 0 := by omega
    go_wp2_with fail
    clear hqi
    go_loopw [13] (fun i wr => ∃ k : Nat, k ≤ len0 ∧ i = .int .i64 k ∧ w3 = wr) (fun i _ => len0 - (intOf i).toNat)
    case atStart => exact ⟨0, by omega, rfl, rfl⟩
    case round =>
      obtain ⟨k, hk, rfl, rfl⟩ := hrel
      by_cases hlt : k < len0
      case pos =>
        obtain ⟨ad', had, hadl2, ck⟩ := HI.out.at_ hlt
        try subst had
        try (injection had with had; subst had)
        have hdec := HLOOP.out k hlt
        have hkq : ¬ k < q := by omega
        · have hd1 : decide (k < q) = false := by simpa using hkq
          have hd2 : decide (z0 k ≤ n1) = false := by rw [hdec]; exact hd1
          clear hdec
          go_wp2_with fail
          exact ⟨⟨k + 1, by omega, by go_num, by first | rfl | trivial⟩, by simp [intOf]; omega⟩
      case neg =>
        have hdk : decide (k < len0) = false := by simpa using hlt
        by_cases hn : n2 < 0
        · have hn' : decide (n2 < 0) = true := by simpa using hn
          have hcn : ¬ Can (fun i => (lf z0 i).1) len0 n1 n2 := fun h => by have := h.2.1; omega
          obtain rfl : y = 2 := by rw [← HY.out, ask_no hcn]
          obtain rfl : cc = 0 := by rw [← HCC.out, if_neg hcn]
          go_wp2_with fail
          refine (hkn _).mono ?_
          rintro e w4 ⟨rfl, hb4⟩
          go_wp2_with fail
          go_ret
          exact ⟨rfl, hb13.trans (hb4.mono hb13.size)⟩
        · have hn' : decide (n2 < 0) = false := by simpa using hn
          have hcn : Can (fun i => (lf z0 i).1) len0 n1 n2 := ⟨HCAN.out.1, by omega, HCAN.out.2.2⟩
          obtain rfl : y = 0 := by rw [← HY.out, ask_yes hcn]
          have hcc : cc = ((min q n2.toNat : Nat) : Int) := by rw [← HCC.out, if_pos hcn, ← HQ.out]
          have hmin : min n2 (q : Int) = cc := by omega
          clear hcc hcn hn hn2 HCC HY
          go_wp2_with fail
          refine (hkn _).mono ?_
          rintro e w4 ⟨rfl, hb4⟩
          go_wp2_with fail
          go_ret
          exact ⟨rfl, hb13.trans (hb4.mono hb13.size)⟩
  · obtain ⟨j, hj⟩ : ∃ j, q = j + 1 := ⟨q - 1, by omega⟩
    obtain ⟨ad, rfl, hadl, c0⟩ := hI.at_ (k := j) (by omega)
    obtain rfl : x = z0 j := by rw [HX.out]; unfold lastTo; rw [if_neg (by omega), hj]; rfl
    subst hj
    go_wp2_with fail
    obtain ⟨q, hqj⟩ : ∃ q, q = j + 1 := ⟨_, rfl⟩
    have e9 : ((j : Int) + 1) = (q : Int) := by omega
    rw [e9]
    rw [← hqj] at HLOOP HQ hqn
    clear hq1 hq2 hq0 c0 e9 HX hqj
    go_loopw [13] (fun i wr => ∃ k : Nat, k ≤ len0 ∧ i = .int .i64 k ∧ w3 = wr) (fun i _ => len0 - (intOf i).toNat)
    case atStart => exact ⟨0, by omega, rfl, rfl⟩
    case round =>
      obtain ⟨k, hk, rfl, rfl⟩ := hrel
      by_cases hlt : k < len0
      case pos =>
        obtain ⟨ad', had, hadl2, ck⟩ := HI.out.at_ hlt
        try subst had
        try (injection had with had; subst had)
        have hdec := HLOOP.out k hlt
        by_cases hkq : k < q
        · have hd1 : decide (k < q) = true := by simpa using hkq
          have hd2 : decide (z0 k ≤ n1) = true := by rw [hdec]; exact hd1
          have hd4 : decide ((k : Int) < (q : Int)) = true := by simp; omega
          clear hdec
          go_wp2_with fail
          exact ⟨⟨k + 1, by omega, by go_num, by first | rfl | trivial⟩, by simp [intOf]; omega⟩
        · have hd1 : decide (k < q) = false := by simpa using hkq
          have hd2 : decide (z0 k ≤ n1) = false := by rw [hdec]; exact hd1
          clear hdec
          go_wp2_with fail
          exact ⟨⟨k + 1, by omega, by go_num, by first | rfl | trivial⟩, by simp [intOf]; omega⟩
      case neg =>
        have hdk : decide (k < len0) = false := by simpa using hlt
        by_cases hn : n2 < 0
        · have hn' : decide (n2 < 0) = true := by simpa using hn
          have hcn : ¬ Can (fun i => (lf z0 i).1) len0 n1 n2 := fun h => by have := h.2.1; omega
          obtain rfl : y = 2 := by rw [← HY.out, ask_no hcn]
          obtain rfl : cc = 0 := by rw [← HCC.out, if_neg hcn]
          go_wp2_with fail
          refine (hkn _).mono ?_
          rintro e w4 ⟨rfl, hb4⟩
          go_wp2_with fail
          go_ret
          exact ⟨rfl, hb13.trans (hb4.mono hb13.size)⟩
        · have hn' : decide (n2 < 0) = false := by simpa using hn
          have hcn : Can (fun i => (lf z0 i).1) len0 n1 n2 := ⟨HCAN.out.1, by omega, HCAN.out.2.2⟩
          obtain rfl : y = 0 := by rw [← HY.out, ask_yes hcn]
          have hcc : cc = ((min q n2.toNat : Nat) : Int) := by rw [← HCC.out, if_pos hcn, ← HQ.out]
          have hmin : min n2 (q : Int) = cc := by omega
          clear hcc hcn hn hn2 HCC HY
          go_wp2_with fail
          refine (hkn _).mono ?_
          rintro e w4 ⟨rfl, hb4⟩
          go_wp2_with fail
          go_ret
          exact ⟨rfl, hb13.trans (hb4.mono hb13.size)⟩

set_option maxRecDepth 100000 in
theorem lifted (os : Os) (started : os.Started) (H : Type) (enc : TypeId × Value → H) (F : _root_.Go.Stop.Interp) :
    ReturnsInHanded {} Try.checked os 6 .any ((Rows.OpenSpec.upto Rows.epochsEndsSpec).pre6 enc Try.prog Try.f6 Rows.epochsEndsUptoRow.domain false) (((Rows.OpenSpec.upto Rows.epochsEndsSpec).at F).post enc Try.prog Try.f6 false true false false) := by
  refine returnsInHanded_of_cond (C := Try.checked) (s := Rows.OpenSpec.upto Rows.epochsEndsSpec) (k := Rows.uptoSmall) rfl own started (by kernel_rfl) Try.func6
    (OpenSpec.witness (enc := enc) (C := Try.checked) (s := Rows.OpenSpec.upto Rows.epochsEndsSpec) (k := Rows.uptoSmall) rfl false ⟨#[], #[.slice none 0 0, .int .i64 0, .int .i64 0], []⟩ 8 (by kernel_rfl) (by kernel_rfl) (by kernel_rfl)
      (x := ([.nil, .lit (.int .i64 0), .lit (.int .i64 0)], [], [])) (by kernel_rfl) rfl (by kernel_rfl)) ?_
  intro W base args ds gs before hval0 hW _ hk _
  have hval : ∀ (j : Nat) t v, Try.f6.params[j]? = some t → args[j]? = some v → Value.okWide Try.prog W .any base t v := hval0
  have hW' := hW
  obtain ⟨p, q, hA0, hV, rfl, hfz, hnd⟩ := hW
  have hA : DataW.TrodAll enc Try.prog W 0 (fun _ => true) true Try.f6.params.toList args.toList ds p := hA0
  rw [Try.params6] at hA hval
  obtain ⟨v0, vs0, d0, ds0, p0, q0, hargs, rfl, rfl, h0, r0⟩ := trodAll_cons hA
  obtain ⟨v1, vs1, d1, ds1, p1, q1, rfl, rfl, rfl, h1, r1⟩ := trodAll_cons r0
  obtain ⟨v2, vs2, d2, ds2, p2, q2, rfl, rfl, rfl, h2, r2⟩ := trodAll_cons r1
  obtain ⟨rfl, rfl, rfl⟩ := trodAll_nil r2
  obtain rfl : args = #[v0, v1, v2] := by cases args; simp_all
  obtain ⟨rfl, rfl⟩ := trodVars_none hV
  have hk' : Rows.uptoBulkAll ([d0, d1, d2] ++ []) ≤ 1048576 := of_decide_eq_true hk
  simp only [List.cons_append, List.nil_append, Rows.uptoBulkAll] at hk'
  have k0 := h0
  have lt0 : ∀ x ∈ p0, x.block < W.heap.size := by obtain ⟨m, hm⟩ := k0; exact DataW.trod_lt m _ _ _ hm
  obtain ⟨a0, len0, cap0, z0, rfl, b0, hc0, hm0, hs0⟩ := open_22 h0 (slice_one Try.underlying22 (hval 0 22 v0 rfl rfl))
  have k1 := h1
  have lt1 : ∀ x ∈ p1, x.block < W.heap.size := by obtain ⟨m, hm⟩ := k1; exact DataW.trod_lt m _ _ _ hm
  obtain ⟨n1, rfl, rfl, rfl, wf1⟩ := open_int Try.underlying2 (hval 1 2 v1 rfl rfl) h1
  have k2 := h2
  have lt2 : ∀ x ∈ p2, x.block < W.heap.size := by obtain ⟨m, hm⟩ := k2; exact DataW.trod_lt m _ _ _ hm
  obtain ⟨n2, rfl, rfl, rfl, wf2⟩ := open_int Try.underlying3 (hval 2 3 v2 rfl rfl) h2
  clear hA0 hval0
  refine (walk a0 len0 cap0 z0 n1 n2 W b0 hc0 hm0 (by omega) (i64_bounds wf1) (i64_bounds wf2)).mono fun e W' ⟨he, bel⟩ => ?_
  subst he
  exact ⟨_, rfl, _, _, _, [], _, [], hW', trodAll_mk1 (shut_bool Try.underlying4 _), (trodAll_cons_mk (Below.trod laidOut (by kernel_rfl) (of_decide_eq_true (by kernel_rfl)) k0 bel lt0) (trodAll_cons_mk (Below.trod laidOut (by kernel_rfl) (of_decide_eq_true (by kernel_rfl)) k1 bel lt1) (trodAll_cons_mk (Below.trod laidOut (by kernel_rfl) (of_decide_eq_true (by kernel_rfl)) k2 bel lt2) trodAll_mk0))), rfl, bel.frame _, fun h => by cases h⟩

theorem over : Rows.epochsEndsUptoRow.holds Try.pinned (Rows.OpenSpec.upto Rows.epochsEndsSpec) :=
  OpenClaim.holds_of_cond 6 Try.f6 rfl rfl rfl rfl rfl rfl rfl ⟨rfl, rfl, rfl, rfl, rfl⟩ rfl rfl rfl rfl rfl (by kernel_rfl) Try.func6 (by kernel_rfl)
    (of_decide_eq_true (by kernel_rfl)) (by unfold Func.isWrapper; first | (rw [if_pos (by decide +kernel)]; kernel_rfl) | (rw [if_neg (by decide +kernel)]; exact ⟨rfl, rfl⟩))
    (fun os started H enc _ F => lifted os started H enc F)

theorem proved : Rows.EpochsEndsUptoSaid := over
end Go.Proofs.Ytabbkghnijebpaa.epochsEnds
namespace Go.Proofs.Ytabbkghnijebpaa
theorem epochsEndsUpto_holds : Rows.EpochsEndsUptoSaid := epochsEnds.proved
#print axioms epochsEndsUpto_holds
end Go.Proofs.Ytabbkghnijebpaa
