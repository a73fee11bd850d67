/-
  EpochsStarts, where what comes in is of bulk at most 1048576: it answers true, whatever comes in, and leaves its arguments as they were.
-/
import Derived.Test.YtabbkghnijebpaaSameS
import Derived.WalkKit
import Derived.ProofKit
import Derived.OpenShut
import Derived.ShutString
import Derived.ChangeOld
import Derived.Below
namespace Go.Proofs.Ytabbkghnijebpaa.epochsStarts
open Go.ChangeShapes Go.WideShapes Go.ChangeAt Go.RowKit
set_option linter.unusedVariables false
theorem own : ownKnob Try.prog.godebug = none := by kernel_rfl
theorem laidOut : laidOutB Try.prog = true := by kernel_rfl
theorem start_epoch {E : Nat → Int} {n : Nat} : ∀ {m : Nat}, m + 1 ≤ n → ∃ j d, (starts E (m + 1)).length = d + 1 ∧ (starts E n)[d]? = some j ∧ E j = E m
  | 0, h => by
    have h1 := starts_at (E := E) (i := 0) (n := n) (by omega) (.inl rfl)
    refine ⟨0, 0, ?_, ?_, rfl⟩
    · rw [starts_yes (.inl rfl)]; rfl
    · exact h1
  | m + 1, h => by
    obtain ⟨j, d, h1, h2, h3⟩ := start_epoch (E := E) (n := n) (m := m) (by omega)
    by_cases hs : m + 1 = 0 ∨ E (m + 1) ≠ E (m + 1 - 1)
    · refine ⟨m + 1, d + 1, ?_, ?_, rfl⟩
      · rw [starts_yes hs, List.length_append, h1]; rfl
      · rw [← h1]; exact starts_at (by omega) hs
    · refine ⟨j, d, ?_, h2, ?_⟩
      · rw [starts_no hs]; exact h1
      · rw [h3]
        have : E (m + 1) = E (m + 1 - 1) := by
          rcases Decidable.em (E (m + 1) = E (m + 1 - 1)) with g | g
          · exact g
          · exact absurd (.inr g) hs
        rw [this]; rfl
theorem start_else {E : Nat → Int} {n i k j : Nat} (hs : ¬ (i = 0 ∨ E i ≠ E (i - 1))) (h : (starts E n)[k]? = some j) : j ≠ i := by
  rintro rfl
  have := List.mem_of_getElem? h
  unfold starts at this
  rw [List.mem_filter, decide_eq_true_iff] at this
  exact hs this.2
set_option maxHeartbeats 4000000 in
set_option maxRecDepth 100000 in
theorem walk (a0 : Option Addr) (len0 cap0 : Nat) (z0 : Nat → Int) (w : World) (b0 : Ints w a0 len0 z0) (hc0 : len0 ≤ cap0) (hm0 : cap0 ≤ maxLen) (hs0 : len0 ≤ 1048576) :
    Calls Try.prog 7 #[.slice a0 len0 cap0] w fun e w' => e = .returned (.bool true) ∧ Below w.heap.size w w' := by
  have hlg := log_any (c := cap0) b0 (by omega)
  have hkn := known_any
  go_enter Try.func7, Try.ntmps7
  go_wp2_with fail
  refine hlg.mono ?_
  rintro e w1 ⟨A, c, rfl, hl, hnc, hcm, hb1⟩
  have hb0' := b0.below hb1
  clear hlg
  by_cases hmay : May (fun i => (lf z0 i).1) len0
  case neg =>
    have hS := Starts_no (c := c) hl (by omega) hmay
    go_wp2_with fail
    refine hS.mono ?_
    rintro e w2 ⟨rfl, hb2⟩
    have hb12 := hb1.trans (hb2.mono hb1.size)
    by_cases hbig : 60 < len0
    · have hd : decide (60 < len0) = true := by simpa using hbig
      go_wp2_with fail
      refine (hkn _).mono ?_
      rintro e w4 ⟨rfl, hb4⟩
      go_wp2_with fail
      go_ret
      exact ⟨rfl, hb12.trans (hb4.mono hb12.size)⟩
    · have hd : decide (60 < len0) = false := by simpa using hbig
      go_wp2_with fail
      refine (hkn _).mono ?_
      rintro e w4 ⟨rfl, hb4⟩
      go_wp2_with fail
      go_ret
      exact ⟨rfl, hb12.trans (hb4.mono hb12.size)⟩
  case pos =>
  have hS := Starts_yes (c := c) hl hmay
  clear hmay
  go_wp2_with fail
  refine hS.mono ?_
  rintro e w2 ⟨S, cs, rfl, hst, hsc, hsm, hb2⟩
  have hb12 := hb1.trans (hb2.mono hb1.size)
  by_cases hbig : 60 < len0
  · have hd : decide (60 < len0) = true := by simpa using hbig
    go_wp2_with fail
    refine (hkn _).mono ?_
    rintro e w4 ⟨rfl, hb4⟩
    go_wp2_with fail
    go_ret
    exact ⟨rfl, hb12.trans (hb4.mono hb12.size)⟩
  have hd0 : decide (60 < len0) = false := by simpa using hbig
  have hE : (fun i => (lf z0 i).1) = z0 := rfl
  rw [hE] at hst hsc
  rw [hE]
  have HI := Lib.hid (hb0'.below hb2)
  have HST := Lib.hid hst
  have hsl := starts_len z0 len0
  obtain ⟨ns, hns⟩ : ∃ ns, ns = (starts z0 len0).length := ⟨_, rfl⟩
  have HNS := Lib.hid hns
  rw [← hns] at hsl hsc HST ⊢
  clear hl hS b0 hb0' hst hE hns
  go_wp2_with fail
  go_loopw [5, 6] (fun v i wr => ∃ k d : Nat, k ≤ len0 ∧ d ≤ ns ∧ i = .int .i64 k ∧ v = .int .i64 ((d : Int) - 1) ∧ Hid (d = (starts z0 k).length) ∧ Below w2.heap.size w2 wr) (fun _ i _ => len0 - (intOf i).toNat)
  case atStart => exact ⟨0, 0, by omega, by omega, rfl, rfl, Lib.hid rfl, Below.refl _ _⟩
  case round =>
    obtain ⟨k, d, hk, hdn, rfl, rfl, hdk, hbr⟩ := hrel
    have HB := Lib.hid hbr
    clear hbr
    by_cases hlt : k < len0
    case neg =>
      have hdd : decide (k < len0) = false := by simpa using hlt
      obtain rfl : k = len0 := by omega
      obtain rfl : d = ns := by rw [hdk.out, HNS.out]
      have hb13 := hb12.trans (HB.out.mono hb12.size)
      go_wp2_with fail
      refine (hkn _).mono ?_
      rintro e w4 ⟨rfl, hb4⟩
      go_wp2_with fail
      go_ret
      exact ⟨rfl, hb13.trans (hb4.mono hb13.size)⟩
    case pos =>
    obtain ⟨ad, rfl, hadl, ck⟩ := (HI.out.below HB.out).at_ hlt
    obtain ⟨j, d', hd1, hd2, hd3⟩ := start_epoch (E := z0) (n := len0) (m := k) (by omega)
    have hd'n : d' < ns := by rw [HNS.out]; exact (List.getElem?_eq_some_iff.1 hd2).1
    obtain ⟨sd, jj, rfl, hsdl, hj, s0, s1⟩ := (HST.out.below HB.out).at_ (k := d') hd'n
    rw [hd2] at hj
    injection hj with hj
    subst hj
    rw [hd3] at s0
    have hqz : (z0 k == z0 k) = true := by simp
    by_cases hs : k = 0 ∨ z0 k ≠ z0 (k - 1)
    case pos =>
      have e1 : d' = d := by
        have := starts_yes (E := z0) hs
        rw [this, List.length_append] at hd1
        have h2 := hdk.out
        simp at hd1
        omega
      subst e1
      have e2 : j = k := by
        have := starts_at (E := z0) hlt hs
        rw [← hdk.out, hd2] at this
        injection this
      subst e2
      have HD2 : Hid (d' + 1 = (starts z0 (j + 1)).length) := Lib.hid (by omega)
      clear hd2 hd3 hs hd1 hdk
      go_wp2_with fail
      go_quiet (fail)
      go_wp2_with fail
      go_roundw
      case rel => exact ⟨j + 1, d' + 1, by omega, by omega, by go_num, by congr 1; omega, HD2, below_drewN HB.out _⟩
      case measure => simp [intOf]; omega
    case neg =>
      have e1 : d = d' + 1 := by
        have := starts_no (E := z0) hs
        rw [this] at hd1
        rw [hdk.out]; exact hd1
      subst e1
      have HD2 : Hid (d' + 1 = (starts z0 (k + 1)).length) := Lib.hid (by omega)
      have e2 : (((d' + 1 : Nat) : Int) - 1) = (d' : Int) := by omega
      rw [e2]
      by_cases hmore : d' + 1 < ns
      · obtain ⟨sd2, jj, hsd2, -, hj, t0, t1⟩ := (HST.out.below HB.out).at_ (k := d' + 1) hmore
        injection hsd2 with hsd2
        subst hsd2
        have hne := start_else hs hj
        have hq1 : (((jj : Nat) : Int) == ((k : Nat) : Int)) = false := by rw [beq_eq_false_iff_ne]; omega
        have hq2 : (jj == k) = false := by rw [beq_eq_false_iff_ne]; exact hne
        have hmd : decide (d' + 1 < ns) = true := by simpa using hmore
        clear hd2 hd3 hs hd1 hdk hj hne e2
        go_wp2_with fail
        go_quiet (fail)
        go_wp2_with fail
        go_roundw
        case rel => exact ⟨k + 1, d' + 1, by omega, by omega, by go_num, by congr 1; omega, HD2, below_drewN HB.out _⟩
        case measure => simp [intOf]; omega
      · have hmd : decide (d' + 1 < ns) = false := by simpa using hmore
        have hmd2 : decide ((d' : Int) + 1 < (ns : Int)) = false := by simp; omega
        clear hd2 hd3 hs hd1 hdk e2
        go_wp2_with fail
        go_quiet (fail)
        go_wp2_with fail
        go_roundw
        case rel => exact ⟨k + 1, d' + 1, by omega, by omega, by go_num, by congr 1; omega, HD2, below_drewN HB.out _⟩
        case measure => simp [intOf]; omega

set_option maxRecDepth 100000 in
theorem lifted (os : Os) (started : os.Started) (H : Type) (enc : TypeId × Value → H) (F : _root_.Go.Stop.Interp) :
    ReturnsInHanded {} Try.checked os 7 .any ((Rows.OpenSpec.upto Rows.epochsStartsSpec).pre6 enc Try.prog Try.f7 Rows.epochsStartsUptoRow.domain false) (((Rows.OpenSpec.upto Rows.epochsStartsSpec).at F).post enc Try.prog Try.f7 false true false false) := by
  refine returnsInHanded_of_cond (C := Try.checked) (s := Rows.OpenSpec.upto Rows.epochsStartsSpec) (k := Rows.uptoSmall) rfl own started (by kernel_rfl) Try.func7
    (OpenSpec.witness (enc := enc) (C := Try.checked) (s := Rows.OpenSpec.upto Rows.epochsStartsSpec) (k := Rows.uptoSmall) rfl false ⟨#[], #[.slice none 0 0], []⟩ 8 (by kernel_rfl) (by kernel_rfl) (by kernel_rfl)
      (x := ([.nil], [], [])) (by kernel_rfl) rfl (by kernel_rfl)) ?_
  intro W base args ds gs before hval0 hW _ hk _
  have hval : ∀ (j : Nat) t v, Try.f7.params[j]? = some t → args[j]? = some v → Value.okWide Try.prog W .any base t v := hval0
  have hW' := hW
  obtain ⟨p, q, hA0, hV, rfl, hfz, hnd⟩ := hW
  have hA : DataW.TrodAll enc Try.prog W 0 (fun _ => true) true Try.f7.params.toList args.toList ds p := hA0
  rw [Try.params7] at hA hval
  obtain ⟨v0, vs0, d0, ds0, p0, q0, hargs, rfl, rfl, h0, r0⟩ := trodAll_cons hA
  obtain ⟨rfl, rfl, rfl⟩ := trodAll_nil r0
  obtain rfl : args = #[v0] := by cases args; simp_all
  obtain ⟨rfl, rfl⟩ := trodVars_none hV
  have hk' : Rows.uptoBulkAll ([d0] ++ []) ≤ 1048576 := of_decide_eq_true hk
  simp only [List.cons_append, List.nil_append, Rows.uptoBulkAll] at hk'
  have k0 := h0
  have lt0 : ∀ x ∈ p0, x.block < W.heap.size := by obtain ⟨m, hm⟩ := k0; exact DataW.trod_lt m _ _ _ hm
  obtain ⟨a0, len0, cap0, z0, rfl, b0, hc0, hm0, hs0⟩ := open_22 h0 (slice_one Try.underlying22 (hval 0 22 v0 rfl rfl))
  clear hA0 hval0
  refine (walk a0 len0 cap0 z0 W b0 hc0 hm0 (by omega)).mono fun e W' ⟨he, bel⟩ => ?_
  subst he
  exact ⟨_, rfl, _, _, _, [], _, [], hW', trodAll_mk1 (shut_bool Try.underlying4 _), (trodAll_cons_mk (Below.trod laidOut (by kernel_rfl) (of_decide_eq_true (by kernel_rfl)) k0 bel lt0) trodAll_mk0), rfl, bel.frame _, fun h => by cases h⟩

theorem over : Rows.epochsStartsUptoRow.holds Try.pinned (Rows.OpenSpec.upto Rows.epochsStartsSpec) :=
  OpenClaim.holds_of_cond 7 Try.f7 rfl rfl rfl rfl rfl rfl rfl ⟨rfl, rfl, rfl, rfl, rfl⟩ rfl rfl rfl rfl rfl (by kernel_rfl) Try.func7 (by kernel_rfl)
    (of_decide_eq_true (by kernel_rfl)) (by unfold Func.isWrapper; first | (rw [if_pos (by decide +kernel)]; kernel_rfl) | (rw [if_neg (by decide +kernel)]; exact ⟨rfl, rfl⟩))
    (fun os started H enc _ F => lifted os started H enc F)

theorem proved : Rows.EpochsStartsUptoSaid := over
end Go.Proofs.Ytabbkghnijebpaa.epochsStarts
namespace Go.Proofs.Ytabbkghnijebpaa
theorem epochsStartsUpto_holds : Rows.EpochsStartsUptoSaid := epochsStarts.proved
#print axioms epochsStartsUpto_holds
end Go.Proofs.Ytabbkghnijebpaa
