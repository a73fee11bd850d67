/-
  A table behind entries that are appended, and truncations. Nothing is assumed.
-/
import Derived.Test.YtafgcafhgnfegaaWr2
import Derived.Test.YtafgcafhgnfegaaOpen
import Derived.Test.YtafgcafhgnfegaaRefD
import Derived.Test.YtafgcafhgnfegaaTrunc
import Derived.Test.YtafgcafhgnfegaaWriter
import Derived.Test.YtafgcafhgnfegaaTwo2
import Derived.Test.YtafgcafhgnfegaaNums
import Derived.WalkKit
import Derived.ProofKit
import Derived.OpenShut
import Derived.ShutString
import Derived.ChangeOld
import Derived.Below
namespace Go.Proofs.Ytafgcafhgnfegaa.producersPlays
open Go.ChangeShapes Go.WideShapes Go.ChangeAt Go.RowKit Go.Maps
set_option linter.unusedVariables false
theorem own : ownKnob Try.prog.godebug = none := by kernel_rfl
theorem laidOut : laidOutB Try.prog = true := by kernel_rfl
theorem num_q (n : Int) (w : World) : Calls Try.prog 16 #[.int .i64 n] w fun r w' => r = .returned (.int .i64 n) ∧ w' = w := (num_any n w).mono fun _ _ ⟨h1, h2⟩ => ⟨h1, h2.symm⟩
theorem slice22_to (a : Option Addr) (n c k : Nat) (hk : k ≤ c) (W : World) : (Instr.slice 22 (.slice a n c) none (some (.int .i64 (k : Int))) none).run Try.prog W = .ok (.slice a k c) W := by
  obtain ⟨j, hj, hz0, hz1, hz2⟩ := info_parts el22.info
  have ha : a.map (fun x : Addr => x.add 0) = a := by cases a <;> simp [Addr.add]
  simp [Instr.slice, run_underlying Try.underlying22, Instr.sliceBounds, Instr.sliceBound, asIntOf, hk, sizeOf, typeInfo, hj, ha]
theorem two_take {w W : World} {g m n c : Nat} {l l' : List Ent} {A : Option Addr} (h : Two w g l l' (.slice A n c) W) (hm : m ≤ l'.length) : Two w g l (l'.take m) (.slice A m c) W := by
  obtain ⟨⟨A', c', e, h1, h2, h3⟩, S, hT, hS⟩ := h
  injection e with e1 e2 e3
  subst e1 e2 e3
  have hct : (cellsOf l').take m = cellsOf (l'.take m) := by unfold cellsOf; rw [List.map_take]
  have ho := h1.take (q := m) (by simpa [cellsOf] using hm)
  rw [hct] at ho
  have hb : (Value.slice A m c).ownBlock = (Value.slice A l'.length c).ownBlock := by cases A <;> rfl
  exact ⟨⟨A, c, by rw [List.length_take, Nat.min_eq_left hm], ho, fun b eb => h2 b (hb ▸ eb), h3⟩, S, hT, fun b q => ⟨(hS b q).1, (hS b q).2.1, fun eb => (hS b q).2.2 (hb ▸ eb)⟩⟩
set_option maxHeartbeats 4000000 in
set_option maxRecDepth 100000 in
theorem walk (a0 : Option Addr) (len0 cap0 : Nat) (l0 : List Ent) (a1 : Option Addr) (len1 cap1 : Nat) (z1 : Nat → Int) (w : World) (b0 : Rd w No 6 a0 len0 (cellsOf l0)) (hc0 : len0 ≤ cap0) (hm0 : cap0 ≤ maxLen) (b1 : Ints w a1 len1 z1) (hc1 : len1 ≤ cap1) (hm1 : cap1 ≤ maxLen) :
    Calls Try.prog 5 #[.slice a0 len0 cap0, .slice a1 len1 cap1] w fun e w' => e = .returned (.bool true) ∧ Below w.heap.size w w' := by
  have HR := Lib.hid b0
  have HLEN := Lib.hid b0.lenE
  have HM := Lib.hid b1
  clear b0 hc0 hm0 b1 hc1 hm1
  by_cases hgt : 60 < len0
  case pos =>
    have hd : decide (60 < len0) = true := decide_eq_true hgt
    go_enter Try.func5, Try.ntmps5
    go_wp2_with fail
    refine (works_any _).mono ?_
    rintro r w1 ⟨rfl, hb1⟩
    go_wp2_with fail
    go_ret
    exact ⟨rfl, hb1⟩
  case neg =>
  have hd : decide (60 < len0) = false := decide_eq_false hgt
  go_enter Try.func5, Try.ntmps5
  go_wp2_with fail
  refine (new_any w).mono ?_
  rintro r w1 ⟨g, rfl, hT1, hb1⟩
  have HT : Hid (Two w g [] [] (.slice none 0 0) w1) := Lib.hid (Two.made (LogV.nil_ (Below.refl _ _)) hb1 hT1)
  clear hT1 hb1
  go_wp2_with fail
  go_loopw [6, 7] (fun o i wv => ∃ k : Nat, k ≤ len0 ∧ i = .int .i64 k ∧ ∃ L : List Ent, L.length ≤ k ∧ Two w g L L o wv) (fun o i _ => len0 - (iOf i).toNat)
  case atStart => exact ⟨0, by omega, rfl, [], Nat.le_refl _, HT.out⟩
  case round =>
    obtain ⟨k, hk, rfl, L, hLk, hW⟩ := hrel
    have HW := Lib.hid hW
    obtain ⟨⟨A1, c1, rfl, -, -, -⟩, -⟩ := hW
    by_cases hlt : k < len0
    case neg =>
      have hd1 : decide (k < len0) = false := by simpa using hlt
      go_wp2_with fail
      have his := HW.out.is_
      refine his.mono ?_
      rintro r w2 ⟨rfl, hb2⟩
      have HB2 := Lib.hid (HW.out.below.trans (hb2.mono HW.out.below.size))
      clear his hb2
      go_wp2_with fail
      refine (works_any _).mono ?_
      rintro r w3 ⟨rfl, hb3⟩
      go_wp2_with fail
      go_ret
      exact ⟨rfl, HB2.out.trans (hb3.mono HB2.out.size)⟩
    case pos =>
    have hd1 : decide (k < len0) = true := by simpa using hlt
    obtain ⟨e, he⟩ : ∃ e, l0[k]? = some e := ⟨_, List.getElem?_eq_getElem (by rw [HLEN.out]; exact hlt)⟩
    have HE := Lib.hid he
    obtain ⟨ad, rfl, hadl, -, s0, s1, s2, s3, s4, s5⟩ := (HR.out.below HW.out.below).ent he
    clear he hadl
    have hap := HW.out.refApp (by omega) e
    unfold Ent.val Ent.cells at hap
    go_wp2_with fail
    refine hap.mono ?_
    rintro r w2 ⟨v2, rfl, hW2, hb2⟩
    have HW2 := Lib.hid hW2
    clear hap hW2 hb2 s0 s1 s2 s3 s4 s5
    obtain ⟨ad', e', hadl, -, s0, s1, s2, s3, s4, s5⟩ := (HR.out.below HW2.out.below).ent HE.out
    injection e' with e'
    subst e'
    clear hadl
    have hap := HW2.out.app e
    unfold Ent.val Ent.cells at hap
    have hne : (appendE L e != appendE L e) = false := by simp
    go_wp2_with fail
    refine hap.mono ?_
    rintro r w3 ⟨rfl, hW3⟩
    have HLK : Hid ((keep1 L e).length ≤ k + 1) := Lib.hid (Nat.le_trans (keep1_len _ _) (by omega))
    clear hap s0 s1 s2 s3 s4 s5
    go_wp2_with fail
    refine (num_any _ _).mono ?_
    rintro r w4 ⟨rfl, rfl⟩
    generalize keep1 L e = L2 at *
    have HW3 := Lib.hid hW3
    obtain ⟨⟨A2, c2, rfl, -, -, -⟩, -⟩ := hW3
    clear HE
    by_cases hm : k < len1
    case neg =>
      have hm1 : decide (len1 ≤ k) = true := decide_eq_true (by omega)
      go_wp2_with fail
      go_round
      case rel => exact ⟨k + 1, by omega, by go_num, L2, HLK.out, HW3.out⟩
      case measure => simp [iOf]; omega
    case pos =>
    have hm1 : decide (len1 ≤ k) = false := decide_eq_false (by omega)
    have hZ : ∀ W, Below w.heap.size w W → ∃ ad', a1 = some ad' ∧ W.cell? (ad'.add k) = some (.int .i64 (z1 k)) := fun W hbW => by
      obtain ⟨ad', e', -, h⟩ := (HM.out.below hbW) (by omega)
      exact ⟨ad', e', h k hm⟩
    obtain ⟨ad', rfl, hz⟩ := hZ _ HW3.out.below
    have HZ : Hid (∀ W, Below w.heap.size w W → W.cell? (ad'.add k) = some (.int .i64 (z1 k))) := Lib.hid (fun W hbW => by
      obtain ⟨a', e', h⟩ := hZ W hbW
      injection e' with e'
      subst e'
      exact h)
    clear hZ
    have hlk := HLK.out
    by_cases hbad : z1 k < 0 ∨ (L2.length : Int) < z1 k
    case pos =>
      have htr : Calls Try.prog 23 #[.pointer (some ⟨g, 0, none⟩), .int .i64 (z1 k)] w3 fun r w' => r = .returned (.int .i64 4) ∧ w3 = w' := by
        obtain ⟨-, S, ht, -⟩ := HW3.out
        exact trunc_no ht hbad
      go_wp2_with fail
      refine htr.mono ?_
      rintro r w4 ⟨rfl, rfl⟩
      clear htr
      generalize z1 k = z at *
      rcases (show z < 0 ∨ 0 ≤ z by omega) with hz0 | hz0
      · have d1 : decide (z < 0) = true := decide_eq_true hz0
        clear hbad hz0
        go_upto_region 14 with fail
        go_quiet (first | (go_at_call 16; first | exact Calls.quiet_of_same (num_q _ _) | exact quiet_again (num_q _ _) | exact quiet_more (num_q _ _)))
        have HW5 : Hid (∀ q, Two w g L2 L2 (.slice A2 L2.length c2) (w3.drewN q)) := Lib.hid (fun q => HW3.out.low (below_drewN (Below.refl _ _) q))
        go_wp2_with fail
        refine (num_any _ _).mono ?_
        rintro r w6 ⟨rfl, rfl⟩
        go_wp2_with fail
        refine (Two.is_ (HW5.out _)).mono ?_
        rintro r w7 ⟨rfl, hb7⟩
        have HW7 := Lib.hid (Two.low (HW5.out _) hb7)
        clear hb7
        go_wp2_with fail
        go_round
        case rel => exact ⟨k + 1, by omega, by go_num, L2, by omega, HW7.out⟩
        case measure => simp [iOf]; omega

      · have d1 : decide (z < 0) = false := decide_eq_false (by omega)
        have d2 : decide ((L2.length : Int) < z) = true := decide_eq_true (by omega)
        clear hbad hz0
        go_upto_region 14 with fail
        go_quiet (first | (go_at_call 16; first | exact Calls.quiet_of_same (num_q _ _) | exact quiet_again (num_q _ _) | exact quiet_more (num_q _ _)))
        have HW5 : Hid (∀ q, Two w g L2 L2 (.slice A2 L2.length c2) (w3.drewN q)) := Lib.hid (fun q => HW3.out.low (below_drewN (Below.refl _ _) q))
        go_wp2_with fail
        refine (num_any _ _).mono ?_
        rintro r w6 ⟨rfl, rfl⟩
        go_wp2_with fail
        refine (Two.is_ (HW5.out _)).mono ?_
        rintro r w7 ⟨rfl, hb7⟩
        have HW7 := Lib.hid (Two.low (HW5.out _) hb7)
        clear hb7
        go_wp2_with fail
        go_round
        case rel => exact ⟨k + 1, by omega, by go_num, L2, by omega, HW7.out⟩
        case measure => simp [iOf]; omega

    case neg =>
      obtain ⟨m, hm2, hzm⟩ : ∃ m : Nat, m ≤ L2.length ∧ z1 k = (m : Int) := ⟨(z1 k).toNat, by omega, by omega⟩
      have htr : Calls Try.prog 23 #[.pointer (some ⟨g, 0, none⟩), .int .i64 (m : Int)] w3 fun r w' => r = .returned (.int .i64 0) ∧ Two w g (L2.take m) L2 (.slice A2 L2.length c2) w' := by
        obtain ⟨hlg, S, ht, hS⟩ := HW3.out
        refine (trunc_yes ht hm2).mono ?_
        rintro r w' ⟨rfl, hT, hU⟩
        exact ⟨rfl, Two.turned hlg hS hU hT⟩
      have d1 : decide ((m : Int) < 0) = false := decide_eq_false (by omega)
      have d2 : decide (L2.length < m) = false := decide_eq_false (by omega)
      rw [hzm] at hz
      have HZM := Lib.hid hzm
      clear hbad hzm
      go_wp2_with fail
      refine htr.mono ?_
      rintro r w4 ⟨rfl, hW4⟩
      have HW4 := Lib.hid hW4
      clear htr hz hW4
      have hz4 := HZ.out _ HW4.out.below
      rw [HZM.out] at hz4
      have hcc : L2.length ≤ c2 := by
        obtain ⟨A', q', c', e, hq, hc, -⟩ := HW4.out.log.own.form
        injection e with e1 e2 e3
        omega
      go_upto_region 14 with fail
      go_quiet (first | (go_at_call 16; first | exact Calls.quiet_of_same (num_q _ _) | exact quiet_again (num_q _ _) | exact quiet_more (num_q _ _)))
      go_wp2_with fail
      refine (num_any _ _).mono ?_
      rintro r w6 ⟨rfl, rfl⟩
      have hsl := slice22_to A2 L2.length c2 m (by omega)
      go_wp2_with fail
      have HW5 : Hid (∀ q, Two w g (L2.take m) (L2.take m) (.slice A2 m c2) (w4.drewN q)) := Lib.hid (fun q => (two_take HW4.out hm2).low (below_drewN (Below.refl _ _) q))
      refine (Two.is_ (HW5.out _)).mono ?_
      rintro r w7 ⟨rfl, hb7⟩
      have HW7 := Lib.hid (Two.low (HW5.out _) hb7)
      clear hb7
      go_wp2_with fail
      go_round
      case rel => exact ⟨k + 1, by omega, by go_num, L2.take m, by rw [List.length_take]; omega, HW7.out⟩
      case measure => simp [iOf]; omega

set_option maxRecDepth 100000 in
theorem lifted (os : Os) (started : os.Started) (H : Type) (enc : TypeId × Value → H) :
    ReturnsInHanded {} Try.checked os 5 .any (Rows.producersPlaysSpec.pre6 enc Try.prog Try.f5 Rows.producersPlaysRow.domain false) (Rows.producersPlaysSpec.post enc Try.prog Try.f5 false true false false) := by
  refine returnsInHanded_of_change (C := Try.checked) own started (by kernel_rfl) Try.func5
    (ChangeSpec.witness6 (enc := enc) (C := Try.checked) false ⟨#[], #[.slice none 0 0, .slice none 0 0], []⟩ 8 (by kernel_rfl) (by kernel_rfl) (by kernel_rfl) (by kernel_rfl)) ?_
  intro W base args ds gs before hval0 hW hcnd _
  have hval : ∀ (j : Nat) t v, Try.f5.params[j]? = some t → args[j]? = some v → Value.okWide Try.prog W .any base t v := hval0
  have hW' := hW
  obtain ⟨p, q, hA0, hV, rfl, hfz, hnd⟩ := hW
  have hA : DataW.TrodAll enc Try.prog W 0 (fun _ => true) true Try.f5.params.toList args.toList ds p := hA0
  rw [Try.params5] at hA hval
  obtain ⟨v0, vs0, d0, ds0, p0, q0, hargs, rfl, rfl, h0, r0⟩ := trodAll_cons hA
  obtain ⟨v1, vs1, d1, ds1, p1, q1, rfl, rfl, rfl, h1, r1⟩ := trodAll_cons r0
  obtain ⟨rfl, rfl, rfl⟩ := trodAll_nil r1
  obtain rfl : args = #[v0, v1] := by cases args; simp_all
  obtain ⟨rfl, rfl⟩ := trodVars_none hV
  have k0 := h0
  have lt0 : ∀ x ∈ p0, x.block < W.heap.size := by obtain ⟨m, hm⟩ := k0; exact DataW.trod_lt m _ _ _ hm
  obtain ⟨a0, len0, cap0, rfl⟩ := okWide_slice Try.underlying22 (hval 0 22 v0 rfl rfl)
  obtain ⟨l0, b0, hc0, hm0⟩ := open_ents h0
  have k1 := h1
  have lt1 : ∀ x ∈ p1, x.block < W.heap.size := by obtain ⟨m, hm⟩ := k1; exact DataW.trod_lt m _ _ _ hm
  obtain ⟨a1, len1, cap1, z1, rfl, b1, hc1, hm1⟩ := open_50 h1 (slice_one Try.underlying50 (hval 1 50 v1 rfl rfl))
  clear hA0 hval0
  refine (walk a0 len0 cap0 l0 a1 len1 cap1 z1 W b0 hc0 hm0 b1 hc1 hm1).mono fun e W' ⟨he, bel⟩ => ?_
  subst he
  exact ⟨_, rfl, _, _, _, [], _, [], hW', trodAll_mk1 (shut_bool Try.underlying4 _), (trodAll_cons_mk (Below.trod laidOut (by kernel_rfl) (of_decide_eq_true (by kernel_rfl)) k0 bel lt0) (trodAll_cons_mk (Below.trod laidOut (by kernel_rfl) (of_decide_eq_true (by kernel_rfl)) k1 bel lt1) trodAll_mk0)), rfl, bel.frame _, fun h => by cases h⟩

theorem over : Rows.producersPlaysRow.holds Try.pinned (OpenSpec.ofChange Rows.producersPlaysSpec) :=
  OpenClaim.holds_of_wide 5 Try.f5 rfl rfl rfl rfl rfl rfl rfl ⟨rfl, rfl, rfl, rfl, rfl⟩ rfl rfl rfl rfl rfl (by kernel_rfl) Try.func5 (by kernel_rfl)
    (of_decide_eq_true (by kernel_rfl)) (by unfold Func.isWrapper; first | (rw [if_pos (by decide +kernel)]; kernel_rfl) | (rw [if_neg (by decide +kernel)]; exact ⟨rfl, rfl⟩))
    (fun os started H enc _ => lifted os started H enc)

theorem proved : Rows.ProducersPlaysSaid := over
end Go.Proofs.Ytafgcafhgnfegaa.producersPlays
namespace Go.Proofs.Ytafgcafhgnfegaa
theorem producersPlays_holds : Rows.ProducersPlaysSaid := producersPlays.proved
#print axioms producersPlays_holds
end Go.Proofs.Ytafgcafhgnfegaa
