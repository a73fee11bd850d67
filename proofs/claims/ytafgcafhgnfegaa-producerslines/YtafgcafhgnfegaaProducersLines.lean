/-
  Which of any entries Check takes. Nothing is assumed.
-/
import Derived.Test.YtafgcafhgnfegaaTwo
import Derived.Test.YtafgcafhgnfegaaOpen
import Derived.Test.YtafgcafhgnfegaaRefD
import Derived.Test.YtafgcafhgnfegaaTrunc
import Derived.WalkKit
import Derived.ProofKit
import Derived.OpenShut
import Derived.ShutString
import Derived.ChangeOld
import Derived.Below
namespace Go.Proofs.Ytafgcafhgnfegaa.producersLines
open Go.ChangeShapes Go.WideShapes Go.ChangeAt Go.RowKit Go.Maps
set_option linter.unusedVariables false
theorem own : ownKnob Try.prog.godebug = none := by kernel_rfl
theorem laidOut : laidOutB Try.prog = true := by kernel_rfl
set_option maxHeartbeats 4000000 in
set_option maxRecDepth 100000 in
theorem walk (a0 : Option Addr) (len0 cap0 : Nat) (l0 : List Ent) (w : World) (b0 : Rd w No 6 a0 len0 (cellsOf l0)) (hc0 : len0 ≤ cap0) (hm0 : cap0 ≤ maxLen) :
    Calls Try.prog 8 #[.slice a0 len0 cap0] w fun e w' => e = .returned (.bool true) ∧ Below w.heap.size w w' := by
  have HR := Lib.hid b0
  have HLEN := Lib.hid b0.lenE
  clear b0 hc0 hm0
  by_cases hgt : 60 < len0
  case pos =>
    have hd : decide (60 < len0) = true := decide_eq_true hgt
    go_enter Try.func8, Try.ntmps8
    go_wp2_with fail
    refine (works_any _).mono ?_
    rintro r w1 ⟨rfl, hb1⟩
    go_wp2_with fail
    go_ret
    exact ⟨rfl, hb1⟩
  case neg =>
  have hd : decide (60 < len0) = false := decide_eq_false hgt
  go_enter Try.func8, Try.ntmps8
  go_wp2_with fail
  refine (new_any w).mono ?_
  rintro r w1 ⟨g, rfl, hT1, hb1⟩
  have HT : Hid (Two w g [] [] (.slice none 0 0) w1) := Lib.hid (Two.made (LogV.nil_ (Below.refl _ _)) hb1 hT1)
  clear hT1 hb1
  go_wp2_with fail
  go_loopw [4, 5] (fun o i wv => ∃ k : Nat, k ≤ len0 ∧ i = .int .i64 k ∧ ∃ L : List Ent, L.length ≤ k ∧ Two w g L L o wv) (fun o i _ => len0 - (iOf i).toNat)
  case atStart => exact ⟨0, by omega, rfl, [], Nat.le_refl _, HT.out⟩
  case round =>
    obtain ⟨k, hk, rfl, L, hLk, hW⟩ := hrel
    have HW := Lib.hid hW
    obtain ⟨⟨A1, c1, rfl, -, -, -⟩, -⟩ := hW
    have HAR : Hid (AllR L) := Lib.hid (by obtain ⟨-, S, h, -⟩ := HW.out; exact h.right)
    by_cases hlt : k < len0
    case neg =>
      have hd1 : decide (k < len0) = false := by simpa using hlt
      go_wp2_with fail
      have his := HW.out.is_
      refine his.mono ?_
      rintro r w2 ⟨rfl, hb2⟩
      have HB2 := Lib.hid (HW.out.below.trans (hb2.mono HW.out.below.size))
      clear his hb2
      go_wp2_with fail
      refine (works_any _).mono ?_
      rintro r w3 ⟨rfl, hb3⟩
      go_wp2_with fail
      go_ret
      exact ⟨rfl, HB2.out.trans (hb3.mono HB2.out.size)⟩
    case pos =>
    have hd1 : decide (k < len0) = true := by simpa using hlt
    obtain ⟨e, he⟩ : ∃ e, l0[k]? = some e := ⟨_, List.getElem?_eq_getElem (by rw [HLEN.out]; exact hlt)⟩
    have HE := Lib.hid he
    obtain ⟨ad, rfl, hadl, -, s0, s1, s2, s3, s4, s5⟩ := (HR.out.below HW.out.below).ent he
    clear he hadl
    have hrc := refCheck_any (c := c1) HW.out.log.rd (by omega) HAR.out e
    unfold Ent.val Ent.cells at hrc
    go_wp2_with fail
    refine hrc.mono ?_
    rintro r w2 ⟨rfl, hb2⟩
    have HW2 := Lib.hid (HW.out.low hb2)
    clear hrc hb2 s0 s1 s2 s3 s4 s5
    obtain ⟨ad', e', hadl, -, s0, s1, s2, s3, s4, s5⟩ := (HR.out.below HW2.out.below).ent HE.out
    injection e' with e'
    subst e'
    clear hadl
    have hch : Calls Try.prog 21 #[.pointer (some ⟨g, 0, none⟩), e.val] w2 fun r w' => r = .returned (.int .i64 (checkE L e)) ∧ Below w2.heap.size w2 w' := by
      obtain ⟨-, S, ht, -⟩ := HW2.out
      exact checks_any ht e
    unfold Ent.val Ent.cells at hch
    go_wp2_with fail
    refine hch.mono ?_
    rintro r w3 ⟨rfl, hb3⟩
    have HW3 := Lib.hid (HW2.out.low hb3)
    clear hch hb3 s0 s1 s2 s3 s4 s5
    have HZ0 : Hid (checkE L e = 0 → appendE L e = 0) := Lib.hid (fun h => by
      by_cases q : appendE L e = 0
      · exact q
      · rw [check_err q] at h; exact h)
    have hne : (checkE L e != checkE L e) = false := by simp
    go_wp2_with fail
    refine (num_any _ _).mono ?_
    rintro r w4 ⟨rfl, rfl⟩
    by_cases hz : checkE L e = 0
    case neg =>
      have hzb := neb hz
      go_wp2_with fail
      go_round
      case rel => exact ⟨k + 1, by omega, by go_num, L, by omega, HW3.out⟩
      case measure => simp [iOf]; omega
    case pos =>
      have hzb := eqb hz
      have HZ := Lib.hid (HZ0.out hz)
      obtain ⟨ad', e', hadl, -, s0, s1, s2, s3, s4, s5⟩ := (HR.out.below HW3.out.below).ent HE.out
      injection e' with e'
      subst e'
      clear hadl
      go_wp2_with (at_builtin; refine stop ?_)
      refine Stop.go (wpList_append_k el22 _ (by rfl) _ _ (by rfl) (.slice A1 L.length c1) (cellsOf L) (by rfl) (HW3.out.log.own.alloc _) No _ 1 _ [e.cells] (by rfl) (rd_one w3 26 e.cells rfl (by simp [Ent.cells, Value.oneCell']) (fun h => h)) (by simp [cellsOf]; omega) (by omega) ?_)
      intro v9 w9 ho9 hg9
      have HW9 : Hid (Two w g L (L ++ [e]) v9 w9) := Lib.hid ((HW3.out.low ((Below.refl _ _).alloc (Nat.le_refl _) (.cells e.cells 26))).more ho9 hg9)
      clear ho9 hg9 s0 s1 s2 s3 s4 s5
      obtain ⟨ad', e', hadl, -, s0, s1, s2, s3, s4, s5⟩ := (HR.out.below HW9.out.below).ent HE.out
      injection e' with e'
      subst e'
      clear hadl
      have hap := HW9.out.app e
      unfold Ent.val Ent.cells at hap
      go_wp2_with fail
      refine hap.mono ?_
      rintro r w10 ⟨rfl, hW10⟩
      have HW10 : Hid (Two w g (L ++ [e]) (L ++ [e]) v9 w10) := Lib.hid (by unfold keep1 at hW10; rwa [if_pos HZ.out] at hW10)
      rw [HZ.out]
      clear hap hW10 s0 s1 s2 s3 s4 s5
      go_wp2_with fail
      refine (num_any _ _).mono ?_
      rintro r w11 ⟨rfl, rfl⟩
      go_wp2_with fail
      go_round
      case rel => exact ⟨k + 1, by omega, by go_num, L ++ [e], by simp; omega, HW10.out⟩
      case measure => simp [iOf]; omega

set_option maxRecDepth 100000 in
theorem lifted (os : Os) (started : os.Started) (H : Type) (enc : TypeId × Value → H) :
    ReturnsInHanded {} Try.checked os 8 .any (Rows.producersLinesSpec.pre6 enc Try.prog Try.f8 Rows.producersLinesRow.domain false) (Rows.producersLinesSpec.post enc Try.prog Try.f8 false true false false) := by
  refine returnsInHanded_of_change (C := Try.checked) own started (by kernel_rfl) Try.func8
    (ChangeSpec.witness6 (enc := enc) (C := Try.checked) false ⟨#[], #[.slice none 0 0], []⟩ 8 (by kernel_rfl) (by kernel_rfl) (by kernel_rfl) (by kernel_rfl)) ?_
  intro W base args ds gs before hval0 hW hcnd _
  have hval : ∀ (j : Nat) t v, Try.f8.params[j]? = some t → args[j]? = some v → Value.okWide Try.prog W .any base t v := hval0
  have hW' := hW
  obtain ⟨p, q, hA0, hV, rfl, hfz, hnd⟩ := hW
  have hA : DataW.TrodAll enc Try.prog W 0 (fun _ => true) true Try.f8.params.toList args.toList ds p := hA0
  rw [Try.params8] at hA hval
  obtain ⟨v0, vs0, d0, ds0, p0, q0, hargs, rfl, rfl, h0, r0⟩ := trodAll_cons hA
  obtain ⟨rfl, rfl, rfl⟩ := trodAll_nil r0
  obtain rfl : args = #[v0] := by cases args; simp_all
  obtain ⟨rfl, rfl⟩ := trodVars_none hV
  have k0 := h0
  have lt0 : ∀ x ∈ p0, x.block < W.heap.size := by obtain ⟨m, hm⟩ := k0; exact DataW.trod_lt m _ _ _ hm
  obtain ⟨a0, len0, cap0, rfl⟩ := okWide_slice Try.underlying22 (hval 0 22 v0 rfl rfl)
  obtain ⟨l0, b0, hc0, hm0⟩ := open_ents h0
  clear hA0 hval0
  refine (walk a0 len0 cap0 l0 W b0 hc0 hm0).mono fun e W' ⟨he, bel⟩ => ?_
  subst he
  exact ⟨_, rfl, _, _, _, [], _, [], hW', trodAll_mk1 (shut_bool Try.underlying4 _), (trodAll_cons_mk (Below.trod laidOut (by kernel_rfl) (of_decide_eq_true (by kernel_rfl)) k0 bel lt0) trodAll_mk0), rfl, bel.frame _, fun h => by cases h⟩

theorem over : Rows.producersLinesRow.holds Try.pinned (OpenSpec.ofChange Rows.producersLinesSpec) :=
  OpenClaim.holds_of_wide 8 Try.f8 rfl rfl rfl rfl rfl rfl rfl ⟨rfl, rfl, rfl, rfl, rfl⟩ rfl rfl rfl rfl rfl (by kernel_rfl) Try.func8 (by kernel_rfl)
    (of_decide_eq_true (by kernel_rfl)) (by unfold Func.isWrapper; first | (rw [if_pos (by decide +kernel)]; kernel_rfl) | (rw [if_neg (by decide +kernel)]; exact ⟨rfl, rfl⟩))
    (fun os started H enc _ => lifted os started H enc)

theorem proved : Rows.ProducersLinesSaid := over
end Go.Proofs.Ytafgcafhgnfegaa.producersLines
namespace Go.Proofs.Ytafgcafhgnfegaa
theorem producersLines_holds : Rows.ProducersLinesSaid := producersLines.proved
#print axioms producersLines_holds
end Go.Proofs.Ytafgcafhgnfegaa
