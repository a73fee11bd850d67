/-
  The open transactions of an ID. Nothing is assumed.
-/
import Derived.Test.YtafgcafhgnfegaaTwo2
import Derived.Test.YtafgcafhgnfegaaNums
import Derived.Test.YtafgcafhgnfegaaRefD
import Derived.Test.YtafgcafhgnfegaaTrunc
import Derived.WalkKit
import Derived.ProofKit
import Derived.OpenShut
import Derived.ShutString
import Derived.ChangeOld
import Derived.Below
namespace Go.Proofs.Ytafgcafhgnfegaa.producersOpens
open Go.ChangeShapes Go.WideShapes Go.ChangeAt Go.RowKit Go.Maps
set_option linter.unusedVariables false
theorem own : ownKnob Try.prog.godebug = none := by kernel_rfl
theorem laidOut : laidOutB Try.prog = true := by kernel_rfl
theorem below_grown {B : Nat} {a w w' : World} {g : Nat} (h : Below B a w) (hg : w.grownBy w' (some g)) (hB : B ≤ a.heap.size) (hgB : B ≤ g) : Below B a w' :=
  h.trans ⟨hg.os, hg.tape, hg.output, hg.size, fun k hk => hg.block k (by have := h.size; omega) (fun e => by injection e with e; omega)⟩
set_option maxHeartbeats 4000000 in
set_option maxRecDepth 100000 in
theorem walk (a0 : Option Addr) (len0 cap0 : Nat) (z0 : Nat → Int) (a1 : Option Addr) (len1 cap1 : Nat) (z1 : Nat → Bool) (w : World) (b0 : Ints w a0 len0 z0) (hc0 : len0 ≤ cap0) (hm0 : cap0 ≤ maxLen) (b1 : Bools w a1 len1 z1) (hc1 : len1 ≤ cap1) (hm1 : cap1 ≤ maxLen) :
    Calls Try.prog 9 #[.slice a0 len0 cap0, .slice a1 len1 cap1] w fun e w' => e = .returned (.bool true) ∧ Below w.heap.size w w' := by
  have HN := Lib.hid b0
  have HM := Lib.hid b1
  clear b0 hc0 hm0 b1 hc1 hm1
  by_cases hgt : 40 < len0
  case pos =>
    have hd : decide (40 < len0) = true := decide_eq_true hgt
    go_enter Try.func9, Try.ntmps9
    go_wp2_with fail
    refine (works_any _).mono ?_
    rintro r w1 ⟨rfl, hb1⟩
    go_wp2_with fail
    go_ret
    exact ⟨rfl, hb1⟩
  case neg =>
  have hd : decide (40 < len0) = false := decide_eq_false hgt
  go_enter Try.func9, Try.ntmps9
  go_wp2_with fail
  refine (new_any w).mono ?_
  rintro r w1 ⟨g, rfl, hT1, hb1⟩
  have HT : Hid (Two w g [] [] (.slice none 0 0) w1) := Lib.hid (Two.made (LogV.nil_ (Below.refl _ _)) hb1 hT1)
  clear hT1 hb1
  go_wp2_with fail
  go_loopw [6, 7] (fun o i wv => ∃ k : Nat, k ≤ len0 ∧ i = .int .i64 k ∧ ∃ L : List Ent, L.length ≤ k ∧ Two w g L L o wv) (fun o i _ => len0 - (iOf i).toNat)
  case atStart => exact ⟨0, by omega, rfl, [], Nat.le_refl _, HT.out⟩
  case round =>
    obtain ⟨k, hk, rfl, L, hLk, hW⟩ := hrel
    have HW := Lib.hid hW
    obtain ⟨⟨A1, c1, rfl, -, -, -⟩, -⟩ := hW
    by_cases hlt : k < len0
    case neg =>
      have hd1 : decide (k < len0) = false := by simpa using hlt
      go_wp2_with fail
      have his := HW.out.is_
      refine his.mono ?_
      rintro r w2 ⟨rfl, hb2⟩
      have HB2 := Lib.hid (HW.out.below.trans (hb2.mono HW.out.below.size))
      clear his hb2
      go_wp2_with fail
      refine (works_any _).mono ?_
      rintro r w3 ⟨rfl, hb3⟩
      go_wp2_with fail
      go_ret
      exact ⟨rfl, HB2.out.trans (hb3.mono HB2.out.size)⟩
    case pos =>
    have hd1 : decide (k < len0) = true := by simpa using hlt
    obtain ⟨ad, rfl, -, hz⟩ := (HN.out.below HW.out.below) (by omega)
    have hzk := hz k hlt
    by_cases hm : k < len1
    case neg =>
      have hm1 : decide (k < len1) = false := by simpa using hm
      go_wp2_with fail
      refine (data_any _ _ _).mono ?_
      rintro r w2 ⟨rfl, hb2⟩
      have HW2 := Lib.hid (HW.out.low hb2)
      clear hz hzk hb2 hm
      go_upto_region 11 with fail
      have HW3 := Lib.hid (HW2.out.low ((Below.refl _ _).alloc (Nat.le_refl _) (.cells #[.int .i64 1, .int .i64 0, .int .i64 (z0 k), .int .i64 0, .int .i64 1, .int .i64 0] 26)))
      have HB3 : Hid (Blk (w2.alloc (.cells #[.int .i64 1, .int .i64 0, .int .i64 (z0 k), .int .i64 0, .int .i64 1, .int .i64 0] 26)) w2.heap.size 26 #[.int .i64 1, .int .i64 0, .int .i64 (z0 k), .int .i64 0, .int .i64 1, .int .i64 0]) := Lib.hid (Blk.new _ _ _)
      generalize hw3 : w2.alloc (.cells #[.int .i64 1, .int .i64 0, .int .i64 (z0 k), .int .i64 0, .int .i64 1, .int .i64 0] 26) = w3 at *
      generalize hz2 : w2.heap.size = z2 at *
      clear hw3 hz2
      obtain ⟨s0, s1, s2, s3, s4, s5⟩ := HB3.out.six'
      have hap : Calls Try.prog 15 #[.slice A1 L.length c1, .agg #[.int .i64 1, .int .i64 0, .int .i64 (z0 k), .int .i64 0, .int .i64 1, .int .i64 0]] w3 (fun r W' => ∃ v', r = .returned (.tuple #[v', .int .i64 (appendE L (dat (z0 k) 0))]) ∧ Two w g L (keep1 L (dat (z0 k) 0)) v' W' ∧ Below w3.heap.size w3 W') := HW3.out.refApp (by omega) (dat (z0 k) 0)
      have HLK : Hid ((keep1 L (dat (z0 k) 0)).length ≤ k + 1) := Lib.hid (Nat.le_trans (keep1_len _ _) (by omega))
      go_wp2_with fail
      refine hap.mono ?_
      rintro r w5 ⟨v5, rfl, hW5, hb5⟩
      have HB5 := Lib.hid (HB3.out.below hb5 HB3.out.lt)
      have hap2 : Calls Try.prog 22 #[.pointer (some ⟨g, 0, none⟩), .agg #[.int .i64 1, .int .i64 0, .int .i64 (z0 k), .int .i64 0, .int .i64 1, .int .i64 0]] w5 (fun r w' => r = .returned (.int .i64 (appendE L (dat (z0 k) 0))) ∧ Two w g (keep1 L (dat (z0 k) 0)) (keep1 L (dat (z0 k) 0)) v5 w') := hW5.app (dat (z0 k) 0)
      clear hap hW5 hb5 s0 s1 s2 s3 s4 s5
      obtain ⟨s0, s1, s2, s3, s4, s5⟩ := HB5.out.six'
      have hne : (appendE L (dat (z0 k) 0) != appendE L (dat (z0 k) 0)) = false := by simp
      go_wp2_with fail
      refine hap2.mono ?_
      rintro r w6 ⟨rfl, hW6⟩
      have HW6 := Lib.hid hW6
      clear hap2 hW6 s0 s1 s2 s3 s4 s5
      go_wp2_with fail
      refine (num_any _ _).mono ?_
      rintro r w7 ⟨rfl, rfl⟩
      go_wp2_with fail
      go_round
      case rel => exact ⟨k + 1, by omega, by go_num, keep1 L (dat (z0 k) 0), HLK.out, HW6.out⟩
      case measure => simp [iOf]; omega
    case pos =>
    have hm1 : decide (k < len1) = true := by simpa using hm
    have hb : ∀ W, Below w.heap.size w W → ∃ ad', a1 = some ad' ∧ W.cell? (ad'.add k) = some (.bool (z1 k)) := fun W hbW => by
      obtain ⟨ad', e', -, h⟩ := (HM.out.below hbW) (by omega)
      exact ⟨ad', e', h k hm⟩
    by_cases hy : z1 k = true
    case neg =>
      have hy' : z1 k = false := by simpa using hy
      go_wp2_with fail
      refine (data_any _ _ _).mono ?_
      rintro r w2 ⟨rfl, hb2⟩
      have HW2 := Lib.hid (HW.out.low hb2)
      clear hz hzk hb2 hy
      obtain ⟨ad', rfl, hbk⟩ := hb _ (HW2.out.low ((Below.refl _ _).alloc (Nat.le_refl _) (.cells #[.int .i64 1, .int .i64 0, .int .i64 (z0 k), .int .i64 0, .int .i64 1, .int .i64 0] 26))).below
      rw [hy'] at hbk
      go_upto_region 11 with fail
      clear hbk
      have HW3 := Lib.hid (HW2.out.low ((Below.refl _ _).alloc (Nat.le_refl _) (.cells #[.int .i64 1, .int .i64 0, .int .i64 (z0 k), .int .i64 0, .int .i64 1, .int .i64 0] 26)))
      have HB3 : Hid (Blk (w2.alloc (.cells #[.int .i64 1, .int .i64 0, .int .i64 (z0 k), .int .i64 0, .int .i64 1, .int .i64 0] 26)) w2.heap.size 26 #[.int .i64 1, .int .i64 0, .int .i64 (z0 k), .int .i64 0, .int .i64 1, .int .i64 0]) := Lib.hid (Blk.new _ _ _)
      generalize hw3 : w2.alloc (.cells #[.int .i64 1, .int .i64 0, .int .i64 (z0 k), .int .i64 0, .int .i64 1, .int .i64 0] 26) = w3 at *
      generalize hz2 : w2.heap.size = z2 at *
      clear hw3 hz2
      obtain ⟨s0, s1, s2, s3, s4, s5⟩ := HB3.out.six'
      have hap : Calls Try.prog 15 #[.slice A1 L.length c1, .agg #[.int .i64 1, .int .i64 0, .int .i64 (z0 k), .int .i64 0, .int .i64 1, .int .i64 0]] w3 (fun r W' => ∃ v', r = .returned (.tuple #[v', .int .i64 (appendE L (dat (z0 k) 0))]) ∧ Two w g L (keep1 L (dat (z0 k) 0)) v' W' ∧ Below w3.heap.size w3 W') := HW3.out.refApp (by omega) (dat (z0 k) 0)
      have HLK : Hid ((keep1 L (dat (z0 k) 0)).length ≤ k + 1) := Lib.hid (Nat.le_trans (keep1_len _ _) (by omega))
      go_wp2_with fail
      refine hap.mono ?_
      rintro r w5 ⟨v5, rfl, hW5, hb5⟩
      have HB5 := Lib.hid (HB3.out.below hb5 HB3.out.lt)
      have hap2 : Calls Try.prog 22 #[.pointer (some ⟨g, 0, none⟩), .agg #[.int .i64 1, .int .i64 0, .int .i64 (z0 k), .int .i64 0, .int .i64 1, .int .i64 0]] w5 (fun r w' => r = .returned (.int .i64 (appendE L (dat (z0 k) 0))) ∧ Two w g (keep1 L (dat (z0 k) 0)) (keep1 L (dat (z0 k) 0)) v5 w') := hW5.app (dat (z0 k) 0)
      clear hap hW5 hb5 s0 s1 s2 s3 s4 s5
      obtain ⟨s0, s1, s2, s3, s4, s5⟩ := HB5.out.six'
      have hne : (appendE L (dat (z0 k) 0) != appendE L (dat (z0 k) 0)) = false := by simp
      go_wp2_with fail
      refine hap2.mono ?_
      rintro r w6 ⟨rfl, hW6⟩
      have HW6 := Lib.hid hW6
      clear hap2 hW6 s0 s1 s2 s3 s4 s5
      go_wp2_with fail
      refine (num_any _ _).mono ?_
      rintro r w7 ⟨rfl, rfl⟩
      go_wp2_with fail
      go_round
      case rel => exact ⟨k + 1, by omega, by go_num, keep1 L (dat (z0 k) 0), HLK.out, HW6.out⟩
      case measure => simp [iOf]; omega
    case pos =>
      go_wp2_with fail
      refine (data_any _ _ _).mono ?_
      rintro r w2 ⟨rfl, hb2⟩
      have HW2 := Lib.hid (HW.out.low hb2)
      clear hz hzk hb2 
      obtain ⟨ad', rfl, hbk⟩ := hb _ (HW2.out.low ((Below.refl _ _).alloc (Nat.le_refl _) (.cells #[.int .i64 1, .int .i64 0, .int .i64 (z0 k), .int .i64 0, .int .i64 1, .int .i64 0] 26))).below
      rw [hy] at hbk
      go_upto_region 10 with fail
      clear hbk hy
      have hb23 := (Below.refl w2.heap.size w2).alloc (Nat.le_refl _) (.cells #[.int .i64 1, .int .i64 0, .int .i64 (z0 k), .int .i64 0, .int .i64 1, .int .i64 0] 26)
      have HB3 : Hid (Blk (w2.alloc (.cells #[.int .i64 1, .int .i64 0, .int .i64 (z0 k), .int .i64 0, .int .i64 1, .int .i64 0] 26)) w2.heap.size 26 #[.int .i64 1, .int .i64 0, .int .i64 (z0 k), .int .i64 0, .int .i64 1, .int .i64 0]) := Lib.hid (Blk.new _ _ _)
      have HZ2 : Hid (∀ W, Below w2.heap.size w2 W → Two w g L L (.slice A1 L.length c1) W) := Lib.hid (fun W h => HW2.out.low h)
      have hsz := Nat.le_refl w2.heap.size
      generalize hu3 : w2.alloc (.cells #[.int .i64 1, .int .i64 0, .int .i64 (z0 k), .int .i64 0, .int .i64 1, .int .i64 0] 26) = u3 at *
      generalize hz2 : w2.heap.size = z2 at *
      have HSZ : Hid (z2 ≤ w2.heap.size) := Lib.hid (by omega)
      have HB23 := Lib.hid hb23
      clear hu3 hz2 hb23 hsz
      obtain ⟨ad', e', -, hz⟩ := (HN.out.below (HZ2.out _ HB23.out).below) (by omega)
      injection e' with e'
      subst e'
      have hzk := hz k hlt
      go_wp2_with fail
      refine (mark_any _ _ _).mono ?_
      rintro r u4 ⟨rfl, hb4⟩
      have HB24 := Lib.hid (HB23.out.trans (hb4.mono (Nat.le_trans HSZ.out HB23.out.size)))
      have HB4 := Lib.hid (HB3.out.below hb4 HB3.out.lt)
      clear hz hzk hb4
      go_wp2_with (with_reducible refine at_store 26 rfl ?_)
      refine Stop.go (wpList_store_blk (by rfl) (by rfl) 26 _ _ (by rfl) z2 _ #[.int .i64 1, .int .i64 0, .int .i64 (z0 k), .int .i64 0, .int .i64 3, .int .i64 0] (by rfl) (by rfl) 26 HB4.out (by rfl) (by kernel_rfl) (by simp [Value.oneCell']) ?_)
      intro w3 hB3 hg3 hs3
      have HB3 := Lib.hid hB3
      have HW3 := Lib.hid (HZ2.out _ (below_grown HB24.out hg3 HSZ.out (Nat.le_refl _)))
      clear hB3 hg3 hs3
      go_upto_region 11 with fail
      obtain ⟨s0, s1, s2, s3, s4, s5⟩ := HB3.out.six'
      have hap : Calls Try.prog 15 #[.slice A1 L.length c1, .agg #[.int .i64 1, .int .i64 0, .int .i64 (z0 k), .int .i64 0, .int .i64 3, .int .i64 0]] w3 (fun r W' => ∃ v', r = .returned (.tuple #[v', .int .i64 (appendE L (mrk (z0 k) 3))]) ∧ Two w g L (keep1 L (mrk (z0 k) 3)) v' W' ∧ Below w3.heap.size w3 W') := HW3.out.refApp (by omega) (mrk (z0 k) 3)
      have HLK : Hid ((keep1 L (mrk (z0 k) 3)).length ≤ k + 1) := Lib.hid (Nat.le_trans (keep1_len _ _) (by omega))
      go_wp2_with fail
      refine hap.mono ?_
      rintro r w5 ⟨v5, rfl, hW5, hb5⟩
      have HB5 := Lib.hid (HB3.out.below hb5 HB3.out.lt)
      have hap2 : Calls Try.prog 22 #[.pointer (some ⟨g, 0, none⟩), .agg #[.int .i64 1, .int .i64 0, .int .i64 (z0 k), .int .i64 0, .int .i64 3, .int .i64 0]] w5 (fun r w' => r = .returned (.int .i64 (appendE L (mrk (z0 k) 3))) ∧ Two w g (keep1 L (mrk (z0 k) 3)) (keep1 L (mrk (z0 k) 3)) v5 w') := hW5.app (mrk (z0 k) 3)
      clear hap hW5 hb5 s0 s1 s2 s3 s4 s5
      obtain ⟨s0, s1, s2, s3, s4, s5⟩ := HB5.out.six'
      have hne : (appendE L (mrk (z0 k) 3) != appendE L (mrk (z0 k) 3)) = false := by simp
      go_wp2_with fail
      refine hap2.mono ?_
      rintro r w6 ⟨rfl, hW6⟩
      have HW6 := Lib.hid hW6
      clear hap2 hW6 s0 s1 s2 s3 s4 s5
      go_wp2_with fail
      refine (num_any _ _).mono ?_
      rintro r w7 ⟨rfl, rfl⟩
      go_wp2_with fail
      go_round
      case rel => exact ⟨k + 1, by omega, by go_num, keep1 L (mrk (z0 k) 3), HLK.out, HW6.out⟩
      case measure => simp [iOf]; omega

set_option maxRecDepth 100000 in
theorem lifted (os : Os) (started : os.Started) (H : Type) (enc : TypeId × Value → H) :
    ReturnsInHanded {} Try.checked os 9 .any (Rows.producersOpensSpec.pre6 enc Try.prog Try.f9 Rows.producersOpensRow.domain false) (Rows.producersOpensSpec.post enc Try.prog Try.f9 false true false false) := by
  refine returnsInHanded_of_change (C := Try.checked) own started (by kernel_rfl) Try.func9
    (ChangeSpec.witness6 (enc := enc) (C := Try.checked) false ⟨#[], #[.slice none 0 0, .slice none 0 0], []⟩ 8 (by kernel_rfl) (by kernel_rfl) (by kernel_rfl) (by kernel_rfl)) ?_
  intro W base args ds gs before hval0 hW hcnd _
  have hval : ∀ (j : Nat) t v, Try.f9.params[j]? = some t → args[j]? = some v → Value.okWide Try.prog W .any base t v := hval0
  have hW' := hW
  obtain ⟨p, q, hA0, hV, rfl, hfz, hnd⟩ := hW
  have hA : DataW.TrodAll enc Try.prog W 0 (fun _ => true) true Try.f9.params.toList args.toList ds p := hA0
  rw [Try.params9] at hA hval
  obtain ⟨v0, vs0, d0, ds0, p0, q0, hargs, rfl, rfl, h0, r0⟩ := trodAll_cons hA
  obtain ⟨v1, vs1, d1, ds1, p1, q1, rfl, rfl, rfl, h1, r1⟩ := trodAll_cons r0
  obtain ⟨rfl, rfl, rfl⟩ := trodAll_nil r1
  obtain rfl : args = #[v0, v1] := by cases args; simp_all
  obtain ⟨rfl, rfl⟩ := trodVars_none hV
  have k0 := h0
  have lt0 : ∀ x ∈ p0, x.block < W.heap.size := by obtain ⟨m, hm⟩ := k0; exact DataW.trod_lt m _ _ _ hm
  obtain ⟨a0, len0, cap0, z0, rfl, b0, hc0, hm0⟩ := open_59 h0 (slice_one Try.underlying59 (hval 0 59 v0 rfl rfl))
  have k1 := h1
  have lt1 : ∀ x ∈ p1, x.block < W.heap.size := by obtain ⟨m, hm⟩ := k1; exact DataW.trod_lt m _ _ _ hm
  obtain ⟨a1, len1, cap1, z1, rfl, b1, hc1, hm1⟩ := open_60 h1 (slice_one Try.underlying60 (hval 1 60 v1 rfl rfl))
  clear hA0 hval0
  refine (walk a0 len0 cap0 z0 a1 len1 cap1 z1 W b0 hc0 hm0 b1 hc1 hm1).mono fun e W' ⟨he, bel⟩ => ?_
  subst he
  exact ⟨_, rfl, _, _, _, [], _, [], hW', trodAll_mk1 (shut_bool Try.underlying4 _), (trodAll_cons_mk (Below.trod laidOut (by kernel_rfl) (of_decide_eq_true (by kernel_rfl)) k0 bel lt0) (trodAll_cons_mk (Below.trod laidOut (by kernel_rfl) (of_decide_eq_true (by kernel_rfl)) k1 bel lt1) trodAll_mk0)), rfl, bel.frame _, fun h => by cases h⟩

theorem over : Rows.producersOpensRow.holds Try.pinned (OpenSpec.ofChange Rows.producersOpensSpec) :=
  OpenClaim.holds_of_wide 9 Try.f9 rfl rfl rfl rfl rfl rfl rfl ⟨rfl, rfl, rfl, rfl, rfl⟩ rfl rfl rfl rfl rfl (by kernel_rfl) Try.func9 (by kernel_rfl)
    (of_decide_eq_true (by kernel_rfl)) (by unfold Func.isWrapper; first | (rw [if_pos (by decide +kernel)]; kernel_rfl) | (rw [if_neg (by decide +kernel)]; exact ⟨rfl, rfl⟩))
    (fun os started H enc _ => lifted os started H enc)

theorem proved : Rows.ProducersOpensSaid := over
end Go.Proofs.Ytafgcafhgnfegaa.producersOpens
namespace Go.Proofs.Ytafgcafhgnfegaa
theorem producersOpens_holds : Rows.ProducersOpensSaid := producersOpens.proved
#print axioms producersOpens_holds
end Go.Proofs.Ytafgcafhgnfegaa
