/-
  Whether an entry is refused, and why. Nothing is assumed.
-/
import Derived.Test.YtafgcafhgnfegaaWr2
import Derived.Test.YtafgcafhgnfegaaOpen
import Derived.Test.YtafgcafhgnfegaaRefD
import Derived.Test.YtafgcafhgnfegaaTrunc
import Derived.Test.YtafgcafhgnfegaaWriter
import Derived.Test.YtafgcafhgnfegaaTwo2
import Derived.Test.YtafgcafhgnfegaaNums
import Derived.Test.YtafgcafhgnfegaaNil
import Derived.WalkKit
import Derived.ProofKit
import Derived.OpenShut
import Derived.ShutString
import Derived.ChangeOld
import Derived.Below
namespace Go.Proofs.Ytafgcafhgnfegaa.producersChecks
open Go.ChangeShapes Go.WideShapes Go.ChangeAt Go.RowKit Go.Maps
set_option linter.unusedVariables false
theorem own : ownKnob Try.prog.godebug = none := by kernel_rfl
theorem laidOut : laidOutB Try.prog = true := by kernel_rfl
set_option maxHeartbeats 4000000 in
set_option maxRecDepth 100000 in
theorem walk (a0 : Option Addr) (len0 cap0 : Nat) (l0 : List Ent) (e1 : Ent) (w : World) (b0 : Rd w No 6 a0 len0 (cellsOf l0)) (hc0 : len0 ≤ cap0) (hm0 : cap0 ≤ maxLen) :
    Calls Try.prog 4 #[.slice a0 len0 cap0, e1.val] w fun e w' => e = .returned (.bool true) ∧ Below w.heap.size w w' := by
  have HR := Lib.hid b0
  have HLEN := Lib.hid b0.lenE
  clear b0 hc0 hm0
  have HB := Lib.hid ((Below.refl w.heap.size w).alloc (Nat.le_refl _) (.cells e1.cells 26))
  have HBX : Hid (Blk (w.alloc (.cells e1.cells 26)) w.heap.size 26 e1.cells) := Lib.hid (Blk.new w 26 _)
  unfold Ent.val
  unfold Ent.cells at HB HBX ⊢
  by_cases hgt : 60 < len0
  case pos =>
    have hd : decide (60 < len0) = true := decide_eq_true hgt
    go_enter Try.func4, Try.ntmps4
    go_wp2_with fail
    refine (works_any _).mono ?_
    rintro r w1 ⟨rfl, hb1⟩
    go_wp2_with fail
    go_ret
    exact ⟨rfl, HB.out.trans (hb1.mono HB.out.size)⟩
  case neg =>
  have hd : decide (60 < len0) = false := decide_eq_false hgt
  go_enter Try.func4, Try.ntmps4
  go_wp2_with fail
  generalize hw0 : w.alloc (.cells #[.int .i64 e1.epoch, .int .i64 e1.id, .int .i64 e1.num, .int .i64 e1.seq, .int .i64 e1.kind, .int .i64 e1.value] 26) = w0 at *
  generalize hbx : w.heap.size = bx at *
  have HBW : Hid (bx = w.heap.size) := Lib.hid hbx.symm
  clear hw0 hbx
  refine (log_of (HR.out.below (HBW.out ▸ HB.out)) (by omega)).mono ?_
  rintro r w1 ⟨v1, rfl, hL1, hb1⟩
  have HKL : Hid ((kept l0).length ≤ 60) := Lib.hid (by have := kept_len l0; have := HLEN.out; omega)
  have HKR : Hid (AllR (kept l0)) := Lib.hid (kept_right l0)
  have HKA : Hid (allE [] (kept l0) = 0) := Lib.hid (kept_all l0)
  generalize kept l0 = L at *
  have HL1 := Lib.hid hL1
  obtain ⟨A1, c1, rfl, -, -, -⟩ := hL1
  clear hb1
  go_wp2_with fail
  refine (of_any (c := c1) HL1.out.rd (by have := HKL.out; omega)).mono ?_
  rintro r w2 ⟨hb2, hz | hz⟩
  case inr => exact absurd HKA.out hz.1
  obtain ⟨-, g, rfl, hT⟩ := hz
  have HW2 : Hid (Two w0 g L L (.slice A1 L.length c1) w2) := Lib.hid (Two.made HL1.out hb2 hT)
  clear hT hb2
  have hwr := writer_nil 0 w2
  unfold zero41 at hwr
  go_wp2_with fail
  refine hwr.mono ?_
  rintro r w3 ⟨rfl, hb3⟩
  have HW3 := Lib.hid (HW2.out.low hb3)
  clear hwr hb3
  go_upto_region 7 with fail
  have HW4 := Lib.hid (HW3.out.low ((Below.refl _ _).alloc (Nat.le_refl _) (.cells #[.int .i64 0, .int .i64 0, .int .i64 0, .slice none 0 0] 41)))
  generalize w3.alloc (.cells #[.int .i64 0, .int .i64 0, .int .i64 0, .slice none 0 0] 41) = w4 at *
  generalize w3.heap.size = z3 at *
  have HX4 : Hid (Blk w4 bx 26 #[.int .i64 e1.epoch, .int .i64 e1.id, .int .i64 e1.num, .int .i64 e1.seq, .int .i64 e1.kind, .int .i64 e1.value]) := Lib.hid (HBX.out.below HW4.out.below HBX.out.lt)
  obtain ⟨s0, s1, s2, s3, s4, s5⟩ := HX4.out.six'
  have hcn : Calls Try.prog 21 #[.pointer none, .agg #[.int .i64 e1.epoch, .int .i64 e1.id, .int .i64 e1.num, .int .i64 e1.seq, .int .i64 e1.kind, .int .i64 e1.value]] w4 fun r w' => r = .returned (.int .i64 1) ∧ Below w4.heap.size w4 w' := checks_none e1
  go_wp2_with fail
  refine hcn.mono ?_
  rintro r w5 ⟨rfl, hb5⟩
  have HW5 := Lib.hid (HW4.out.low hb5)
  have HX5 := Lib.hid (HX4.out.below hb5 HX4.out.lt)
  clear hcn s0 s1 s2 s3 s4 s5 hb5
  go_wp2_with fail
  refine (num_any _ _).mono ?_
  rintro r w6 ⟨rfl, rfl⟩
  obtain ⟨s0, s1, s2, s3, s4, s5⟩ := HX5.out.six'
  have hcn : Calls Try.prog 22 #[.pointer none, .agg #[.int .i64 e1.epoch, .int .i64 e1.id, .int .i64 e1.num, .int .i64 e1.seq, .int .i64 e1.kind, .int .i64 e1.value]] w5 fun r w' => r = .returned (.int .i64 1) ∧ Below w5.heap.size w5 w' := append_none e1
  go_wp2_with fail
  refine hcn.mono ?_
  rintro r w6 ⟨rfl, hb6⟩
  have HW6 := Lib.hid (HW5.out.low hb6)
  have HX6 := Lib.hid (HX5.out.below hb6 HX5.out.lt)
  clear hcn s0 s1 s2 s3 s4 s5 hb6
  go_wp2_with fail
  refine (num_any _ _).mono ?_
  rintro r w7 ⟨rfl, rfl⟩
  go_wp2_with fail
  refine (trunc_nil 0 _).mono ?_
  rintro r w7 ⟨rfl, rfl⟩
  go_wp2_with fail
  refine (num_any _ _).mono ?_
  rintro r w7 ⟨rfl, rfl⟩
  go_wp2_with fail
  refine (num_any _ _).mono ?_
  rintro r w7 ⟨rfl, rfl⟩
  go_wp2_with fail
  refine (stable_nil _).mono ?_
  rintro r w7 ⟨rfl, rfl⟩
  go_wp2_with fail
  refine (len_nil _).mono ?_
  rintro r w7 ⟨rfl, rfl⟩
  go_wp2_with fail
  refine (log_nil _).mono ?_
  rintro r w7 ⟨rfl, rfl⟩
  go_wp2_with fail
  refine (copy_nil _).mono ?_
  rintro r w7 ⟨rfl, rfl⟩
  go_upto_region 9 with fail
  have hne : (checkE L e1 == checkE L e1) = true := by simp
  refine wp_region_np ?_
  refine wp_region_held_drew (S := fun W => Below w6.heap.size w6 W) (by kernel_rfl) (show Below w6.heap.size w6 w6.drew from (Below.refl _ _).drew) (fun hHeld => ?_)
  refine wpAnyH_takeAt (i := 0) (d := 67) (v := ?vq0x) rfl rfl (by kernel_rfl) (by kernel_rfl) (by kernel_rfl) (fun _ _ _ h => h) (Or.inl ⟨by rfl, ?hyq0x⟩) hHeld ?_
  case hyq0x =>
    intro W hSw
    clear hSw
    (go_simp; try with_reducible rfl)
  simp only [List.setIfInBounds_toArray, List.set_cons_zero, List.set_cons_succ]
  refine wpAnyH_ready (rs := [1]) (by kernel_rfl) (by simp) (AllReadyH.cons rfl (fun K hK => ?_) AllReadyH.nil)
  go_simp
  have hqwd : Below w6.heap.size w6 w6.drew := (Below.refl _ _).drew
  refine (num_any _ _).mono ?_
  rintro r wn ⟨rfl, rfl⟩
  dsimp only
  refine hK.out _ _ (show Below w6.heap.size w6 _ from hqwd) (fun hHeld => ?_)
  clear hK K
  try simp only [List.setIfInBounds_toArray, List.set_cons_zero, List.set_cons_succ]
  refine wpAnyH_takeAt (i := 2) (d := 69) (v := ?vq1x) rfl rfl (by kernel_rfl) (by kernel_rfl) (by kernel_rfl) (fun _ _ _ h => h) (Or.inl ⟨by rfl, ?hyq1x⟩) hHeld ?_
  case hyq1x =>
    intro W hSw
    clear hSw
    (go_simp; try with_reducible rfl)
  simp only [List.setIfInBounds_toArray, List.set_cons_zero, List.set_cons_succ]
  refine wpAnyH_takeAt (i := 3) (d := 70) (v := ?vq2x) rfl rfl (by kernel_rfl) (by kernel_rfl) (by kernel_rfl) (fun _ _ _ h => h) (Or.inl ⟨by rfl, ?hyq2x⟩) hHeld ?_
  case hyq2x =>
    intro W hSw
    clear hSw
    (go_simp; try with_reducible rfl)
  simp only [List.setIfInBounds_toArray, List.set_cons_zero, List.set_cons_succ]
  refine wpAnyH_takeAt (i := 4) (d := 71) (v := ?vq3x) rfl rfl (by kernel_rfl) (by kernel_rfl) (by kernel_rfl) (fun _ _ _ h => h) (Or.inl ⟨by rfl, ?hyq3x⟩) hHeld ?_
  case hyq3x =>
    intro W hSw
    clear hSw
    (go_simp; try with_reducible rfl)
  simp only [List.setIfInBounds_toArray, List.set_cons_zero, List.set_cons_succ]
  refine wpAnyH_takeAt (i := 5) (d := 72) (v := ?vq4x) rfl rfl (by kernel_rfl) (by kernel_rfl) (by kernel_rfl) (fun _ _ _ h => h) (Or.inl ⟨by rfl, ?hyq4x⟩) hHeld ?_
  case hyq4x =>
    intro W hSw
    obtain ⟨y0, y1, y2, y3, y4, y5⟩ := (HX6.out.below (show Below w6.heap.size w6 W from hSw) HX6.out.lt).six'; clear hSw
    (go_simp; try with_reducible rfl)
  simp only [List.setIfInBounds_toArray, List.set_cons_zero, List.set_cons_succ]
  refine wpAnyH_takeAt (i := 8) (d := 75) (v := ?vq5x) rfl rfl (by kernel_rfl) (by kernel_rfl) (by kernel_rfl) (fun _ _ _ h => h) (Or.inl ⟨by rfl, ?hyq5x⟩) hHeld ?_
  case hyq5x =>
    intro W hSw
    clear hSw
    (go_simp; try with_reducible rfl)
  simp only [List.setIfInBounds_toArray, List.set_cons_zero, List.set_cons_succ]
  refine wpAnyH_takeAt (i := 9) (d := 76) (v := ?vq6x) rfl rfl (by kernel_rfl) (by kernel_rfl) (by kernel_rfl) (fun _ _ _ h => h) (Or.inl ⟨by rfl, ?hyq6x⟩) hHeld ?_
  case hyq6x =>
    intro W hSw
    obtain ⟨y0, y1, y2, y3, y4, y5⟩ := (HX6.out.below (show Below w6.heap.size w6 W from hSw) HX6.out.lt).six'; clear hSw
    (go_simp; try with_reducible rfl)
  simp only [List.setIfInBounds_toArray, List.set_cons_zero, List.set_cons_succ]
  refine wpAnyH_ready (rs := [6]) (by kernel_rfl) (by simp) (AllReadyH.cons rfl (fun K hK => ?_) AllReadyH.nil)
  go_simp
  have hch : Calls Try.prog 21 #[.pointer (some ⟨g, 0, none⟩), .agg #[.int .i64 e1.epoch, .int .i64 e1.id, .int .i64 e1.num, .int .i64 e1.seq, .int .i64 e1.kind, .int .i64 e1.value]] w6.drew fun r w' => r = .returned (.int .i64 (checkE L e1)) ∧ Below w6.drew.heap.size w6.drew w' := (by obtain ⟨-, S, ht, -⟩ := HW6.out.low hqwd; exact checks_any ht e1)
  refine hch.mono ?_
  rintro r w8 ⟨rfl, hbw8⟩
  dsimp only
  have hqw8 : Below w6.heap.size w6 w8 := hqwd.trans (hbw8.mono hqwd.size)
  refine hK.out _ _ (show Below w6.heap.size w6 w8 from hqw8) (fun hHeld => ?_)
  clear hK K
  try simp only [List.setIfInBounds_toArray, List.set_cons_zero, List.set_cons_succ]
  refine wpAnyH_ready (rs := [7]) (by kernel_rfl) (by simp) (AllReadyH.cons rfl (fun K hK => ?_) AllReadyH.nil)
  go_simp
  refine (num_any _ _).mono ?_
  rintro r wn ⟨rfl, rfl⟩
  dsimp only
  refine hK.out _ _ (show Below w6.heap.size w6 _ from hqw8) (fun hHeld => ?_)
  clear hK K
  try simp only [List.setIfInBounds_toArray, List.set_cons_zero, List.set_cons_succ]
  refine wpAnyH_ready (rs := [10]) (by kernel_rfl) (by simp) (AllReadyH.cons rfl (fun K hK => ?_) AllReadyH.nil)
  go_simp
  have hrc : Calls Try.prog 28 #[.slice A1 L.length c1, .agg #[.int .i64 e1.epoch, .int .i64 e1.id, .int .i64 e1.num, .int .i64 e1.seq, .int .i64 e1.kind, .int .i64 e1.value]] w8 fun r w' => r = .returned (.int .i64 (checkE L e1)) ∧ Below w8.heap.size w8 w' := refCheck_any (HW6.out.low hqw8).log.rd (by have := HKL.out; omega) HKR.out e1
  refine hrc.mono ?_
  rintro r w9 ⟨rfl, hbw9⟩
  dsimp only
  have hqw9 : Below w6.heap.size w6 w9 := hqw8.trans (hbw9.mono hqw8.size)
  refine hK.out _ _ (show Below w6.heap.size w6 w9 from hqw9) (fun hHeld => ?_)
  clear hK K
  try simp only [List.setIfInBounds_toArray, List.set_cons_zero, List.set_cons_succ]
  refine wpAnyH_takeAt (i := 11) (d := 78) (v := ?vq7x) rfl rfl (by kernel_rfl) (by kernel_rfl) (by kernel_rfl) (fun _ _ _ h => h) (Or.inl ⟨by rfl, ?hyq7x⟩) hHeld ?_
  case hyq7x =>
    intro W hSw
    clear hSw
    (go_simp; try with_reducible rfl)
  simp only [List.setIfInBounds_toArray, List.set_cons_zero, List.set_cons_succ]
  refine wpAnyH_takeAt (i := 12) (d := 79) (v := ?vq8x) rfl rfl (by kernel_rfl) (by kernel_rfl) (by kernel_rfl) (fun _ _ _ h => h) (Or.inl ⟨by rfl, ?hyq8x⟩) hHeld ?_
  case hyq8x =>
    intro W hSw
    clear hSw
    (go_simp; try with_reducible rfl)
  simp only [List.setIfInBounds_toArray, List.set_cons_zero, List.set_cons_succ]
  refine wpAnyH_takeAt (i := 13) (d := 80) (v := ?vq9x) rfl rfl (by kernel_rfl) (by kernel_rfl) (by kernel_rfl) (fun _ _ _ h => h) (Or.inl ⟨by rfl, ?hyq9x⟩) hHeld ?_
  case hyq9x =>
    intro W hSw
    clear hSw
    (go_simp; try with_reducible rfl)
  simp only [List.setIfInBounds_toArray, List.set_cons_zero, List.set_cons_succ]
  refine wpAnyH_takeAt (i := 14) (d := 81) (v := ?vq10x) rfl rfl (by kernel_rfl) (by kernel_rfl) (by kernel_rfl) (fun _ _ _ h => h) (Or.inl ⟨by rfl, ?hyq10x⟩) hHeld ?_
  case hyq10x =>
    intro W hSw
    clear hSw
    (go_simp; try with_reducible rfl)
  simp only [List.setIfInBounds_toArray, List.set_cons_zero, List.set_cons_succ]
  refine wpAnyH_takeAt (i := 15) (d := 82) (v := ?vq11x) rfl rfl (by kernel_rfl) (by kernel_rfl) (by kernel_rfl) (fun _ _ _ h => h) (Or.inl ⟨by rfl, ?hyq11x⟩) hHeld ?_
  case hyq11x =>
    intro W hSw
    clear hSw
    (go_simp; try with_reducible rfl)
  simp only [List.setIfInBounds_toArray, List.set_cons_zero, List.set_cons_succ]
  refine wpAnyH_ready (rs := [16]) (by kernel_rfl) (by simp) (AllReadyH.cons rfl (fun K hK => ?_) AllReadyH.nil)
  go_simp
  refine (HW6.out.low hqw9).is_.mono ?_
  rintro r w10 ⟨rfl, hbw10⟩
  dsimp only
  have hqw10 : Below w6.heap.size w6 w10 := hqw9.trans (hbw10.mono hqw9.size)
  refine hK.out _ _ (show Below w6.heap.size w6 w10 from hqw10) (fun hHeld => ?_)
  clear hK K
  try simp only [List.setIfInBounds_toArray, List.set_cons_zero, List.set_cons_succ]
  refine wpAnyH_takeAt (i := 17) (d := 84) (v := ?vq12x) rfl rfl (by kernel_rfl) (by kernel_rfl) (by kernel_rfl) (fun _ _ _ h => h) (Or.inl ⟨by rfl, ?hyq12x⟩) hHeld ?_
  case hyq12x =>
    intro W hSw
    clear hSw
    (go_simp; try with_reducible rfl)
  simp only [List.setIfInBounds_toArray, List.set_cons_zero, List.set_cons_succ]
  refine wpAnyH_takeAt (i := 18) (d := 85) (v := ?vq13x) rfl rfl (by kernel_rfl) (by kernel_rfl) (by kernel_rfl) (fun _ _ _ h => h) (Or.inl ⟨by rfl, ?hyq13x⟩) hHeld ?_
  case hyq13x =>
    intro W hSw
    clear hSw
    (go_simp; try with_reducible rfl)
  simp only [List.setIfInBounds_toArray, List.set_cons_zero, List.set_cons_succ]
  refine wpAnyH_ready (rs := [19]) (by kernel_rfl) (by simp) (AllReadyH.cons rfl (fun K hK => ?_) AllReadyH.nil)
  go_simp
  refine (works_any _).mono ?_
  rintro r w11 ⟨rfl, hbw11⟩
  dsimp only
  have hqw11 : Below w6.heap.size w6 w11 := hqw10.trans (hbw11.mono hqw10.size)
  refine hK.out _ _ (show Below w6.heap.size w6 w11 from hqw11) (fun hHeld => ?_)
  clear hK K
  try simp only [List.setIfInBounds_toArray, List.set_cons_zero, List.set_cons_succ]
  refine wpAnyH_takeAt (i := 20) (d := 87) (v := ?vq14x) rfl rfl (by kernel_rfl) (by kernel_rfl) (by kernel_rfl) (fun _ _ _ h => h) (Or.inl ⟨by rfl, ?hyq14x⟩) hHeld ?_
  case hyq14x =>
    intro W hSw
    clear hSw
    (go_simp; try with_reducible rfl)
  simp only [List.setIfInBounds_toArray, List.set_cons_zero, List.set_cons_succ]
  refine wpAnyH_takeAt (i := 21) (d := 4) (v := ?vq15x) rfl rfl (by kernel_rfl) (by kernel_rfl) (by kernel_rfl) (fun _ _ _ h => h) (Or.inl ⟨by rfl, ?hyq15x⟩) hHeld ?_
  case hyq15x =>
    intro W hSw
    clear hSw
    (go_simp; try with_reducible rfl)
  simp only [List.setIfInBounds_toArray, List.set_cons_zero, List.set_cons_succ]
  refine wpAnyH_done (by kernel_rfl) ?_ _
  have HF : Hid (Below w.heap.size w w11) := Lib.hid (by
    have h1 := HW6.out.below.trans (hqw11.mono HW6.out.below.size)
    exact HBW.out ▸ (HB.out.trans (h1.mono (by have := HB.out.size; have := HBW.out; omega))))
  clear hqw11 hqw10 hqw9 hqw8 hqwd hbw8 hbw9 hbw10 hbw11
  go_wp2_with fail
  go_ret
  exact ⟨rfl, HF.out⟩

set_option maxRecDepth 100000 in
theorem lifted (os : Os) (started : os.Started) (H : Type) (enc : TypeId × Value → H) :
    ReturnsInHanded {} Try.checked os 4 .any (Rows.producersChecksSpec.pre6 enc Try.prog Try.f4 Rows.producersChecksRow.domain false) (Rows.producersChecksSpec.post enc Try.prog Try.f4 false true false false) := by
  refine returnsInHanded_of_change (C := Try.checked) own started (by kernel_rfl) Try.func4
    (ChangeSpec.witness6 (enc := enc) (C := Try.checked) false ⟨#[], #[.slice none 0 0, .agg #[.int .i64 0, .int .i64 0, .int .i64 0, .int .i64 0, .int .i64 0, .int .i64 0]], []⟩ 8 (by kernel_rfl) (by kernel_rfl) (by kernel_rfl) (by kernel_rfl)) ?_
  intro W base args ds gs before hval0 hW hcnd _
  have hval : ∀ (j : Nat) t v, Try.f4.params[j]? = some t → args[j]? = some v → Value.okWide Try.prog W .any base t v := hval0
  have hW' := hW
  obtain ⟨p, q, hA0, hV, rfl, hfz, hnd⟩ := hW
  have hA : DataW.TrodAll enc Try.prog W 0 (fun _ => true) true Try.f4.params.toList args.toList ds p := hA0
  rw [Try.params4] at hA hval
  obtain ⟨v0, vs0, d0, ds0, p0, q0, hargs, rfl, rfl, h0, r0⟩ := trodAll_cons hA
  obtain ⟨v1, vs1, d1, ds1, p1, q1, rfl, rfl, rfl, h1, r1⟩ := trodAll_cons r0
  obtain ⟨rfl, rfl, rfl⟩ := trodAll_nil r1
  obtain rfl : args = #[v0, v1] := by cases args; simp_all
  obtain ⟨rfl, rfl⟩ := trodVars_none hV
  have k0 := h0
  have lt0 : ∀ x ∈ p0, x.block < W.heap.size := by obtain ⟨m, hm⟩ := k0; exact DataW.trod_lt m _ _ _ hm
  obtain ⟨a0, len0, cap0, rfl⟩ := okWide_slice Try.underlying22 (hval 0 22 v0 rfl rfl)
  obtain ⟨l0, b0, hc0, hm0⟩ := open_ents h0
  have k1 := h1
  have lt1 : ∀ x ∈ p1, x.block < W.heap.size := by obtain ⟨m, hm⟩ := k1; exact DataW.trod_lt m _ _ _ hm
  obtain ⟨e1, rfl⟩ := open_ent (hval 1 26 v1 rfl rfl) h1
  clear hA0 hval0
  refine (walk a0 len0 cap0 l0 e1 W b0 hc0 hm0).mono fun e W' ⟨he, bel⟩ => ?_
  subst he
  exact ⟨_, rfl, _, _, _, [], _, [], hW', trodAll_mk1 (shut_bool Try.underlying4 _), (trodAll_cons_mk (Below.trod laidOut (by kernel_rfl) (of_decide_eq_true (by kernel_rfl)) k0 bel lt0) (trodAll_cons_mk (Below.trod laidOut (by kernel_rfl) (of_decide_eq_true (by kernel_rfl)) k1 bel lt1) trodAll_mk0)), rfl, bel.frame _, fun h => by cases h⟩

theorem over : Rows.producersChecksRow.holds Try.pinned (OpenSpec.ofChange Rows.producersChecksSpec) :=
  OpenClaim.holds_of_wide 4 Try.f4 rfl rfl rfl rfl rfl rfl rfl ⟨rfl, rfl, rfl, rfl, rfl⟩ rfl rfl rfl rfl rfl (by kernel_rfl) Try.func4 (by kernel_rfl)
    (of_decide_eq_true (by kernel_rfl)) (by unfold Func.isWrapper; first | (rw [if_pos (by decide +kernel)]; kernel_rfl) | (rw [if_neg (by decide +kernel)]; exact ⟨rfl, rfl⟩))
    (fun os started H enc _ => lifted os started H enc)

theorem proved : Rows.ProducersChecksSaid := over
end Go.Proofs.Ytafgcafhgnfegaa.producersChecks
namespace Go.Proofs.Ytafgcafhgnfegaa
theorem producersChecks_holds : Rows.ProducersChecksSaid := producersChecks.proved
#print axioms producersChecks_holds
end Go.Proofs.Ytafgcafhgnfegaa
