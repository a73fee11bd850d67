/-
  waystationlaw02.WireCuts answers true for any entries and any cut: of frames that are cut off the entries of the whole ones are read, and that they end too soon or at their end. Nothing is assumed.
-/
import Derived.Test.YtickdpgfiianjaaOpen
import Derived.Test.YtickdpgfiianjaaRefAll
import Derived.Test.YtickdpgfiianjaaCuts
import Derived.WalkKit
import Derived.ProofKit
import Derived.OpenShut
import Derived.ShutString
import Derived.ChangeOld
import Derived.Below
namespace Go.Proofs.Ytickdpgfiianjaa.wireCuts
open Go.ChangeShapes Go.WideShapes Go.ChangeAt Go.RowKit
set_option linter.unusedVariables false
theorem own : ownKnob Try.prog.godebug = none := by kernel_rfl
theorem laidOut : laidOutB Try.prog = true := by kernel_rfl
set_option maxHeartbeats 4000000 in
set_option maxRecDepth 100000 in
theorem walk (a0 : Option Addr) (len0 cap0 : Nat) (es0 : List Ent) (n1 : Int) (w : World) (b0 : Ents w w.heap.size a0 len0 es0) (hc0 : len0 ≤ cap0) (hm0 : cap0 ≤ maxLen) (hn1 : -9223372036854775808 ≤ n1 ∧ n1 ≤ 9223372036854775807) :
    Calls Try.prog 10 #[.slice a0 len0 cap0, .int .i64 n1] w fun e w' => e = .returned (.bool true) ∧ Below w.heap.size w w' := by
  have hmx : cap0 ≤ 9223372036854775807 := by unfold maxLen at hm0; omega
  clear hm0
  by_cases h4 : 40 < len0
  · go_enter Try.func10, Try.ntmps10
    go_wp2_with fail
    refine (works_any w).mono ?_
    rintro e w1 ⟨rfl, hb⟩
    go_wp2_with fail
    go_ret
    exact ⟨rfl, hb⟩
  go_enter Try.func10, Try.ntmps10
  go_wp2_with fail
  refine (frames_any a0 len0 cap0 es0 w b0 (by omega)).mono ?_
  rintro r w1 ⟨hb1, ⟨hR, v1, rfl, ho1⟩ | ⟨hR, rfl⟩⟩
  case inr =>
    have hz1 := hb1.size
    go_wp2_with (go_at_call 17; refine (num_any _ _).mono ?_; rintro e w' ⟨rfl, rfl⟩)
    refine (works_any w1).mono ?_
    rintro e w2 ⟨rfl, hb2⟩
    go_wp2_with fail
    go_ret
    exact ⟨rfl, hb1.trans (hb2.mono hz1)⟩
  have hz1 := hb1.size
  have hfl := length_frames es0 hR
  rw [b0.1] at hfl
  obtain ⟨A1, q1, c1, rfl, hq1⟩ := ho1.form2
  obtain ⟨hc1, hm1⟩ := ho1.cap
  have hmx1 : c1 ≤ 9223372036854775807 := by unfold maxLen at hm1; omega
  have HQ1 := Lib.hid hq1
  have hq16 : q1 ≤ 1600 := by omega
  have HY1 := Lib.hid ho1.bys
  clear hq1 hm1 ho1 hfl
  by_cases hcut : n1 < 0 ∨ (q1 : Int) < n1
  · rcases hcut with hcut | hcut
    · go_wp2_with (go_at_call 17; refine (num_any _ _).mono ?_; rintro e w' ⟨rfl, rfl⟩)
      refine (works_any w1).mono ?_
      rintro e w2 ⟨rfl, hb2⟩
      go_wp2_with fail
      go_ret
      exact ⟨rfl, hb1.trans (hb2.mono hz1)⟩
    · have h0 : ¬ n1 < 0 := by omega
      go_wp2_with (go_at_call 17; refine (num_any _ _).mono ?_; rintro e w' ⟨rfl, rfl⟩)
      refine (works_any w1).mono ?_
      rintro e w2 ⟨rfl, hb2⟩
      go_wp2_with fail
      go_ret
      exact ⟨rfl, hb1.trans (hb2.mono hz1)⟩
  obtain ⟨k, rfl⟩ : ∃ k : Nat, n1 = (k : Int) := ⟨n1.toNat, by omega⟩
  have hk1 : k ≤ q1 := by omega
  clear hcut
  have hsl := slice_to A1 q1 c1 k (k : Int) rfl (by omega)
  have HYK : Hid (Bys w1 w1.heap.size A1 k ((frames es0).take k)) := Lib.hid (HY1.out.first hk1)
  have HCO : Hid ((scan ((frames es0).take k)).2 = 0 ∨ (scan ((frames es0).take k)).2 = 120) := Lib.hid (scan_cut es0 hR _ 0 k (Nat.le_refl _))
  have HSC : Hid ((scan ((frames es0).take k)).1.length ≤ 1600) := Lib.hid (by
    have h1 := scanF_len ((frames es0).take k).length 0 ((frames es0).take k)
    have h2 := HYK.out.1
    unfold scan
    omega)
  go_wp2_with (go_at_call 17; refine (num_any _ _).mono ?_; rintro e w' ⟨rfl, rfl⟩)
  refine (all_any A1 k c1 _ w1 HYK.out (by omega) (by omega)).mono ?_
  rintro r w3 ⟨v3, rfl, ho3, hb3⟩
  have HYK3 := Lib.hid ((HYK.out.below hb3).more hb3.size)
  generalize (frames es0).take k = l0 at *
  have hb3' := hb1.trans (hb3.mono hz1)
  have hz3 := hb3'.size
  obtain ⟨A3, q3, c3, rfl, hq3, -, -⟩ := ho3.form
  have HQ3 : Hid (q3 = (scan l0).1.length) := Lib.hid (by rw [hq3]; simp)
  clear hb3 hq3 hb1
  generalize hgood : (goodOf (scan l0).1 : Int) = good at *
  have HCW : Hid (((scan l0).2 : Int) = 0 ∨ ((scan l0).2 : Int) = 120) := Lib.hid (by have := HCO.out; omega)
  generalize hwhy : ((scan l0).2 : Int) = why at *
  have hx4 : Blk (w3.alloc (.cells #[.slice A3 q3 c3, .int .i64 good, .int .i64 why] 55)) w3.heap.size 55 #[.slice A3 q3 c3, .int .i64 good, .int .i64 why] := Blk.new _ _ _
  have hb4 := hb3'.alloc hz3 (.cells #[.slice A3 q3 c3, .int .i64 good, .int .i64 why] 55)
  have ho4 := ho3.keep (w' := w3.alloc (.cells #[.slice A3 q3 c3, .int .i64 good, .int .i64 why] 55)) fun g e => Below.heap_alloc w3 _ g (ho3.lt e).2
  have HY4 := Lib.hid (HYK3.out.alloc (Nat.le_refl _) (.cells #[.slice A3 q3 c3, .int .i64 good, .int .i64 why] 55))
  go_wp2_with fail
  clear hsl
  generalize hgx : w3.heap.size = gx at *
  have hgz : gx < (w3.alloc (.cells #[.slice A3 q3 c3, .int .i64 good, .int .i64 why] 55)).heap.size := by simp; omega
  generalize w3.alloc (.cells #[.slice A3 q3 c3, .int .i64 good, .int .i64 why] 55) = w4 at *
  clear ho3 hb3'
  have hz4 := hb4.size
  refine (refAll_any A1 k c1 l0 w4 (HY4.out.more (by omega)) (by omega) (by omega)).mono ?_
  rintro r w5 ⟨v5, rfl, ho5, hb5⟩
  rw [hgood, hwhy]
  obtain ⟨A5, q5, c5, rfl, hq5, -, -⟩ := ho5.form
  have hq5' : q5 = q3 := by rw [hq5, HQ3.out]; simp
  subst hq5'
  have hx5 := hx4.below hb5 hx4.lt
  have ho45 := ho4.below hb5 (Nat.le_refl _)
  have hb5' := hb4.trans (hb5.mono hz4)
  have hz5 := hb5'.size
  have x0 : w5.cell? ⟨gx, 0, none⟩ = some (.slice A3 q5 c3) := hx5.cell 0
  have HX5 := Lib.hid hx5
  clear hq5 hx4 hb5 hb4 hx5 ho4
  go_wp2_with fail
  refine (same_any A3 q5 c3 A5 c5 _ w5 ho45.ents ho5.ents (by have := HSC.out; have := HQ3.out; omega)).mono ?_
  rintro r w6 ⟨rfl, hb6⟩
  have hx6 := HX5.out.below hb6 HX5.out.lt
  have hb6' := hb5'.trans (hb6.mono hz5)
  have hz6 := hb6'.size
  have x1 : w6.cell? ⟨gx, 1, none⟩ = some (.int .i64 good) := hx6.cell 1
  have x2 : w6.cell? ⟨gx, 2, none⟩ = some (.int .i64 why) := hx6.cell 2
  clear x0 hx6 hb6 hb5' ho45 ho5
  clear hwhy
  rcases HCW.out with rfl | rfl
  · go_wp2_with (go_at_call 17; refine (num_any _ _).mono ?_; rintro e w' ⟨rfl, rfl⟩)
    refine (works_any w6).mono ?_
    rintro e w7 ⟨rfl, hb7⟩
    clear x1 x2
    go_wp2_with fail
    go_ret
    exact ⟨rfl, hb6'.trans (hb7.mono hz6)⟩
  · go_wp2_with (go_at_call 17; refine (num_any _ _).mono ?_; rintro e w' ⟨rfl, rfl⟩)
    refine (works_any w6).mono ?_
    rintro e w7 ⟨rfl, hb7⟩
    clear x1 x2
    go_wp2_with fail
    go_ret
    exact ⟨rfl, hb6'.trans (hb7.mono hz6)⟩

set_option maxRecDepth 100000 in
theorem lifted (os : Os) (started : os.Started) (H : Type) (enc : TypeId × Value → H) :
    ReturnsInHanded {} Try.checked os 10 .any (Rows.wireCutsSpec.pre6 enc Try.prog Try.f10 Rows.wireCutsRow.domain false) (Rows.wireCutsSpec.post enc Try.prog Try.f10 false true false false) := by
  refine returnsInHanded_of_change (C := Try.checked) own started (by kernel_rfl) Try.func10
    (ChangeSpec.witness6 (enc := enc) (C := Try.checked) false ⟨#[], #[.slice none 0 0, .int .i64 0], []⟩ 8 (by kernel_rfl) (by kernel_rfl) (by kernel_rfl) (by kernel_rfl)) ?_
  intro W base args ds gs before hval0 hW hcnd _
  have hval : ∀ (j : Nat) t v, Try.f10.params[j]? = some t → args[j]? = some v → Value.okWide Try.prog W .any base t v := hval0
  have hW' := hW
  obtain ⟨p, q, hA0, hV, rfl, hfz, hnd⟩ := hW
  have hA : DataW.TrodAll enc Try.prog W 0 (fun _ => true) true Try.f10.params.toList args.toList ds p := hA0
  rw [Try.params10] at hA hval
  obtain ⟨v0, vs0, d0, ds0, p0, q0, hargs, rfl, rfl, h0, r0⟩ := trodAll_cons hA
  obtain ⟨v1, vs1, d1, ds1, p1, q1, rfl, rfl, rfl, h1, r1⟩ := trodAll_cons r0
  obtain ⟨rfl, rfl, rfl⟩ := trodAll_nil r1
  obtain rfl : args = #[v0, v1] := by cases args; simp_all
  obtain ⟨rfl, rfl⟩ := trodVars_none hV
  have k0 := h0
  have lt0 : ∀ x ∈ p0, x.block < W.heap.size := by obtain ⟨m, hm⟩ := k0; exact DataW.trod_lt m _ _ _ hm
  obtain ⟨a0, len0, cap0, rfl⟩ := okWide_slice Try.underlying43 (hval 0 43 v0 rfl rfl)
  obtain ⟨es0, b0, hc0, hm0⟩ := open_ents h0
  have k1 := h1
  have lt1 : ∀ x ∈ p1, x.block < W.heap.size := by obtain ⟨m, hm⟩ := k1; exact DataW.trod_lt m _ _ _ hm
  obtain ⟨n1, rfl, rfl, rfl, wf1⟩ := open_int Try.underlying3 (hval 1 3 v1 rfl rfl) h1
  clear hA0 hval0
  refine (walk a0 len0 cap0 es0 n1 W b0 hc0 hm0 (i64_bounds wf1)).mono fun e W' ⟨he, bel⟩ => ?_
  subst he
  exact ⟨_, rfl, _, _, _, [], _, [], hW', trodAll_mk1 (shut_bool Try.underlying4 _), (trodAll_cons_mk (Below.trod laidOut (by kernel_rfl) (of_decide_eq_true (by kernel_rfl)) k0 bel lt0) (trodAll_cons_mk (Below.trod laidOut (by kernel_rfl) (of_decide_eq_true (by kernel_rfl)) k1 bel lt1) trodAll_mk0)), rfl, bel.frame _, fun h => by cases h⟩

theorem over : Rows.wireCutsRow.holds Try.pinned (OpenSpec.ofChange Rows.wireCutsSpec) :=
  OpenClaim.holds_of_wide 10 Try.f10 rfl rfl rfl rfl rfl rfl rfl ⟨rfl, rfl, rfl, rfl, rfl⟩ rfl rfl rfl rfl rfl (by kernel_rfl) Try.func10 (by kernel_rfl)
    (of_decide_eq_true (by kernel_rfl)) (by unfold Func.isWrapper; first | (rw [if_pos (by decide +kernel)]; kernel_rfl) | (rw [if_neg (by decide +kernel)]; exact ⟨rfl, rfl⟩))
    (fun os started H enc _ => lifted os started H enc)

theorem proved : Rows.WireCutsSaid := over
end Go.Proofs.Ytickdpgfiianjaa.wireCuts
namespace Go.Proofs.Ytickdpgfiianjaa
theorem wireCuts_holds : Rows.WireCutsSaid := wireCuts.proved
#print axioms wireCuts_holds
end Go.Proofs.Ytickdpgfiianjaa
