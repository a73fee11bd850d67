/-
  For all bytes b and every number n waystationlaw01.SumsNoughts returns true: noughts ahead of bytes, and behind them, count as the document's own sum counts them. Conditions: none.
-/
import Derived.Test.YtnlokmamflpffaaStep
import Derived.WalkKit
import Derived.ProofKit
import Derived.OpenShut
import Derived.ShutString
import Derived.ChangeOld
import Derived.Below
namespace Go.Proofs.Ytnlokmamflpffaa.sumsNoughts
open Go.ChangeShapes Go.WideShapes Go.ChangeAt Go.RowKit
open Go.ChangeMaps (open_string shut_string)
set_option linter.unusedVariables false

theorem own : ownKnob Try.prog.godebug = none := by kernel_rfl
theorem laidOut : laidOutB Try.prog = true := by kernel_rfl

set_option maxHeartbeats 2000000 in
set_option maxRecDepth 100000 in
theorem walk (a0 : Option Addr) (len0 cap0 : Nat) (z0 : List Int) (a1 : Int) (w : World) (w0 : IsRow .u8 w a0 len0 cap0 z0) (w1 : (Lit.int .i64 a1).wf = true) :
    Calls Try.prog 9 #[.slice a0 len0 cap0, .int .i64 a1] w fun e w' => e = .returned (.bool true) ∧ Below w.heap.size w w' := by
  obtain ⟨l, hl, hc1, hc2⟩ := w0.bys
  have hi := i64_bounds w1
  clear w0 w1
  unfold maxLen at hc2
  by_cases hlong : 300 < len0
  · go_enter Try.func9, Try.ntmps9
    go_wp2_with fail
    refine (works_any w).mono ?_
    rintro e w' ⟨rfl, hb⟩
    go_wp2_with fail
    go_ret
    exact ⟨rfl, hb⟩
  by_cases hfew : a1 < 1
  · go_enter Try.func9, Try.ntmps9
    go_wp2_with fail
    refine (works_any w).mono ?_
    rintro e w' ⟨rfl, hb⟩
    go_wp2_with fail
    go_ret
    exact ⟨rfl, hb⟩
  by_cases hmany : 100 < a1
  · go_enter Try.func9, Try.ntmps9
    go_wp2_with fail
    refine (works_any w).mono ?_
    rintro e w' ⟨rfl, hb⟩
    go_wp2_with fail
    go_ret
    exact ⟨rfl, hb⟩
  obtain ⟨n, rfl⟩ := Int.eq_ofNat_of_zero_le (show 0 ≤ a1 by omega)
  have hn : n ≤ 100 := by omega
  obtain ⟨w1, hmk, hoz, hb1⟩ := made_noughts w n (by omega)
  have hz1 := hb1.size
  have LB : Hid (∀ W, Below w1.heap.size w1 W → Bys W w.heap.size a0 len0 l) := Lib.hid fun W h => (hl.below hb1).below (h.mono hz1)
  have ZB : Hid (∀ W, Below w1.heap.size w1 W → Bys W w1.heap.size (some ⟨w.heap.size, 0, none⟩) n (List.replicate n 0)) := Lib.hid fun W h => hoz.bys.below h
  have hln := hl.1
  have HL : Hid (l.length ≤ 300) := Lib.hid (by omega)
  clear hln hoz hl hi
  go_enter Try.func9, Try.ntmps9
  have hk1 : Below w1.heap.size w1 w1 := Below.refl _ _
  go_wp2_with (at_builtin; refine stop ?_)
  refine Stop.go (wpList_append_want _ (by rfl) _ _ (by rfl) w1.heap.size _ [] (by rfl) (own_empty _ _ hk1.size) _ (some ⟨w.heap.size, 0, none⟩) n n (List.replicate n 0) (by rfl) (ZB.out _ (hk1.alloc hk1.size _)) (by simp) (by omega) (le_alloc hk1.size _) ?_)
  intro v2 w2 ho2 hk20
  rw [List.nil_append] at ho2
  have hk2 := (hk1.alloc hk1.size _).trans hk20
  clear hk20
  go_wp2_with (at_builtin; refine stop ?_)
  refine Stop.go (wpList_append_want _ (by rfl) _ _ (by rfl) w1.heap.size _ (List.replicate n 0) (by rfl) ho2 _ a0 len0 cap0 l (by rfl) (LB.out _ hk2) (by first | (rw [List.length_replicate]; omega) | (have := HL.out; omega)) (by omega) hk2.size ?_)
  intro v3 w3 ho3 hk30
  have hk3 := hk2.trans hk30
  clear hk30
  obtain ⟨A3, q3, c3, rfl, hq3⟩ := ho3.form2
  have hz3 := hk3.size
  have hp3 : q3 < 1000 := by rw [hq3, List.length_append, List.length_replicate]; have := HL.out; omega
  clear hq3
  go_wp2_with (at_builtin; refine stop ?_)
  refine (sum_any A3 q3 c3 _ w3 ho3.bys (by omega)).mono ?_
  rintro e w4 ⟨rfl, hb4⟩
  have hk4 := hk3.trans (hb4.mono hz3)
  clear hb4 ho3 ho2 hk2 hk3 hz3
  go_wp2_with (at_builtin; refine stop ?_)
  refine Stop.go (wpList_append_want _ (by rfl) _ _ (by rfl) w1.heap.size _ [] (by rfl) (own_empty _ _ hk4.size) _ (some ⟨w.heap.size, 0, none⟩) n n (List.replicate n 0) (by rfl) (ZB.out _ (hk4.alloc hk4.size _)) (by simp) (by omega) (le_alloc hk4.size _) ?_)
  intro v5 w5 ho5 hk50
  rw [List.nil_append] at ho5
  have hk5 := (hk4.alloc hk4.size _).trans hk50
  clear hk50
  go_wp2_with (at_builtin; refine stop ?_)
  refine Stop.go (wpList_append_want _ (by rfl) _ _ (by rfl) w1.heap.size _ (List.replicate n 0) (by rfl) ho5 _ a0 len0 cap0 l (by rfl) (LB.out _ hk5) (by first | (rw [List.length_replicate]; omega) | (have := HL.out; omega)) (by omega) hk5.size ?_)
  intro v6 w6 ho6 hk60
  have hk6 := hk5.trans hk60
  clear hk60
  obtain ⟨A6, q6, c6, rfl, hq6⟩ := ho6.form2
  have hp6 : q6 < 1000 := by rw [hq6, List.length_append, List.length_replicate]; have := HL.out; omega
  clear hq6
  go_wp2_with (at_builtin; refine stop ?_)
  refine (refSum_any A6 q6 c6 _ _ w6 ho6.bys (by omega)).mono ?_
  rintro e w7 ⟨rfl, rfl⟩
  clear ho5 ho6 hk5
  have hz6 := hk6.size
  have hs : Crc.sum l < 4294967296 := by have := Crc.sum_lt l; omega
  go_wp2_with (at_builtin; refine stop ?_)
  refine (sum_any a0 len0 cap0 l w6 ((LB.out _ hk6).more (by omega)) (by omega)).mono ?_
  rintro e w7 ⟨rfl, hb7⟩
  have hk7 := hk6.trans (hb7.mono hz6)
  have hz7 := hk7.size
  clear hb7
  go_wp2_with (at_builtin; refine stop ?_)
  refine (more_any (Crc.sum l) hs _ n n (List.replicate n 0) w7 ((ZB.out _ hk7).more (by omega)) (by omega)).mono ?_
  rintro e w8 ⟨rfl, hb8⟩
  have hk8 := hk7.trans (hb8.mono hz7)
  clear hb8
  rw [Crc.more_sum]
  go_wp2_with (at_builtin; refine stop ?_)
  refine Stop.go (wpList_append_want _ (by rfl) _ _ (by rfl) w1.heap.size _ [] (by rfl) (own_empty _ _ hk8.size) _ a0 len0 cap0 l (by rfl) (LB.out _ (hk8.alloc hk8.size _)) (by simp) (by omega) (le_alloc hk8.size _) ?_)
  intro v9 w9 ho9 hk90
  rw [List.nil_append] at ho9
  have hk9 := (hk8.alloc hk8.size _).trans hk90
  clear hk90
  go_wp2_with (at_builtin; refine stop ?_)
  refine Stop.go (wpList_append_want _ (by rfl) _ _ (by rfl) w1.heap.size _ l (by rfl) ho9 _ (some ⟨w.heap.size, 0, none⟩) n n (List.replicate n 0) (by rfl) (ZB.out _ hk9) (by first | (rw [List.length_replicate]; omega) | (have := HL.out; omega)) (by omega) hk9.size ?_)
  intro v10 w10 ho10 hk100
  have hk10 := hk9.trans hk100
  clear hk100
  obtain ⟨A10, q10, c10, rfl, hq10⟩ := ho10.form2
  have hp10 : q10 < 1000 := by rw [hq10, List.length_append, List.length_replicate]; have := HL.out; omega
  clear hq10
  go_wp2_with (at_builtin; refine stop ?_)
  refine (refSum_any A10 q10 c10 _ _ w10 ho10.bys (by omega)).mono ?_
  rintro e w11 ⟨rfl, rfl⟩
  go_wp2_with (at_builtin; refine stop ?_)
  refine (works_any w10).mono ?_
  rintro e w12 ⟨rfl, hb12⟩
  go_wp2_with fail
  go_ret
  have hz10 := hk10.size
  exact ⟨rfl, (hb1.trans (hk10.mono hz1)).trans (hb12.mono (by omega))⟩

set_option maxRecDepth 100000 in
theorem lifted (os : Os) (started : os.Started) (H : Type) (enc : TypeId × Value → H) :
    ReturnsInHanded {} Try.checked os 9 .any (Rows.sumsNoughtsSpec.pre6 enc Try.prog Try.f9 Rows.sumsNoughtsRow.domain false) (Rows.sumsNoughtsSpec.post enc Try.prog Try.f9 false true false false) := by
  refine returnsInHanded_of_change (C := Try.checked) own started (by kernel_rfl) Try.func9
    (ChangeSpec.witness6 (enc := enc) (C := Try.checked) false ⟨#[], #[.slice none 0 0, .int .i64 0], []⟩ 8 (by kernel_rfl) (by kernel_rfl) (by kernel_rfl) (by kernel_rfl)) ?_
  intro W base args ds gs before hval0 hW hcnd _
  have hval : ∀ (j : Nat) t v, Try.f9.params[j]? = some t → args[j]? = some v → Value.okWide Try.prog W .any base t v := hval0
  have hW' := hW
  obtain ⟨p, q, hA0, hV, rfl, hfz, hnd⟩ := hW
  have hA : DataW.TrodAll enc Try.prog W 0 (fun _ => true) true Try.f9.params.toList args.toList ds p := hA0
  rw [Try.params9] at hA hval
  obtain ⟨v0, vs0, d0, ds0, p0, q0, hargs, rfl, rfl, h0, r0⟩ := trodAll_cons hA
  obtain ⟨v1, vs1, d1, ds1, p1, q1, rfl, rfl, rfl, h1, r1⟩ := trodAll_cons r0
  obtain ⟨rfl, rfl, rfl⟩ := trodAll_nil r1
  obtain rfl : args = #[v0, v1] := by cases args; simp_all
  obtain ⟨rfl, rfl⟩ := trodVars_none hV
  obtain ⟨a0, len0, cap0, rfl⟩ := okWide_slice Try.underlying22 (hval 0 22 v0 rfl rfl)
  have k0 := h0
  have lt0 : ∀ x ∈ p0, x.block < W.heap.size := by obtain ⟨m, hm⟩ := k0; exact DataW.trod_lt m _ _ _ hm
  obtain ⟨z0, w0⟩ : ∃ zs, IsRow .u8 W a0 len0 cap0 zs := by
    obtain ⟨fuel, hf⟩ := h0
    rcases open_ints Try.underlying22 Try.underlying5 (by kernel_rfl) hf with ⟨hcs, _⟩ | ⟨x, l, c, zs, hcs, _, hl, hm, hz, _, hcell, hwz⟩
    · simp [Value.cells] at hcs
      obtain ⟨rfl, rfl, rfl⟩ := hcs
      exact ⟨[], .inl ⟨rfl, rfl, rfl, rfl⟩⟩
    · simp [Value.cells] at hcs
      obtain ⟨rfl, rfl, rfl⟩ := hcs
      exact ⟨zs, .inr ⟨_, rfl, hl, hm, by simpa using hz, hcell, hwz⟩⟩
  obtain ⟨a1, rfl, rfl, rfl, w1⟩ := open_int Try.underlying3 (hval 1 3 v1 rfl rfl) h1
  clear hA0 hval0
  refine (walk a0 len0 cap0 z0 a1 W w0 w1).mono fun e W' ⟨he, bel⟩ => ?_
  subst he
  exact ⟨_, rfl, _, _, _, [], _, [], hW', trodAll_mk1 (shut_bool Try.underlying4 _), (trodAll_cons_mk (Below.trod laidOut (by kernel_rfl) (of_decide_eq_true (by kernel_rfl)) k0 bel lt0) (trodAll_cons_mk (shut_int Try.underlying3 w1) trodAll_mk0)), rfl, bel.frame _, fun h => by cases h⟩

theorem over : Rows.sumsNoughtsRow.holds Try.pinned (OpenSpec.ofChange Rows.sumsNoughtsSpec) :=
  OpenClaim.holds_of_wide 9 Try.f9 rfl rfl rfl rfl rfl rfl rfl ⟨rfl, rfl, rfl, rfl, rfl⟩ rfl rfl rfl rfl rfl (by kernel_rfl) Try.func9 (by kernel_rfl)
    (of_decide_eq_true (by kernel_rfl)) (by unfold Func.isWrapper; first | (rw [if_pos (by decide +kernel)]; kernel_rfl) | (rw [if_neg (by decide +kernel)]; exact ⟨rfl, rfl⟩))
    (fun os started H enc _ => lifted os started H enc)

theorem proved : Rows.SumsNoughtsSaid := over
end Go.Proofs.Ytnlokmamflpffaa.sumsNoughts
namespace Go.Proofs.Ytnlokmamflpffaa
theorem sumsNoughts_holds : Rows.SumsNoughtsSaid := sumsNoughts.proved
#print axioms sumsNoughts_holds
end Go.Proofs.Ytnlokmamflpffaa
