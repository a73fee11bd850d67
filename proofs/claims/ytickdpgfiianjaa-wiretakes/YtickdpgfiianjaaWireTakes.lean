/-
  waystationlaw02.WireTakes answers true for any bytes: the number with which they begin is the document's, and they stay. Nothing is assumed.
-/
import Derived.Test.YtickdpgfiianjaaOpen
import Derived.Test.YtickdpgfiianjaaTakeOf
import Derived.WalkKit
import Derived.ProofKit
import Derived.OpenShut
import Derived.ShutString
import Derived.ChangeOld
import Derived.Below
namespace Go.Proofs.Ytickdpgfiianjaa.wireTakes
open Go.ChangeShapes Go.WideShapes Go.ChangeAt Go.RowKit
set_option linter.unusedVariables false
theorem own : ownKnob Try.prog.godebug = none := by kernel_rfl
theorem laidOut : laidOutB Try.prog = true := by kernel_rfl
set_option maxHeartbeats 4000000 in
set_option maxRecDepth 100000 in
theorem walk (a0 : Option Addr) (len0 cap0 : Nat) (l0 : List UInt8) (w : World) (b0 : Bys w w.heap.size a0 len0 l0) (hc0 : len0 ≤ cap0) (hm0 : cap0 ≤ maxLen) :
    Calls Try.prog 4 #[.slice a0 len0 cap0] w fun e w' => e = .returned (.bool true) ∧ Below w.heap.size w w' := by
  have hmx : cap0 ≤ 9223372036854775807 := by unfold maxLen at hm0; omega
  clear hm0
  by_cases h2 : 200 < len0
  · go_enter Try.func4, Try.ntmps4
    go_wp2_with fail
    refine (works_any w).mono ?_
    rintro e w1 ⟨rfl, hb⟩
    go_wp2_with fail
    go_ret
    exact ⟨rfl, hb⟩
  go_enter Try.func4, Try.ntmps4
  go_wp2_with (at_builtin; refine stop ?_)
  refine Stop.go (wpList_append_want _ (by rfl) _ _ (by rfl) w.heap.size _ [] (by rfl) (own_empty _ _ (Nat.le_refl _)) w.heap.size a0 len0 cap0 l0 (by rfl) (b0.alloc (Nat.le_refl _) _) (by simp) (by omega) (le_alloc (Nat.le_refl _) _) ?_)
  intro v1 w1 ho1 hb1
  rw [List.nil_append] at ho1
  have hb1' : Below w.heap.size w w1 := ((Below.refl _ _).alloc (Nat.le_refl _) _).trans hb1
  have hz1 := hb1'.size
  have HL0 := Lib.hid b0.1
  clear hb1
  go_wp2_with (at_builtin; refine stop ?_)
  refine Stop.go (wpList_append_want _ (by rfl) _ _ (by rfl) w.heap.size _ l0 (by rfl) (ho1.alloc _) _ _ 1 _ [77] (by rfl) (bys_byte _ 77 _ (by rfl) (by omega) 5 _ (Nat.lt_succ_self _)) (by have := HL0.out; omega) (by omega) (le_alloc hz1 _) ?_)
  intro v2 w2 ho2 hb2
  have hb2' := (hb1'.alloc hz1 (.cells #[.int .u8 77] 5)).trans hb2
  have hz2 := hb2'.size
  obtain ⟨A2, q2, c2, rfl, hq2⟩ := ho2.form2
  have hq2' : q2 = len0 + 1 := by rw [hq2, List.length_append, HL0.out]; rfl
  clear hq2
  subst hq2'
  obtain ⟨hc2, hm2⟩ := ho2.cap
  obtain ⟨g, rfl, hg1, hg2, -, -, hcell⟩ := ho2.row (by omega)
  have hmx2 : c2 ≤ 9223372036854775807 := by unfold maxLen at hm2; omega
  have hl77 : (l0 ++ [77])[len0]? = some 77 := by rw [List.getElem?_append_right (by rw [HL0.out]; exact Nat.le_refl _), HL0.out]; simp
  have HC77 : Hid (w2.cell? ⟨g, len0, none⟩ = some (.int .u8 77)) := Lib.hid (hcell len0 77 hl77).1
  have HM : Hid (Bys w2 w2.heap.size (some ⟨g, 0, none⟩) len0 l0) := Lib.hid (by
    have := ho2.bys.first (k := len0) (by omega)
    rwa [List.take_append_of_le_length (by rw [HL0.out]; exact Nat.le_refl _), List.take_of_length_le (by rw [HL0.out]; exact Nat.le_refl _)] at this)
  have HGW : Hid (w.heap.size ≤ g ∧ g < w2.heap.size) := Lib.hid ⟨hg1, hg2⟩
  clear hcell hl77 hm2 ho2 ho1 hb1' hb2 hg1 hg2
  have hsl := slice_to (some ⟨g, 0, none⟩) (len0 + 1) c2 len0 (len0 : Int) rfl (by omega)
  go_wp2_with fail
  clear hsl
  refine (take_any _ len0 c2 l0 w2 HM.out (by omega)).mono ?_
  rintro r w3 ⟨rfl, hb3⟩
  have HM3 := Lib.hid ((HM.out.below hb3).more hb3.size)
  have hb3' := hb2'.trans (hb3.mono hz2)
  have hz3 := hb3'.size
  have hz23 := hb3.size
  have HC3 : Hid (w3.cell? ⟨g, len0, none⟩ = some (.int .u8 77)) := Lib.hid ((hb3.cell HGW.out.2).trans HC77.out)
  clear hb3 hb2'
  go_wp2_with fail
  refine (refTake_any a0 len0 cap0 w.heap.size l0 w3 (b0.below hb3') (by omega)).mono ?_
  rintro r w4 ⟨rfl, rfl⟩
  go_wp2_with fail
  refine (takeSigned_any _ len0 c2 l0 w3 HM3.out (by omega)).mono ?_
  rintro r w4 ⟨rfl, hb4⟩
  have HM4 := Lib.hid (HM3.out.below hb4)
  have hb4' := hb3'.trans (hb4.mono hz3)
  have hz4 := hb4'.size
  have hc4 : w4.cell? ⟨g, len0, none⟩ = some (.int .u8 77) := (hb4.cell (Nat.lt_of_lt_of_le HGW.out.2 hz23)).trans HC3.out
  clear hb4 hb3'
  go_wp2_with fail
  refine (refTakeSigned_any a0 len0 cap0 w.heap.size l0 w4 (b0.below hb4') (by omega)).mono ?_
  rintro r w5 ⟨rfl, rfl⟩
  have cv1 := conv_str w4 _ (some ⟨g, 0, none⟩) len0 c2 l0 HM4.out
  have cv2 := conv_str w4 _ a0 len0 cap0 l0 (b0.below hb4')
  have t1 := str_toList l0
  have hsl := slice_to (some ⟨g, 0, none⟩) len0 c2 (len0 + 1) ((len0 : Int) + 1) (by omega) (by omega)
  go_wp2_with (go_at_call 17; refine (num_any _ _).mono ?_; rintro e w' ⟨rfl, rfl⟩)
  refine (works_any w4).mono ?_
  rintro e w6 ⟨rfl, hb6⟩
  clear cv1 cv2 t1 hsl hc4
  go_wp2_with fail
  go_ret
  exact ⟨rfl, hb4'.trans (hb6.mono hz4)⟩

set_option maxRecDepth 100000 in
theorem lifted (os : Os) (started : os.Started) (H : Type) (enc : TypeId × Value → H) :
    ReturnsInHanded {} Try.checked os 4 .any (Rows.wireTakesSpec.pre6 enc Try.prog Try.f4 Rows.wireTakesRow.domain false) (Rows.wireTakesSpec.post enc Try.prog Try.f4 false true false false) := by
  refine returnsInHanded_of_change (C := Try.checked) own started (by kernel_rfl) Try.func4
    (ChangeSpec.witness6 (enc := enc) (C := Try.checked) false ⟨#[], #[.slice none 0 0], []⟩ 8 (by kernel_rfl) (by kernel_rfl) (by kernel_rfl) (by kernel_rfl)) ?_
  intro W base args ds gs before hval0 hW hcnd _
  have hval : ∀ (j : Nat) t v, Try.f4.params[j]? = some t → args[j]? = some v → Value.okWide Try.prog W .any base t v := hval0
  have hW' := hW
  obtain ⟨p, q, hA0, hV, rfl, hfz, hnd⟩ := hW
  have hA : DataW.TrodAll enc Try.prog W 0 (fun _ => true) true Try.f4.params.toList args.toList ds p := hA0
  rw [Try.params4] at hA hval
  obtain ⟨v0, vs0, d0, ds0, p0, q0, hargs, rfl, rfl, h0, r0⟩ := trodAll_cons hA
  obtain ⟨rfl, rfl, rfl⟩ := trodAll_nil r0
  obtain rfl : args = #[v0] := by cases args; simp_all
  obtain ⟨rfl, rfl⟩ := trodVars_none hV
  have k0 := h0
  have lt0 : ∀ x ∈ p0, x.block < W.heap.size := by obtain ⟨m, hm⟩ := k0; exact DataW.trod_lt m _ _ _ hm
  obtain ⟨a0, len0, cap0, rfl⟩ := okWide_slice Try.underlying22 (hval 0 22 v0 rfl rfl)
  obtain ⟨z0, w0⟩ : ∃ zs, IsRow .u8 W a0 len0 cap0 zs := by
    obtain ⟨fuel, hf⟩ := h0
    rcases open_ints Try.underlying22 Try.underlying5 (by kernel_rfl) hf with ⟨hcs, _⟩ | ⟨x, l, c, zs, hcs, _, hl, hm, hz, _, hcell, hwz⟩
    · simp [Value.cells] at hcs
      obtain ⟨rfl, rfl, rfl⟩ := hcs
      exact ⟨[], .inl ⟨rfl, rfl, rfl, rfl⟩⟩
    · simp [Value.cells] at hcs
      obtain ⟨rfl, rfl, rfl⟩ := hcs
      exact ⟨zs, .inr ⟨_, rfl, hl, hm, by simpa using hz, hcell, hwz⟩⟩
  obtain ⟨l0, b0, hc0, hm0⟩ := w0.bys
  clear hA0 hval0
  refine (walk a0 len0 cap0 l0 W b0 hc0 hm0).mono fun e W' ⟨he, bel⟩ => ?_
  subst he
  exact ⟨_, rfl, _, _, _, [], _, [], hW', trodAll_mk1 (shut_bool Try.underlying4 _), (trodAll_cons_mk (Below.trod laidOut (by kernel_rfl) (of_decide_eq_true (by kernel_rfl)) k0 bel lt0) trodAll_mk0), rfl, bel.frame _, fun h => by cases h⟩

theorem over : Rows.wireTakesRow.holds Try.pinned (OpenSpec.ofChange Rows.wireTakesSpec) :=
  OpenClaim.holds_of_wide 4 Try.f4 rfl rfl rfl rfl rfl rfl rfl ⟨rfl, rfl, rfl, rfl, rfl⟩ rfl rfl rfl rfl rfl (by kernel_rfl) Try.func4 (by kernel_rfl)
    (of_decide_eq_true (by kernel_rfl)) (by unfold Func.isWrapper; first | (rw [if_pos (by decide +kernel)]; kernel_rfl) | (rw [if_neg (by decide +kernel)]; exact ⟨rfl, rfl⟩))
    (fun os started H enc _ => lifted os started H enc)

theorem proved : Rows.WireTakesSaid := over
end Go.Proofs.Ytickdpgfiianjaa.wireTakes
namespace Go.Proofs.Ytickdpgfiianjaa
theorem wireTakes_holds : Rows.WireTakesSaid := wireTakes.proved
#print axioms wireTakes_holds
end Go.Proofs.Ytickdpgfiianjaa
