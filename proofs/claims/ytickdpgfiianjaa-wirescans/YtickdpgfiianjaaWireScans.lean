/-
  waystationlaw02.WireScans answers true for any bytes: the entries that wire.All tells, how many bytes they have and why they end are the document's, and the bytes stay. Nothing is assumed.
-/
import Derived.Test.YtickdpgfiianjaaOpen
import Derived.Test.YtickdpgfiianjaaRefAll
import Derived.WalkKit
import Derived.ProofKit
import Derived.OpenShut
import Derived.ShutString
import Derived.ChangeOld
import Derived.Below
namespace Go.Proofs.Ytickdpgfiianjaa.wireScans
open Go.ChangeShapes Go.WideShapes Go.ChangeAt Go.RowKit
set_option linter.unusedVariables false
theorem own : ownKnob Try.prog.godebug = none := by kernel_rfl
theorem laidOut : laidOutB Try.prog = true := by kernel_rfl
set_option maxHeartbeats 4000000 in
set_option maxRecDepth 100000 in
theorem walk (a0 : Option Addr) (len0 cap0 : Nat) (l0 : List UInt8) (w : World) (b0 : Bys w w.heap.size a0 len0 l0) (hc0 : len0 ≤ cap0) (hm0 : cap0 ≤ maxLen) :
    Calls Try.prog 9 #[.slice a0 len0 cap0] w fun e w' => e = .returned (.bool true) ∧ Below w.heap.size w w' := by
  have hmx : cap0 ≤ 9223372036854775807 := by unfold maxLen at hm0; omega
  clear hm0
  by_cases h2 : 3000 < len0
  · go_enter Try.func9, Try.ntmps9
    go_wp2_with fail
    refine (works_any w).mono ?_
    rintro e w1 ⟨rfl, hb⟩
    go_wp2_with fail
    go_ret
    exact ⟨rfl, hb⟩
  go_enter Try.func9, Try.ntmps9
  go_wp2_with (at_builtin; refine stop ?_)
  refine Stop.go (wpList_append_want _ (by rfl) _ _ (by rfl) w.heap.size _ [] (by rfl) (own_empty _ _ (Nat.le_refl _)) w.heap.size a0 len0 cap0 l0 (by rfl) (b0.alloc (Nat.le_refl _) _) (by simp) (by omega) (le_alloc (Nat.le_refl _) _) ?_)
  intro v1 w1 ho1 hb1
  rw [List.nil_append] at ho1
  have hb1' : Below w.heap.size w w1 := ((Below.refl _ _).alloc (Nat.le_refl _) _).trans hb1
  have hz1 := hb1'.size
  have HL0 := Lib.hid b0.1
  clear hb1
  go_wp2_with (at_builtin; refine stop ?_)
  refine Stop.go (wpList_append_want _ (by rfl) _ _ (by rfl) w.heap.size _ l0 (by rfl) (ho1.alloc _) _ _ 1 _ [77] (by rfl) (bys_byte _ 77 _ (by rfl) (by omega) 5 _ (Nat.lt_succ_self _)) (by have := HL0.out; omega) (by omega) (le_alloc hz1 _) ?_)
  intro v2 w2 ho2 hb2
  have hb2' := (hb1'.alloc hz1 (.cells #[.int .u8 77] 5)).trans hb2
  have hz2 := hb2'.size
  obtain ⟨A2, q2, c2, rfl, hq2⟩ := ho2.form2
  have hq2' : q2 = len0 + 1 := by rw [hq2, List.length_append, HL0.out]; rfl
  clear hq2
  subst hq2'
  obtain ⟨hc2, hm2⟩ := ho2.cap
  obtain ⟨g, rfl, hg1, hg2, -, -, hcell⟩ := ho2.row (by omega)
  have hmx2 : c2 ≤ 9223372036854775807 := by unfold maxLen at hm2; omega
  have hl77 : (l0 ++ [77])[len0]? = some 77 := by rw [List.getElem?_append_right (by rw [HL0.out]; exact Nat.le_refl _), HL0.out]; simp
  have HC77 : Hid (w2.cell? ⟨g, len0, none⟩ = some (.int .u8 77)) := Lib.hid (hcell len0 77 hl77).1
  have HM : Hid (Bys w2 w2.heap.size (some ⟨g, 0, none⟩) len0 l0) := Lib.hid (by
    have := ho2.bys.first (k := len0) (by omega)
    rwa [List.take_append_of_le_length (by rw [HL0.out]; exact Nat.le_refl _), List.take_of_length_le (by rw [HL0.out]; exact Nat.le_refl _)] at this)
  have HGW : Hid (w.heap.size ≤ g ∧ g < w2.heap.size) := Lib.hid ⟨hg1, hg2⟩
  clear hcell hl77 hm2 ho2 ho1 hb1' hb2 hg1 hg2
  have hsl := slice_to (some ⟨g, 0, none⟩) (len0 + 1) c2 len0 (len0 : Int) rfl (by omega)
  go_wp2_with fail
  clear hsl
  refine (all_any _ len0 c2 l0 w2 HM.out (by omega) (by omega)).mono ?_
  rintro r w3 ⟨v3, rfl, ho3, hb3⟩
  have HM3 := Lib.hid (HM.out.below hb3)
  have hb3' := hb2'.trans (hb3.mono hz2)
  have hz3 := hb3'.size
  have hz23 := hb3.size
  have HC3 : Hid (w3.cell? ⟨g, len0, none⟩ = some (.int .u8 77)) := Lib.hid ((hb3.cell HGW.out.2).trans HC77.out)
  obtain ⟨A3, q3, c3, rfl, hq3, -, hm3⟩ := ho3.form
  have HSC : Hid ((scan l0).1.length ≤ 3000) := Lib.hid (by have := scanF_len l0.length 0 l0; have := HL0.out; unfold scan; omega)
  have HQ3 : Hid (q3 = (scan l0).1.length) := Lib.hid (by rw [hq3]; simp)
  clear hb3 hb2' hq3 hm3
  generalize hgood : (goodOf (scan l0).1 : Int) = good at *
  generalize hwhy : ((scan l0).2 : Int) = why at *
  have hx4 : Blk (w3.alloc (.cells #[.slice A3 q3 c3, .int .i64 good, .int .i64 why] 55)) w3.heap.size 55 #[.slice A3 q3 c3, .int .i64 good, .int .i64 why] := Blk.new _ _ _
  have hb4 := hb3'.alloc hz3 (.cells #[.slice A3 q3 c3, .int .i64 good, .int .i64 why] 55)
  have ho4 := ho3.keep (w' := w3.alloc (.cells #[.slice A3 q3 c3, .int .i64 good, .int .i64 why] 55)) fun g e => Below.heap_alloc w3 _ g (ho3.lt e).2
  have HM4 := Lib.hid (HM3.out.alloc (Nat.le_trans hz23 (Nat.le_refl _)) (.cells #[.slice A3 q3 c3, .int .i64 good, .int .i64 why] 55))
  have HC4 : Hid ((w3.alloc (.cells #[.slice A3 q3 c3, .int .i64 good, .int .i64 why] 55)).cell? ⟨g, len0, none⟩ = some (.int .u8 77)) := Lib.hid ((World.cell?_alloc_lt w3 _ ⟨g, len0, none⟩ (by show g < w3.heap.size; have := HGW.out; omega)).trans HC3.out)
  go_wp2_with fail
  generalize hgx : w3.heap.size = gx at *
  have hgz : gx < (w3.alloc (.cells #[.slice A3 q3 c3, .int .i64 good, .int .i64 why] 55)).heap.size := by simp; omega
  generalize w3.alloc (.cells #[.slice A3 q3 c3, .int .i64 good, .int .i64 why] 55) = w4 at *
  clear ho3 hb3' HM3 HC3
  have hz4 := hb4.size
  refine (refAll_any a0 len0 cap0 l0 w4 ((b0.below hb4).more hz4) hc0 (by omega)).mono ?_
  rintro r w5 ⟨v5, rfl, ho5, hb5⟩
  rw [hgood, hwhy]
  obtain ⟨A5, q5, c5, rfl, hq5, -, -⟩ := ho5.form
  have hq5' : q5 = q3 := by rw [hq5, HQ3.out]; simp
  subst hq5'
  have hx5 := hx4.below hb5 hx4.lt
  have ho45 := ho4.below hb5 (Nat.le_refl _)
  have hb5' := hb4.trans (hb5.mono hz4)
  have hz5 := hb5'.size
  have hz45 := hb5.size
  have HM5 := Lib.hid (HM4.out.below (hb5.mono (by omega)))
  have HC5 : Hid (w5.cell? ⟨g, len0, none⟩ = some (.int .u8 77)) := Lib.hid ((hb5.cell (by show g < w4.heap.size; have := HGW.out; omega)).trans HC4.out)
  have x0 : w5.cell? ⟨gx, 0, none⟩ = some (.slice A3 q5 c3) := hx5.cell 0
  have HX5 := Lib.hid hx5
  clear hq5 hx4 hb5 hb4 hx5 ho4 HM4 HC4
  go_wp2_with fail
  refine (same_any A3 q5 c3 A5 c5 _ w5 ho45.ents ho5.ents (by have := HSC.out; have := HQ3.out; omega)).mono ?_
  rintro r w6 ⟨rfl, hb6⟩
  have hx6 := HX5.out.below hb6 HX5.out.lt
  have hb6' := hb5'.trans (hb6.mono hz5)
  have hz6 := hb6'.size
  have x1 : w6.cell? ⟨gx, 1, none⟩ = some (.int .i64 good) := hx6.cell 1
  have x2 : w6.cell? ⟨gx, 2, none⟩ = some (.int .i64 why) := hx6.cell 2
  have hm6 : Bys w6 w2.heap.size (some ⟨g, 0, none⟩) len0 l0 := HM5.out.below (hb6.mono (by omega))
  have hc6 : w6.cell? ⟨g, len0, none⟩ = some (.int .u8 77) := (hb6.cell (by show g < w5.heap.size; have := HGW.out; omega)).trans HC5.out
  have cv1 := conv_str w6 _ (some ⟨g, 0, none⟩) len0 c2 l0 hm6
  have cv2 := conv_str w6 _ a0 len0 cap0 l0 (b0.below hb6')
  have t1 := str_toList l0
  have hsl := slice_to (some ⟨g, 0, none⟩) len0 c2 (len0 + 1) ((len0 : Int) + 1) (by omega) (by omega)
  clear x0 hx6 hb6 hb5' ho45 ho5 hm6
  go_wp2_with (go_at_call 17; refine (num_any _ _).mono ?_; rintro e w' ⟨rfl, rfl⟩)
  refine (works_any w6).mono ?_
  rintro e w7 ⟨rfl, hb7⟩
  clear cv1 cv2 t1 hsl hc6 x1 x2
  go_wp2_with fail
  go_ret
  exact ⟨rfl, hb6'.trans (hb7.mono hz6)⟩

set_option maxRecDepth 100000 in
theorem lifted (os : Os) (started : os.Started) (H : Type) (enc : TypeId × Value → H) :
    ReturnsInHanded {} Try.checked os 9 .any (Rows.wireScansSpec.pre6 enc Try.prog Try.f9 Rows.wireScansRow.domain false) (Rows.wireScansSpec.post enc Try.prog Try.f9 false true false false) := by
  refine returnsInHanded_of_change (C := Try.checked) own started (by kernel_rfl) Try.func9
    (ChangeSpec.witness6 (enc := enc) (C := Try.checked) false ⟨#[], #[.slice none 0 0], []⟩ 8 (by kernel_rfl) (by kernel_rfl) (by kernel_rfl) (by kernel_rfl)) ?_
  intro W base args ds gs before hval0 hW hcnd _
  have hval : ∀ (j : Nat) t v, Try.f9.params[j]? = some t → args[j]? = some v → Value.okWide Try.prog W .any base t v := hval0
  have hW' := hW
  obtain ⟨p, q, hA0, hV, rfl, hfz, hnd⟩ := hW
  have hA : DataW.TrodAll enc Try.prog W 0 (fun _ => true) true Try.f9.params.toList args.toList ds p := hA0
  rw [Try.params9] at hA hval
  obtain ⟨v0, vs0, d0, ds0, p0, q0, hargs, rfl, rfl, h0, r0⟩ := trodAll_cons hA
  obtain ⟨rfl, rfl, rfl⟩ := trodAll_nil r0
  obtain rfl : args = #[v0] := by cases args; simp_all
  obtain ⟨rfl, rfl⟩ := trodVars_none hV
  have k0 := h0
  have lt0 : ∀ x ∈ p0, x.block < W.heap.size := by obtain ⟨m, hm⟩ := k0; exact DataW.trod_lt m _ _ _ hm
  obtain ⟨a0, len0, cap0, rfl⟩ := okWide_slice Try.underlying22 (hval 0 22 v0 rfl rfl)
  obtain ⟨z0, w0⟩ : ∃ zs, IsRow .u8 W a0 len0 cap0 zs := by
    obtain ⟨fuel, hf⟩ := h0
    rcases open_ints Try.underlying22 Try.underlying5 (by kernel_rfl) hf with ⟨hcs, _⟩ | ⟨x, l, c, zs, hcs, _, hl, hm, hz, _, hcell, hwz⟩
    · simp [Value.cells] at hcs
      obtain ⟨rfl, rfl, rfl⟩ := hcs
      exact ⟨[], .inl ⟨rfl, rfl, rfl, rfl⟩⟩
    · simp [Value.cells] at hcs
      obtain ⟨rfl, rfl, rfl⟩ := hcs
      exact ⟨zs, .inr ⟨_, rfl, hl, hm, by simpa using hz, hcell, hwz⟩⟩
  obtain ⟨l0, b0, hc0, hm0⟩ := w0.bys
  clear hA0 hval0
  refine (walk a0 len0 cap0 l0 W b0 hc0 hm0).mono fun e W' ⟨he, bel⟩ => ?_
  subst he
  exact ⟨_, rfl, _, _, _, [], _, [], hW', trodAll_mk1 (shut_bool Try.underlying4 _), (trodAll_cons_mk (Below.trod laidOut (by kernel_rfl) (of_decide_eq_true (by kernel_rfl)) k0 bel lt0) trodAll_mk0), rfl, bel.frame _, fun h => by cases h⟩

theorem over : Rows.wireScansRow.holds Try.pinned (OpenSpec.ofChange Rows.wireScansSpec) :=
  OpenClaim.holds_of_wide 9 Try.f9 rfl rfl rfl rfl rfl rfl rfl ⟨rfl, rfl, rfl, rfl, rfl⟩ rfl rfl rfl rfl rfl (by kernel_rfl) Try.func9 (by kernel_rfl)
    (of_decide_eq_true (by kernel_rfl)) (by unfold Func.isWrapper; first | (rw [if_pos (by decide +kernel)]; kernel_rfl) | (rw [if_neg (by decide +kernel)]; exact ⟨rfl, rfl⟩))
    (fun os started H enc _ => lifted os started H enc)

theorem proved : Rows.WireScansSaid := over
end Go.Proofs.Ytickdpgfiianjaa.wireScans
namespace Go.Proofs.Ytickdpgfiianjaa
theorem wireScans_holds : Rows.WireScansSaid := wireScans.proved
#print axioms wireScans_holds
end Go.Proofs.Ytickdpgfiianjaa
