/-
  waystationlaw02.WireOne answers true for any entry and any bytes: a frame is read as its entry, with whatever stands behind. Nothing is assumed.
-/
import Derived.Test.YtickdpgfiianjaaOpen
import Derived.Test.YtickdpgfiianjaaRefRight
import Derived.WalkKit
import Derived.ProofKit
import Derived.OpenShut
import Derived.ShutString
import Derived.ChangeOld
import Derived.Below
namespace Go.Proofs.Ytickdpgfiianjaa.wireOne
open Go.ChangeShapes Go.WideShapes Go.ChangeAt Go.RowKit
set_option linter.unusedVariables false
theorem own : ownKnob Try.prog.godebug = none := by kernel_rfl
theorem laidOut : laidOutB Try.prog = true := by kernel_rfl
set_option maxHeartbeats 4000000 in
set_option maxRecDepth 100000 in
theorem walk (e0 : Ent) (a1 : Option Addr) (len1 cap1 : Nat) (l1 : List UInt8) (w : World) (b1 : Bys w w.heap.size a1 len1 l1) (hc1 : len1 ≤ cap1) (hm1 : cap1 ≤ maxLen) :
    Calls Try.prog 11 #[e0.val, .slice a1 len1 cap1] w fun e w' => e = .returned (.bool true) ∧ Below w.heap.size w w' := by
  have hmx : cap1 ≤ 9223372036854775807 := by unfold maxLen at hm1; omega
  clear hm1
  have hE : Hid (.agg #[.int .i64 e0.epoch, .int .i64 e0.id, .int .i64 e0.num, .int .i64 e0.seq, .int .i64 e0.kind, .int .i64 e0.value] = e0.val) := Lib.hid rfl
  have hx0 : Blk (w.alloc (.cells #[.int .i64 e0.epoch, .int .i64 e0.id, .int .i64 e0.num, .int .i64 e0.seq, .int .i64 e0.kind, .int .i64 e0.value] 38)) w.heap.size 38 e0.cells := box_blk w e0
  have hb0 := (Below.refl w.heap.size w).alloc (Nat.le_refl _) (.cells #[.int .i64 e0.epoch, .int .i64 e0.id, .int .i64 e0.num, .int .i64 e0.seq, .int .i64 e0.kind, .int .i64 e0.value] 38)
  have hz0 : w.heap.size < (w.alloc (.cells #[.int .i64 e0.epoch, .int .i64 e0.id, .int .i64 e0.num, .int .i64 e0.seq, .int .i64 e0.kind, .int .i64 e0.value] 38)).heap.size := by simp
  have HX0 := Lib.hid hx0
  have HB0 := Lib.hid hb0
  have HZ0 := Lib.hid hz0
  clear hx0 hb0 hz0
  unfold Ent.val Ent.cells
  by_cases h2 : 200 < len1
  · go_enter Try.func11, Try.ntmps11
    go_wp2_with fail
    refine (works_any _).mono ?_
    rintro e w1 ⟨rfl, hb⟩
    have hb' := HB0.out.trans (hb.mono (Nat.le_of_lt HZ0.out))
    go_wp2_with fail
    go_ret
    exact ⟨rfl, hb'⟩
  have hgd := guard38
  go_enter Try.func11, Try.ntmps11
  go_wp2_with fail
  rw [hE.out]
  refine (right_any e0 _).mono ?_
  rintro r w1 ⟨rfl, hb1⟩
  have hx1 := HX0.out.below hb1 HZ0.out
  have HB1 := Lib.hid (HB0.out.trans (hb1.mono (Nat.le_of_lt HZ0.out)))
  have hz1 := HB1.out.size
  clear hb1
  by_cases hR : Right e0
  case neg =>
    rw [decide_eq_false hR]
    go_wp2_with fail
    refine (works_any _).mono ?_
    rintro e w2 ⟨rfl, hb⟩
    have hb' := HB1.out.trans (hb.mono hz1)
    go_wp2_with fail
    go_ret
    exact ⟨rfl, hb'⟩
  rw [decide_eq_true hR]
  obtain ⟨c0, c1, c2, c3, c4, c5⟩ := hx1.six
  go_wp2_with fail
  rw [hE.out]
  refine (frameOf_any e0 w1).mono ?_
  rintro r w2 ⟨hb2, ⟨_, v, rfl, ho2⟩ | ⟨hN, _⟩⟩
  case inr => exact absurd hR hN
  have hx2 := hx1.below hb2 hx1.lt
  have HB2 := Lib.hid (HB1.out.trans (hb2.mono hz1))
  have hz2 := HB2.out.size
  have hl2 := length_frame hR
  obtain ⟨A2, q2, k2, rfl, hq2⟩ := ho2.form2
  have HQ2 := Lib.hid hq2
  have HL2 : Hid (q2 ≤ 40) := Lib.hid (by omega)
  have HRD : Hid (rd (frame e0 ++ l1) = .ok e0 q2) := Lib.hid (by rw [rd_frame e0 hR l1, hq2])
  have hy2 := ho2.bys
  clear hq2 hl2 c0 c1 c2 c3 c4 c5 hb2 ho2 hx1 hR
  have hbe : Below w.heap.size w (w2.alloc (.cells #[] 5)) := HB2.out.alloc hz2 _
  go_wp2_with (at_builtin; refine stop ?_)
  refine Stop.go (wpList_append_want _ (by rfl) _ _ (by rfl) w2.heap.size _ [] (by rfl) (own_empty _ _ (Nat.le_refl _)) w2.heap.size A2 q2 k2 (frame e0) (by rfl) (hy2.alloc (Nat.le_refl _) _) (by simp) (by have := HL2.out; omega) (le_alloc (Nat.le_refl _) _) ?_)
  intro v3 w3 ho3 hb3
  rw [List.nil_append] at ho3
  have hb3' : Below w2.heap.size w2 w3 := ((Below.refl _ _).alloc (Nat.le_refl _) _).trans hb3
  have hx3 := hx2.below hb3' hx2.lt
  have HB3 := Lib.hid (HB2.out.trans (hb3'.mono hz2))
  have hz3 := HB3.out.size
  have hl3 := b1.below HB3.out
  have hz23 := hb3'.size
  clear hb3 hbe
  go_wp2_with (at_builtin; refine stop ?_)
  refine Stop.go (wpList_append_want _ (by rfl) _ _ (by rfl) w2.heap.size _ (frame e0) (by rfl) ho3 w.heap.size a1 len1 cap1 l1 (by rfl) hl3 (by have := HL2.out; have := HQ2.out; omega) (by omega) hz23 ?_)
  intro v4 w4 ho4 hb4
  have hx4 := hx3.below hb4 hx2.lt
  have HB4 := Lib.hid (HB3.out.trans (hb4.mono (by omega)))
  have hz4 := HB4.out.size
  obtain ⟨A4, q4, k4, rfl, hq4⟩ := ho4.form2
  obtain ⟨hc4, hm4⟩ := ho4.cap
  have HM4 : Hid (k4 ≤ 9223372036854775807) := Lib.hid (by unfold maxLen at hm4; omega)
  have HQ4 : Hid (q4 < 1000000) := Lib.hid (by rw [hq4, List.length_append, b1.1]; have := HL2.out; have := HQ2.out; omega)
  have hy4 := ho4.bys
  clear hq4 hm4 ho4 hb4 hx3 hx2 ho3 hl3 hb3' hy2
  have hmm := HM4.out
  go_wp2_with fail
  refine (read_any A4 q4 k4 _ w4 hy4 hc4 HQ4.out).mono ?_
  rintro r w5 ⟨rfl, hb5⟩
  rw [HRD.out]
  have hx5 := hx4.below hb5 hx4.lt
  have hx6 : Blk (w5.alloc (.cells #[.int .i64 e0.epoch, .int .i64 e0.id, .int .i64 e0.num, .int .i64 e0.seq, .int .i64 e0.kind, .int .i64 e0.value] 38)) w.heap.size 38 e0.cells := hx5.alloc _
  have hb5' := HB4.out.trans (hb5.mono hz4)
  have hb6 := hb5'.alloc hb5'.size (.cells #[.int .i64 e0.epoch, .int .i64 e0.id, .int .i64 e0.num, .int .i64 e0.seq, .int .i64 e0.kind, .int .i64 e0.value] 38)
  have hz6 := hb6.size
  obtain ⟨c0, c1, c2, c3, c4, c5⟩ := hx6.six
  have hq : ∀ W, (binOp .eql 38 (.agg #[.int .i64 e0.epoch, .int .i64 e0.id, .int .i64 e0.num, .int .i64 e0.seq, .int .i64 e0.kind, .int .i64 e0.value]) (.agg #[.int .i64 e0.epoch, .int .i64 e0.id, .int .i64 e0.num, .int .i64 e0.seq, .int .i64 e0.kind, .int .i64 e0.value])).run Try.prog W = .ok (.bool true) W := fun W => by
    have := eql38 e0 e0 W
    rwa [same_refl] at this
  clear hx5 hx6 hb5' hb5 hx4 hmm hc4
  simp only [rdEnt, rdLen, rdErr, Ent.val]
  unfold Ent.cells
  have hl40 := HL2.out
  go_wp2_with (go_at_call 17; refine (num_any _ _).mono ?_; rintro e w' ⟨rfl, rfl⟩)
  generalize w5.alloc (.cells #[.int .i64 e0.epoch, .int .i64 e0.id, .int .i64 e0.num, .int .i64 e0.seq, .int .i64 e0.kind, .int .i64 e0.value] 38) = w6 at *
  refine (works_any w6).mono ?_
  rintro e w7 ⟨rfl, hb7⟩
  clear c0 c1 c2 c3 c4 c5 hq
  go_wp2_with fail
  go_ret
  exact ⟨rfl, hb6.trans (hb7.mono hz6)⟩

set_option maxRecDepth 100000 in
theorem lifted (os : Os) (started : os.Started) (H : Type) (enc : TypeId × Value → H) :
    ReturnsInHanded {} Try.checked os 11 .any (Rows.wireOneSpec.pre6 enc Try.prog Try.f11 Rows.wireOneRow.domain false) (Rows.wireOneSpec.post enc Try.prog Try.f11 false true false false) := by
  refine returnsInHanded_of_change (C := Try.checked) own started (by kernel_rfl) Try.func11
    (ChangeSpec.witness6 (enc := enc) (C := Try.checked) false ⟨#[], #[.agg #[.int .i64 0, .int .i64 0, .int .i64 0, .int .i64 0, .int .i64 0, .int .i64 0], .slice none 0 0], []⟩ 8 (by kernel_rfl) (by kernel_rfl) (by kernel_rfl) (by kernel_rfl)) ?_
  intro W base args ds gs before hval0 hW hcnd _
  have hval : ∀ (j : Nat) t v, Try.f11.params[j]? = some t → args[j]? = some v → Value.okWide Try.prog W .any base t v := hval0
  have hW' := hW
  obtain ⟨p, q, hA0, hV, rfl, hfz, hnd⟩ := hW
  have hA : DataW.TrodAll enc Try.prog W 0 (fun _ => true) true Try.f11.params.toList args.toList ds p := hA0
  rw [Try.params11] at hA hval
  obtain ⟨v0, vs0, d0, ds0, p0, q0, hargs, rfl, rfl, h0, r0⟩ := trodAll_cons hA
  obtain ⟨v1, vs1, d1, ds1, p1, q1, rfl, rfl, rfl, h1, r1⟩ := trodAll_cons r0
  obtain ⟨rfl, rfl, rfl⟩ := trodAll_nil r1
  obtain rfl : args = #[v0, v1] := by cases args; simp_all
  obtain ⟨rfl, rfl⟩ := trodVars_none hV
  have k0 := h0
  have lt0 : ∀ x ∈ p0, x.block < W.heap.size := by obtain ⟨m, hm⟩ := k0; exact DataW.trod_lt m _ _ _ hm
  obtain ⟨e0, rfl⟩ := open_ent (hval 0 38 v0 rfl rfl) h0
  have k1 := h1
  have lt1 : ∀ x ∈ p1, x.block < W.heap.size := by obtain ⟨m, hm⟩ := k1; exact DataW.trod_lt m _ _ _ hm
  obtain ⟨a1, len1, cap1, rfl⟩ := okWide_slice Try.underlying22 (hval 1 22 v1 rfl rfl)
  obtain ⟨z1, w1⟩ : ∃ zs, IsRow .u8 W a1 len1 cap1 zs := by
    obtain ⟨fuel, hf⟩ := h1
    rcases open_ints Try.underlying22 Try.underlying5 (by kernel_rfl) hf with ⟨hcs, _⟩ | ⟨x, l, c, zs, hcs, _, hl, hm, hz, _, hcell, hwz⟩
    · simp [Value.cells] at hcs
      obtain ⟨rfl, rfl, rfl⟩ := hcs
      exact ⟨[], .inl ⟨rfl, rfl, rfl, rfl⟩⟩
    · simp [Value.cells] at hcs
      obtain ⟨rfl, rfl, rfl⟩ := hcs
      exact ⟨zs, .inr ⟨_, rfl, hl, hm, by simpa using hz, hcell, hwz⟩⟩
  obtain ⟨l1, b1, hc1, hm1⟩ := w1.bys
  clear hA0 hval0
  refine (walk e0 a1 len1 cap1 l1 W b1 hc1 hm1).mono fun e W' ⟨he, bel⟩ => ?_
  subst he
  exact ⟨_, rfl, _, _, _, [], _, [], hW', trodAll_mk1 (shut_bool Try.underlying4 _), (trodAll_cons_mk (Below.trod laidOut (by kernel_rfl) (of_decide_eq_true (by kernel_rfl)) k0 bel lt0) (trodAll_cons_mk (Below.trod laidOut (by kernel_rfl) (of_decide_eq_true (by kernel_rfl)) k1 bel lt1) trodAll_mk0)), rfl, bel.frame _, fun h => by cases h⟩

theorem over : Rows.wireOneRow.holds Try.pinned (OpenSpec.ofChange Rows.wireOneSpec) :=
  OpenClaim.holds_of_wide 11 Try.f11 rfl rfl rfl rfl rfl rfl rfl ⟨rfl, rfl, rfl, rfl, rfl⟩ rfl rfl rfl rfl rfl (by kernel_rfl) Try.func11 (by kernel_rfl)
    (of_decide_eq_true (by kernel_rfl)) (by unfold Func.isWrapper; first | (rw [if_pos (by decide +kernel)]; kernel_rfl) | (rw [if_neg (by decide +kernel)]; exact ⟨rfl, rfl⟩))
    (fun os started H enc _ => lifted os started H enc)

theorem proved : Rows.WireOneSaid := over
end Go.Proofs.Ytickdpgfiianjaa.wireOne
namespace Go.Proofs.Ytickdpgfiianjaa
theorem wireOne_holds : Rows.WireOneSaid := wireOne.proved
#print axioms wireOne_holds
end Go.Proofs.Ytickdpgfiianjaa
