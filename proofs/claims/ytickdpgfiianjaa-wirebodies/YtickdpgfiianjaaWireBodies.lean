/-
  waystationlaw02.WireBodies answers true for any body and any bytes behind its frame: what wire.Read tells is what the document's answer tells. Nothing is assumed.
-/
import Derived.Test.YtickdpgfiianjaaRefRead
import Derived.WalkKit
import Derived.ProofKit
import Derived.OpenShut
import Derived.ShutString
import Derived.ChangeOld
import Derived.Below
namespace Go.Proofs.Ytickdpgfiianjaa.wireBodies
open Go.ChangeShapes Go.WideShapes Go.ChangeAt Go.RowKit
open Go.ChangeMaps (open_string shut_string)
set_option linter.unusedVariables false

theorem own : ownKnob Try.prog.godebug = none := by kernel_rfl
theorem laidOut : laidOutB Try.prog = true := by kernel_rfl

set_option maxHeartbeats 2000000 in
set_option maxRecDepth 100000 in
theorem walk (a0 : Option Addr) (len0 cap0 : Nat) (z0 : List Int) (a1 : Option Addr) (len1 cap1 : Nat) (z1 : List Int) (w : World) (w0 : IsRow .u8 w a0 len0 cap0 z0) (w1 : IsRow .u8 w a1 len1 cap1 z1) :
    Calls Try.prog 8 #[.slice a0 len0 cap0, .slice a1 len1 cap1] w fun e w' => e = .returned (.bool true) ∧ Below w.heap.size w w' := by
  obtain ⟨l, hl, hc, hm⟩ := w0.bys
  obtain ⟨k, hk, hkc, hkm⟩ := w1.bys
  clear w0 w1
  have hmx : cap0 ≤ 9223372036854775807 := by unfold maxLen at hm; omega
  have hmk : cap1 ≤ 9223372036854775807 := by unfold maxLen at hkm; omega
  clear hm hkm
  by_cases h6 : 60 < len0
  · go_enter Try.func8, Try.ntmps8
    go_wp2_with fail
    refine (works_any w).mono ?_
    rintro e w1 ⟨rfl, hb⟩
    go_wp2_with fail
    go_ret
    exact ⟨rfl, hb⟩
  by_cases h1 : 100 < len1
  · go_enter Try.func8, Try.ntmps8
    go_wp2_with fail
    refine (works_any w).mono ?_
    rintro e w1 ⟨rfl, hb⟩
    go_wp2_with fail
    go_ret
    exact ⟨rfl, hb⟩
  have hgd := guard38
  go_enter Try.func8, Try.ntmps8
  go_wp2_with fail
  refine (refFramed_any a0 len0 cap0 l w hl (by omega)).mono ?_
  rintro r v1 ⟨vv, rfl, ho0, hb0⟩
  have hz0 := hb0.size
  have hln : (framed l).length < 1000 := by rw [length_framed, hl.1]; omega
  have HLN : Hid ((framed l).length < 1000) := Lib.hid hln
  clear hln
  have hk0 := hk.below hb0
  go_wp2_with (at_builtin; refine stop ?_)
  refine Stop.go (wpList_append_want _ (by rfl) _ _ (by rfl) w.heap.size _ _ (by rfl) ho0 w.heap.size a1 len1 cap1 k (by rfl) hk0 (by have := HLN.out; omega) (by omega) hz0 ?_)
  intro vb v2 hob hbb
  have hbw := hb0.trans hbb
  have hzb := hbw.size
  obtain ⟨Ab, qb, cb, rfl, hqb⟩ := hob.form2
  obtain ⟨hcb1, hcb2⟩ := hob.cap
  have hcb3 : cb ≤ 9223372036854775807 := by unfold maxLen at hcb2; omega
  have HQB : Hid (qb < 2000) := Lib.hid (by rw [hqb, List.length_append, hk.1]; have := HLN.out; omega)
  have HYB := Lib.hid hob.bys
  clear hqb hcb2 hob hbb hb0 ho0 hk0 hz0
  generalize framed l ++ k = lb at *
  go_wp2_with fail
  refine (read_any Ab qb cb lb v2 HYB.out hcb1 (by have := HQB.out; omega)).mono ?_
  rintro r v3 ⟨rfl, hb3⟩
  obtain ⟨o, ho⟩ : ∃ o, rd lb = o := ⟨_, rfl⟩
  rw [ho]
  obtain ⟨x, hx⟩ : ∃ x, rdEnt o = x := ⟨_, rfl⟩
  rw [hx]
  have HO := Lib.hid ho
  have HX := Lib.hid hx
  clear ho hx
  have HY3 := Lib.hid ((HYB.out.below hb3).more hb3.size)
  have hb3' := hbw.trans (hb3.mono hzb)
  have hz3 := hb3'.size
  have hq : ∀ W, (binOp .eql 38 (.agg #[.int .i64 x.epoch, .int .i64 x.id, .int .i64 x.num, .int .i64 x.seq, .int .i64 x.kind, .int .i64 x.value]) (.agg #[.int .i64 x.epoch, .int .i64 x.id, .int .i64 x.num, .int .i64 x.seq, .int .i64 x.kind, .int .i64 x.value])).run Try.prog W = .ok (.bool true) W := fun W => by
    have := eql38 x x W
    rwa [same_refl] at this
  clear hbw hb3 HYB
  unfold Ent.val Ent.cells
  go_wp2_with fail
  have hx4 : Blk (v3.alloc (.cells #[.int .i64 x.epoch, .int .i64 x.id, .int .i64 x.num, .int .i64 x.seq, .int .i64 x.kind, .int .i64 x.value] 38)) v3.heap.size 38 x.cells := Blk.new v3 38 x.cells
  have hb4 := hb3'.alloc hz3 (.cells #[.int .i64 x.epoch, .int .i64 x.id, .int .i64 x.num, .int .i64 x.seq, .int .i64 x.kind, .int .i64 x.value] 38)
  have HY4 : Hid (Bys (v3.alloc (.cells #[.int .i64 x.epoch, .int .i64 x.id, .int .i64 x.num, .int .i64 x.seq, .int .i64 x.kind, .int .i64 x.value] 38)) (v3.alloc (.cells #[.int .i64 x.epoch, .int .i64 x.id, .int .i64 x.num, .int .i64 x.seq, .int .i64 x.kind, .int .i64 x.value] 38)).heap.size Ab qb lb) := Lib.hid ((HY3.out.alloc (Nat.le_refl _) _).more (le_alloc (Nat.le_refl _) _))
  generalize v3.alloc (.cells #[.int .i64 x.epoch, .int .i64 x.id, .int .i64 x.num, .int .i64 x.seq, .int .i64 x.kind, .int .i64 x.value] 38) = v4 at *
  generalize v3.heap.size = g at *
  have hz4 := hb4.size
  clear hb3' hz3 HY3
  refine (refRead_any Ab qb cb lb v4 HY4.out hcb1 (by have := HQB.out; omega)).mono ?_
  rintro r v5 ⟨rfl, hb5⟩
  rw [HO.out, HX.out]
  have hx5 := hx4.below hb5 hx4.lt
  have hx6 : Blk (v5.alloc (.cells #[.int .i64 x.epoch, .int .i64 x.id, .int .i64 x.num, .int .i64 x.seq, .int .i64 x.kind, .int .i64 x.value] 38)) g 38 x.cells := hx5.alloc _
  have hb5' := hb4.trans (hb5.mono hz4)
  have hb6 := hb5'.alloc hb5'.size (.cells #[.int .i64 x.epoch, .int .i64 x.id, .int .i64 x.num, .int .i64 x.seq, .int .i64 x.kind, .int .i64 x.value] 38)
  have hz6 := hb6.size
  obtain ⟨c0, c1, c2, c3, c4, c5⟩ := hx6.six
  clear hx5 hx6 hb5' hb5 hx4 hb4
  unfold Ent.val Ent.cells
  go_wp2_with (go_at_call 17; refine (num_any _ _).mono ?_; rintro e w' ⟨rfl, rfl⟩)
  generalize v5.alloc (.cells #[.int .i64 x.epoch, .int .i64 x.id, .int .i64 x.num, .int .i64 x.seq, .int .i64 x.kind, .int .i64 x.value] 38) = v6 at *
  refine (works_any v6).mono ?_
  rintro e v7 ⟨rfl, hb7⟩
  clear c0 c1 c2 c3 c4 c5 hq
  go_wp2_with fail
  go_ret
  exact ⟨rfl, hb6.trans (hb7.mono hz6)⟩

set_option maxRecDepth 100000 in
theorem lifted (os : Os) (started : os.Started) (H : Type) (enc : TypeId × Value → H) :
    ReturnsInHanded {} Try.checked os 8 .any (Rows.wireBodiesSpec.pre6 enc Try.prog Try.f8 Rows.wireBodiesRow.domain false) (Rows.wireBodiesSpec.post enc Try.prog Try.f8 false true false false) := by
  refine returnsInHanded_of_change (C := Try.checked) own started (by kernel_rfl) Try.func8
    (ChangeSpec.witness6 (enc := enc) (C := Try.checked) false ⟨#[], #[.slice none 0 0, .slice none 0 0], []⟩ 8 (by kernel_rfl) (by kernel_rfl) (by kernel_rfl) (by kernel_rfl)) ?_
  intro W base args ds gs before hval0 hW hcnd _
  have hval : ∀ (j : Nat) t v, Try.f8.params[j]? = some t → args[j]? = some v → Value.okWide Try.prog W .any base t v := hval0
  have hW' := hW
  obtain ⟨p, q, hA0, hV, rfl, hfz, hnd⟩ := hW
  have hA : DataW.TrodAll enc Try.prog W 0 (fun _ => true) true Try.f8.params.toList args.toList ds p := hA0
  rw [Try.params8] at hA hval
  obtain ⟨v0, vs0, d0, ds0, p0, q0, hargs, rfl, rfl, h0, r0⟩ := trodAll_cons hA
  obtain ⟨v1, vs1, d1, ds1, p1, q1, rfl, rfl, rfl, h1, r1⟩ := trodAll_cons r0
  obtain ⟨rfl, rfl, rfl⟩ := trodAll_nil r1
  obtain rfl : args = #[v0, v1] := by cases args; simp_all
  obtain ⟨rfl, rfl⟩ := trodVars_none hV
  obtain ⟨a0, len0, cap0, rfl⟩ := okWide_slice Try.underlying22 (hval 0 22 v0 rfl rfl)
  have k0 := h0
  have lt0 : ∀ x ∈ p0, x.block < W.heap.size := by obtain ⟨m, hm⟩ := k0; exact DataW.trod_lt m _ _ _ hm
  obtain ⟨z0, w0⟩ : ∃ zs, IsRow .u8 W a0 len0 cap0 zs := by
    obtain ⟨fuel, hf⟩ := h0
    rcases open_ints Try.underlying22 Try.underlying5 (by kernel_rfl) hf with ⟨hcs, _⟩ | ⟨x, l, c, zs, hcs, _, hl, hm, hz, _, hcell, hwz⟩
    · simp [Value.cells] at hcs
      obtain ⟨rfl, rfl, rfl⟩ := hcs
      exact ⟨[], .inl ⟨rfl, rfl, rfl, rfl⟩⟩
    · simp [Value.cells] at hcs
      obtain ⟨rfl, rfl, rfl⟩ := hcs
      exact ⟨zs, .inr ⟨_, rfl, hl, hm, by simpa using hz, hcell, hwz⟩⟩
  obtain ⟨a1, len1, cap1, rfl⟩ := okWide_slice Try.underlying22 (hval 1 22 v1 rfl rfl)
  have k1 := h1
  have lt1 : ∀ x ∈ p1, x.block < W.heap.size := by obtain ⟨m, hm⟩ := k1; exact DataW.trod_lt m _ _ _ hm
  obtain ⟨z1, w1⟩ : ∃ zs, IsRow .u8 W a1 len1 cap1 zs := by
    obtain ⟨fuel, hf⟩ := h1
    rcases open_ints Try.underlying22 Try.underlying5 (by kernel_rfl) hf with ⟨hcs, _⟩ | ⟨x, l, c, zs, hcs, _, hl, hm, hz, _, hcell, hwz⟩
    · simp [Value.cells] at hcs
      obtain ⟨rfl, rfl, rfl⟩ := hcs
      exact ⟨[], .inl ⟨rfl, rfl, rfl, rfl⟩⟩
    · simp [Value.cells] at hcs
      obtain ⟨rfl, rfl, rfl⟩ := hcs
      exact ⟨zs, .inr ⟨_, rfl, hl, hm, by simpa using hz, hcell, hwz⟩⟩
  clear hA0 hval0
  refine (walk a0 len0 cap0 z0 a1 len1 cap1 z1 W w0 w1).mono fun e W' ⟨he, bel⟩ => ?_
  subst he
  exact ⟨_, rfl, _, _, _, [], _, [], hW', trodAll_mk1 (shut_bool Try.underlying4 _), (trodAll_cons_mk (Below.trod laidOut (by kernel_rfl) (of_decide_eq_true (by kernel_rfl)) k0 bel lt0) (trodAll_cons_mk (Below.trod laidOut (by kernel_rfl) (of_decide_eq_true (by kernel_rfl)) k1 bel lt1) trodAll_mk0)), rfl, bel.frame _, fun h => by cases h⟩

theorem over : Rows.wireBodiesRow.holds Try.pinned (OpenSpec.ofChange Rows.wireBodiesSpec) :=
  OpenClaim.holds_of_wide 8 Try.f8 rfl rfl rfl rfl rfl rfl rfl ⟨rfl, rfl, rfl, rfl, rfl⟩ rfl rfl rfl rfl rfl (by kernel_rfl) Try.func8 (by kernel_rfl)
    (of_decide_eq_true (by kernel_rfl)) (by unfold Func.isWrapper; first | (rw [if_pos (by decide +kernel)]; kernel_rfl) | (rw [if_neg (by decide +kernel)]; exact ⟨rfl, rfl⟩))
    (fun os started H enc _ => lifted os started H enc)

theorem proved : Rows.WireBodiesSaid := over
end Go.Proofs.Ytickdpgfiianjaa.wireBodies
namespace Go.Proofs.Ytickdpgfiianjaa
theorem wireBodies_holds : Rows.WireBodiesSaid := wireBodies.proved
#print axioms wireBodies_holds
end Go.Proofs.Ytickdpgfiianjaa
