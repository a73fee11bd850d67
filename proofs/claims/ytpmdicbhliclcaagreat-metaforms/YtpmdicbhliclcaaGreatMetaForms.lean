/-
  The law MetaForms: controllers of each form, as they are made.
-/
import Derived.Test.YtpmdicbhliclcaaGreatPlayt
import Derived.WalkKit
import Derived.ProofKit
import Derived.OpenShut
import Derived.ShutString
import Derived.ChangeOld
import Derived.Below
namespace Go.Proofs.YtpmdicbhliclcaaGreat.metaForms
open Go.ChangeShapes Go.WideShapes Go.ChangeAt Go.RowKit Go.Maps
set_option linter.unusedVariables false
theorem own : ownKnob Tryz.prog.godebug = none := by kernel_rfl
theorem laidOut : laidOutB Tryz.prog = true := by kernel_rfl
/-- Acts that bear no list, in a block of their own. -/
theorem acts_lit {w : World} {g : Nat} {t : TypeId} {cs : Array Value} {l : List Ac} (hb : Blk w g t cs) (he : cs.toList = flatA (l.map fun x => aArr x (.slice none 0 0))) : ActR w No (some ⟨g, 0, none⟩) (l.map fun x => (x, [])) := by
  have e : l.map (fun x => ((x, []) : Ac × List Int)) = (l.map fun x => (((x, []) : Ac × List Int), (Value.slice none 0 0 : Value))).map (·.1) := by
    rw [List.map_map]; rfl
  rw [e]
  refine acts_of fun i y hy => ?_
  rw [List.getElem?_map] at hy
  obtain ⟨x, hx, rfl⟩ := Option.map_eq_some_iff.1 hy
  refine ⟨⟨none, 0, rfl, Rd.none_⟩, fun j u hu => ?_⟩
  have hsz : Sized 8 (l.map fun x => aArr x (.slice none 0 0)) := by
    intro c hc
    obtain ⟨y, -, rfl⟩ := List.mem_map.1 hc
    exact ⟨rfl, by simp [aArr, Value.oneCell']⟩
  have h1 : (flatA (l.map fun x => aArr x (.slice none 0 0)))[i * 8 + j]? = some u := flatA_at hsz (c := aArr x (.slice none 0 0)) (by rw [List.getElem?_map, hx]; rfl) hu
  rw [← he] at h1
  rw [add0]
  have h2 := hb.cell (i * 8 + j)
  rw [h2, ← Array.getElem?_toList]
  exact h1
set_option maxHeartbeats 4000000 in
set_option maxRecDepth 100000 in
theorem walk (x0 y0 z0 : Int) (w : World) :
    Calls Tryz.prog 10 #[frm x0 y0 z0] w fun e w' => e = .returned (.bool true) ∧ Below w.heap.size w w' := by
  have hal := (Below.refl w.heap.size w).alloc (Nat.le_refl _) (.cells #[.int .i64 x0, .int .i64 y0, .int .i64 z0] 23)
  have HB := Lib.hid hal
  have HX : Hid (Blk (w.alloc (.cells #[.int .i64 x0, .int .i64 y0, .int .i64 z0] 23)) w.heap.size 23 #[.int .i64 x0, .int .i64 y0, .int .i64 z0]) := Lib.hid (Blk.new w 23 _)
  clear hal
  unfold frm
  go_enter Tryz.func10, Tryz.ntmps10
  go_upto_region 1 with fail
  generalize hw2 : w.alloc (.cells #[.int .i64 x0, .int .i64 y0, .int .i64 z0] 23) = w2 at *
  clear hw2
  have u23 : Tryz.prog.underlying 23 = some (.struct (Tryz.prog.fieldsOf 23)) := by kernel_rfl
  have hr := right15_any w2 x0 y0 z0
  unfold frm at hr
  go_wp2_with (with_reducible refine at_load 23 rfl ?_)
  refine Stop.go (wpList_load_blk (by rfl) 23 _ (by rfl) w.heap.size (by rfl) 23 _ HX.out _ u23 (by rfl) (by kernel_rfl) ?_)
  by_cases hfo : FormOk x0 y0 z0
  case neg =>
    rw [decide_eq_false hfo] at hr
    go_wp2_with fail
    refine hr.mono ?_
    rintro r w4 ⟨rfl, hb4⟩
    have HB4 := Lib.hid (HB.out.trans (hb4.mono HB.out.size))
    have HX4 := Lib.hid (HX.out.below hb4 HX.out.lt)
    have hnew := new_any w4 x0 y0 z0
    unfold frm at hnew
    clear hr hb4 HX
    go_wp2_with (with_reducible refine at_load 23 rfl ?_)
    refine Stop.go (wpList_load_blk (by rfl) 23 _ (by rfl) w.heap.size (by rfl) 23 _ HX4.out _ u23 (by rfl) (by kernel_rfl) ?_)
    go_wp2_with fail
    refine hnew.mono ?_
    rintro r w5 (⟨hno, rfl, hb5⟩ | ⟨nb, np, ni, e1, e2, e3, hf2, -, -, -⟩)
    · have HB5 := Lib.hid (HB4.out.trans (hb5.mono HB4.out.size))
      clear hnew hno hb5
      go_wp2_with fail
      refine (known_any _).mono ?_
      rintro r w6 ⟨rfl, hb6⟩
      have HF := Lib.hid (HB5.out.trans (hb6.mono HB5.out.size))
      clear hb6
      go_wp2_with fail
      go_ret
      exact ⟨rfl, HF.out⟩
    · exact absurd hf2 hfo
  case pos =>
  rw [decide_eq_true hfo] at hr
  have hfo1 := hfo
  unfold FormOk at hfo1
  obtain ⟨p, rfl⟩ : ∃ p : Nat, x0 = ((p + 1 : Nat) : Int) := ⟨(x0 - 1).toNat, by omega⟩
  obtain ⟨q, rfl⟩ : ∃ q : Nat, y0 = ((q + 1 : Nat) : Int) := ⟨(y0 - 1).toNat, by omega⟩
  obtain ⟨s, rfl⟩ : ∃ s : Nat, z0 = ((s + 1 : Nat) : Int) := ⟨(z0 - 1).toNat, by omega⟩
  clear hfo hfo1
  go_wp2_with fail
  refine hr.mono ?_
  rintro r w4 ⟨rfl, hb4⟩
  have HB4 := Lib.hid (HB.out.trans (hb4.mono HB.out.size))
  have HX4 := Lib.hid (HX.out.below hb4 HX.out.lt)
  clear hr hb4 HX
  have k0 := HX4.out.cell 0
  have k1 := HX4.out.cell 1
  have k2 := HX4.out.cell 2
  simp only [List.getElem?_toArray, List.getElem?_cons_zero, List.getElem?_cons_succ] at k0 k1 k2
  go_wp2_with (with_reducible refine at_load 23 rfl ?_)
  refine Stop.go (wpList_load_blk (by rfl) 23 _ (by rfl) w.heap.size (by rfl) 23 _ HX4.out _ u23 (by rfl) (by kernel_rfl) ?_)
  go_wp2_with fail
  have hblk := Blk.new w4 43 #[.int .i64 1, .int .i64 0, .int .i64 0, .int .i64 0, .int .i64 0, .bool false, .bool false, .slice none 0 0, .int .i64 3, .int .i64 (wrap64 (q : Int)), .int .i64 (wrap64 (p : Int)), .int .i64 0, .int .i64 0, .bool false, .bool false, .slice none 0 0, .int .i64 5, .int .i64 (wrap64 (s : Int)), .int .i64 0, .int .i64 0, .int .i64 0, .bool false, .bool false, .slice none 0 0, .int .i64 3, .int .i64 ((q : Int) + 1), .int .i64 0, .int .i64 0, .int .i64 0, .bool false, .bool false, .slice none 0 0, .int .i64 2, .int .i64 ((p : Int) + 1), .int .i64 0, .int .i64 0, .int .i64 0, .bool false, .bool false, .slice none 0 0, .int .i64 5, .int .i64 ((s : Int) + 1), .int .i64 0, .int .i64 0, .int .i64 0, .bool false, .bool false, .slice none 0 0]
  have hA := acts_lit (l := [⟨1, 0, 0, 0, 0, false, false⟩, ⟨3, (wrap64 (q : Int)), (wrap64 (p : Int)), 0, 0, false, false⟩, ⟨5, (wrap64 (s : Int)), 0, 0, 0, false, false⟩, ⟨3, ((q : Int) + 1), 0, 0, 0, false, false⟩, ⟨2, ((p : Int) + 1), 0, 0, 0, false, false⟩, ⟨5, ((s : Int) + 1), 0, 0, 0, false, false⟩]) hblk rfl
  have hpl := play_any (k := 6) hA ((p : Int) + 1) ((q : Int) + 1) ((s : Int) + 1)
  refine hpl.mono ?_
  rintro r w5 ⟨rfl, hb5⟩
  have HF := Lib.hid ((HB4.out.alloc HB4.out.size (.cells #[.int .i64 1, .int .i64 0, .int .i64 0, .int .i64 0, .int .i64 0, .bool false, .bool false, .slice none 0 0, .int .i64 3, .int .i64 (wrap64 (q : Int)), .int .i64 (wrap64 (p : Int)), .int .i64 0, .int .i64 0, .bool false, .bool false, .slice none 0 0, .int .i64 5, .int .i64 (wrap64 (s : Int)), .int .i64 0, .int .i64 0, .int .i64 0, .bool false, .bool false, .slice none 0 0, .int .i64 3, .int .i64 ((q : Int) + 1), .int .i64 0, .int .i64 0, .int .i64 0, .bool false, .bool false, .slice none 0 0, .int .i64 2, .int .i64 ((p : Int) + 1), .int .i64 0, .int .i64 0, .int .i64 0, .bool false, .bool false, .slice none 0 0, .int .i64 5, .int .i64 ((s : Int) + 1), .int .i64 0, .int .i64 0, .int .i64 0, .bool false, .bool false, .slice none 0 0] 43)).trans (hb5.mono (HB4.out.alloc HB4.out.size (.cells #[.int .i64 1, .int .i64 0, .int .i64 0, .int .i64 0, .int .i64 0, .bool false, .bool false, .slice none 0 0, .int .i64 3, .int .i64 (wrap64 (q : Int)), .int .i64 (wrap64 (p : Int)), .int .i64 0, .int .i64 0, .bool false, .bool false, .slice none 0 0, .int .i64 5, .int .i64 (wrap64 (s : Int)), .int .i64 0, .int .i64 0, .int .i64 0, .bool false, .bool false, .slice none 0 0, .int .i64 3, .int .i64 ((q : Int) + 1), .int .i64 0, .int .i64 0, .int .i64 0, .bool false, .bool false, .slice none 0 0, .int .i64 2, .int .i64 ((p : Int) + 1), .int .i64 0, .int .i64 0, .int .i64 0, .bool false, .bool false, .slice none 0 0, .int .i64 5, .int .i64 ((s : Int) + 1), .int .i64 0, .int .i64 0, .int .i64 0, .bool false, .bool false, .slice none 0 0] 43)).size))
  clear hblk hA hpl hb5 k0 k1 k2
  go_wp2_with fail
  go_ret
  exact ⟨rfl, HF.out⟩

set_option maxRecDepth 100000 in
theorem lifted (os : Os) (started : os.Started) (H : Type) (enc : TypeId × Value → H) :
    ReturnsInHanded {} Tryz.checked os 10 .any (Rows.metaFormsSpec.pre6 enc Tryz.prog Tryz.f10 Rows.metaFormsRow.domain false) (Rows.metaFormsSpec.post enc Tryz.prog Tryz.f10 false true false false) := by
  refine returnsInHanded_of_change (C := Tryz.checked) own started (by kernel_rfl) Tryz.func10
    (ChangeSpec.witness6 (enc := enc) (C := Tryz.checked) false ⟨#[], #[.agg #[.int .i64 0, .int .i64 0, .int .i64 0]], []⟩ 8 (by kernel_rfl) (by kernel_rfl) (by kernel_rfl) (by kernel_rfl)) ?_
  intro W base args ds gs before hval0 hW hcnd _
  have hval : ∀ (j : Nat) t v, Tryz.f10.params[j]? = some t → args[j]? = some v → Value.okWide Tryz.prog W .any base t v := hval0
  have hW' := hW
  obtain ⟨p, q, hA0, hV, rfl, hfz, hnd⟩ := hW
  have hA : DataW.TrodAll enc Tryz.prog W 0 (fun _ => true) true Tryz.f10.params.toList args.toList ds p := hA0
  rw [Tryz.params10] at hA hval
  obtain ⟨v0, vs0, d0, ds0, p0, q0, hargs, rfl, rfl, h0, r0⟩ := trodAll_cons hA
  obtain ⟨rfl, rfl, rfl⟩ := trodAll_nil r0
  obtain rfl : args = #[v0] := by cases args; simp_all
  obtain ⟨rfl, rfl⟩ := trodVars_none hV
  have k0 := h0
  have lt0 : ∀ x ∈ p0, x.block < W.heap.size := by obtain ⟨m, hm⟩ := k0; exact DataW.trod_lt m _ _ _ hm
  obtain ⟨x0, y0, z0, rfl, -, -, -⟩ := open_form (hval 0 23 v0 rfl rfl) h0
  clear hA0 hval0
  refine (walk x0 y0 z0 W).mono fun e W' ⟨he, bel⟩ => ?_
  subst he
  exact ⟨_, rfl, _, _, _, [], _, [], hW', trodAll_mk1 (shut_bool Tryz.underlying4 _), (trodAll_cons_mk (Below.trod laidOut (by kernel_rfl) (of_decide_eq_true (by kernel_rfl)) k0 bel lt0) trodAll_mk0), rfl, bel.frame _, fun h => by cases h⟩

theorem over : Rows.metaFormsRow.holds Tryz.pinned (OpenSpec.ofChange Rows.metaFormsSpec) :=
  OpenClaim.holds_of_wide 10 Tryz.f10 rfl rfl rfl rfl rfl rfl rfl ⟨rfl, rfl, rfl, rfl, rfl⟩ rfl rfl rfl rfl rfl (by kernel_rfl) Tryz.func10 (by kernel_rfl)
    (of_decide_eq_true (by kernel_rfl)) (by unfold Func.isWrapper; first | (rw [if_pos (by decide +kernel)]; kernel_rfl) | (rw [if_neg (by decide +kernel)]; exact ⟨rfl, rfl⟩))
    (fun os started H enc _ => lifted os started H enc)

theorem proved : Rows.MetaFormsSaid := over
end Go.Proofs.YtpmdicbhliclcaaGreat.metaForms
namespace Go.Proofs.YtpmdicbhliclcaaGreat
theorem metaForms_holds : Rows.MetaFormsSaid := metaForms.proved
#print axioms metaForms_holds
end Go.Proofs.YtpmdicbhliclcaaGreat
