/-
  The law MetaTxn: a transaction from its first partition to its last marker.
-/
import Derived.Test.YtpmdicbhliclcaaGreatPlayu
import Derived.WalkKit
import Derived.ProofKit
import Derived.OpenShut
import Derived.ShutString
import Derived.ChangeOld
import Derived.Below
namespace Go.Proofs.YtpmdicbhliclcaaGreat.metaTxn
open Go.ChangeShapes Go.WideShapes Go.ChangeAt Go.RowKit Go.Maps
set_option linter.unusedVariables false
theorem own : ownKnob Tryz.prog.godebug = none := by kernel_rfl
theorem laidOut : laidOutB Tryz.prog = true := by kernel_rfl
set_option maxHeartbeats 4000000 in
set_option maxRecDepth 100000 in
theorem walk (a0 : Option Addr) (cap0 : Nat) (V0 : List Int) (c1 : Bool) (o1 : Int) (a2 : Option Addr) (cap2 : Nat) (V2 : List Int) (w : World) (b0 : Rd w No 1 a0 V0.length (intsOf V0)) (b2 : Rd w No 1 a2 V2.length (intsOf V2)) :
    Calls Tryz.prog 6 #[.slice a0 V0.length cap0, .agg #[.bool c1, .int .i64 o1], .slice a2 V2.length cap2] w fun e w' => e = .returned (.bool true) ∧ Below w.heap.size w w' := by
  have hal := (Below.refl w.heap.size w).alloc (Nat.le_refl _) (.cells #[.bool c1, .int .i64 o1] 65)
  have HB := Lib.hid hal
  have HX : Hid (Blk (w.alloc (.cells #[.bool c1, .int .i64 o1] 65)) w.heap.size 65 #[.bool c1, .int .i64 o1]) := Lib.hid (Blk.new w 65 _)
  obtain ⟨n0, hn0⟩ : ∃ n0, V0.length = n0 := ⟨_, rfl⟩
  obtain ⟨n2, hn2⟩ : ∃ n2, V2.length = n2 := ⟨_, rfl⟩
  have HP : Hid (Rd (w.alloc (.cells #[.bool c1, .int .i64 o1] 65)) No 1 a0 n0 (intsOf V0)) := Lib.hid (by rw [← hn0]; exact b0.below hal)
  have HQ : Hid (Rd (w.alloc (.cells #[.bool c1, .int .i64 o1] 65)) No 1 a2 n2 (intsOf V2)) := Lib.hid (by rw [← hn2]; exact b2.below hal)
  have Hn0 := Lib.hid hn0
  have Hn2 := Lib.hid hn2
  rw [hn0]
  rw [hn2]
  clear hal b0 b2 hn0 hn2
  go_enter Tryz.func6, Tryz.ntmps6
  go_upto_region 1 with fail
  generalize hw2 : w.alloc (.cells #[.bool c1, .int .i64 o1] 65) = w2 at *
  clear hw2
  by_cases h6 : 6 < n0
  case pos =>
    have d1 : decide (6 < n0) = true := decide_eq_true h6
    have d2 : decide ((6 : Int) < (n0 : Int)) = true := decide_eq_true (by omega)
    clear h6
    go_wp2_with fail
    refine (known_any _).mono ?_
    rintro r w4 ⟨rfl, hb4⟩
    have HF := Lib.hid (HB.out.trans (hb4.mono HB.out.size))
    clear hb4
    go_wp2_with fail
    go_ret
    exact ⟨rfl, HF.out⟩
  case neg =>
  have d1 : decide (6 < n0) = false := decide_eq_false h6
  have d2 : decide ((6 : Int) < (n0 : Int)) = false := decide_eq_false (by omega)
  by_cases h12 : 12 < n2
  case pos =>
    have d3 : decide (12 < n2) = true := decide_eq_true h12
    have d4 : decide ((12 : Int) < (n2 : Int)) = true := decide_eq_true (by omega)
    clear h12 h6
    go_wp2_with fail
    refine (known_any _).mono ?_
    rintro r w4 ⟨rfl, hb4⟩
    have HF := Lib.hid (HB.out.trans (hb4.mono HB.out.size))
    clear hb4
    go_wp2_with fail
    go_ret
    exact ⟨rfl, HF.out⟩
  case neg =>
  have d3 : decide (12 < n2) = false := decide_eq_false h12
  have d4 : decide ((12 : Int) < (n2 : Int)) = false := decide_eq_false (by omega)
  have hn6 : n0 ≤ 6 := by omega
  have hn12 : n2 ≤ 12 := by omega
  have HS0 := Lib.hid (And.intro (show ([(⟨5, 0, 0, 0, 0, false, false⟩ : Ac)]).length = 0 + 1 from rfl) (AcI.one (Below.refl w2.heap.size w2) (⟨5, 0, 0, 0, 0, false, false⟩ : Ac)))
  clear h6 h12
  go_wp2_with fail
  go_loopw [7, 8] (fun l i wv => ∃ (q : Nat) (k : List Ac), q ≤ n0 ∧ i = .int .i64 q ∧ Hid (k.length = q + 1 ∧ AcI w2 k l wv)) (fun _ i _ => n0 - (iOf i).toNat)
  case atStart => exact ⟨0, _, by omega, rfl, HS0⟩
  case round =>
    clear HS0
    obtain ⟨q, k, hq, rfl, HI⟩ := hrel
    by_cases hlt : q < n0
    case pos =>
      have hd1 : decide (q < n0) = true := decide_eq_true hlt
      obtain ⟨z, hz⟩ : ∃ z, V0[q]? = some z := ⟨_, List.getElem?_eq_getElem (by have := Hn0.out; omega)⟩
      obtain ⟨ad, eA, -, -, k0, -⟩ := (HP.out.below HI.out.2.low).load (i := q) (cs := #[.int .i64 z]) (by unfold intsOf; rw [List.getElem?_map, hz]; rfl)
      have x0 := k0 _ rfl
      rw [Nat.mul_one] at x0
      subst eA
      have HLT : Hid (q < n0 ∧ q ≤ 12) := Lib.hid ⟨hlt, by omega⟩
      clear hz k0
      go_wp2_with (at_builtin; refine stop ?_)
      refine Stop.go (wpList_append_a el24 _ (by rfl) _ _ (by rfl) u7 (rowA k) (by rfl) (HI.out.2.own.alloc _) No (some ⟨wr.heap.size, 0, none⟩) 1 1 (rowA [(⟨6, 0, z, 0, 0, false, true⟩ : Ac)]) (by rfl) (rd_lit (Blk.new wr 43 #[.int .i64 6, .int .i64 0, .int .i64 z, .int .i64 0, .int .i64 0, .bool false, .bool true, .slice none 0 0]) rfl rfl (fun h => h)) (by rw [rowA_len]; have := HI.out.1; have := HLT.out; omega) (by omega) ?_)
      intro v9 w9 ho9 hg9
      have HN : Hid ((k ++ [(⟨6, 0, z, 0, 0, false, true⟩ : Ac)]).length = (q + 1) + 1 ∧ AcI w2 (k ++ [(⟨6, 0, z, 0, 0, false, true⟩ : Ac)]) v9 w9) := Lib.hid ⟨by simp; have := HI.out.1; omega, HI.out.2.more ho9 hg9⟩
      clear ho9 hg9 x0 HI
      go_wp2_with fail
      go_round
      case rel => exact ⟨q + 1, _, by have := HLT.out; omega, by go_num, HN⟩
      case measure => simp [iOf]; have := HLT.out; omega
    case neg =>
    have hd1 : decide (q < n0) = false := decide_eq_false hlt
    have HQ8 : Hid (q ≤ 6) := Lib.hid (by omega)
    clear hlt hq
    have x0 : wr.cell? ⟨w.heap.size, 0, none⟩ = some (.bool c1) := (HX.out.below HI.out.2.low HX.out.lt).cell 0
    have x1 : wr.cell? ⟨w.heap.size, 1, none⟩ = some (.int .i64 o1) := (HX.out.below HI.out.2.low HX.out.lt).cell 1
    go_wp2_with (at_builtin; refine stop ?_)
    refine Stop.go (wpList_append_a el24 _ (by rfl) _ _ (by rfl) u7 (rowA k) (by rfl) (HI.out.2.own.alloc _) No (some ⟨wr.heap.size, 0, none⟩) 3 3 (rowA [(⟨7, 0, 0, 0, o1, c1, true⟩ : Ac), (⟨5, 0, 0, 0, 0, false, false⟩ : Ac), (⟨6, 0, 0, 0, 0, false, true⟩ : Ac)]) (by rfl) (rd_lit (Blk.new wr 43 #[.int .i64 7, .int .i64 0, .int .i64 0, .int .i64 0, .int .i64 o1, .bool c1, .bool true, .slice none 0 0, .int .i64 5, .int .i64 0, .int .i64 0, .int .i64 0, .int .i64 0, .bool false, .bool false, .slice none 0 0, .int .i64 6, .int .i64 0, .int .i64 0, .int .i64 0, .int .i64 0, .bool false, .bool true, .slice none 0 0]) rfl rfl (fun h => h)) (by rw [rowA_len]; have := HI.out.1; have := HQ8.out; omega) (by omega) ?_)
    intro v8 w8 ho9 hg9
    have HN0 : Hid ((k ++ [(⟨7, 0, 0, 0, o1, c1, true⟩ : Ac), (⟨5, 0, 0, 0, 0, false, false⟩ : Ac), (⟨6, 0, 0, 0, 0, false, true⟩ : Ac)]).length = 0 + (q + 4) ∧ AcI w2 (k ++ [(⟨7, 0, 0, 0, o1, c1, true⟩ : Ac), (⟨5, 0, 0, 0, 0, false, false⟩ : Ac), (⟨6, 0, 0, 0, 0, false, true⟩ : Ac)]) v8 w8) := Lib.hid ⟨by simp; have := HI.out.1; omega, HI.out.2.more ho9 hg9⟩
    clear ho9 hg9 HI x0 x1
    obtain ⟨q0, hq0⟩ : ∃ q0, q0 = q + 4 := ⟨_, rfl⟩
    have HQ0 : Hid (q0 ≤ 10) := Lib.hid (by have := HQ8.out; omega)
    rw [← hq0] at HN0
    clear hq0
    go_wp2_with fail
    go_loopw [7, 9] (fun l i wv => ∃ (q : Nat) (k : List Ac), q ≤ n2 ∧ i = .int .i64 q ∧ Hid (k.length = q + q0 ∧ AcI w2 k l wv)) (fun _ i _ => n2 - (iOf i).toNat)
    case atStart => exact ⟨0, _, by omega, rfl, HN0⟩
    case round =>
      clear HN0
      obtain ⟨q, k, hq, rfl, HI⟩ := hrel
      by_cases hlt : q < n2
      case pos =>
        have hd1 : decide (q < n2) = true := decide_eq_true hlt
        obtain ⟨z, hz⟩ : ∃ z, V2[q]? = some z := ⟨_, List.getElem?_eq_getElem (by have := Hn2.out; omega)⟩
        obtain ⟨ad, eA, -, -, k0, -⟩ := (HQ.out.below HI.out.2.low).load (i := q) (cs := #[.int .i64 z]) (by unfold intsOf; rw [List.getElem?_map, hz]; rfl)
        have x0 := k0 _ rfl
        rw [Nat.mul_one] at x0
        subst eA
        have HLT : Hid (q < n2 ∧ q ≤ 12) := Lib.hid ⟨hlt, by omega⟩
        clear hz k0
        go_wp2_with (at_builtin; refine stop ?_)
        refine Stop.go (wpList_append_a el24 _ (by rfl) _ _ (by rfl) u7 (rowA k) (by rfl) (HI.out.2.own.alloc _) No (some ⟨wr.heap.size, 0, none⟩) 1 1 (rowA [(⟨8, 0, z, 0, 0, false, true⟩ : Ac)]) (by rfl) (rd_lit (Blk.new wr 43 #[.int .i64 8, .int .i64 0, .int .i64 z, .int .i64 0, .int .i64 0, .bool false, .bool true, .slice none 0 0]) rfl rfl (fun h => h)) (by rw [rowA_len]; have := HI.out.1; have := HLT.out; have := HQ0.out; omega) (by omega) ?_)
        intro v9 w9 ho9 hg9
        have HN : Hid ((k ++ [(⟨8, 0, z, 0, 0, false, true⟩ : Ac)]).length = (q + 1) + q0 ∧ AcI w2 (k ++ [(⟨8, 0, z, 0, 0, false, true⟩ : Ac)]) v9 w9) := Lib.hid ⟨by simp; have := HI.out.1; omega, HI.out.2.more ho9 hg9⟩
        clear ho9 hg9 x0 HI
        go_wp2_with fail
        go_round
        case rel => exact ⟨q + 1, _, by have := HLT.out; omega, by go_num, HN⟩
        case measure => simp [iOf]; have := HLT.out; omega
      case neg =>
      have hd1 : decide (q < n2) = false := decide_eq_false hlt
      have HQ9 : Hid (q ≤ 12) := Lib.hid (by omega)
      clear hlt hq
      go_wp2_with (at_builtin; refine stop ?_)
      refine Stop.go (wpList_append_a el24 _ (by rfl) _ _ (by rfl) u7 (rowA k) (by rfl) (HI.out.2.own.alloc _) No (some ⟨wr.heap.size, 0, none⟩) 2 2 (rowA [(⟨5, 0, 0, 0, 0, false, false⟩ : Ac), (⟨6, 0, 1, 0, 0, false, true⟩ : Ac)]) (by rfl) (rd_lit (Blk.new wr 43 #[.int .i64 5, .int .i64 0, .int .i64 0, .int .i64 0, .int .i64 0, .bool false, .bool false, .slice none 0 0, .int .i64 6, .int .i64 0, .int .i64 1, .int .i64 0, .int .i64 0, .bool false, .bool true, .slice none 0 0]) rfl rfl (fun h => h)) (by rw [rowA_len]; have := HI.out.1; have := HQ9.out; have := HQ0.out; omega) (by omega) ?_)
      intro v8 w8 ho9 hg9
      have HN : Hid (AcI w2 (k ++ [(⟨5, 0, 0, 0, 0, false, false⟩ : Ac), (⟨6, 0, 1, 0, 0, false, true⟩ : Ac)]) v8 w8) := Lib.hid (HI.out.2.more ho9 hg9)
      clear ho9 hg9 HI
      obtain ⟨A9, c9, rfl⟩ := HN.out.form
      generalize (k ++ [(⟨5, 0, 0, 0, 0, false, false⟩ : Ac), (⟨6, 0, 1, 0, 0, false, true⟩ : Ac)] : List Ac) = kk at *
      have hpl := play_any (k := c9) HN.out.acts 2 4 1
      rw [List.length_map] at hpl
      have HB8 := Lib.hid (HB.out.trans (HN.out.low.mono HB.out.size))
      go_wp2_with fail
      refine hpl.mono ?_
      rintro r w5 ⟨rfl, hb5⟩
      have HF := Lib.hid (HB8.out.trans (hb5.mono HB8.out.size))
      clear hpl hb5
      go_wp2_with fail
      go_ret
      exact ⟨rfl, HF.out⟩

set_option maxRecDepth 100000 in
theorem lifted (os : Os) (started : os.Started) (H : Type) (enc : TypeId × Value → H) :
    ReturnsInHanded {} Tryz.checked os 6 .any (Rows.metaTxnSpec.pre6 enc Tryz.prog Tryz.f6 Rows.metaTxnRow.domain false) (Rows.metaTxnSpec.post enc Tryz.prog Tryz.f6 false true false false) := by
  refine returnsInHanded_of_change (C := Tryz.checked) own started (by kernel_rfl) Tryz.func6
    (ChangeSpec.witness6 (enc := enc) (C := Tryz.checked) false ⟨#[], #[.slice none 0 0, .agg #[.bool false, .int .i64 0], .slice none 0 0], []⟩ 8 (by kernel_rfl) (by kernel_rfl) (by kernel_rfl) (by kernel_rfl)) ?_
  intro W base args ds gs before hval0 hW hcnd _
  have hval : ∀ (j : Nat) t v, Tryz.f6.params[j]? = some t → args[j]? = some v → Value.okWide Tryz.prog W .any base t v := hval0
  have hW' := hW
  obtain ⟨p, q, hA0, hV, rfl, hfz, hnd⟩ := hW
  have hA : DataW.TrodAll enc Tryz.prog W 0 (fun _ => true) true Tryz.f6.params.toList args.toList ds p := hA0
  rw [Tryz.params6] at hA hval
  obtain ⟨v0, vs0, d0, ds0, p0, q0, hargs, rfl, rfl, h0, r0⟩ := trodAll_cons hA
  obtain ⟨v1, vs1, d1, ds1, p1, q1, rfl, rfl, rfl, h1, r1⟩ := trodAll_cons r0
  obtain ⟨v2, vs2, d2, ds2, p2, q2, rfl, rfl, rfl, h2, r2⟩ := trodAll_cons r1
  obtain ⟨rfl, rfl, rfl⟩ := trodAll_nil r2
  obtain rfl : args = #[v0, v1, v2] := by cases args; simp_all
  obtain ⟨rfl, rfl⟩ := trodVars_none hV
  have k0 := h0
  have lt0 : ∀ x ∈ p0, x.block < W.heap.size := by obtain ⟨m, hm⟩ := k0; exact DataW.trod_lt m _ _ _ hm
  obtain ⟨a0, len0, cap0, rfl⟩ := okWide_slice Tryz.underlying41 (hval 0 41 v0 rfl rfl)
  obtain ⟨V0, rfl, b0⟩ := open_nums h0
  have k1 := h1
  have lt1 : ∀ x ∈ p1, x.block < W.heap.size := by obtain ⟨m, hm⟩ := k1; exact DataW.trod_lt m _ _ _ hm
  obtain ⟨c1, o1, rfl⟩ := open_ending (hval 1 65 v1 rfl rfl) h1
  have k2 := h2
  have lt2 : ∀ x ∈ p2, x.block < W.heap.size := by obtain ⟨m, hm⟩ := k2; exact DataW.trod_lt m _ _ _ hm
  obtain ⟨a2, len2, cap2, rfl⟩ := okWide_slice Tryz.underlying41 (hval 2 41 v2 rfl rfl)
  obtain ⟨V2, rfl, b2⟩ := open_nums h2
  clear hA0 hval0
  refine (walk a0 cap0 V0 c1 o1 a2 cap2 V2 W b0 b2).mono fun e W' ⟨he, bel⟩ => ?_
  subst he
  exact ⟨_, rfl, _, _, _, [], _, [], hW', trodAll_mk1 (shut_bool Tryz.underlying4 _), (trodAll_cons_mk (Below.trod laidOut (by kernel_rfl) (of_decide_eq_true (by kernel_rfl)) k0 bel lt0) (trodAll_cons_mk (Below.trod laidOut (by kernel_rfl) (of_decide_eq_true (by kernel_rfl)) k1 bel lt1) (trodAll_cons_mk (Below.trod laidOut (by kernel_rfl) (of_decide_eq_true (by kernel_rfl)) k2 bel lt2) trodAll_mk0))), rfl, bel.frame _, fun h => by cases h⟩

theorem over : Rows.metaTxnRow.holds Tryz.pinned (OpenSpec.ofChange Rows.metaTxnSpec) :=
  OpenClaim.holds_of_wide 6 Tryz.f6 rfl rfl rfl rfl rfl rfl rfl ⟨rfl, rfl, rfl, rfl, rfl⟩ rfl rfl rfl rfl rfl (by kernel_rfl) Tryz.func6 (by kernel_rfl)
    (of_decide_eq_true (by kernel_rfl)) (by unfold Func.isWrapper; first | (rw [if_pos (by decide +kernel)]; kernel_rfl) | (rw [if_neg (by decide +kernel)]; exact ⟨rfl, rfl⟩))
    (fun os started H enc _ => lifted os started H enc)

theorem proved : Rows.MetaTxnSaid := over
end Go.Proofs.YtpmdicbhliclcaaGreat.metaTxn
namespace Go.Proofs.YtpmdicbhliclcaaGreat
theorem metaTxn_holds : Rows.MetaTxnSaid := metaTxn.proved
#print axioms metaTxn_holds
end Go.Proofs.YtpmdicbhliclcaaGreat
