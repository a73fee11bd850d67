/-
  For every number of messages and every pick waystationlaw05.NetPicks returns true: it is told which one any pick picks. Conditions: none.
-/
import Derived.Test.YticabfmjdjcfnaaRows
import Derived.Test.YticabfmjdjcfnaaAct
import Derived.WalkKit
import Derived.ProofKit
import Derived.OpenShut
import Derived.ShutString
import Derived.ChangeOld
import Derived.Below
namespace Go.Proofs.Yticabfmjdjcfnaa.netPicks
open Go.ChangeShapes Go.WideShapes Go.ChangeAt Go.RowKit
set_option linter.unusedVariables false
theorem own : ownKnob Try.prog.godebug = none := by kernel_rfl
theorem laidOut : laidOutB Try.prog = true := by kernel_rfl
set_option maxHeartbeats 4000000 in
set_option maxRecDepth 100000 in
theorem walk (n0 : Int) (n1 : Int) (w : World) (hn0 : -9223372036854775808 ≤ n0 ∧ n0 ≤ 9223372036854775807) (hn1 : -9223372036854775808 ≤ n1 ∧ n1 ≤ 9223372036854775807) :
    Calls Try.prog 4 #[.int .i64 n0, .int .i64 n1] w fun e w' => e = .returned (.bool true) ∧ Below w.heap.size w w' := by
  by_cases hg : 0 ≤ n0 ∧ n0 ≤ 60
  case neg =>
    have hd : n0 < 0 ∨ 60 < n0 := by omega
    go_enter Try.func4, Try.ntmps4
    go_wp2_with (go_at_call 10; refine (works_any w).mono ?_; rintro e w' ⟨rfl, hb⟩)
    all_goals first
      | (go_ret; exact ⟨rfl, hb⟩)
      | (exfalso; omega)
  case pos =>
  obtain ⟨hg1, hg2⟩ := hg
  obtain ⟨k, rfl⟩ : ∃ r : Nat, n0 = (r : Int) := ⟨n0.toNat, by omega⟩
  have hk60 : k ≤ 60 := by omega
  go_enter Try.func4, Try.ntmps4
  go_wp2_with fail
  refine (new_yes 64 w (by omega) (by omega)).mono ?_
  rintro e w1 ⟨g, S0, rfl, hN0, hS0, hb1⟩
  go_wp2_with fail
  refine (refNew_yes (w := w1) S0 (r := 64) (by omega) (by omega)).mono ?_
  rintro e w2 ⟨cs0, rfl, hR0, hb2⟩
  obtain ⟨hcz, hca⟩ := hR0.size
  have hz1 := hb1.size
  have hz2 := hb2.size
  go_wp2_with (with_reducible refine at_store 28 rfl ?_)
  refine Stop.go (wpList_store_blk (by rfl) (by rfl) 28 _ _ (by rfl) w2.heap.size _ cs0 (by rfl) (by rfl) 28 (Blk.new w2 28 #[.int .i64 0, .slice none 0 0, .int .i64 0]) (by rw [hcz]; rfl) (info28 _ hcz) hca ?_)
  intro w3 f3 g3 s3
  clear s3
  have hb3 : Below w2.heap.size w2 w3 := below_grown ((Below.refl _ _).alloc (Nat.le_refl _) _) g3 (Nat.le_refl _) (Nat.le_refl _)
  have hbw : Below w.heap.size w w3 := (hb1.trans (hb2.mono hz1)).trans (hb3.mono (by omega))
  have hP : Pl w.heap.size g w2.heap.size 0 S0 ⟨64, [], 0⟩ cs0 w3 := ⟨(hN0.below hb2).below hb3, (hR0.wide (fun b hb e => e.elim id (fun e => absurd e (by omega)))).below hb3, f3, fun b e => ⟨hS0 b e, by have := hN0.lt e; omega⟩, by omega, Nat.le_refl _⟩
  have HP := Lib.hid hP
  have HBW := Lib.hid hbw
  generalize hzv : w2.heap.size = zv at *
  clear hP hbw hb1 hb2 hb3 g3 f3 hR0 hN0 hS0 hz1 hz2 hzv hcz hca
  go_wp2_with fail
  go_loopw [9] (fun i wr => ∃ (j : Nat) (S : Nat → Prop) (s : St) (cs : Array Value), j ≤ k ∧ i = .int .i64 j ∧ Pl w.heap.size g zv j S s cs wr ∧ Below w.heap.size w wr) (fun i _ => k - (intOf i).toNat)
  case atStart => exact ⟨0, S0, _, cs0, by omega, rfl, HP.out, HBW.out⟩
  case round =>
    obtain ⟨j, S, s, cs, hj, rfl, hP, hb⟩ := hrel
    clear HP HBW
    obtain ⟨A, n, c, hcse⟩ := hP.ref.three
    subst hcse
    have HPP := Lib.hid hP
    have HBB := Lib.hid hb
    have v0 := hP.var
    have hzB := hP.zlow
    have hvl := hP.var.lt
    clear hP hb
    by_cases hlt : j < k
    case pos =>
      have hji : ((j : Nat) : Int) < ((k : Nat) : Int) := by omega
      have hw8 : IntKind.u8.wrap ((j : Nat) : Int) = ((j : Nat) : Int) := by simp [IntKind.wrap, IntKind.signed, IntKind.bits]; omega
      obtain ⟨u, hu⟩ : ∃ u : UInt8, byteV u = .int .u8 ((j : Nat) : Int) := ⟨UInt8.ofNat j, by unfold byteV; rw [UInt8.toNat_ofNat']; congr 1 <;> omega⟩
      have HU := Lib.hid hu
      clear hu
      go_wp2_with (with_reducible refine at_store 39 rfl ?_)
      have hba : Below wr.heap.size wr (wr.alloc (.cells #[.int .u8 ((j : Nat) : Int)] 5)) := (Below.refl _ _).alloc (Nat.le_refl _) _
      have hbys : Bys (wr.alloc (.cells #[.int .u8 ((j : Nat) : Int)] 5)) (fun b => b < wr.heap.size) (some ⟨wr.heap.size, 0, none⟩) 1 [u] := by
        have := bys_lit wr [u] (fun b => b < wr.heap.size) (0, 0) (by omega)
        have e : (([u] : Bs).map byteV).toArray = #[.int .u8 ((j : Nat) : Int)] := by simp [HU.out]
        rw [e] at this
        exact this
      have k1 : Blk ((wr.alloc (.cells #[.int .u8 ((j : Nat) : Int)] 5)).alloc (.cells #[.int .i64 0, .int .i64 0, .slice none 0 0] 39)) (wr.heap.size + 1) 39 #[.int .i64 0, .int .i64 0, .slice none 0 0] := blk_new _ 39 _ (by simp)
      refine Stop.go (wpList_store_blk (by rfl) (by rfl) 39 _ _ (by rfl) (wr.heap.size + 1) _ #[.int .i64 (j : Int), .int .i64 (63 - (j : Int)), .slice (some ⟨wr.heap.size, 0, none⟩) 1 1] (by rfl) (by rfl) 39 k1 (by rfl) (info39 _ rfl) (by simp [Value.oneCell']) ?_)
      intro w4 f4 g4 s4
      clear s4
      have hb4a : Below (wr.heap.size + 1) (wr.alloc (.cells #[.int .u8 ((j : Nat) : Int)] 5)) w4 := by
        have q : Below (wr.heap.size + 1) (wr.alloc (.cells #[.int .u8 ((j : Nat) : Int)] 5)) ((wr.alloc (.cells #[.int .u8 ((j : Nat) : Int)] 5)).alloc (.cells #[.int .i64 0, .int .i64 0, .slice none 0 0] 39)) := (Below.refl _ _).alloc (by simp) _
        exact below_grown q g4 (by simp) (Nat.le_refl _)
      have hb4 : Below wr.heap.size wr w4 := hba.trans (hb4a.mono (by omega))
      have hby4 : Bys w4 (fun b => b < wr.heap.size) (some ⟨wr.heap.size, 0, none⟩) 1 [u] := hbys.keep (S := fun b => wr.heap.size + 1 ≤ b) ⟨hb4a.os, hb4a.tape, hb4a.output, hb4a.size, fun b hb hn => hb4a.block b (by omega)⟩ (fun b hb e => by simp at hb; omega)
      have hz4 := hb4.size
      have hmv : MsgV w4 (fun b => b < wr.heap.size) ⟨(j : Int), 63 - (j : Int), [u]⟩ (.agg #[.int .i64 (j : Int), .int .i64 (63 - (j : Int)), .slice (some ⟨wr.heap.size, 0, none⟩) 1 1]) := ⟨_, _, _, rfl, hby4⟩
      have v4 := v0.below hb4 hvl
      have hP4 := HPP.out.below hb4
      have hSl : ∀ b, (S b ∨ b = zv) → b < w4.heap.size := fun b e => e.elim (fun e => hP4.net.lt e) (fun e => by rw [e]; exact v4.lt)
      have hok := hP4.net.ok
      have hcm := hP4.came
      clear hba hbys k1 g4 hb4a hby4
      obtain ⟨c0, c1, c2⟩ := v4.three
      obtain ⟨d0, d1, d2⟩ := f4.three
      go_wp2_with fail
      refine (refPut_any hP4.ref hSl hmv hok (by omega)).mono ?_
      rintro e w5 ⟨cs5, rfl, hR5, hb5⟩
      obtain ⟨A5, n5, c5, rfl⟩ := hR5.three
      have v5 := v4.below hb5 v4.lt
      have f5 := f4.below hb5 f4.lt
      go_wp2_with (with_reducible refine at_store 28 rfl ?_)
      refine Stop.go (wpList_store_blk (by rfl) (by rfl) 28 _ _ (by rfl) zv _ #[.int .i64 ((s.putA ⟨(j : Int), 63 - (j : Int), [u]⟩).most : Int), .slice A5 n5 c5, .int .i64 ((s.putA ⟨(j : Int), 63 - (j : Int), [u]⟩).came : Int)] (by rfl) (by rfl) 28 v5 (by rfl) (info28 _ rfl) (by simp [Value.oneCell']) ?_)
      intro w6 v6 g6 s6
      clear s6
      have hT6 : Turn (fun b => b = zv) w5 w6 := Turn.of_grown g6 (fun r e => by injection e with e; exact e.symm)
      have hz5 := hb5.size
      have hz6 := hT6.size
      have hR6 := hR5.keep hT6 (fun b _ e => .inr e)
      have hN6 := (hP4.net.below hb5).keep hT6 (fun b _ e e' => (hP4.low b e').2 e)
      have hm6 : MsgV w6 (fun b => b < wr.heap.size) ⟨(j : Int), 63 - (j : Int), [u]⟩ (.agg #[.int .i64 (j : Int), .int .i64 (63 - (j : Int)), .slice (some ⟨wr.heap.size, 0, none⟩) 1 1]) := (hmv.below hb5).keep hT6 (fun b _ e => by omega)
      have f6 := f5.keep hT6 (by omega)
      have hgl : g < wr.heap.size := HPP.out.net.lt HPP.out.net.g_in
      have hBw6 : Below w.heap.size w w6 := ((HBB.out.trans (hb4.mono HBB.out.size)).trans (hb5.mono (by have := HBB.out.size; omega))).trans (hT6.below (by have := HBB.out.size; omega) (fun b e => by omega))
      clear c0 c1 c2 d0 d1 d2
      obtain ⟨d0, d1, d2⟩ := f6.three
      go_wp2_with fail
      refine (put_any hN6 hm6 hgl (by omega)).mono ?_
      rintro e w7 ⟨rfl, hT7, S7, hS1, hS2, hN7⟩
      have hzn : ¬ S zv := fun e => (HPP.out.low _ e).2 rfl
      have v7 := v6.keep hT7 hzn
      have hz7 := hT7.size
      have hlow7 : ∀ b, S7 b → w.heap.size ≤ b ∧ b ≠ zv := fun b e => (hS2 b e).elim (HPP.out.low b) (fun e => ⟨by have := HBB.out.size; omega, by omega⟩)
      have hR7 : RAt w7 (fun b => S7 b ∨ b = zv) (s.putA ⟨(j : Int), 63 - (j : Int), [u]⟩) _ := (hR6.wide (X' := fun b => S7 b ∨ b = zv) (fun b hb e => e.elim (fun e => (hS2 b e).elim .inl (fun e => absurd e (by omega))) .inr)).keep hT7 (fun b _ e => .inl (hS1 b e))
      have hBw7 := hBw6.trans (hT7.below hBw6.size (fun b e => (HPP.out.low b e).1))
      have hcc := came_putA s ⟨(j : Int), 63 - (j : Int), [u]⟩
      have HFIN := Lib.hid (show Pl w.heap.size g zv (j + 1) S7 (s.putA ⟨(j : Int), 63 - (j : Int), [u]⟩) _ w7 from ⟨hN7, hR7, v7, hlow7, hzB, by omega⟩)
      go_wp2_with fail
      exact ⟨⟨j + 1, S7, _, _, by omega, by go_num, HFIN.out, hBw7⟩, by simp [intOf]; omega⟩
    case neg =>
      have hd1 : decide (j < k) = false := by simpa using hlt
      have hjk : j ≤ 60 := by omega
      go_wp2_with fail
      go_loopw [11] (fun i wx => ∃ (q : Nat) (S : Nat → Prop) (s : St) (cs : Array Value), 1 ≤ q ∧ q ≤ 5 ∧ i = .int .i64 q ∧ Pl w.heap.size g zv (60 + q) S s cs wx ∧ Below w.heap.size w wx) (fun i _ => 5 - (intOf i).toNat)
      case atStart => exact ⟨1, S, s, _, by omega, by omega, rfl, ⟨HPP.out.net, HPP.out.ref, HPP.out.var, HPP.out.low, HPP.out.zlow, by have := HPP.out.came; omega⟩, HBB.out⟩
      case round =>
        clear HPP v0 HBB hvl hd1 hj hlt
        obtain ⟨q, S, s, cs, hq1, hq5, rfl, hP, hb⟩ := hrel
        obtain ⟨A, n, c, hcse⟩ := hP.ref.three
        subst hcse
        have HPP := Lib.hid hP
        have HBB := Lib.hid hb
        have v0 := hP.var
        have hvl := hP.var.lt
        clear hP hb
        by_cases hlt : q < 5
        case neg =>
          obtain rfl : q = 5 := by omega
          go_wp2_with (first
            | (go_at_call 18; refine (num_any _ _).mono ?_; rintro e w' ⟨rfl, rfl⟩)
            | (go_at_call 10; refine (works_any _).mono ?_; rintro e w' ⟨rfl, hbk⟩))
          go_ret
          exact ⟨rfl, HBB.out.trans (hbk.mono HBB.out.size)⟩
        case pos =>
          have hq0 : ((q : Nat) : Int) < 5 := by omega
          obtain ⟨c0, c1, c2⟩ := v0.three
          go_wp2_with fail
          have hact : AcAt wr S ⟨(q : Int), n1, ⟨0, 0, []⟩⟩ #[.int .i64 (q : Int), .int .i64 n1, .int .i64 0, .int .i64 0, .slice none 0 0] := ⟨none, 0, 0, rfl, Bys.none_, Nat.le_refl _, Nat.zero_le _, by show In64 (q : Int); unfold In64; omega, hn1, by show In64 0; unfold In64; omega, by show In64 0; unfold In64; omega⟩
          refine (act_any (X := fun b => b = zv) HPP.out.net HPP.out.ref (fun b e => by rw [e]; exact hvl) hact (by simp) (by have := HPP.out.came; omega)).mono ?_
          rintro e w5 ⟨cs5, rfl, S5, hS1, hS2, hT5, hN5, hR5⟩
          obtain ⟨A5, n5, c5, rfl⟩ := hR5.three
          have hz5 := hT5.size
          have hzn : ¬ S zv := fun e => (HPP.out.low _ e).2 rfl
          have v5 := v0.keep hT5 hzn
          clear c0 c1 c2 hact
          go_wp2_with (with_reducible refine at_store 28 rfl ?_)
          refine Stop.go (wpList_store_blk (by rfl) (by rfl) 28 _ _ (by rfl) w5.heap.size _ #[.int .i64 ((s.next ⟨(q : Int), n1, ⟨0, 0, []⟩⟩).most : Int), .slice A5 n5 c5, .int .i64 ((s.next ⟨(q : Int), n1, ⟨0, 0, []⟩⟩).came : Int)] (by rfl) (by rfl) 28 (Blk.new w5 28 #[.int .i64 0, .slice none 0 0, .int .i64 0]) (by rfl) (info28 _ rfl) (by simp [Value.oneCell']) ?_)
          intro w6 f6 g6 s6
          clear s6
          have hb6 : Below w5.heap.size w5 w6 := below_grown ((Below.refl _ _).alloc (Nat.le_refl _) _) g6 (Nat.le_refl _) (Nat.le_refl _)
          have v6 := v5.below hb6 v5.lt
          have hN6 := hN5.below hb6
          have hR6 := hR5.below hb6
          have hv5l := v5.lt
          obtain ⟨d0, d1, d2⟩ := f6.three
          go_wp2_with (with_reducible refine at_store 28 rfl ?_)
          refine Stop.go (wpList_store_blk (by rfl) (by rfl) 28 _ _ (by rfl) zv _ #[.int .i64 ((s.next ⟨(q : Int), n1, ⟨0, 0, []⟩⟩).most : Int), .slice A5 n5 c5, .int .i64 ((s.next ⟨(q : Int), n1, ⟨0, 0, []⟩⟩).came : Int)] (by rfl) (by rfl) 28 v6 (by rfl) (info28 _ rfl) (by simp [Value.oneCell']) ?_)
          intro w7 v7 g7 s7
          clear s7
          have hT7 : Turn (fun b => b = zv) w6 w7 := Turn.of_grown g7 (fun r e => by injection e with e; exact e.symm)
          have hcc := came_next s ⟨(q : Int), n1, ⟨0, 0, []⟩⟩
          have hPv : Pl w.heap.size g zv (60 + q + 1) S5 (s.next ⟨(q : Int), n1, ⟨0, 0, []⟩⟩) _ w7 := HPP.out.acted HBB.out.size hS2 hN6 hR6 (by have := HPP.out.came; omega) v7 hT7
          have hz6 := hb6.size
          have hBv : Below w.heap.size w w7 := ((HBB.out.trans (hT5.below HBB.out.size (fun b e => (HPP.out.low b e).1))).trans (hb6.mono (by have := HBB.out.size; omega))).trans (hT7.below (by have := HBB.out.size; omega) (fun b e => by omega))
          obtain ⟨y0, y1, y2⟩ := v7.three
          have his := is_any hPv.net hPv.ref
          have HPV := Lib.hid hPv
          clear hPv d0 d1 d2
          go_wp2_with (go_at_call 17; refine his.mono ?_; rintro e w9 ⟨rfl, hb9⟩)
          exact ⟨⟨q + 1, S5, _, _, by omega, by omega, by go_num, by have := HPV.out.below hb9; exact this, hBv.trans (hb9.mono hBv.size)⟩, by simp [intOf]; omega⟩

set_option maxRecDepth 100000 in
theorem lifted (os : Os) (started : os.Started) (H : Type) (enc : TypeId × Value → H) :
    ReturnsInHanded {} Try.checked os 4 .any (Rows.netPicksSpec.pre6 enc Try.prog Try.f4 Rows.netPicksRow.domain false) (Rows.netPicksSpec.post enc Try.prog Try.f4 false true false false) := by
  refine returnsInHanded_of_change (C := Try.checked) own started (by kernel_rfl) Try.func4
    (ChangeSpec.witness6 (enc := enc) (C := Try.checked) false ⟨#[], #[.int .i64 0, .int .i64 0], []⟩ 8 (by kernel_rfl) (by kernel_rfl) (by kernel_rfl) (by kernel_rfl)) ?_
  intro W base args ds gs before hval0 hW hcnd _
  have hval : ∀ (j : Nat) t v, Try.f4.params[j]? = some t → args[j]? = some v → Value.okWide Try.prog W .any base t v := hval0
  have hW' := hW
  obtain ⟨p, q, hA0, hV, rfl, hfz, hnd⟩ := hW
  have hA : DataW.TrodAll enc Try.prog W 0 (fun _ => true) true Try.f4.params.toList args.toList ds p := hA0
  rw [Try.params4] at hA hval
  obtain ⟨v0, vs0, d0, ds0, p0, q0, hargs, rfl, rfl, h0, r0⟩ := trodAll_cons hA
  obtain ⟨v1, vs1, d1, ds1, p1, q1, rfl, rfl, rfl, h1, r1⟩ := trodAll_cons r0
  obtain ⟨rfl, rfl, rfl⟩ := trodAll_nil r1
  obtain rfl : args = #[v0, v1] := by cases args; simp_all
  obtain ⟨rfl, rfl⟩ := trodVars_none hV
  have k0 := h0
  have lt0 : ∀ x ∈ p0, x.block < W.heap.size := by obtain ⟨m, hm⟩ := k0; exact DataW.trod_lt m _ _ _ hm
  obtain ⟨n0, rfl, rfl, rfl, wf0⟩ := open_int Try.underlying3 (hval 0 3 v0 rfl rfl) h0
  have k1 := h1
  have lt1 : ∀ x ∈ p1, x.block < W.heap.size := by obtain ⟨m, hm⟩ := k1; exact DataW.trod_lt m _ _ _ hm
  obtain ⟨n1, rfl, rfl, rfl, wf1⟩ := open_int Try.underlying3 (hval 1 3 v1 rfl rfl) h1
  clear hA0 hval0
  refine (walk n0 n1 W (i64_bounds wf0) (i64_bounds wf1)).mono fun e W' ⟨he, bel⟩ => ?_
  subst he
  exact ⟨_, rfl, _, _, _, [], _, [], hW', trodAll_mk1 (shut_bool Try.underlying4 _), (trodAll_cons_mk (Below.trod laidOut (by kernel_rfl) (of_decide_eq_true (by kernel_rfl)) k0 bel lt0) (trodAll_cons_mk (Below.trod laidOut (by kernel_rfl) (of_decide_eq_true (by kernel_rfl)) k1 bel lt1) trodAll_mk0)), rfl, bel.frame _, fun h => by cases h⟩

theorem over : Rows.netPicksRow.holds Try.pinned (OpenSpec.ofChange Rows.netPicksSpec) :=
  OpenClaim.holds_of_wide 4 Try.f4 rfl rfl rfl rfl rfl rfl rfl ⟨rfl, rfl, rfl, rfl, rfl⟩ rfl rfl rfl rfl rfl (by kernel_rfl) Try.func4 (by kernel_rfl)
    (of_decide_eq_true (by kernel_rfl)) (by unfold Func.isWrapper; first | (rw [if_pos (by decide +kernel)]; kernel_rfl) | (rw [if_neg (by decide +kernel)]; exact ⟨rfl, rfl⟩))
    (fun os started H enc _ => lifted os started H enc)

theorem proved : Rows.NetPicksSaid := over
end Go.Proofs.Yticabfmjdjcfnaa.netPicks
namespace Go.Proofs.Yticabfmjdjcfnaa
theorem netPicks_holds : Rows.NetPicksSaid := netPicks.proved
#print axioms netPicks_holds
end Go.Proofs.Yticabfmjdjcfnaa
