/-
  waystationlaw05.NetCopies: a copy stands alike, goes on apart, and which nets are the same. Nothing is assumed but what the row's domain holds.
-/
import Derived.Test.YticabfmjdjcfnaaKeepH
import Derived.WalkKit
import Derived.ProofKit
import Derived.OpenShut
import Derived.ShutString
import Derived.ChangeOld
import Derived.Below
namespace Go.Proofs.Yticabfmjdjcfnaa.netCopies
open Go.ChangeShapes Go.WideShapes Go.ChangeAt Go.RowKit
set_option linter.unusedVariables false
theorem own : ownKnob Try.prog.godebug = none := by kernel_rfl
theorem laidOut : laidOutB Try.prog = true := by kernel_rfl
attribute [local go_sem] Oper.semAt_some
set_option maxHeartbeats 4000000 in
set_option maxRecDepth 100000 in
theorem walk (n0 : Int) (a1 : Option Addr) (len1 cap1 : Nat) (xs1 : List Ac) (t2 : Ac) (cs2 : Array Value) (w : World) (hn0 : -9223372036854775808 ≤ n0 ∧ n0 ≤ 9223372036854775807) (b1 : Acs w No a1 len1 xs1) (hc1 : len1 ≤ cap1) (hm1 : cap1 ≤ maxLen) (b2 : AcAt w No t2 cs2) :
    Calls Try.prog 5 #[.int .i64 n0, .slice a1 len1 cap1, .agg cs2] w fun e w' => e = .returned (.bool true) ∧ Below w.heap.size w w' := by
  obtain ⟨A2, q2, c2, rfl, hB2, hqc2, hcm2, i1, i2, i3, i4⟩ := b2
  have hw1 : Below w.heap.size w ((w.alloc (.cells #[.int .i64 t2.what, .int .i64 t2.pick, .int .i64 t2.m.fr, .int .i64 t2.m.to, .slice A2 q2 c2] 47)).alloc (.cells #[.bool false] 4)) := ((Below.refl _ _).alloc (Nat.le_refl _) _).alloc (by simp) _
  have kx : Blk ((w.alloc (.cells #[.int .i64 t2.what, .int .i64 t2.pick, .int .i64 t2.m.fr, .int .i64 t2.m.to, .slice A2 q2 c2] 47)).alloc (.cells #[.bool false] 4)) w.heap.size 47 #[.int .i64 t2.what, .int .i64 t2.pick, .int .i64 t2.m.fr, .int .i64 t2.m.to, .slice A2 q2 c2] := (Blk.new _ _ _).alloc _
  have kr : Blk ((w.alloc (.cells #[.int .i64 t2.what, .int .i64 t2.pick, .int .i64 t2.m.fr, .int .i64 t2.m.to, .slice A2 q2 c2] 47)).alloc (.cells #[.bool false] 4)) (w.heap.size + 1) 4 #[.bool false] := blk_new _ 4 _ (by simp)
  have HZ1 : Hid (((w.alloc (.cells #[.int .i64 t2.what, .int .i64 t2.pick, .int .i64 t2.m.fr, .int .i64 t2.m.to, .slice A2 q2 c2] 47)).alloc (.cells #[.bool false] 4)).heap.size = w.heap.size + 2) := Lib.hid (by simp)
  have HB1 := Lib.hid (b1.below hw1)
  have HX : Hid (AcAt ((w.alloc (.cells #[.int .i64 t2.what, .int .i64 t2.pick, .int .i64 t2.m.fr, .int .i64 t2.m.to, .slice A2 q2 c2] 47)).alloc (.cells #[.bool false] 4)) No t2 #[.int .i64 t2.what, .int .i64 t2.pick, .int .i64 t2.m.fr, .int .i64 t2.m.to, .slice A2 q2 c2]) := Lib.hid ⟨A2, q2, c2, rfl, hB2.below hw1, hqc2, hcm2, i1, i2, i3, i4⟩
  have hlen := b1.len
  clear b1 hB2
  obtain ⟨x0, x1, x2, x3, x4⟩ := kx.five
  by_cases hg : 1 ≤ n0 ∧ n0 ≤ 4096
  case neg =>
    have hd : n0 < 1 ∨ 4096 < n0 := by omega
    go_enter Try.func5, Try.ntmps5
    go_wp2_with fail
    all_goals try (exfalso; omega)
    all_goals
      generalize ((w.alloc (.cells #[.int .i64 t2.what, .int .i64 t2.pick, .int .i64 t2.m.fr, .int .i64 t2.m.to, .slice A2 q2 c2] 47)).alloc (.cells #[.bool false] 4)) = w1 at *
      refine (works_any w1).mono ?_
      rintro e w' ⟨rfl, hb⟩
      have kr' := kr.below hb kr.lt
      have r0' : w'.cell? ⟨w.heap.size + 1, 0, none⟩ = some (.bool false) := kr'.cell 0
      have rf' : w'.frozen? ⟨w.heap.size + 1, 0, none⟩ = false := kr'.frozen 0
      go_wp2_with fail
      have kr2 := kr'.set_ 0 (.bool true)
      have r2 : (w'.setCell ⟨w.heap.size + 1, 0, none⟩ (.bool true)).cell? ⟨w.heap.size + 1, 0, none⟩ = some (.bool true) := kr2.cell 0
      have hbe := (hw1.trans (hb.mono hw1.size)).setCell (p := ⟨w.heap.size + 1, 0, none⟩) (show w.heap.size ≤ w.heap.size + 1 by omega) (.bool true)
      generalize w'.setCell ⟨w.heap.size + 1, 0, none⟩ (.bool true) = w9 at *
      refine bodyPost_ret (v := .bool true) (by simp [results, Try.results5, go_sem, r2]) rfl ?_
      exact ⟨rfl, hbe⟩
  case pos =>
  obtain ⟨hg1, hg2⟩ := hg
  obtain ⟨r, rfl⟩ : ∃ r : Nat, n0 = (r : Int) := ⟨n0.toNat, by omega⟩
  have hq1 : decide ((r : Int) < 1) = false := by simp; omega
  have hq2 : decide ((4096 : Int) < (r : Int)) = false := by simp; omega
  have HF := Lib.hid (few_any HB1.out hm1 hc1)
  cases hfew : decide (fewN xs1 ≤ 10000) with
  | false =>
    have HF' : Hid (Calls Try.prog 9 #[.slice a1 len1 cap1] ((w.alloc (.cells #[.int .i64 t2.what, .int .i64 t2.pick, .int .i64 t2.m.fr, .int .i64 t2.m.to, .slice A2 q2 c2] 47)).alloc (.cells #[.bool false] 4)) fun e w' => e = .returned (.bool false) ∧ ((w.alloc (.cells #[.int .i64 t2.what, .int .i64 t2.pick, .int .i64 t2.m.fr, .int .i64 t2.m.to, .slice A2 q2 c2] 47)).alloc (.cells #[.bool false] 4)) = w') := Lib.hid (by have := HF.out; rw [hfew] at this; exact this)
    clear hlen hfew HF
    go_enter Try.func5, Try.ntmps5
    go_wp2_with fail
    generalize ((w.alloc (.cells #[.int .i64 t2.what, .int .i64 t2.pick, .int .i64 t2.m.fr, .int .i64 t2.m.to, .slice A2 q2 c2] 47)).alloc (.cells #[.bool false] 4)) = w1 at *
    refine HF'.out.mono ?_
    rintro e w' ⟨rfl, rfl⟩
    go_wp2_with fail
    refine (works_any w1).mono ?_
    rintro e w' ⟨rfl, hb⟩
    have kr' := kr.below hb kr.lt
    have r0' : w'.cell? ⟨w.heap.size + 1, 0, none⟩ = some (.bool false) := kr'.cell 0
    have rf' : w'.frozen? ⟨w.heap.size + 1, 0, none⟩ = false := kr'.frozen 0
    go_wp2_with fail
    have kr2 := kr'.set_ 0 (.bool true)
    have r2 : (w'.setCell ⟨w.heap.size + 1, 0, none⟩ (.bool true)).cell? ⟨w.heap.size + 1, 0, none⟩ = some (.bool true) := kr2.cell 0
    have hbe := (hw1.trans (hb.mono hw1.size)).setCell (p := ⟨w.heap.size + 1, 0, none⟩) (show w.heap.size ≤ w.heap.size + 1 by omega) (.bool true)
    generalize w'.setCell ⟨w.heap.size + 1, 0, none⟩ (.bool true) = w9 at *
    refine bodyPost_ret (v := .bool true) (by simp [results, Try.results5, go_sem, r2]) rfl ?_
    exact ⟨rfl, hbe⟩
  | true =>
  have HF' : Hid (Calls Try.prog 9 #[.slice a1 len1 cap1] ((w.alloc (.cells #[.int .i64 t2.what, .int .i64 t2.pick, .int .i64 t2.m.fr, .int .i64 t2.m.to, .slice A2 q2 c2] 47)).alloc (.cells #[.bool false] 4)) fun e w' => e = .returned (.bool true) ∧ ((w.alloc (.cells #[.int .i64 t2.what, .int .i64 t2.pick, .int .i64 t2.m.fr, .int .i64 t2.m.to, .slice A2 q2 c2] 47)).alloc (.cells #[.bool false] 4)) = w') := Lib.hid (by have := HF.out; rw [hfew] at this; exact this)
  obtain ⟨hn100, hshort⟩ := few_ok (of_decide_eq_true hfew)
  have HSHORT := Lib.hid hshort
  have hl100 : len1 ≤ 100 := by omega
  clear HF hfew hshort hn100 hlen
  have HF2 : Hid (Calls Try.prog 9 #[.slice (some ⟨((w.alloc (.cells #[.int .i64 t2.what, .int .i64 t2.pick, .int .i64 t2.m.fr, .int .i64 t2.m.to, .slice A2 q2 c2] 47)).alloc (.cells #[.bool false] 4)).heap.size, 0, none⟩) 1 1] (((w.alloc (.cells #[.int .i64 t2.what, .int .i64 t2.pick, .int .i64 t2.m.fr, .int .i64 t2.m.to, .slice A2 q2 c2] 47)).alloc (.cells #[.bool false] 4)).alloc (.cells #[.int .i64 t2.what, .int .i64 t2.pick, .int .i64 t2.m.fr, .int .i64 t2.m.to, .slice A2 q2 c2] 47)) fun e w' => e = .returned (.bool (decide (fewN [t2] ≤ 10000))) ∧ (((w.alloc (.cells #[.int .i64 t2.what, .int .i64 t2.pick, .int .i64 t2.m.fr, .int .i64 t2.m.to, .slice A2 q2 c2] 47)).alloc (.cells #[.bool false] 4)).alloc (.cells #[.int .i64 t2.what, .int .i64 t2.pick, .int .i64 t2.m.fr, .int .i64 t2.m.to, .slice A2 q2 c2] 47)) = w') := Lib.hid (by
    have hx2 : AcAt (((w.alloc (.cells #[.int .i64 t2.what, .int .i64 t2.pick, .int .i64 t2.m.fr, .int .i64 t2.m.to, .slice A2 q2 c2] 47)).alloc (.cells #[.bool false] 4)).alloc (.cells #[.int .i64 t2.what, .int .i64 t2.pick, .int .i64 t2.m.fr, .int .i64 t2.m.to, .slice A2 q2 c2] 47)) No t2 #[.int .i64 t2.what, .int .i64 t2.pick, .int .i64 t2.m.fr, .int .i64 t2.m.to, .slice A2 q2 c2] := by
      obtain ⟨_, _, _, e, q⟩ := HX.out
      exact ⟨_, _, _, e, q.1.alloc _, q.2⟩
    refine few_any (X := No) ⟨[#[.int .i64 t2.what, .int .i64 t2.pick, .int .i64 t2.m.fr, .int .i64 t2.m.to, .slice A2 q2 c2]], rd_one _ 47 #[.int .i64 t2.what, .int .i64 t2.pick, .int .i64 t2.m.fr, .int .i64 t2.m.to, .slice A2 q2 c2] rfl (by simp [Value.oneCell']) (fun h => h), rfl, fun i t cs e1 e2 => ?_⟩ (by unfold maxLen; omega) (Nat.le_refl _)
    rcases i with _ | i
    · simp at e1 e2; subst e1 e2; exact hx2
    · simp at e1)
  cases hfx : decide (fewN [t2] ≤ 10000) with
  | false =>
    rw [hfx] at HF2
    clear hfx
    go_enter Try.func5, Try.ntmps5
    go_wp2_with fail
    generalize ((w.alloc (.cells #[.int .i64 t2.what, .int .i64 t2.pick, .int .i64 t2.m.fr, .int .i64 t2.m.to, .slice A2 q2 c2] 47)).alloc (.cells #[.bool false] 4)) = w1 at *
    refine HF'.out.mono ?_
    rintro e w' ⟨rfl, rfl⟩
    go_wp2_with fail
    refine HF2.out.mono ?_
    rintro e w' ⟨rfl, rfl⟩
    have hw2 := hw1.alloc hw1.size (.cells #[.int .i64 t2.what, .int .i64 t2.pick, .int .i64 t2.m.fr, .int .i64 t2.m.to, .slice A2 q2 c2] 47)
    have krx := kr.alloc (.cells #[.int .i64 t2.what, .int .i64 t2.pick, .int .i64 t2.m.fr, .int .i64 t2.m.to, .slice A2 q2 c2] 47)
    generalize w1.alloc (.cells #[.int .i64 t2.what, .int .i64 t2.pick, .int .i64 t2.m.fr, .int .i64 t2.m.to, .slice A2 q2 c2] 47) = w2 at *
    go_wp2_with fail
    refine (works_any w2).mono ?_
    rintro e w' ⟨rfl, hb⟩
    have kr' := krx.below hb krx.lt
    have r0' : w'.cell? ⟨w.heap.size + 1, 0, none⟩ = some (.bool false) := kr'.cell 0
    have rf' : w'.frozen? ⟨w.heap.size + 1, 0, none⟩ = false := kr'.frozen 0
    go_wp2_with fail
    have kr2 := kr'.set_ 0 (.bool true)
    have r2 : (w'.setCell ⟨w.heap.size + 1, 0, none⟩ (.bool true)).cell? ⟨w.heap.size + 1, 0, none⟩ = some (.bool true) := kr2.cell 0
    have hbe := (hw2.trans (hb.mono hw2.size)).setCell (p := ⟨w.heap.size + 1, 0, none⟩) (show w.heap.size ≤ w.heap.size + 1 by omega) (.bool true)
    generalize w'.setCell ⟨w.heap.size + 1, 0, none⟩ (.bool true) = w9 at *
    refine bodyPost_ret (v := .bool true) (by simp [results, Try.results5, go_sem, r2]) rfl ?_
    exact ⟨rfl, hbe⟩
  | true =>
  rw [hfx] at HF2
  have hx4 : t2.m.b.length ≤ 10000 := (few_ok (of_decide_eq_true hfx)).2 t2 (by simp)
  clear hfx
  refine (callsIn_wide (n := 5)).1 ?_
  refine callsIn_of_wp_marks Try.func5 rfl trivial ?_ rfl
  simp only [Try.ntmps5, List.size_toArray, List.length_cons, List.length_nil, Nat.reduceAdd, Nat.reduceSub, Array.replicate_succ, Array.replicate_zero, List.push_toArray, List.append_toArray, List.nil_append, List.cons_append]
  gi_wp2_with fail
  generalize ((w.alloc (.cells #[.int .i64 t2.what, .int .i64 t2.pick, .int .i64 t2.m.fr, .int .i64 t2.m.to, .slice A2 q2 c2] 47)).alloc (.cells #[.bool false] 4)) = w1 at *
  refine ⟨trivial, (callsIn_wide.2 HF'.out).mono ?_⟩
  rintro e w' ⟨rfl, rfl⟩
  gi_wp2_with fail
  refine ⟨trivial, (callsIn_wide.2 HF2.out).mono ?_⟩
  rintro e w' ⟨rfl, rfl⟩
  have hal : Below w1.heap.size w1 (w1.alloc (.cells #[.int .i64 t2.what, .int .i64 t2.pick, .int .i64 t2.m.fr, .int .i64 t2.m.to, .slice A2 q2 c2] 47)) := (Below.refl _ _).alloc (Nat.le_refl _) _
  have hw2 := hw1.alloc hw1.size (.cells #[.int .i64 t2.what, .int .i64 t2.pick, .int .i64 t2.m.fr, .int .i64 t2.m.to, .slice A2 q2 c2] 47)
  have kr2 := kr.alloc (.cells #[.int .i64 t2.what, .int .i64 t2.pick, .int .i64 t2.m.fr, .int .i64 t2.m.to, .slice A2 q2 c2] 47)
  have kx2 := kx.alloc (.cells #[.int .i64 t2.what, .int .i64 t2.pick, .int .i64 t2.m.fr, .int .i64 t2.m.to, .slice A2 q2 c2] 47)
  have hz1 := Nat.le_of_eq HZ1.out
  have hz1b := Nat.le_of_eq HZ1.out.symm
  have HX2 : Hid (AcAt (w1.alloc (.cells #[.int .i64 t2.what, .int .i64 t2.pick, .int .i64 t2.m.fr, .int .i64 t2.m.to, .slice A2 q2 c2] 47)) (fun b => w1.heap.size ≤ b) t2 #[.int .i64 t2.what, .int .i64 t2.pick, .int .i64 t2.m.fr, .int .i64 t2.m.to, .slice A2 q2 c2]) := Lib.hid ((HX.out.wide (X' := fun b => w1.heap.size ≤ b) (fun b hb e => absurd e (by omega))).keep (Turn.of_below hal No) (fun _ _ e => e.elim))
  have HB2 := Lib.hid (HB1.out.below hal)
  have hz12 := hal.size
  clear HF' HF2 kr kx x0 x1 x2 x3 x4 hal HX HB1
  generalize w1.alloc (.cells #[.int .i64 t2.what, .int .i64 t2.pick, .int .i64 t2.m.fr, .int .i64 t2.m.to, .slice A2 q2 c2] 47) = w2 at *
  have HPL := Lib.hid (played_any (cap := cap1) (w := w2) (r := r) (by omega) (by omega) HB2.out hl100 HSHORT.out)
  gi_wp2_with fail
  refine ⟨trivial, (callsIn_wide.2 HPL.out).mono ?_⟩
  rintro e w3 ⟨g, cs, S, s, rfl, hN3, hR3, hS, hb3, hcm⟩
  obtain ⟨A, n, c, rfl⟩ := hR3.three
  have hz3 := hb3.size
  have HSl := Lib.hid (fun b => hN3.lt (b := b))
  have hal : Below w3.heap.size w3 (w3.alloc (.cells #[.int .i64 (s.most : Int), .slice A n c, .int .i64 (s.came : Int)] 28)) := (Below.refl _ _).alloc (Nat.le_refl _) _
  have kw4 : Blk (w3.alloc (.cells #[.int .i64 (s.most : Int), .slice A n c, .int .i64 (s.came : Int)] 28)) w3.heap.size 28 #[.int .i64 (s.most : Int), .slice A n c, .int .i64 (s.came : Int)] := Blk.new _ _ _
  have hN4 := hN3.below hal
  have HR4 : Hid (RAt (w3.alloc (.cells #[.int .i64 (s.most : Int), .slice A n c, .int .i64 (s.came : Int)] 28)) (fun b => S b ∨ w3.heap.size ≤ b) s #[.int .i64 (s.most : Int), .slice A n c, .int .i64 (s.came : Int)]) := Lib.hid ((hR3.wide (X' := fun b => S b ∨ w3.heap.size ≤ b) (fun b hb e => e.elim id (fun e => absurd e (by omega)))).below hal)
  have hw3 := hw2.trans (hb3.mono hw2.size)
  have hw4 := hw3.trans (hal.mono hw3.size)
  have kr4 := (kr2.below hb3 kr2.lt).below hal (by have := kr2.lt; omega)
  have kx4 := (kx2.below hb3 kx2.lt).below hal (by have := kx2.lt; omega)
  have HX4 : Hid (AcAt (w3.alloc (.cells #[.int .i64 (s.most : Int), .slice A n c, .int .i64 (s.came : Int)] 28)) (fun b => w1.heap.size ≤ b) t2 #[.int .i64 t2.what, .int .i64 t2.pick, .int .i64 t2.m.fr, .int .i64 t2.m.to, .slice A2 q2 c2]) := Lib.hid ((HX2.out.keep (Turn.of_below hb3 No) (fun _ _ e => e.elim)).keep (Turn.of_below hal No) (fun _ _ e => e.elim))
  have hz4 : w3.heap.size < (w3.alloc (.cells #[.int .i64 (s.most : Int), .slice A n c, .int .i64 (s.came : Int)] 28)).heap.size := kw4.lt
  have hcm' := hcm
  have HSB := Lib.hid (fun b e => Nat.le_trans hz12 (hS b e))
  have HSB2 := Lib.hid hS
  clear hN3 hR3 hS hb3 hal kr2 kx2 HX2 HB2 HPL hw2 hw3
  gi_wp2_with fail
  generalize w3.alloc (.cells #[.int .i64 (s.most : Int), .slice A n c, .int .i64 (s.came : Int)] 28) = w4 at *
  refine ⟨trivial, (callsIn_wide.2 (copy_any hN4)).mono ?_⟩
  rintro e w5 ⟨gN, SN, rfl, hNN5, hSN, hb5⟩
  have hz5 := hb5.size
  have hN5 := hN4.below hb5
  have HSN := Lib.hid (fun b => hNN5.lt (b := b))
  obtain ⟨m, hA5⟩ := hN5
  gi_wp2_with fail
  refine ⟨trivial, (callsIn_wide.2 (all_at hA5)).mono ?_⟩
  rintro e w6 ⟨mN, rfl, hcb6, hM6, hmN, hb6⟩
  have hz6 := hb6.size
  have hA6 := hA5.below hb6
  have hNN6 := hNN5.below hb6
  have hsame := same_any ⟨m, hA6⟩ hNN6
  rw [sameS_refl] at hsame
  clear hN4 hA5 hNN5
  gi_wp2_with fail
  refine ⟨trivial, (callsIn_wide.2 hsame).mono ?_⟩
  rintro e w7 ⟨rfl, hb7⟩
  have hz7 := hb7.size
  have hb47 : Below w4.heap.size w4 w7 := (hb5.trans (hb6.mono hz5)).trans (hb7.mono (by omega))
  have hA7 := hA6.below hb7
  have hNN7 := hNN6.below hb7
  have hM7 := hM6.below hb7
  have hcbl : w5.heap.size < w6.heap.size := block_lt_of_cell hcb6
  have hcb7 := (hb7.cell (p := ⟨w5.heap.size, 0, none⟩) hcbl).trans hcb6
  have hml6 := hM6.lt
  have kr7 := kr4.below hb47 kr4.lt
  have kx7 := kx4.below hb47 kx4.lt
  have kw7 := kw4.below hb47 kw4.lt
  have HR7 := Lib.hid (HR4.out.below hb47)
  have HX7 : Hid (AcAt w7 (fun b => w1.heap.size ≤ b) t2 #[.int .i64 t2.what, .int .i64 t2.pick, .int .i64 t2.m.fr, .int .i64 t2.m.to, .slice A2 q2 c2]) := Lib.hid (HX4.out.keep (Turn.of_below hb47 No) (fun _ _ e => e.elim))
  have hw7 := hw4.trans (hb47.mono hw4.size)
  clear hsame hA6 hNN6 hM6 hcb6 kr4 kx4 kw4 HR4 HX4 hb47 hw4 hb5 hb6 hb7
  obtain ⟨x0, x1, x2, x3, x4⟩ := kx7.five
  obtain ⟨k0, k1, k2⟩ := kw7.three
  gi_wp2_with fail
  refine ⟨trivial, (callsIn_wide.2 (act_keeps (X := fun b => w3.heap.size ≤ b ∧ b < w7.heap.size) hA7 (HR7.out.wide (fun b _ e => e.elim .inl (fun e => .inr e.1))) (fun b e => e.2) (HX7.out.wide (fun b _ e => HSB.out b e)) (by omega) (by omega))).mono ?_⟩
  rintro e w8 ⟨cs8, rfl, S8, hS81, hS82, hT8, hN8, hR8⟩
  obtain ⟨A8, n8, c8, rfl⟩ := hR8.three
  have hz8 := hT8.size
  have hmS := hA7.m_in
  have hgS := hA7.g_in
  have hm3 := HSl.out m hmS
  have hg3 := HSl.out g hgS
  have hm2 := HSB2.out m hmS
  have hg2' := HSB2.out g hgS
  have hno : ∀ b, w3.heap.size ≤ b → ¬ (b = m ∨ b = g) := fun b hb e => by omega
  have hno2 : ∀ b, b < w2.heap.size → ¬ (b = m ∨ b = g) := fun b hb e => by omega
  have hrl : w.heap.size + 1 < w2.heap.size := by omega
  have kr8 := kr7.keep hT8 (hno2 _ hrl)
  have kw8 := kw7.keep hT8 (hno _ (Nat.le_refl _))
  have hcb8 := (hT8.cell (p := ⟨w5.heap.size, 0, none⟩) (show w5.heap.size < _ by omega) (hno _ (show w3.heap.size ≤ w5.heap.size by omega))).trans hcb7
  have hM8 := hM7.keep hT8 (fun b _ e => .inr e) (hno _ (by omega))
  have hNN8 := hNN7.keep hT8 (fun b _ e e' => hno b (by have := hSN b e'; omega) e)
  have HR8w : Hid (RAt w8 (fun b => S b ∨ w3.heap.size ≤ b) s #[.int .i64 (s.most : Int), .slice A n c, .int .i64 (s.came : Int)]) := Lib.hid (HR7.out.keep hT8 (fun b _ e => .inl (e.elim (fun e => by subst e; exact hmS) (fun e => by subst e; exact hgS))))
  have hw8 := hw7.trans (hT8.below hw7.size (fun b e => by have := hw7.size; omega))
  have hbA : Below w8.heap.size w8 ((w8.alloc (.cells #[.int .i64 ((s.next t2).most : Int), .slice A8 n8 c8, .int .i64 ((s.next t2).came : Int)] 28)).alloc (.cells #[.int .i64 0] 3)) := ((Below.refl _ _).alloc (Nat.le_refl _) _).alloc (by simp) _
  have kn9 : Blk ((w8.alloc (.cells #[.int .i64 ((s.next t2).most : Int), .slice A8 n8 c8, .int .i64 ((s.next t2).came : Int)] 28)).alloc (.cells #[.int .i64 0] 3)) w8.heap.size 28 #[.int .i64 ((s.next t2).most : Int), .slice A8 n8 c8, .int .i64 ((s.next t2).came : Int)] := (Blk.new _ _ _).alloc _
  have ka9 : Blk ((w8.alloc (.cells #[.int .i64 ((s.next t2).most : Int), .slice A8 n8 c8, .int .i64 ((s.next t2).came : Int)] 28)).alloc (.cells #[.int .i64 0] 3)) (w8.heap.size + 1) 3 #[.int .i64 0] := blk_new _ 3 _ (by simp)
  have HZ9 : Hid (((w8.alloc (.cells #[.int .i64 ((s.next t2).most : Int), .slice A8 n8 c8, .int .i64 ((s.next t2).came : Int)] 28)).alloc (.cells #[.int .i64 0] 3)).heap.size = w8.heap.size + 2) := Lib.hid (by simp)
  have kr9 := kr8.below hbA kr8.lt
  have kw9 := kw8.below hbA kw8.lt
  have hcb9 := (hbA.cell (p := ⟨w5.heap.size, 0, none⟩) (show w5.heap.size < _ by omega)).trans hcb8
  have hM9 := hM8.below hbA
  have hNN9 := hNN8.below hbA
  have hN9 := hN8.below hbA
  have HR9 := Lib.hid (HR8w.out.below hbA)
  have HR9n := Lib.hid ((hR8.wide (X' := fun b => S8 b ∨ w8.heap.size ≤ b) (fun b hb e => e.elim .inl (fun e => absurd e (by omega)))).below hbA)
  have hw9 := hw8.trans (hbA.mono hw8.size)
  have HS8 := Lib.hid (fun b => hN8.lt (b := b))
  clear x0 x1 x2 x3 x4 k0 k1 k2 kr7 kw7 kx7 hcb7 hM7 hNN7 HR7 HX7 hw7 hA7 kr8 kw8 hcb8 hM8 hNN8 HR8w hw8 hbA hR8 hN8 hno hno2 hS81 hT8
  gi_wp2_with fail
  generalize ((w8.alloc (.cells #[.int .i64 ((s.next t2).most : Int), .slice A8 n8 c8, .int .i64 ((s.next t2).came : Int)] 28)).alloc (.cells #[.int .i64 0] 3)) = w9 at *
  obtain ⟨A', n', c', hee, hI9, hnc9, hcm9⟩ := HR9.out
  simp at hee
  obtain ⟨rfl, rfl, rfl⟩ := hee
  have hlen := hI9.len
  subst hlen
  have hok := hNN9.ok
  have HSH := Lib.hid hok.short
  have hl4 : s.l.length ≤ 4096 := Nat.le_trans hok.len hok.hi
  have hz9 := Nat.le_of_eq HZ9.out
  have hz9b := Nat.le_of_eq HZ9.out.symm
  have hatl : w8.heap.size + 1 < w9.heap.size := ka9.lt
  have hc63 : c ≤ 9223372036854775807 := by unfold maxLen at hcm9; omega
  refine range_u (Ab := Turn (fun b => w9.heap.size + 2 ≤ b)) rfl (by omega) (gf := 39) (lb := #[.pointer (some ⟨w5.heap.size, 0, none⟩)]) rfl trivial (enters_of Try.func39 (by kernel_rfl) rfl)
    (all_in (5 - 1) (by omega) w5.heap.size mN s.l (fun b => ¬ S b ∨ b = m ∨ b = g) (fun b => b = (w8.heap.size + 1)) w9 hcb9 hM9 (fun b e => ⟨by omega, by omega, .inl (fun q => by have := HSl.out b q; omega)⟩) (fun b e => by omega) (fun p hp => by have := HSH.out p hp; omega))
    (fun h h' => h.trans h' (fun _ _ e => e)) (fun x B C ht hz => ht.mono (fun b _ e => .inl (.inr e))) (fun k x B hv => by obtain ⟨p, Am, q, cm, _, e, _⟩ := hv; rw [e]; rfl)
    (fun B C b ht e hb => ht.block b hb (fun q => by rcases e with e | e <;> omega))
    (IsI (w8.heap.size + 1) w9) (fun _ _ _ => False)
    (fun k B C hi ht => hi.keep ht (fun b e => two_ge e) hatl) (fun c k B C hi ht => hi.elim)
    (fun k B C hi ht => hi.keep ht (fun b e => by omega) hatl) (fun c k B C hi ht => hi.elim)
    ⟨Turn.refl _ _, ka9⟩
    (fun x => { tmps := #[.int .i64 (r : Int), .slice a1 len1 cap1, .agg #[.int .i64 t2.what, .int .i64 t2.pick, .int .i64 t2.m.fr, .int .i64 t2.m.to, .slice A2 q2 c2], undef, undef, .pointer (some ⟨w.heap.size, 0, none⟩), .pointer (some ⟨w.heap.size + 1, 0, none⟩), .pointer (some ⟨g, 0, none⟩), .pointer (some ⟨w3.heap.size, 0, none⟩), .bool true, .pointer (some ⟨gN, 0, none⟩), .func (.func 39) #[] #[.pointer (some ⟨w5.heap.size, 0, none⟩)], .pointer (some ⟨w8.heap.size, 0, none⟩), .bool true, .pointer (some ⟨w8.heap.size + 1, 0, none⟩), x.getD 0 undef, undef, undef, undef, undef, undef, .int .i64 (r : Int), .bool false, .bool false, .int .i64 (r : Int), .bool false, .bool false, .bool false, .slice a1 len1 cap1, .bool true, .bool false, .bool false, .bool false, .agg #[.int .i64 t2.what, .int .i64 t2.pick, .int .i64 t2.m.fr, .int .i64 t2.m.to, .slice A2 q2 c2], .slice (some ⟨w1.heap.size, 0, none⟩) 1 1, .bool true, .bool false, .bool false, undef, .tuple #[.pointer (some ⟨g, 0, none⟩), .agg #[.int .i64 (s.most : Int), .slice A s.l.length c, .int .i64 (s.came : Int)], .bool true], .int .i64 (r : Int), .slice a1 len1 cap1, .tuple #[.pointer (some ⟨g, 0, none⟩), .agg #[.int .i64 (s.most : Int), .slice A s.l.length c, .int .i64 (s.came : Int)], .bool true], .pointer (some ⟨g, 0, none⟩), .agg #[.int .i64 (s.most : Int), .slice A s.l.length c, .int .i64 (s.came : Int)], .bool true, .pointer (some ⟨g, 0, none⟩), .pointer (some ⟨gN, 0, none⟩), .pointer (some ⟨g, 0, none⟩), .func (.func 39) #[] #[.pointer (some ⟨w5.heap.size, 0, none⟩)], .bool true, .bool false, .bool false, .pointer (some ⟨g, 0, none⟩), .pointer (some ⟨gN, 0, none⟩), .bool true, .bool false, .bool false, .tuple #[.agg #[.int .i64 ((s.next t2).most : Int), .slice A8 n8 c8, .int .i64 ((s.next t2).came : Int)], .bool true], .pointer (some ⟨g, 0, none⟩), .agg #[.int .i64 (s.most : Int), .slice A s.l.length c, .int .i64 (s.came : Int)], .agg #[.int .i64 t2.what, .int .i64 t2.pick, .int .i64 t2.m.fr, .int .i64 t2.m.to, .slice A2 q2 c2], .tuple #[.agg #[.int .i64 ((s.next t2).most : Int), .slice A8 n8 c8, .int .i64 ((s.next t2).came : Int)], .bool true], .agg #[.int .i64 ((s.next t2).most : Int), .slice A8 n8 c8, .int .i64 ((s.next t2).came : Int)], .bool true, .func (.func 39) #[] #[.pointer (some ⟨w5.heap.size, 0, none⟩)], x.getD 0 undef, x.getD 1 undef, undef, undef, undef, undef, undef, undef, undef, undef, undef, undef, undef, undef, undef, undef, undef, undef, undef, undef, undef, undef, undef, undef, undef, undef, undef, undef, undef, undef, undef, undef, undef, undef, undef, undef, undef, undef, undef, undef, undef, undef, undef, undef, undef, undef, undef, undef, undef, undef, undef, undef, undef, undef, undef, undef, undef, undef, undef, undef, undef, undef, undef, undef, undef, undef, undef, undef, undef, undef, undef], defers := [] })
    ?assign ?body ?done ?stop
  case assign =>
    intro li k x B K hk hv hK
    obtain ⟨p, Am, q, cm, _, rfl, _⟩ := hv
    gi_wp2
    exact hK
  case stop => exact fun c k B _ h => h.elim
  case body =>
    intro li k x B0 B hI0 hk hv hbB0 hTB
    obtain ⟨p, Am, q, cm, hp, rfl, ho0, hnw⟩ := hv
    have hpk : s.l[k] = p := by
      have := List.getElem?_eq_getElem hk
      rw [hp] at this
      injection this with this
      exact this.symm
    have hIB := hI0.keep hTB (fun b e => two_ge e) hatl
    obtain ⟨hT2, hat⟩ := hIB
    have m0 := kw9.keep hT2 (by omega)
    have hItB := hI9.keep hT2 (fun b _ e => .inr (by omega))
    obtain ⟨ad, Ar, qr, cr, hAe, hadl, hadx, hbr, r0, r1, r2, r3⟩ := hItB.at_ hk
    rw [hpk] at r0
    have g0 : (#[Value.int IntKind.i64 p.1, Value.agg #[.int .i64 p.2.fr, .int .i64 p.2.to, .slice Am q cm]]).getD 0 undef = .int .i64 p.1 := rfl
    have g1 : (#[Value.int IntKind.i64 p.1, Value.agg #[.int .i64 p.2.fr, .int .i64 p.2.to, .slice Am q cm]]).getD 1 undef = .agg #[.int .i64 p.2.fr, .int .i64 p.2.to, .slice Am q cm] := rfl
    rw [g0, g1]
    obtain ⟨e0, e1, e2⟩ := m0.three
    have a0 : B.cell? ⟨w8.heap.size + 1, 0, none⟩ = some (.int .i64 (k : Int)) := hat.cell 0
    have af : B.frozen? ⟨w8.heap.size + 1, 0, none⟩ = false := hat.frozen 0
    have hk0 : ((k : Nat) : Int) < ((s.l.length : Nat) : Int) := by omega
    have hkd : decide (((s.l.length : Nat) : Int) ≤ ((k : Nat) : Int)) = false := by simp; omega
    have HTB := Lib.hid hT2
    have HAT := Lib.hid hat
    have hzB := hTB.size
    have hatB := hat.lt
    have hnum : ((p.1 : Int) == p.1) = true := by simp
    rw [hAe] at e1
    clear g0 g1 hTB hI0 ho0 hp hpk hT2 hat m0 hItB hbr r1 r2 r3 hnw hadx
    generalize p.1 = num at *
    gi_wp2_with fail
    have hT3 : Turn (fun b => b = w8.heap.size + 1) B (B.setCell ⟨w8.heap.size + 1, 0, none⟩ (.int .i64 ((k : Int) + 1))) := (Turn.refl (fun b => b = w8.heap.size + 1) B).setCell (p := ⟨w8.heap.size + 1, 0, none⟩) (fun _ => rfl) _
    have hset := HAT.out.set_ 0 (.int .i64 ((k : Int) + 1))
    exact ⟨Both.of_turn hT3 (by omega) (by omega) (by omega), hT3.mono (fun b _ e => .inl (.inl e)), HTB.out.trans hT3 (fun _ _ e => e), hset⟩
  case done =>
    intro B hI hd
    obtain ⟨hT2, hat⟩ := hI
    have hne : ∀ b, b ≤ w8.heap.size → ¬ b = w8.heap.size + 1 := fun b hb => by omega
    have kwB := kw9.keep hT2 (hne _ (by omega))
    have knB := kn9.keep hT2 (hne _ (by omega))
    have krB := kr9.keep hT2 (hne _ (by omega))
    have hNNB := hNN9.keep hT2 (fun b _ e e' => hne b (by have := HSN.out b e'; omega) e)
    have hNB := hN9.keep hT2 (fun b _ e e' => hne b (by have := HS8.out b e'; omega) e)
    have HRB := Lib.hid (HR9.out.keep hT2 (fun b _ e => .inr (by omega)))
    have HRNB := Lib.hid (HR9n.out.keep hT2 (fun b _ e => .inr (by omega)))
    have HD := Lib.hid hd
    have hdl := lt_of_heap hd
    have HWB := Lib.hid (hw9.trans (hT2.below hw9.size (fun b e => by have := hw9.size; omega)))
    have a0 : B.cell? ⟨w8.heap.size + 1, 0, none⟩ = some (.int .i64 ((s.l.length : Nat) : Int)) := hat.cell 0
    have hatl2 := hat.lt
    obtain ⟨u0, u1, u2⟩ := kwB.three
    obtain ⟨v0, v1, v2⟩ := knB.three
    have hzB := hT2.size
    have hcmp : sameS (s.next t2) s = sameS s (s.next t2) := by rw [Bool.eq_iff_iff, sameS_iff, sameS_iff]; exact eq_comm
    have HCMP := Lib.hid hcmp
    clear kw9 kn9 kr9 hNN9 hN9 HR9 HR9n hM9 hcb9 ka9 hT2 hat hw9 hI9 hd hcmp
    gi_wp2_with fail
    refine ⟨trivial, (callsIn_wide.2 (refSame_any HRB.out HRNB.out)).mono ?_⟩
    rintro e w11 ⟨rfl, b11⟩
    generalize hbb : sameS s (s.next t2) = bb
    have HBB := Lib.hid hbb
    clear hbb
    gi_wp2_with fail
    refine ⟨trivial, (callsIn_wide.2 (new_yes 1 w11 (by omega) (by omega))).mono ?_⟩
    rintro e w12 ⟨gA, SA, rfl, hNA, hSA, b12⟩
    gi_wp2_with fail
    refine ⟨trivial, (callsIn_wide.2 (new_yes 2 w12 (by omega) (by omega))).mono ?_⟩
    rintro e w13 ⟨gB, SB, rfl, hNBB, hSB, b13⟩
    have z11 := b11.size
    have z12 := b12.size
    have z13 := b13.size
    have B13 : Below B.heap.size B w13 := (b11.trans (b12.mono z11)).trans (b13.mono (by omega))
    have kw13 := kwB.below B13 kwB.lt
    have kn13 := knB.below B13 knB.lt
    have a13 := (B13.cell (p := ⟨w8.heap.size + 1, 0, none⟩) hatl2).trans a0
    clear u0 u1 u2 v0 v1 v2
    obtain ⟨u0, u1, u2⟩ := kw13.three
    obtain ⟨v0, v1, v2⟩ := kn13.three
    gi_wp2_with fail
    refine ⟨trivial, (callsIn_wide.2 (is_any (hNNB.below B13) (HRB.out.below B13))).mono ?_⟩
    rintro e w14 ⟨rfl, b14⟩
    have z14 := b14.size
    have B14 : Below B.heap.size B w14 := B13.trans (b14.mono (by omega))
    have kn14 := knB.below B14 knB.lt
    clear v0 v1 v2 u0 u1 u2 kn13 kw13 a13
    obtain ⟨v0, v1, v2⟩ := kn14.three
    gi_wp2_with fail
    refine ⟨trivial, (callsIn_wide.2 (is_any (hNB.below B14) (HRNB.out.below B14))).mono ?_⟩
    rintro e w15 ⟨rfl, b15⟩
    have z15 := b15.size
    have B15 : Below B.heap.size B w15 := B14.trans (b15.mono (by omega))
    have hs15 := same_any (hNB.below B15) (hNNB.below B15)
    rw [HCMP.out, HBB.out] at hs15
    clear v0 v1 v2 kn14
    gi_wp2_with fail
    refine ⟨trivial, (callsIn_wide.2 hs15).mono ?_⟩
    rintro e w16 ⟨rfl, b16⟩
    have z16 := b16.size
    have B16 : Below B.heap.size B w16 := B15.trans (b16.mono (by omega))
    have hs16 := same_any (hNNB.below B16) (hNB.below B16)
    rw [HBB.out] at hs16
    have hbt : (bb == bb) = true := by simp
    gi_wp2_with fail
    refine ⟨trivial, (callsIn_wide.2 hs16).mono ?_⟩
    rintro e w17 ⟨rfl, b17⟩
    have z17 := b17.size
    have B17 : Below B.heap.size B w17 := B16.trans (b17.mono (by omega))
    have b1317 : Below w13.heap.size w13 w17 := ((b14.trans (b15.mono z14)).trans (b16.mono (by omega))).trans (b17.mono (by omega))
    have hs17 := same_any ((hNA.below b13).below b1317) (hNBB.below b1317)
    rw [sameS_no (fun e => by injection e with e; omega)] at hs17
    gi_wp2_with fail
    refine ⟨trivial, (callsIn_wide.2 hs17).mono ?_⟩
    rintro e w18 ⟨rfl, b18⟩
    have z18 := b18.size
    have B18 : Below B.heap.size B w18 := B17.trans (b18.mono (by omega))
    gi_wp2_with fail
    refine ⟨trivial, (callsIn_wide.2 (works_any w18)).mono ?_⟩
    rintro e w19 ⟨rfl, b19⟩
    have z19 := b19.size
    have B19 : Below B.heap.size B w19 := B18.trans (b19.mono (by omega))
    have kr19 := krB.below B19 krB.lt
    have r0 : w19.cell? ⟨w.heap.size + 1, 0, none⟩ = some (.bool false) := kr19.cell 0
    have rf : w19.frozen? ⟨w.heap.size + 1, 0, none⟩ = false := kr19.frozen 0
    have hd19 : w19.heap[w9.heap.size]? = some (.deferred (some [])) := (B19.block _ hdl).trans HD.out
    have hw19 := HWB.out.trans (B19.mono HWB.out.size)
    clear hs15 hs16 hs17 hNB hNNB knB kwB krB hNA hNBB b11 b12 b13 b14 b15 b16 b17 b18 b19 b1317 B13 B14 B15 B16 B17 B18 a0
    gi_wp2_with fail
    have hT20 : Turn (fun b => b = w.heap.size + 1) w19 (w19.setCell ⟨w.heap.size + 1, 0, none⟩ (.bool true)) := (Turn.refl (fun b => b = w.heap.size + 1) w19).setCell (p := ⟨w.heap.size + 1, 0, none⟩) (fun _ => rfl) _
    have kr20 := kr19.set_ 0 (.bool true)
    have hd20 := (hT20.block w9.heap.size (by omega) (by have := hw19.size; omega)).trans hd19
    have hw20 := hw19.trans (hT20.below hw19.size (fun b e => by omega))
    generalize w19.setCell ⟨w.heap.size + 1, 0, none⟩ (.bool true) = w20 at *
    have hc20 : (w20.putObj w9.heap.size (.deferred none)).cell? ⟨w.heap.size + 1, 0, none⟩ = some (.bool true) := ((turn_putObj w20 w9.heap.size (.deferred none) (S := fun b => b = w9.heap.size) rfl).cell (p := ⟨w.heap.size + 1, 0, none⟩) kr20.lt (show ¬ w.heap.size + 1 = _ by omega)).trans (kr20.cell 0)
    have hb20 : Below w.heap.size w (w20.putObj w9.heap.size (.deferred none)) := hw20.trans ((turn_putObj w20 w9.heap.size (.deferred none) (S := fun b => b = w9.heap.size) rfl).below hw20.size (fun b e => by omega))
    refine ⟨by simp, .inl ⟨_, _, rfl, run_takeDeferred hd20, ?_⟩⟩
    refine ⟨.bool true, ?_, rfl, hb20⟩
    generalize w20.putObj w9.heap.size (.deferred none) = w21 at *
    simp [results, Try.results5, go_sem, hc20]

set_option maxRecDepth 100000 in
theorem lifted (os : Os) (started : os.Started) (H : Type) (enc : TypeId × Value → H) :
    ReturnsInHanded {} Try.checked os 5 .any (Rows.netCopiesSpec.pre6 enc Try.prog Try.f5 Rows.netCopiesRow.domain false) (Rows.netCopiesSpec.post enc Try.prog Try.f5 false true false false) := by
  refine returnsInHanded_of_change (C := Try.checked) own started (by kernel_rfl) Try.func5
    (ChangeSpec.witness6 (enc := enc) (C := Try.checked) false ⟨#[], #[.int .i64 0, .slice none 0 0, .agg #[.int .i64 0, .int .i64 0, .int .i64 0, .int .i64 0, .slice none 0 0]], []⟩ 8 (by kernel_rfl) (by kernel_rfl) (by kernel_rfl) (by kernel_rfl)) ?_
  intro W base args ds gs before hval0 hW hcnd _
  have hval : ∀ (j : Nat) t v, Try.f5.params[j]? = some t → args[j]? = some v → Value.okWide Try.prog W .any base t v := hval0
  have hW' := hW
  obtain ⟨p, q, hA0, hV, rfl, hfz, hnd⟩ := hW
  have hA : DataW.TrodAll enc Try.prog W 0 (fun _ => true) true Try.f5.params.toList args.toList ds p := hA0
  rw [Try.params5] at hA hval
  obtain ⟨v0, vs0, d0, ds0, p0, q0, hargs, rfl, rfl, h0, r0⟩ := trodAll_cons hA
  obtain ⟨v1, vs1, d1, ds1, p1, q1, rfl, rfl, rfl, h1, r1⟩ := trodAll_cons r0
  obtain ⟨v2, vs2, d2, ds2, p2, q2, rfl, rfl, rfl, h2, r2⟩ := trodAll_cons r1
  obtain ⟨rfl, rfl, rfl⟩ := trodAll_nil r2
  obtain rfl : args = #[v0, v1, v2] := by cases args; simp_all
  obtain ⟨rfl, rfl⟩ := trodVars_none hV
  have k0 := h0
  have lt0 : ∀ x ∈ p0, x.block < W.heap.size := by obtain ⟨m, hm⟩ := k0; exact DataW.trod_lt m _ _ _ hm
  obtain ⟨n0, rfl, rfl, rfl, wf0⟩ := open_int Try.underlying3 (hval 0 3 v0 rfl rfl) h0
  have k1 := h1
  have lt1 : ∀ x ∈ p1, x.block < W.heap.size := by obtain ⟨m, hm⟩ := k1; exact DataW.trod_lt m _ _ _ hm
  obtain ⟨a1, len1, cap1, rfl⟩ := okWide_slice Try.underlying22 (hval 1 22 v1 rfl rfl)
  obtain ⟨⟨xs1, b1⟩, hc1, hm1⟩ := open_acs h1
  have k2 := h2
  have lt2 : ∀ x ∈ p2, x.block < W.heap.size := by obtain ⟨m, hm⟩ := k2; exact DataW.trod_lt m _ _ _ hm
  obtain ⟨t2, cs2, rfl, b2⟩ := open_ac (hval 2 47 v2 rfl rfl) h2
  clear hA0 hval0
  refine (walk n0 a1 len1 cap1 xs1 t2 cs2 W (i64_bounds wf0) b1 hc1 hm1 b2).mono fun e W' ⟨he, bel⟩ => ?_
  subst he
  exact ⟨_, rfl, _, _, _, [], _, [], hW', trodAll_mk1 (shut_bool Try.underlying4 _), (trodAll_cons_mk (Below.trod laidOut (by kernel_rfl) (of_decide_eq_true (by kernel_rfl)) k0 bel lt0) (trodAll_cons_mk (Below.trod laidOut (by kernel_rfl) (of_decide_eq_true (by kernel_rfl)) k1 bel lt1) (trodAll_cons_mk (Below.trod laidOut (by kernel_rfl) (of_decide_eq_true (by kernel_rfl)) k2 bel lt2) trodAll_mk0))), rfl, bel.frame _, fun h => by cases h⟩

theorem over : Rows.netCopiesRow.holds Try.pinned (OpenSpec.ofChange Rows.netCopiesSpec) :=
  OpenClaim.holds_of_wide 5 Try.f5 rfl rfl rfl rfl rfl rfl rfl ⟨rfl, rfl, rfl, rfl, rfl⟩ rfl rfl rfl rfl rfl (by kernel_rfl) Try.func5 (by kernel_rfl)
    (of_decide_eq_true (by kernel_rfl)) (by unfold Func.isWrapper; first | (rw [if_pos (by decide +kernel)]; kernel_rfl) | (rw [if_neg (by decide +kernel)]; exact ⟨rfl, rfl⟩))
    (fun os started H enc _ => lifted os started H enc)

theorem proved : Rows.NetCopiesSaid := over
end Go.Proofs.Yticabfmjdjcfnaa.netCopies
namespace Go.Proofs.Yticabfmjdjcfnaa
theorem netCopies_holds : Rows.NetCopiesSaid := netCopies.proved
#print axioms netCopies_holds
end Go.Proofs.Yticabfmjdjcfnaa
