/-
  waystationlaw05.act, where a message is doubled or dropped: by both, and both tell the same. Conditions: bounds.
-/
import Derived.Test.YticabfmjdjcfnaaWithout
namespace Go.Proofs.Yticabfmjdjcfnaa
open Go.RowKit
set_option linter.unusedVariables false
theorem putC_own {s : St} (h : s.ok) {p : Int × Msg} (hp : p ∈ s.l) : putC s p.2 = if s.l.length < s.most then 0 else 150 := by
  have h1 := h.place p hp
  have h2 := h.short p hp
  have a1 : isPl p.2.fr = true := isPl_iff.2 ⟨h1.1, h1.2.1⟩
  have a2 : isPl p.2.to = true := isPl_iff.2 ⟨h1.2.2.1, h1.2.2.2⟩
  by_cases hr : s.l.length < s.most
  · rw [if_pos hr]; exact putC_ok a1 a2 h2 hr
  · rw [if_neg hr]; exact putC_crowd a1 a2 h2 (by omega)
theorem dup_all {w : World} {S : Nat → Prop} {g : Nat} {s : St} (h : Nt w S g s) {k num : Int} {m : Msg} (hi : s.l[pick k s.l.length]? = some (num, m)) (hc : s.came ≤ 1000000000) : Calls Try.prog 23 #[.pointer (some ⟨g, 0, none⟩), .int .i64 k] w (PutC w S g s m) := by
  have hp := putC_own h.ok (List.mem_of_getElem? hi)
  by_cases hr : s.l.length < s.most
  · rw [if_pos hr] at hp
    obtain ⟨e1, e2⟩ := putA_yes hp
    refine (dup_some h hi hr hc).mono ?_
    rintro e w' ⟨rfl, hw⟩
    exact ⟨by rw [e2, hp], by rw [e1]; exact hw⟩
  · rw [if_neg hr] at hp
    refine (dup_crowd h hi (by omega)).mono ?_
    rintro e w' ⟨rfl, hb⟩
    exact PutC.no hp (by omega) h hb
theorem its_nth {w : World} {X : Nat → Prop} {A : Option Addr} {n : Nat} {l : Row} (h : Its w X A n l) {k : Nat} {num : Int} {m : Msg} (hk : l[k]? = some (num, m)) : ∃ ad Am q c, A = some ad ∧ ad.block < w.heap.size ∧ ¬ X ad.block ∧ Bys w X Am q m.b ∧
    w.cell? (ad.add (k * 4)) = some (.int .i64 num) ∧ w.cell? ⟨(ad.add (k * 4)).block, (ad.add (k * 4)).off + 1, none⟩ = some (.int .i64 m.fr) ∧ w.cell? ⟨(ad.add (k * 4)).block, (ad.add (k * 4)).off + 2, none⟩ = some (.int .i64 m.to) ∧ w.cell? ⟨(ad.add (k * 4)).block, (ad.add (k * 4)).off + 3, none⟩ = some (.slice Am q c) := by
  obtain ⟨hlt, e⟩ := List.getElem?_eq_some_iff.1 hk
  have := h.at_ hlt
  rw [e] at this
  exact this
theorem pickI_zero (k : Int) {n : Nat} (h : n = 0) : pickI k n = -1 := by unfold pickI; rw [if_pos h]
theorem pickI_pos (k : Int) {n : Nat} (h : n ≠ 0) : pickI k n = (pick k n : Int) := by unfold pickI; rw [if_neg h]
set_option maxRecDepth 100000 in
set_option maxHeartbeats 16000000 in
theorem act_dup0 {w : World} {S X : Nat → Prop} {g : Nat} {s : St} {cs ccs : Array Value} {x : Ac} (hN : Nt w S g s) (hR : RAt w (fun b => S b ∨ X b) s cs) (hX : ∀ b, X b → b < w.heap.size) (hx : AcAt w S x ccs) (hw0 : (x.what == 0) = false) (hw2 : (x.what == 2) = true) (hl0 : s.l.length = 0) : Calls Try.prog 16 #[.pointer (some ⟨g, 0, none⟩), .agg cs, .agg ccs] w (ActP w S X g s) := by
  obtain ⟨A, n, c, rfl, hIt, hnc, hcm⟩ := hR
  have hlen := hIt.len
  obtain ⟨Ab, qb, cb, rfl, hby, hqb, hcb, i1, i2, i3, i4⟩ := hx
  have hok := hN.ok
  have hl4 : n ≤ 4096 := by rw [← hlen]; exact Nat.le_trans hok.len hok.hi
  have HSL := Lib.hid (fun b => hN.lt (b := b))
  have k0 : Blk (((w.alloc (.cells #[.int .i64 (s.most : Int), .slice A n c, .int .i64 (s.came : Int)] 28)).alloc (.cells #[.int .i64 x.what, .int .i64 x.pick, .int .i64 x.m.fr, .int .i64 x.m.to, .slice Ab qb cb] 47)).alloc (.cells #[.int .i64 0, .slice none 0 0, .int .i64 0] 28)) w.heap.size 28 #[.int .i64 (s.most : Int), .slice A n c, .int .i64 (s.came : Int)] := ((Blk.new _ _ _).alloc _).alloc _
  have k1 : Blk (((w.alloc (.cells #[.int .i64 (s.most : Int), .slice A n c, .int .i64 (s.came : Int)] 28)).alloc (.cells #[.int .i64 x.what, .int .i64 x.pick, .int .i64 x.m.fr, .int .i64 x.m.to, .slice Ab qb cb] 47)).alloc (.cells #[.int .i64 0, .slice none 0 0, .int .i64 0] 28)) (w.heap.size + 1) 47 #[.int .i64 x.what, .int .i64 x.pick, .int .i64 x.m.fr, .int .i64 x.m.to, .slice Ab qb cb] := (blk_new _ 47 _ (by simp)).alloc _
  have k2 : Blk (((w.alloc (.cells #[.int .i64 (s.most : Int), .slice A n c, .int .i64 (s.came : Int)] 28)).alloc (.cells #[.int .i64 x.what, .int .i64 x.pick, .int .i64 x.m.fr, .int .i64 x.m.to, .slice Ab qb cb] 47)).alloc (.cells #[.int .i64 0, .slice none 0 0, .int .i64 0] 28)) (w.heap.size + 1 + 1) 28 #[.int .i64 0, .slice none 0 0, .int .i64 0] := blk_new _ 28 _ (by simp)
  have hb1 : Below w.heap.size w (((w.alloc (.cells #[.int .i64 (s.most : Int), .slice A n c, .int .i64 (s.came : Int)] 28)).alloc (.cells #[.int .i64 x.what, .int .i64 x.pick, .int .i64 x.m.fr, .int .i64 x.m.to, .slice Ab qb cb] 47)).alloc (.cells #[.int .i64 0, .slice none 0 0, .int .i64 0] 28)) := (((Below.refl _ _).alloc (Nat.le_refl _) _).alloc (by simp) _).alloc (by simp; omega) _
  have HZ1 : Hid ((((w.alloc (.cells #[.int .i64 (s.most : Int), .slice A n c, .int .i64 (s.came : Int)] 28)).alloc (.cells #[.int .i64 x.what, .int .i64 x.pick, .int .i64 x.m.fr, .int .i64 x.m.to, .slice Ab qb cb] 47)).alloc (.cells #[.int .i64 0, .slice none 0 0, .int .i64 0] 28)).heap.size = w.heap.size + 3) := Lib.hid (by simp)
  have HR := Lib.hid (show RAt w (fun b => S b ∨ X b) s #[.int .i64 (s.most : Int), .slice A n c, .int .i64 (s.came : Int)] from ⟨A, n, c, rfl, hIt, hnc, hcm⟩)
  have HN := Lib.hid hN
  have HBY := Lib.hid hby
  have HOK := Lib.hid hok
  have HLEN := Lib.hid hlen
  clear hIt hN hby hok hlen
  obtain ⟨c0, c1, c2⟩ := k0.three
  obtain ⟨d0, d1, d2, d3, d4⟩ := k1.five
  have hm1 := hcm
  unfold maxLen at hm1
  go_enter Try.func16, Try.ntmps16
  go_wp2_with fail
  generalize (((w.alloc (.cells #[.int .i64 (s.most : Int), .slice A n c, .int .i64 (s.came : Int)] 28)).alloc (.cells #[.int .i64 x.what, .int .i64 x.pick, .int .i64 x.m.fr, .int .i64 x.m.to, .slice Ab qb cb] 47)).alloc (.cells #[.int .i64 0, .slice none 0 0, .int .i64 0] 28)) = w1 at *
  refine (refPick_all _ _ A n c x.pick w1 (by omega)).mono ?_
  rintro e w2 ⟨rfl, hb2⟩
  have hz1 : w1.heap.size = w.heap.size + 3 := HZ1.out
  have HZ := Lib.hid hz1
  have hz2 := hb2.size
  have k0 := k0.below hb2 k0.lt
  have k1 := k1.below hb2 k1.lt
  have k2 := k2.below hb2 k2.lt
  have hbw := hb1.trans (hb2.mono hb1.size)
  have hzw : w.heap.size + 3 ≤ w2.heap.size := by omega
  clear c0 c1 c2 d0 d1 d2 d3 d4 hb1 hb2 HZ1 hz1 hz2
  obtain ⟨c0, c1, c2⟩ := k0.three
  obtain ⟨d0, d1, d2, d3, d4⟩ := k1.five
  have HL0 := Lib.hid hl0
  rw [pickI_zero x.pick (show n = 0 by rw [← HLEN.out]; exact hl0)]
  clear hl0
  go_wp2_with fail
  refine (dup_none (HN.out.keep (T := No) (Turn.of_below hbw No) (fun _ _ h => h.elim)) x.pick HL0.out).mono ?_
  rintro e w3 ⟨rfl, hb3⟩
  have m0 := k0.below hb3 k0.lt
  have m2 := k2.below hb3 k2.lt
  have hbw3 := hbw.trans (hb3.mono hbw.size)
  clear c0 c1 c2 d0 d1 d2 d3 d4 k0 k1 k2 hb3
  obtain ⟨c0, c1, c2⟩ := m0.three
  go_wp2_with fail
  refine wp_region_np ?_
  refine wp_region_held_drew (S := fun W => Blk W w.heap.size 28 #[.int .i64 (s.most : Int), .slice A n c, .int .i64 (s.came : Int)]) (by kernel_rfl) m0.drew (fun hHeld => ?_)
  refine wpAnyH_takeAt (i := 0) (d := 108) (v := ?vq0x) rfl rfl (by kernel_rfl) (by kernel_rfl) (by kernel_rfl) (fun _ _ _ h => h) (Or.inl ⟨by rfl, ?hyq0x⟩) hHeld ?_
  case hyq0x =>
    intro W hSw
    obtain ⟨s0, s1, s2⟩ := (show Blk W w.heap.size 28 #[.int .i64 (s.most : Int), .slice A n c, .int .i64 (s.came : Int)] from hSw).three
    (go_simp; try with_reducible rfl)
  simp only [List.setIfInBounds_toArray, List.set_cons_zero, List.set_cons_succ]
  refine wpAnyH_takeAt (i := 1) (d := 109) (v := ?vq1x) rfl rfl (by kernel_rfl) (by kernel_rfl) (by kernel_rfl) (fun _ _ _ h => h) (Or.inl ⟨by rfl, ?hyq1x⟩) hHeld ?_
  case hyq1x =>
    intro W hSw
    clear hSw
    (go_simp; try with_reducible rfl)
  simp only [List.setIfInBounds_toArray, List.set_cons_zero, List.set_cons_succ]
  refine wpAnyH_takeAt (i := 2) (d := 110) (v := .bool true) rfl rfl (by kernel_rfl) (by kernel_rfl) (by kernel_rfl) (fun _ _ _ h => h) (Or.inl ⟨by rfl, ?hyq2x⟩) hHeld ?_
  case hyq2x =>
    intro W hSw
    clear hSw
    go_simp
    all_goals (first | with_reducible rfl | (simp; done) | (simp; omega))
  simp only [List.setIfInBounds_toArray, List.set_cons_zero, List.set_cons_succ]
  refine wpAnyH_takeAt (i := 3) (d := 111) (v := ?vq3x) rfl rfl (by kernel_rfl) (by kernel_rfl) (by kernel_rfl) (fun _ _ _ h => h) (Or.inl ⟨by rfl, ?hyq3x⟩) hHeld ?_
  case hyq3x =>
    intro W hSw
    clear hSw
    (go_simp; try with_reducible rfl)
  simp only [List.setIfInBounds_toArray, List.set_cons_zero, List.set_cons_succ]
  refine wpAnyH_takeAt (i := 4) (d := 112) (v := ?vq4x) rfl rfl (by kernel_rfl) (by kernel_rfl) (by kernel_rfl) (fun _ _ _ h => h) (Or.inl ⟨by rfl, ?hyq4x⟩) hHeld ?_
  case hyq4x =>
    intro W hSw
    clear hSw
    (go_simp; try with_reducible rfl)
  simp only [List.setIfInBounds_toArray, List.set_cons_zero, List.set_cons_succ]
  refine wpAnyH_ready (rs := [5]) (by kernel_rfl) (by simp) (AllReadyH.cons rfl (fun K hK => ?_) AllReadyH.nil)
  go_simp
  refine (num_any _ _).mono ?_
  rintro e w' ⟨rfl, rfl⟩
  dsimp only
  refine hK.out _ _ (show Blk _ w.heap.size 28 #[.int .i64 (s.most : Int), .slice A n c, .int .i64 (s.came : Int)] from m0.drew) (fun hHeld => ?_)
  clear hK K
  try simp only [List.setIfInBounds_toArray, List.set_cons_zero, List.set_cons_succ]
  refine wpAnyH_takeAt (i := 6) (d := 114) (v := .bool true) rfl rfl (by kernel_rfl) (by kernel_rfl) (by kernel_rfl) (fun _ _ _ h => h) (Or.inl ⟨by rfl, ?hyq5x⟩) hHeld ?_
  case hyq5x =>
    intro W hSw
    clear hSw
    go_simp
    all_goals (first | with_reducible rfl | (simp; done) | (simp; omega))
  simp only [List.setIfInBounds_toArray, List.set_cons_zero, List.set_cons_succ]
  refine wpAnyH_takeAt (i := 7) (d := 115) (v := ?vq6x) rfl rfl (by kernel_rfl) (by kernel_rfl) (by kernel_rfl) (fun _ _ _ h => h) (Or.inl ⟨by rfl, ?hyq6x⟩) hHeld ?_
  case hyq6x =>
    intro W hSw
    clear hSw
    (go_simp; try with_reducible rfl)
  simp only [List.setIfInBounds_toArray, List.set_cons_zero, List.set_cons_succ]
  refine wpAnyH_ready (rs := [8]) (by kernel_rfl) (by simp) (AllReadyH.cons rfl (fun K hK => ?_) AllReadyH.nil)
  refine step_store_blk (by rfl) rfl 28 _ _ rfl (w.heap.size + 1 + 1) _ #[.int .i64 (s.most : Int), .slice A n c, .int .i64 (s.came : Int)] rfl rfl 28 m2.drew rfl (info28 _ rfl) (by simp [Value.oneCell']) ?_
  intro wz fz gz sz
  refine hK.out _ _ (show Blk wz w.heap.size 28 #[.int .i64 (s.most : Int), .slice A n c, .int .i64 (s.came : Int)] from (m0.drew).grown gz (by omega)) (fun hHeld => ?_)
  clear hK K
  try simp only [List.setIfInBounds_toArray, List.set_cons_zero, List.set_cons_succ]
  refine wpAnyH_takeAt (i := 9) (d := 7) (v := ?vq7x) rfl rfl (by kernel_rfl) (by kernel_rfl) (by kernel_rfl) (fun _ _ _ h => h) (Or.inl ⟨by rfl, ?hyq7x⟩) hHeld ?_
  case hyq7x =>
    intro W hSw
    clear hSw
    (go_simp; try with_reducible rfl)
  simp only [List.setIfInBounds_toArray, List.set_cons_zero, List.set_cons_succ]
  refine wpAnyH_done (by kernel_rfl) ?_ _
  go_wp2_with fail
  refine bodyPost_ret (v := .tuple #[.agg #[.int .i64 (s.most : Int), .slice A n c, .int .i64 (s.came : Int)], .bool true]) (results_ct (by rfl) _ _ (w.heap.size + 1 + 1) 28 _ (0, 0) _ (by rfl) fz Try.underlying28 (by rfl) (info28 _ rfl) (by rfl)) rfl ?_
  have hTz : Turn (fun b => b = w.heap.size + 1 + 1) w3 wz := Turn.of_grown (show w3.grownBy wz (some (w.heap.size + 1 + 1)) from ⟨gz.os, gz.tape, gz.output, gz.size, gz.block⟩) (fun r e => by injection e with e; exact e.symm)
  have hN3 := HN.out.keep (T := No) (Turn.of_below hbw3 No) (fun _ _ h => h.elim)
  have hR3 : RAt w3 (fun b => (S b ∨ X b) ∨ (w.heap.size ≤ b ∧ b < w.heap.size + 3)) s #[.int .i64 (s.most : Int), .slice A n c, .int .i64 (s.came : Int)] := (HR.out.wide (fun b hb e => e.elim id (fun e => absurd e.1 (by omega)))).keep (S := No) (Turn.of_below hbw3 No) (fun _ _ h => h.elim)
  exact ⟨_, rfl, S, fun _ e => e, fun _ e => .inl e, (Turn.of_below hbw3 S).trans hTz (fun b hb e => by omega), hN3.keep hTz (fun b _ e e' => by have := HSL.out b e'; omega), (hR3.keep hTz (fun b _ e => .inr (by omega))).wide (fun b _ e => .inl e)⟩
set_option maxRecDepth 100000 in
set_option maxHeartbeats 16000000 in
theorem act_drop0 {w : World} {S X : Nat → Prop} {g : Nat} {s : St} {cs ccs : Array Value} {x : Ac} (hN : Nt w S g s) (hR : RAt w (fun b => S b ∨ X b) s cs) (hX : ∀ b, X b → b < w.heap.size) (hx : AcAt w S x ccs) (hw0 : (x.what == 0) = false) (hw2 : (x.what == 2) = false) (hw3 : (x.what == 3) = true) (hl0 : s.l.length = 0) : Calls Try.prog 16 #[.pointer (some ⟨g, 0, none⟩), .agg cs, .agg ccs] w (ActP w S X g s) := by
  obtain ⟨A, n, c, rfl, hIt, hnc, hcm⟩ := hR
  have hlen := hIt.len
  obtain ⟨Ab, qb, cb, rfl, hby, hqb, hcb, i1, i2, i3, i4⟩ := hx
  have hok := hN.ok
  have hl4 : n ≤ 4096 := by rw [← hlen]; exact Nat.le_trans hok.len hok.hi
  have HSL := Lib.hid (fun b => hN.lt (b := b))
  have k0 : Blk (((w.alloc (.cells #[.int .i64 (s.most : Int), .slice A n c, .int .i64 (s.came : Int)] 28)).alloc (.cells #[.int .i64 x.what, .int .i64 x.pick, .int .i64 x.m.fr, .int .i64 x.m.to, .slice Ab qb cb] 47)).alloc (.cells #[.int .i64 0, .slice none 0 0, .int .i64 0] 28)) w.heap.size 28 #[.int .i64 (s.most : Int), .slice A n c, .int .i64 (s.came : Int)] := ((Blk.new _ _ _).alloc _).alloc _
  have k1 : Blk (((w.alloc (.cells #[.int .i64 (s.most : Int), .slice A n c, .int .i64 (s.came : Int)] 28)).alloc (.cells #[.int .i64 x.what, .int .i64 x.pick, .int .i64 x.m.fr, .int .i64 x.m.to, .slice Ab qb cb] 47)).alloc (.cells #[.int .i64 0, .slice none 0 0, .int .i64 0] 28)) (w.heap.size + 1) 47 #[.int .i64 x.what, .int .i64 x.pick, .int .i64 x.m.fr, .int .i64 x.m.to, .slice Ab qb cb] := (blk_new _ 47 _ (by simp)).alloc _
  have k2 : Blk (((w.alloc (.cells #[.int .i64 (s.most : Int), .slice A n c, .int .i64 (s.came : Int)] 28)).alloc (.cells #[.int .i64 x.what, .int .i64 x.pick, .int .i64 x.m.fr, .int .i64 x.m.to, .slice Ab qb cb] 47)).alloc (.cells #[.int .i64 0, .slice none 0 0, .int .i64 0] 28)) (w.heap.size + 1 + 1) 28 #[.int .i64 0, .slice none 0 0, .int .i64 0] := blk_new _ 28 _ (by simp)
  have hb1 : Below w.heap.size w (((w.alloc (.cells #[.int .i64 (s.most : Int), .slice A n c, .int .i64 (s.came : Int)] 28)).alloc (.cells #[.int .i64 x.what, .int .i64 x.pick, .int .i64 x.m.fr, .int .i64 x.m.to, .slice Ab qb cb] 47)).alloc (.cells #[.int .i64 0, .slice none 0 0, .int .i64 0] 28)) := (((Below.refl _ _).alloc (Nat.le_refl _) _).alloc (by simp) _).alloc (by simp; omega) _
  have HZ1 : Hid ((((w.alloc (.cells #[.int .i64 (s.most : Int), .slice A n c, .int .i64 (s.came : Int)] 28)).alloc (.cells #[.int .i64 x.what, .int .i64 x.pick, .int .i64 x.m.fr, .int .i64 x.m.to, .slice Ab qb cb] 47)).alloc (.cells #[.int .i64 0, .slice none 0 0, .int .i64 0] 28)).heap.size = w.heap.size + 3) := Lib.hid (by simp)
  have HR := Lib.hid (show RAt w (fun b => S b ∨ X b) s #[.int .i64 (s.most : Int), .slice A n c, .int .i64 (s.came : Int)] from ⟨A, n, c, rfl, hIt, hnc, hcm⟩)
  have HN := Lib.hid hN
  have HBY := Lib.hid hby
  have HOK := Lib.hid hok
  have HLEN := Lib.hid hlen
  clear hIt hN hby hok hlen
  obtain ⟨c0, c1, c2⟩ := k0.three
  obtain ⟨d0, d1, d2, d3, d4⟩ := k1.five
  have hm1 := hcm
  unfold maxLen at hm1
  go_enter Try.func16, Try.ntmps16
  go_wp2_with fail
  generalize (((w.alloc (.cells #[.int .i64 (s.most : Int), .slice A n c, .int .i64 (s.came : Int)] 28)).alloc (.cells #[.int .i64 x.what, .int .i64 x.pick, .int .i64 x.m.fr, .int .i64 x.m.to, .slice Ab qb cb] 47)).alloc (.cells #[.int .i64 0, .slice none 0 0, .int .i64 0] 28)) = w1 at *
  refine (refPick_all _ _ A n c x.pick w1 (by omega)).mono ?_
  rintro e w2 ⟨rfl, hb2⟩
  have hz1 : w1.heap.size = w.heap.size + 3 := HZ1.out
  have HZ := Lib.hid hz1
  have hz2 := hb2.size
  have k0 := k0.below hb2 k0.lt
  have k1 := k1.below hb2 k1.lt
  have k2 := k2.below hb2 k2.lt
  have hbw := hb1.trans (hb2.mono hb1.size)
  have hzw : w.heap.size + 3 ≤ w2.heap.size := by omega
  clear c0 c1 c2 d0 d1 d2 d3 d4 hb1 hb2 HZ1 hz1 hz2
  obtain ⟨c0, c1, c2⟩ := k0.three
  obtain ⟨d0, d1, d2, d3, d4⟩ := k1.five
  have HL0 := Lib.hid hl0
  rw [pickI_zero x.pick (show n = 0 by rw [← HLEN.out]; exact hl0)]
  clear hl0
  go_wp2_with fail
  refine (drop_none (HN.out.keep (T := No) (Turn.of_below hbw No) (fun _ _ h => h.elim)) x.pick HL0.out).mono ?_
  rintro e w3 ⟨rfl, hb3⟩
  have m0 := k0.below hb3 k0.lt
  have m2 := k2.below hb3 k2.lt
  have hbw3 := hbw.trans (hb3.mono hbw.size)
  clear c0 c1 c2 d0 d1 d2 d3 d4 k0 k1 k2 hb3
  obtain ⟨c0, c1, c2⟩ := m0.three
  go_wp2_with fail
  refine wp_region_np ?_
  refine wp_region_held_drew (S := fun W => Blk W w.heap.size 28 #[.int .i64 (s.most : Int), .slice A n c, .int .i64 (s.came : Int)]) (by kernel_rfl) m0.drew (fun hHeld => ?_)
  refine wpAnyH_takeAt (i := 0) (d := 149) (v := ?vq8x) rfl rfl (by kernel_rfl) (by kernel_rfl) (by kernel_rfl) (fun _ _ _ h => h) (Or.inl ⟨by rfl, ?hyq8x⟩) hHeld ?_
  case hyq8x =>
    intro W hSw
    obtain ⟨s0, s1, s2⟩ := (show Blk W w.heap.size 28 #[.int .i64 (s.most : Int), .slice A n c, .int .i64 (s.came : Int)] from hSw).three
    (go_simp; try with_reducible rfl)
  simp only [List.setIfInBounds_toArray, List.set_cons_zero, List.set_cons_succ]
  refine wpAnyH_takeAt (i := 1) (d := 150) (v := ?vq9x) rfl rfl (by kernel_rfl) (by kernel_rfl) (by kernel_rfl) (fun _ _ _ h => h) (Or.inl ⟨by rfl, ?hyq9x⟩) hHeld ?_
  case hyq9x =>
    intro W hSw
    clear hSw
    (go_simp; try with_reducible rfl)
  simp only [List.setIfInBounds_toArray, List.set_cons_zero, List.set_cons_succ]
  refine wpAnyH_takeAt (i := 2) (d := 151) (v := .bool true) rfl rfl (by kernel_rfl) (by kernel_rfl) (by kernel_rfl) (fun _ _ _ h => h) (Or.inl ⟨by rfl, ?hyq10x⟩) hHeld ?_
  case hyq10x =>
    intro W hSw
    clear hSw
    go_simp
    all_goals (first | with_reducible rfl | (simp; done) | (simp; omega))
  simp only [List.setIfInBounds_toArray, List.set_cons_zero, List.set_cons_succ]
  refine wpAnyH_takeAt (i := 3) (d := 152) (v := ?vq11x) rfl rfl (by kernel_rfl) (by kernel_rfl) (by kernel_rfl) (fun _ _ _ h => h) (Or.inl ⟨by rfl, ?hyq11x⟩) hHeld ?_
  case hyq11x =>
    intro W hSw
    clear hSw
    (go_simp; try with_reducible rfl)
  simp only [List.setIfInBounds_toArray, List.set_cons_zero, List.set_cons_succ]
  refine wpAnyH_takeAt (i := 4) (d := 153) (v := ?vq12x) rfl rfl (by kernel_rfl) (by kernel_rfl) (by kernel_rfl) (fun _ _ _ h => h) (Or.inl ⟨by rfl, ?hyq12x⟩) hHeld ?_
  case hyq12x =>
    intro W hSw
    clear hSw
    (go_simp; try with_reducible rfl)
  simp only [List.setIfInBounds_toArray, List.set_cons_zero, List.set_cons_succ]
  refine wpAnyH_ready (rs := [5]) (by kernel_rfl) (by simp) (AllReadyH.cons rfl (fun K hK => ?_) AllReadyH.nil)
  go_simp
  refine (num_any _ _).mono ?_
  rintro e w' ⟨rfl, rfl⟩
  dsimp only
  refine hK.out _ _ (show Blk _ w.heap.size 28 #[.int .i64 (s.most : Int), .slice A n c, .int .i64 (s.came : Int)] from m0.drew) (fun hHeld => ?_)
  clear hK K
  try simp only [List.setIfInBounds_toArray, List.set_cons_zero, List.set_cons_succ]
  refine wpAnyH_takeAt (i := 6) (d := 155) (v := .bool true) rfl rfl (by kernel_rfl) (by kernel_rfl) (by kernel_rfl) (fun _ _ _ h => h) (Or.inl ⟨by rfl, ?hyq13x⟩) hHeld ?_
  case hyq13x =>
    intro W hSw
    clear hSw
    go_simp
    all_goals (first | with_reducible rfl | (simp; done) | (simp; omega))
  simp only [List.setIfInBounds_toArray, List.set_cons_zero, List.set_cons_succ]
  refine wpAnyH_takeAt (i := 7) (d := 156) (v := ?vq14x) rfl rfl (by kernel_rfl) (by kernel_rfl) (by kernel_rfl) (fun _ _ _ h => h) (Or.inl ⟨by rfl, ?hyq14x⟩) hHeld ?_
  case hyq14x =>
    intro W hSw
    clear hSw
    (go_simp; try with_reducible rfl)
  simp only [List.setIfInBounds_toArray, List.set_cons_zero, List.set_cons_succ]
  refine wpAnyH_ready (rs := [8]) (by kernel_rfl) (by simp) (AllReadyH.cons rfl (fun K hK => ?_) AllReadyH.nil)
  refine step_store_blk (by rfl) rfl 28 _ _ rfl (w.heap.size + 1 + 1) _ #[.int .i64 (s.most : Int), .slice A n c, .int .i64 (s.came : Int)] rfl rfl 28 m2.drew rfl (info28 _ rfl) (by simp [Value.oneCell']) ?_
  intro wz fz gz sz
  refine hK.out _ _ (show Blk wz w.heap.size 28 #[.int .i64 (s.most : Int), .slice A n c, .int .i64 (s.came : Int)] from (m0.drew).grown gz (by omega)) (fun hHeld => ?_)
  clear hK K
  try simp only [List.setIfInBounds_toArray, List.set_cons_zero, List.set_cons_succ]
  refine wpAnyH_takeAt (i := 9) (d := 7) (v := ?vq15x) rfl rfl (by kernel_rfl) (by kernel_rfl) (by kernel_rfl) (fun _ _ _ h => h) (Or.inl ⟨by rfl, ?hyq15x⟩) hHeld ?_
  case hyq15x =>
    intro W hSw
    clear hSw
    (go_simp; try with_reducible rfl)
  simp only [List.setIfInBounds_toArray, List.set_cons_zero, List.set_cons_succ]
  refine wpAnyH_done (by kernel_rfl) ?_ _
  go_wp2_with fail
  refine bodyPost_ret (v := .tuple #[.agg #[.int .i64 (s.most : Int), .slice A n c, .int .i64 (s.came : Int)], .bool true]) (results_ct (by rfl) _ _ (w.heap.size + 1 + 1) 28 _ (0, 0) _ (by rfl) fz Try.underlying28 (by rfl) (info28 _ rfl) (by rfl)) rfl ?_
  have hTz : Turn (fun b => b = w.heap.size + 1 + 1) w3 wz := Turn.of_grown (show w3.grownBy wz (some (w.heap.size + 1 + 1)) from ⟨gz.os, gz.tape, gz.output, gz.size, gz.block⟩) (fun r e => by injection e with e; exact e.symm)
  have hN3 := HN.out.keep (T := No) (Turn.of_below hbw3 No) (fun _ _ h => h.elim)
  have hR3 : RAt w3 (fun b => (S b ∨ X b) ∨ (w.heap.size ≤ b ∧ b < w.heap.size + 3)) s #[.int .i64 (s.most : Int), .slice A n c, .int .i64 (s.came : Int)] := (HR.out.wide (fun b hb e => e.elim id (fun e => absurd e.1 (by omega)))).keep (S := No) (Turn.of_below hbw3 No) (fun _ _ h => h.elim)
  exact ⟨_, rfl, S, fun _ e => e, fun _ e => .inl e, (Turn.of_below hbw3 S).trans hTz (fun b hb e => by omega), hN3.keep hTz (fun b _ e e' => by have := HSL.out b e'; omega), (hR3.keep hTz (fun b _ e => .inr (by omega))).wide (fun b _ e => .inl e)⟩
set_option maxRecDepth 100000 in
set_option maxHeartbeats 16000000 in
theorem act_drop1 {w : World} {S X : Nat → Prop} {g : Nat} {s : St} {cs ccs : Array Value} {x : Ac} (hN : Nt w S g s) (hR : RAt w (fun b => S b ∨ X b) s cs) (hX : ∀ b, X b → b < w.heap.size) (hx : AcAt w S x ccs) (hw0 : (x.what == 0) = false) (hw2 : (x.what == 2) = false) (hw3 : (x.what == 3) = true) {num : Int} {m : Msg} (hi : s.l[pick x.pick s.l.length]? = some (num, m)) : Calls Try.prog 16 #[.pointer (some ⟨g, 0, none⟩), .agg cs, .agg ccs] w (ActP w S X g (s.cut (pick x.pick s.l.length))) := by
  obtain ⟨A, n, c, rfl, hIt, hnc, hcm⟩ := hR
  have hlen := hIt.len
  obtain ⟨Ab, qb, cb, rfl, hby, hqb, hcb, i1, i2, i3, i4⟩ := hx
  have hok := hN.ok
  have hl4 : n ≤ 4096 := by rw [← hlen]; exact Nat.le_trans hok.len hok.hi
  have HSL := Lib.hid (fun b => hN.lt (b := b))
  have k0 : Blk (((w.alloc (.cells #[.int .i64 (s.most : Int), .slice A n c, .int .i64 (s.came : Int)] 28)).alloc (.cells #[.int .i64 x.what, .int .i64 x.pick, .int .i64 x.m.fr, .int .i64 x.m.to, .slice Ab qb cb] 47)).alloc (.cells #[.int .i64 0, .slice none 0 0, .int .i64 0] 28)) w.heap.size 28 #[.int .i64 (s.most : Int), .slice A n c, .int .i64 (s.came : Int)] := ((Blk.new _ _ _).alloc _).alloc _
  have k1 : Blk (((w.alloc (.cells #[.int .i64 (s.most : Int), .slice A n c, .int .i64 (s.came : Int)] 28)).alloc (.cells #[.int .i64 x.what, .int .i64 x.pick, .int .i64 x.m.fr, .int .i64 x.m.to, .slice Ab qb cb] 47)).alloc (.cells #[.int .i64 0, .slice none 0 0, .int .i64 0] 28)) (w.heap.size + 1) 47 #[.int .i64 x.what, .int .i64 x.pick, .int .i64 x.m.fr, .int .i64 x.m.to, .slice Ab qb cb] := (blk_new _ 47 _ (by simp)).alloc _
  have k2 : Blk (((w.alloc (.cells #[.int .i64 (s.most : Int), .slice A n c, .int .i64 (s.came : Int)] 28)).alloc (.cells #[.int .i64 x.what, .int .i64 x.pick, .int .i64 x.m.fr, .int .i64 x.m.to, .slice Ab qb cb] 47)).alloc (.cells #[.int .i64 0, .slice none 0 0, .int .i64 0] 28)) (w.heap.size + 1 + 1) 28 #[.int .i64 0, .slice none 0 0, .int .i64 0] := blk_new _ 28 _ (by simp)
  have hb1 : Below w.heap.size w (((w.alloc (.cells #[.int .i64 (s.most : Int), .slice A n c, .int .i64 (s.came : Int)] 28)).alloc (.cells #[.int .i64 x.what, .int .i64 x.pick, .int .i64 x.m.fr, .int .i64 x.m.to, .slice Ab qb cb] 47)).alloc (.cells #[.int .i64 0, .slice none 0 0, .int .i64 0] 28)) := (((Below.refl _ _).alloc (Nat.le_refl _) _).alloc (by simp) _).alloc (by simp; omega) _
  have HZ1 : Hid ((((w.alloc (.cells #[.int .i64 (s.most : Int), .slice A n c, .int .i64 (s.came : Int)] 28)).alloc (.cells #[.int .i64 x.what, .int .i64 x.pick, .int .i64 x.m.fr, .int .i64 x.m.to, .slice Ab qb cb] 47)).alloc (.cells #[.int .i64 0, .slice none 0 0, .int .i64 0] 28)).heap.size = w.heap.size + 3) := Lib.hid (by simp)
  have HR := Lib.hid (show RAt w (fun b => S b ∨ X b) s #[.int .i64 (s.most : Int), .slice A n c, .int .i64 (s.came : Int)] from ⟨A, n, c, rfl, hIt, hnc, hcm⟩)
  have HN := Lib.hid hN
  have HBY := Lib.hid hby
  have HOK := Lib.hid hok
  have HLEN := Lib.hid hlen
  clear hIt hN hby hok hlen
  obtain ⟨c0, c1, c2⟩ := k0.three
  obtain ⟨d0, d1, d2, d3, d4⟩ := k1.five
  have hm1 := hcm
  unfold maxLen at hm1
  go_enter Try.func16, Try.ntmps16
  go_wp2_with fail
  generalize (((w.alloc (.cells #[.int .i64 (s.most : Int), .slice A n c, .int .i64 (s.came : Int)] 28)).alloc (.cells #[.int .i64 x.what, .int .i64 x.pick, .int .i64 x.m.fr, .int .i64 x.m.to, .slice Ab qb cb] 47)).alloc (.cells #[.int .i64 0, .slice none 0 0, .int .i64 0] 28)) = w1 at *
  refine (refPick_all _ _ A n c x.pick w1 (by omega)).mono ?_
  rintro e w2 ⟨rfl, hb2⟩
  have hz1 : w1.heap.size = w.heap.size + 3 := HZ1.out
  have HZ := Lib.hid hz1
  have hz2 := hb2.size
  have k0 := k0.below hb2 k0.lt
  have k1 := k1.below hb2 k1.lt
  have k2 := k2.below hb2 k2.lt
  have hbw := hb1.trans (hb2.mono hb1.size)
  have hzw : w.heap.size + 3 ≤ w2.heap.size := by omega
  clear c0 c1 c2 d0 d1 d2 d3 d4 hb1 hb2 HZ1 hz1 hz2
  obtain ⟨c0, c1, c2⟩ := k0.three
  obtain ⟨d0, d1, d2, d3, d4⟩ := k1.five
  have HI := Lib.hid hi
  have hil : pick x.pick s.l.length < s.l.length := (List.getElem?_eq_some_iff.1 hi).1
  rw [pickI_pos x.pick (show n ≠ 0 by rw [← HLEN.out]; omega), ← HLEN.out]
  have hil2 : pick x.pick s.l.length < n := by rw [← HLEN.out]; exact hil
  have HIL := Lib.hid hil
  clear hi hil
  obtain ⟨i, hpi⟩ : ∃ i, i = pick x.pick s.l.length := ⟨_, rfl⟩
  have HPI := Lib.hid hpi
  rw [← hpi] at HI HIL hil2 ⊢
  clear hpi
  have hpin : decide ((i : Int) < 0) = false := by simp
  go_wp2_with fail
  refine (drop_some (HN.out.keep (T := No) (Turn.of_below hbw No) (fun _ _ h => h.elim)) (k := x.pick) (num := num) (m := m) (by rw [← HPI.out]; exact HI.out)).mono ?_
  rintro e w3 ⟨rfl, hT3, hN3⟩
  rw [← HPI.out] at hN3
  have hnS : ∀ b, w.heap.size ≤ b → ¬ S b := fun b h1 e => by have := HSL.out b e; omega
  have m0 := k0.keep hT3 (hnS _ (by omega))
  have m2 := k2.keep hT3 (hnS _ (by omega))
  have hz3 := hT3.size
  have hTw : Turn S w w3 := (Turn.of_below hbw S).trans hT3 (fun _ _ e => e)
  have hR3 : RAt w3 (fun b => (S b ∨ X b) ∨ (w.heap.size ≤ b ∧ b < w.heap.size + 3)) s #[.int .i64 (s.most : Int), .slice A n c, .int .i64 (s.came : Int)] := (HR.out.wide (fun b hb e => e.elim id (fun e => absurd e.1 (by omega)))).keep hTw (fun b _ e => .inl (.inl e))
  have hX3 : ∀ b, (fun b => (S b ∨ X b) ∨ (w.heap.size ≤ b ∧ b < w.heap.size + 3)) b → b < w3.heap.size := fun b e => by
    rcases e with (e | e) | e
    · have := HSL.out b e; omega
    · have := hX b e; omega
    · omega
  obtain ⟨Aq, nq, cq, ecs, hItq, _, _⟩ := hR3
  have hR3 : RAt w3 (fun b => (S b ∨ X b) ∨ (w.heap.size ≤ b ∧ b < w.heap.size + 3)) s #[.int .i64 (s.most : Int), .slice A n c, .int .i64 (s.came : Int)] := (HR.out.wide (fun b hb e => e.elim id (fun e => absurd e.1 (by omega)))).keep hTw (fun b _ e => .inl (.inl e))
  obtain ⟨rfl, rfl, rfl⟩ : A = Aq ∧ n = nq ∧ c = cq := by simpa using ecs
  obtain ⟨ad, Ar, qr, cr, rfl, hadl, -, -, hr0, -, -, -⟩ := its_nth hItq HI.out
  have hadz : (ad.add (i * 4)).block < w3.heap.size := by rw [block_of_add]; exact hadl
  have hadn : (ad.add (i * 4)).block ≠ w.heap.size + 1 + 1 := by
    obtain ⟨css, hrd, _, _⟩ := hItq
    obtain ⟨ad', e', _, hx', _⟩ := hrd.2.2 (by omega)
    injection e' with e'
    subst e'
    rw [block_of_add]
    exact fun e => hx' (.inr (by omega))
  have HBG := Lib.hid (And.intro hN3 (And.intro hTw hR3))
  have HX3 := Lib.hid hX3
  have hqi : ((i : Nat) : Int) < ((n : Nat) : Int) := by omega
  clear c0 c1 c2 d0 d1 d2 d3 d4 k0 k1 k2 hT3 hN3 hTw hR3 hItq hX3 hadl ecs hbw
  obtain ⟨c0, c1, c2⟩ := m0.three
  go_wp2_with fail
  refine wp_region_np ?_
  refine wp_region_held_drew (S := fun W => Blk W w.heap.size 28 #[.int .i64 (s.most : Int), .slice (some ad) n c, .int .i64 (s.came : Int)] ∧ W.cell? (ad.add (i * 4)) = some (.int .i64 num)) (by kernel_rfl) ⟨m0.drew, hr0⟩ (fun hHeld => ?_)
  refine wpAnyH_takeAt (i := 0) (d := 157) (v := ?vq16x) rfl rfl (by kernel_rfl) (by kernel_rfl) (by kernel_rfl) (fun _ _ _ h => h) (Or.inl ⟨by rfl, ?hyq16x⟩) hHeld ?_
  case hyq16x =>
    intro W hSw
    obtain ⟨sv, sn⟩ := hSw; obtain ⟨s0, s1, s2⟩ := sv.three; clear sv
    (go_simp; try with_reducible rfl)
  simp only [List.setIfInBounds_toArray, List.set_cons_zero, List.set_cons_succ]
  refine wpAnyH_takeAt (i := 1) (d := 158) (v := ?vq17x) rfl rfl (by kernel_rfl) (by kernel_rfl) (by kernel_rfl) (fun _ _ _ h => h) (Or.inl ⟨by rfl, ?hyq17x⟩) hHeld ?_
  case hyq17x =>
    intro W hSw
    clear hSw
    (go_simp; try with_reducible rfl)
  simp only [List.setIfInBounds_toArray, List.set_cons_zero, List.set_cons_succ]
  refine wpAnyH_takeAt (i := 3) (d := 160) (v := ?vq18x) rfl rfl (by kernel_rfl) (by kernel_rfl) (by kernel_rfl) (fun _ _ _ h => h) (Or.inl ⟨by rfl, ?hyq18x⟩) hHeld ?_
  case hyq18x =>
    intro W hSw
    clear hSw
    (go_simp; try with_reducible rfl)
  simp only [List.setIfInBounds_toArray, List.set_cons_zero, List.set_cons_succ]
  refine wpAnyH_takeAt (i := 4) (d := 161) (v := ?vq19x) rfl rfl (by kernel_rfl) (by kernel_rfl) (by kernel_rfl) (fun _ _ _ h => h) (Or.inl ⟨by rfl, ?hyq19x⟩) hHeld ?_
  case hyq19x =>
    intro W hSw
    clear hSw
    (go_simp; try with_reducible rfl)
  simp only [List.setIfInBounds_toArray, List.set_cons_zero, List.set_cons_succ]
  refine wpAnyH_takeAt (i := 5) (d := 162) (v := ?vq20x) rfl rfl (by kernel_rfl) (by kernel_rfl) (by kernel_rfl) (fun _ _ _ h => h) (Or.inl ⟨by rfl, ?hyq20x⟩) hHeld ?_
  case hyq20x =>
    intro W hSw
    obtain ⟨sv, sn⟩ := hSw; obtain ⟨s0, s1, s2⟩ := sv.three; clear sv
    (go_simp; try with_reducible rfl)
  simp only [List.setIfInBounds_toArray, List.set_cons_zero, List.set_cons_succ]
  refine wpAnyH_takeAt (i := 6) (d := 163) (v := ?vq21x) rfl rfl (by kernel_rfl) (by kernel_rfl) (by kernel_rfl) (fun _ _ _ h => h) (Or.inl ⟨by rfl, ?hyq21x⟩) hHeld ?_
  case hyq21x =>
    intro W hSw
    clear hSw
    (go_simp; try with_reducible rfl)
  simp only [List.setIfInBounds_toArray, List.set_cons_zero, List.set_cons_succ]
  refine wpAnyH_takeAt (i := 7) (d := 164) (v := ?vq22x) rfl rfl (by kernel_rfl) (by kernel_rfl) (by kernel_rfl) (fun _ _ _ h => h) (Or.inl ⟨by rfl, ?hyq22x⟩) hHeld ?_
  case hyq22x =>
    intro W hSw
    clear hSw
    (go_simp; try with_reducible rfl)
  simp only [List.setIfInBounds_toArray, List.set_cons_zero, List.set_cons_succ]
  refine wpAnyH_takeAt (i := 8) (d := 165) (v := ?vq23x) rfl rfl (by kernel_rfl) (by kernel_rfl) (by kernel_rfl) (fun _ _ _ h => h) (Or.inl ⟨by rfl, ?hyq23x⟩) hHeld ?_
  case hyq23x =>
    intro W hSw
    clear hSw
    (go_simp; try with_reducible rfl)
  simp only [List.setIfInBounds_toArray, List.set_cons_zero, List.set_cons_succ]
  refine wpAnyH_takeAt (i := 9) (d := 166) (v := ?vq24x) rfl rfl (by kernel_rfl) (by kernel_rfl) (by kernel_rfl) (fun _ _ _ h => h) (Or.inl ⟨by rfl, ?hyq24x⟩) hHeld ?_
  case hyq24x =>
    intro W hSw
    obtain ⟨sv, sn⟩ := hSw; obtain ⟨s0, s1, s2⟩ := sv.three; clear sv
    (go_simp; try with_reducible rfl)
  simp only [List.setIfInBounds_toArray, List.set_cons_zero, List.set_cons_succ]
  refine wpAnyH_takeAt (i := 10) (d := 167) (v := .bool true) rfl rfl (by kernel_rfl) (by kernel_rfl) (by kernel_rfl) (fun _ _ _ h => h) (Or.inl ⟨by rfl, ?hyq25x⟩) hHeld ?_
  case hyq25x =>
    intro W hSw
    clear hSw
    go_simp
    all_goals (first | with_reducible rfl | (simp; done) | (simp; omega))
  simp only [List.setIfInBounds_toArray, List.set_cons_zero, List.set_cons_succ]
  refine wpAnyH_ready (rs := [2]) (by kernel_rfl) (by simp) (AllReadyH.cons rfl (fun K hK => ?_) AllReadyH.nil)
  go_simp
  refine (without_any (w := w3.drew) (HBG.out.2.2.below (Below.refl _ _).drew) HX3.out HOK.out HIL.out).mono ?_
  rintro e w4 ⟨cs4, rfl, hR4, hb4⟩
  obtain ⟨A4, n4, c4, rfl⟩ := hR4.three
  dsimp only
  replace hb4 : Below w3.heap.size w3 w4 := ((Below.refl _ _).drew).trans hb4
  refine hK.out _ _ ⟨m0.below hb4 m0.lt, (hb4.cell (p := ad.add (i * 4)) hadz).trans hr0⟩ (fun hHeld => ?_)
  clear hK K
  try simp only [List.setIfInBounds_toArray, List.set_cons_zero, List.set_cons_succ]
  have m4 := m2.below hb4 m2.lt
  refine wpAnyH_takeAt (i := 11) (d := 168) (v := ?vq26x) rfl rfl (by kernel_rfl) (by kernel_rfl) (by kernel_rfl) (fun _ _ _ h => h) (Or.inl ⟨by rfl, ?hyq26x⟩) hHeld ?_
  case hyq26x =>
    intro W hSw
    clear hSw
    (go_simp; try with_reducible rfl)
  simp only [List.setIfInBounds_toArray, List.set_cons_zero, List.set_cons_succ]
  refine wpAnyH_takeAt (i := 12) (d := 169) (v := ?vq27x) rfl rfl (by kernel_rfl) (by kernel_rfl) (by kernel_rfl) (fun _ _ _ h => h) (Or.inl ⟨by rfl, ?hyq27x⟩) hHeld ?_
  case hyq27x =>
    intro W hSw
    clear hSw
    (go_simp; try with_reducible rfl)
  simp only [List.setIfInBounds_toArray, List.set_cons_zero, List.set_cons_succ]
  refine wpAnyH_ready (rs := [13]) (by kernel_rfl) (by simp) (AllReadyH.cons rfl (fun K hK => ?_) AllReadyH.nil)
  go_simp
  refine (num_any _ _).mono ?_
  rintro e w' ⟨rfl, rfl⟩
  dsimp only
  refine hK.out _ _ ⟨m0.below hb4 m0.lt, (hb4.cell (p := ad.add (i * 4)) hadz).trans hr0⟩ (fun hHeld => ?_)
  clear hK K
  try simp only [List.setIfInBounds_toArray, List.set_cons_zero, List.set_cons_succ]
  refine wpAnyH_takeAt (i := 14) (d := 171) (v := .bool true) rfl rfl (by kernel_rfl) (by kernel_rfl) (by kernel_rfl) (fun _ _ _ h => h) (Or.inl ⟨by rfl, ?hyq28x⟩) hHeld ?_
  case hyq28x =>
    intro W hSw
    clear hSw
    go_simp
    all_goals (first | with_reducible rfl | (simp; done) | (simp; omega))
  simp only [List.setIfInBounds_toArray, List.set_cons_zero, List.set_cons_succ]
  refine wpAnyH_takeAt (i := 15) (d := 172) (v := ?vq29x) rfl rfl (by kernel_rfl) (by kernel_rfl) (by kernel_rfl) (fun _ _ _ h => h) (Or.inl ⟨by rfl, ?hyq29x⟩) hHeld ?_
  case hyq29x =>
    intro W hSw
    clear hSw
    (go_simp; try with_reducible rfl)
  simp only [List.setIfInBounds_toArray, List.set_cons_zero, List.set_cons_succ]
  refine wpAnyH_ready (rs := [16]) (by kernel_rfl) (by simp) (AllReadyH.cons rfl (fun K hK => ?_) AllReadyH.nil)
  refine step_store_blk (by rfl) rfl 28 _ _ rfl (w.heap.size + 1 + 1) _ #[.int .i64 ((s.cut i).most : Int), .slice A4 n4 c4, .int .i64 ((s.cut i).came : Int)] rfl rfl 28 m4 rfl (info28 _ rfl) (by simp [Value.oneCell']) ?_
  intro wz fz gz sz
  have hTz : Turn (fun b => b = w.heap.size + 1 + 1) w4 wz := Turn.of_grown gz (fun r e => by injection e with e; exact e.symm)
  refine hK.out _ _ ⟨hHeld.1.keep hTz (by omega), (hTz.cell (p := ad.add (i * 4)) (block_lt_of_cell hHeld.2) hadn).trans hHeld.2⟩ (fun hHeld => ?_)
  clear hK K
  try simp only [List.setIfInBounds_toArray, List.set_cons_zero, List.set_cons_succ]
  refine wpAnyH_takeAt (i := 17) (d := 7) (v := ?vq30x) rfl rfl (by kernel_rfl) (by kernel_rfl) (by kernel_rfl) (fun _ _ _ h => h) (Or.inl ⟨by rfl, ?hyq30x⟩) hHeld ?_
  case hyq30x =>
    intro W hSw
    clear hSw
    (go_simp; try with_reducible rfl)
  simp only [List.setIfInBounds_toArray, List.set_cons_zero, List.set_cons_succ]
  refine wpAnyH_done (by kernel_rfl) ?_ _
  go_wp2_with fail
  refine bodyPost_ret (v := .tuple #[.agg #[.int .i64 ((s.cut i).most : Int), .slice A4 n4 c4, .int .i64 ((s.cut i).came : Int)], .bool true]) (results_ct (by rfl) _ _ (w.heap.size + 1 + 1) 28 _ (0, 0) _ (by rfl) fz Try.underlying28 (by rfl) (info28 _ rfl) (by rfl)) rfl ?_
  obtain ⟨hN3, hTw, hR3⟩ := HBG.out
  rw [← HPI.out]
  exact ⟨_, rfl, S, fun _ e => e, fun _ e => .inl e, (hTw.trans (Turn.of_below hb4 S) (fun _ _ e => e)).trans hTz (fun b hb e => by omega), (hN3.below hb4).keep hTz (fun b _ e e' => by have := HSL.out b e'; omega), (hR4.keep hTz (fun b _ e => .inr (by omega))).wide (fun b _ e => .inl e)⟩
set_option maxRecDepth 100000 in
set_option maxHeartbeats 16000000 in
theorem act_dup1 {w : World} {S X : Nat → Prop} {g : Nat} {s : St} {cs ccs : Array Value} {x : Ac} (hN : Nt w S g s) (hR : RAt w (fun b => S b ∨ X b) s cs) (hX : ∀ b, X b → b < w.heap.size) (hx : AcAt w S x ccs) (hw0 : (x.what == 0) = false) (hw2 : (x.what == 2) = true) (hcame : s.came ≤ 1000000000) {num : Int} {m : Msg} (hi : s.l[pick x.pick s.l.length]? = some (num, m)) : Calls Try.prog 16 #[.pointer (some ⟨g, 0, none⟩), .agg cs, .agg ccs] w (ActP w S X g (s.putA m)) := by
  obtain ⟨A, n, c, rfl, hIt, hnc, hcm⟩ := hR
  have hlen := hIt.len
  obtain ⟨Ab, qb, cb, rfl, hby, hqb, hcb, i1, i2, i3, i4⟩ := hx
  have hok := hN.ok
  have hl4 : n ≤ 4096 := by rw [← hlen]; exact Nat.le_trans hok.len hok.hi
  have HSL := Lib.hid (fun b => hN.lt (b := b))
  have k0 : Blk (((w.alloc (.cells #[.int .i64 (s.most : Int), .slice A n c, .int .i64 (s.came : Int)] 28)).alloc (.cells #[.int .i64 x.what, .int .i64 x.pick, .int .i64 x.m.fr, .int .i64 x.m.to, .slice Ab qb cb] 47)).alloc (.cells #[.int .i64 0, .slice none 0 0, .int .i64 0] 28)) w.heap.size 28 #[.int .i64 (s.most : Int), .slice A n c, .int .i64 (s.came : Int)] := ((Blk.new _ _ _).alloc _).alloc _
  have k1 : Blk (((w.alloc (.cells #[.int .i64 (s.most : Int), .slice A n c, .int .i64 (s.came : Int)] 28)).alloc (.cells #[.int .i64 x.what, .int .i64 x.pick, .int .i64 x.m.fr, .int .i64 x.m.to, .slice Ab qb cb] 47)).alloc (.cells #[.int .i64 0, .slice none 0 0, .int .i64 0] 28)) (w.heap.size + 1) 47 #[.int .i64 x.what, .int .i64 x.pick, .int .i64 x.m.fr, .int .i64 x.m.to, .slice Ab qb cb] := (blk_new _ 47 _ (by simp)).alloc _
  have k2 : Blk (((w.alloc (.cells #[.int .i64 (s.most : Int), .slice A n c, .int .i64 (s.came : Int)] 28)).alloc (.cells #[.int .i64 x.what, .int .i64 x.pick, .int .i64 x.m.fr, .int .i64 x.m.to, .slice Ab qb cb] 47)).alloc (.cells #[.int .i64 0, .slice none 0 0, .int .i64 0] 28)) (w.heap.size + 1 + 1) 28 #[.int .i64 0, .slice none 0 0, .int .i64 0] := blk_new _ 28 _ (by simp)
  have hb1 : Below w.heap.size w (((w.alloc (.cells #[.int .i64 (s.most : Int), .slice A n c, .int .i64 (s.came : Int)] 28)).alloc (.cells #[.int .i64 x.what, .int .i64 x.pick, .int .i64 x.m.fr, .int .i64 x.m.to, .slice Ab qb cb] 47)).alloc (.cells #[.int .i64 0, .slice none 0 0, .int .i64 0] 28)) := (((Below.refl _ _).alloc (Nat.le_refl _) _).alloc (by simp) _).alloc (by simp; omega) _
  have HZ1 : Hid ((((w.alloc (.cells #[.int .i64 (s.most : Int), .slice A n c, .int .i64 (s.came : Int)] 28)).alloc (.cells #[.int .i64 x.what, .int .i64 x.pick, .int .i64 x.m.fr, .int .i64 x.m.to, .slice Ab qb cb] 47)).alloc (.cells #[.int .i64 0, .slice none 0 0, .int .i64 0] 28)).heap.size = w.heap.size + 3) := Lib.hid (by simp)
  have HR := Lib.hid (show RAt w (fun b => S b ∨ X b) s #[.int .i64 (s.most : Int), .slice A n c, .int .i64 (s.came : Int)] from ⟨A, n, c, rfl, hIt, hnc, hcm⟩)
  have HN := Lib.hid hN
  have HBY := Lib.hid hby
  have HOK := Lib.hid hok
  have HLEN := Lib.hid hlen
  clear hIt hN hby hok hlen
  obtain ⟨c0, c1, c2⟩ := k0.three
  obtain ⟨d0, d1, d2, d3, d4⟩ := k1.five
  have hm1 := hcm
  unfold maxLen at hm1
  go_enter Try.func16, Try.ntmps16
  go_wp2_with fail
  generalize (((w.alloc (.cells #[.int .i64 (s.most : Int), .slice A n c, .int .i64 (s.came : Int)] 28)).alloc (.cells #[.int .i64 x.what, .int .i64 x.pick, .int .i64 x.m.fr, .int .i64 x.m.to, .slice Ab qb cb] 47)).alloc (.cells #[.int .i64 0, .slice none 0 0, .int .i64 0] 28)) = w1 at *
  refine (refPick_all _ _ A n c x.pick w1 (by omega)).mono ?_
  rintro e w2 ⟨rfl, hb2⟩
  have hz1 : w1.heap.size = w.heap.size + 3 := HZ1.out
  have HZ := Lib.hid hz1
  have hz2 := hb2.size
  have k0 := k0.below hb2 k0.lt
  have k1 := k1.below hb2 k1.lt
  have k2 := k2.below hb2 k2.lt
  have hbw := hb1.trans (hb2.mono hb1.size)
  have hzw : w.heap.size + 3 ≤ w2.heap.size := by omega
  clear c0 c1 c2 d0 d1 d2 d3 d4 hb1 hb2 HZ1 hz1 hz2
  obtain ⟨c0, c1, c2⟩ := k0.three
  obtain ⟨d0, d1, d2, d3, d4⟩ := k1.five
  have HI := Lib.hid hi
  have hil : pick x.pick s.l.length < s.l.length := (List.getElem?_eq_some_iff.1 hi).1
  rw [pickI_pos x.pick (show n ≠ 0 by rw [← HLEN.out]; omega), ← HLEN.out]
  have hil2 : pick x.pick s.l.length < n := by rw [← HLEN.out]; exact hil
  have HIL := Lib.hid hil
  clear hi hil
  obtain ⟨i, hpi⟩ : ∃ i, i = pick x.pick s.l.length := ⟨_, rfl⟩
  have HPI := Lib.hid hpi
  rw [← hpi] at HI HIL hil2 ⊢
  clear hpi
  have hpin : decide ((i : Int) < 0) = false := by simp
  go_wp2_with fail
  refine (dup_all (HN.out.keep (T := No) (Turn.of_below hbw No) (fun _ _ h => h.elim)) (k := x.pick) (num := num) (m := m) (by rw [← HPI.out]; exact HI.out) hcame).mono ?_
  rintro e w3 ⟨rfl, hT3, S6, hS1, hS2, hN3⟩
  have hnS : ∀ b, w.heap.size ≤ b → ¬ S b := fun b h1 e => by have := HSL.out b e; omega
  have m0 := k0.keep hT3 (hnS _ (by omega))
  have m2 := k2.keep hT3 (hnS _ (by omega))
  have hz3 := hT3.size
  have hTw : Turn S w w3 := (Turn.of_below hbw S).trans hT3 (fun _ _ e => e)
  have hS2w : ∀ b, S6 b → S b ∨ w2.heap.size ≤ b := hS2
  have hR3 : RAt w3 (fun b => (S6 b ∨ X b) ∨ (w.heap.size ≤ b ∧ b < w.heap.size + 3)) s #[.int .i64 (s.most : Int), .slice A n c, .int .i64 (s.came : Int)] := (HR.out.wide (fun b hb e => by
    rcases e with (e | e) | e
    · exact (hS2w b e).elim .inl (fun e => by omega)
    · exact .inr e
    · omega)).keep hTw (fun b _ e => .inl (.inl (hS1 b e)))
  have hX3 : ∀ b, (fun b => (S6 b ∨ X b) ∨ (w.heap.size ≤ b ∧ b < w.heap.size + 3)) b → b < w3.heap.size := fun b e => by
    rcases e with (e | e) | e
    · exact hN3.lt e
    · have := hX b e; omega
    · omega
  have HR3 := Lib.hid hR3
  obtain ⟨Aq, nq, cq, ecs, hItq, _, _⟩ := hR3
  obtain ⟨rfl, rfl, rfl⟩ : A = Aq ∧ n = nq ∧ c = cq := by simpa using ecs
  obtain ⟨ad, Ar, qr, cr, rfl, hadl, -, hbr, -, r1, r2, r3⟩ := its_nth hItq HI.out
  have hadz : (ad.add (i * 4)).block < w3.heap.size := by rw [block_of_add]; exact hadl
  have hmR : MsgV w3 (fun b => (S6 b ∨ X b) ∨ (w.heap.size ≤ b ∧ b < w.heap.size + 3)) m (.agg #[.int .i64 m.fr, .int .i64 m.to, .slice Ar qr cr]) := ⟨_, _, _, rfl, hbr⟩
  have hadn : (ad.add (i * 4)).block ≠ w.heap.size + 1 + 1 := by
    obtain ⟨css, hrd, _, _⟩ := hItq
    obtain ⟨ad', e', _, hx', _⟩ := hrd.2.2 (by omega)
    injection e' with e'
    subst e'
    rw [block_of_add]
    exact fun e => hx' (.inr (by omega))
  have hnS6 : ∀ b, w.heap.size ≤ b → b < w2.heap.size → ¬ S6 b := fun b h1 h2 e => (hS2 b e).elim (hnS b h1) (fun e => by omega)
  have HBG := Lib.hid (And.intro hN3 (And.intro hTw hnS6))
  have HX3 := Lib.hid hX3
  have hqi : ((i : Nat) : Int) < ((n : Nat) : Int) := by omega
  clear c0 c1 c2 d0 d1 d2 d3 d4 k0 k1 k2 hT3 hN3 hTw hItq hX3 hadl ecs hbr hnS6
  obtain ⟨c0, c1, c2⟩ := m0.three
  go_wp2_with fail
  refine wp_region_np ?_
  refine wp_region_held_drew (S := fun W => Blk W w.heap.size 28 #[.int .i64 (s.most : Int), .slice (some ad) n c, .int .i64 (s.came : Int)] ∧ W.cell? ⟨(ad.add (i * 4)).block, (ad.add (i * 4)).off + 1, none⟩ = some (.int .i64 m.fr) ∧ W.cell? ⟨(ad.add (i * 4)).block, (ad.add (i * 4)).off + 2, none⟩ = some (.int .i64 m.to) ∧ W.cell? ⟨(ad.add (i * 4)).block, (ad.add (i * 4)).off + 3, none⟩ = some (.slice Ar qr cr)) (by kernel_rfl) ⟨m0.drew, r1, r2, r3⟩ (fun hHeld => ?_)
  have hbd : Below w3.heap.size w3 w3.drew := (Below.refl _ _).drew
  generalize w3.drew = wd at *
  refine wpAnyH_takeAt (i := 0) (d := 117) (v := ?vq31x) rfl rfl (by kernel_rfl) (by kernel_rfl) (by kernel_rfl) (fun _ _ _ h => h) (Or.inl ⟨by rfl, ?hyq31x⟩) hHeld ?_
  case hyq31x =>
    intro W hSw
    obtain ⟨sv, sa, sb, sc⟩ := hSw; obtain ⟨s0, s1, s2⟩ := sv.three; clear sv
    (go_simp; try with_reducible rfl)
  simp only [List.setIfInBounds_toArray, List.set_cons_zero, List.set_cons_succ]
  refine wpAnyH_takeAt (i := 1) (d := 118) (v := ?vq32x) rfl rfl (by kernel_rfl) (by kernel_rfl) (by kernel_rfl) (fun _ _ _ h => h) (Or.inl ⟨by rfl, ?hyq32x⟩) hHeld ?_
  case hyq32x =>
    intro W hSw
    clear hSw
    (go_simp; try with_reducible rfl)
  simp only [List.setIfInBounds_toArray, List.set_cons_zero, List.set_cons_succ]
  refine wpAnyH_takeAt (i := 2) (d := 119) (v := ?vq33x) rfl rfl (by kernel_rfl) (by kernel_rfl) (by kernel_rfl) (fun _ _ _ h => h) (Or.inl ⟨by rfl, ?hyq33x⟩) hHeld ?_
  case hyq33x =>
    intro W hSw
    obtain ⟨sv, sa, sb, sc⟩ := hSw; obtain ⟨s0, s1, s2⟩ := sv.three; clear sv
    (go_simp; try with_reducible rfl)
  simp only [List.setIfInBounds_toArray, List.set_cons_zero, List.set_cons_succ]
  refine wpAnyH_takeAt (i := 3) (d := 120) (v := ?vq34x) rfl rfl (by kernel_rfl) (by kernel_rfl) (by kernel_rfl) (fun _ _ _ h => h) (Or.inl ⟨by rfl, ?hyq34x⟩) hHeld ?_
  case hyq34x =>
    intro W hSw
    clear hSw
    (go_simp; try with_reducible rfl)
  simp only [List.setIfInBounds_toArray, List.set_cons_zero, List.set_cons_succ]
  refine wpAnyH_takeAt (i := 4) (d := 121) (v := ?vq35x) rfl rfl (by kernel_rfl) (by kernel_rfl) (by kernel_rfl) (fun _ _ _ h => h) (Or.inl ⟨by rfl, ?hyq35x⟩) hHeld ?_
  case hyq35x =>
    intro W hSw
    clear hSw
    (go_simp; try with_reducible rfl)
  simp only [List.setIfInBounds_toArray, List.set_cons_zero, List.set_cons_succ]
  refine wpAnyH_takeAt (i := 5) (d := 122) (v := ?vq36x) rfl rfl (by kernel_rfl) (by kernel_rfl) (by kernel_rfl) (fun _ _ _ h => h) (Or.inl ⟨by rfl, ?hyq36x⟩) hHeld ?_
  case hyq36x =>
    intro W hSw
    clear hSw
    (go_simp; try with_reducible rfl)
  simp only [List.setIfInBounds_toArray, List.set_cons_zero, List.set_cons_succ]
  refine wpAnyH_takeAt (i := 6) (d := 123) (v := ?vq37x) rfl rfl (by kernel_rfl) (by kernel_rfl) (by kernel_rfl) (fun _ _ _ h => h) (Or.inl ⟨by rfl, ?hyq37x⟩) hHeld ?_
  case hyq37x =>
    intro W hSw
    obtain ⟨sv, sa, sb, sc⟩ := hSw; obtain ⟨s0, s1, s2⟩ := sv.three; clear sv
    (go_simp; try with_reducible rfl)
  simp only [List.setIfInBounds_toArray, List.set_cons_zero, List.set_cons_succ]
  refine wpAnyH_ready (rs := [7, 12]) (by kernel_rfl) (by simp) (AllReadyH.cons rfl (fun K hK => ?_) (AllReadyH.cons rfl (fun K hK => ?_) AllReadyH.nil))
  · go_simp
    refine (refPut_any (w := wd) (HR3.out.below hbd) (fun b e => by have := HX3.out b e; have := hbd.size; omega) (m := m) (hmR.below hbd) HOK.out hcame).mono ?_
    rintro e w5 ⟨cs5, rfl, hRY, hb5⟩
    obtain ⟨A5, n5, c5, rfl⟩ := hRY.three
    dsimp only
    have hb5' : Below w3.heap.size w3 w5 := hbd.trans (hb5.mono hbd.size)
    refine hK.out _ _ ⟨m0.below hb5' m0.lt, (hb5'.cell (p := ⟨(ad.add (i * 4)).block, (ad.add (i * 4)).off + 1, none⟩) hadz).trans r1, (hb5'.cell (p := ⟨(ad.add (i * 4)).block, (ad.add (i * 4)).off + 2, none⟩) hadz).trans r2, (hb5'.cell (p := ⟨(ad.add (i * 4)).block, (ad.add (i * 4)).off + 3, none⟩) hadz).trans r3⟩ (fun hHeld => ?_)
    clear hK K
    try simp only [List.setIfInBounds_toArray, List.set_cons_zero, List.set_cons_succ]
    have hR5 := hRY
    refine wpAnyH_takeAt (i := 8) (d := 116) (v := ?vq38x) rfl rfl (by kernel_rfl) (by kernel_rfl) (by kernel_rfl) (fun _ _ _ h => h) (Or.inl ⟨by rfl, ?hyq38x⟩) hHeld ?_
    case hyq38x =>
      intro W hSw
      clear hSw
      (go_simp; try with_reducible rfl)
    simp only [List.setIfInBounds_toArray, List.set_cons_zero, List.set_cons_succ]
    refine wpAnyH_takeAt (i := 9) (d := 125) (v := ?vq39x) rfl rfl (by kernel_rfl) (by kernel_rfl) (by kernel_rfl) (fun _ _ _ h => h) (Or.inl ⟨by rfl, ?hyq39x⟩) hHeld ?_
    case hyq39x =>
      intro W hSw
      clear hSw
      (go_simp; try with_reducible rfl)
    simp only [List.setIfInBounds_toArray, List.set_cons_zero, List.set_cons_succ]
    refine wpAnyH_takeAt (i := 10) (d := 126) (v := ?vq40x) rfl rfl (by kernel_rfl) (by kernel_rfl) (by kernel_rfl) (fun _ _ _ h => h) (Or.inl ⟨by rfl, ?hyq40x⟩) hHeld ?_
    case hyq40x =>
      intro W hSw
      clear hSw
      (go_simp; try with_reducible rfl)
    simp only [List.setIfInBounds_toArray, List.set_cons_zero, List.set_cons_succ]
    refine wpAnyH_takeAt (i := 11) (d := 127) (v := ?vq41x) rfl rfl (by kernel_rfl) (by kernel_rfl) (by kernel_rfl) (fun _ _ _ h => h) (Or.inl ⟨by rfl, ?hyq41x⟩) hHeld ?_
    case hyq41x =>
      intro W hSw
      clear hSw
      (go_simp; try with_reducible rfl)
    simp only [List.setIfInBounds_toArray, List.set_cons_zero, List.set_cons_succ]
    refine wpAnyH_ready (rs := [12]) (by kernel_rfl) (by simp) (AllReadyH.cons rfl (fun K hK => ?_) AllReadyH.nil)
    go_simp
    have hbA : Below w3.heap.size w3 (w5.alloc (.cells #[.int .i64 0, .slice none 0 0, .int .i64 0] 28)) := hb5'.alloc hb5'.size _
    refine hK.out _ _ ⟨m0.below hbA m0.lt, (hbA.cell (p := ⟨(ad.add (i * 4)).block, (ad.add (i * 4)).off + 1, none⟩) hadz).trans r1, (hbA.cell (p := ⟨(ad.add (i * 4)).block, (ad.add (i * 4)).off + 2, none⟩) hadz).trans r2, (hbA.cell (p := ⟨(ad.add (i * 4)).block, (ad.add (i * 4)).off + 3, none⟩) hadz).trans r3⟩ (fun hHeld => ?_)
    clear hK K
    try simp only [List.setIfInBounds_toArray, List.set_cons_zero, List.set_cons_succ]
    have kb0 : Blk (w5.alloc (.cells #[.int .i64 0, .slice none 0 0, .int .i64 0] 28)) w5.heap.size 28 #[.int .i64 0, .slice none 0 0, .int .i64 0] := Blk.new _ _ _
    have hbb0 : w3.heap.size ≤ w5.heap.size := hb5'.size
    have hbl0 : w5.heap.size < (w5.alloc (.cells #[.int .i64 0, .slice none 0 0, .int .i64 0] 28)).heap.size := by simp
    have hbbR : RAt (w5.alloc (.cells #[.int .i64 0, .slice none 0 0, .int .i64 0] 28)) (fun b => (fun b => (S6 b ∨ X b) ∨ (w.heap.size ≤ b ∧ b < w.heap.size + 3)) b ∨ b = w5.heap.size) (s.putA m) #[.int .i64 ((s.putA m).most : Int), .slice A5 n5 c5, .int .i64 ((s.putA m).came : Int)] := (hR5.wide (fun b hb e => e.elim id (fun e => absurd e (by omega)))).below ((Below.refl _ _).alloc (Nat.le_refl _) _)
    obtain ⟨bb, hbb⟩ : ∃ x, x = w5.heap.size := ⟨_, rfl⟩
    rw [← hbb] at kb0 hbb0 hbl0 hbbR ⊢
    clear hbb
    generalize w5.alloc (.cells #[.int .i64 0, .slice none 0 0, .int .i64 0] 28) = wy at *
    have kbb := kb0
    refine wpAnyH_ready (rs := [13]) (by kernel_rfl) (by simp) (AllReadyH.cons rfl (fun K hK => ?_) AllReadyH.nil)
    refine step_store_blk (by rfl) rfl 28 _ _ rfl bb _ #[.int .i64 ((s.putA m).most : Int), .slice A5 n5 c5, .int .i64 ((s.putA m).came : Int)] rfl rfl 28 kbb rfl (info28 _ rfl) (by simp [Value.oneCell']) ?_
    intro wz fz gz sz
    have hTg : Turn (fun b => b = bb) wy wz := Turn.of_grown gz (fun r e => by injection e with e; exact e.symm)
    have hRe : RAt wz (fun b => (S6 b ∨ X b) ∨ (w.heap.size ≤ b ∧ b < w.heap.size + 3)) (s.putA m) #[.int .i64 ((s.putA m).most : Int), .slice A5 n5 c5, .int .i64 ((s.putA m).came : Int)] := (hbbR.keep hTg (fun b _ e => .inr e)).wide (fun b _ e => .inl e)
    have hbz : Below w3.heap.size w3 wz := hbA.trans (hTg.below hbA.size (fun b e => by omega))
    refine hK.out _ _ ⟨m0.below hbz m0.lt, (hbz.cell (p := ⟨(ad.add (i * 4)).block, (ad.add (i * 4)).off + 1, none⟩) hadz).trans r1, (hbz.cell (p := ⟨(ad.add (i * 4)).block, (ad.add (i * 4)).off + 2, none⟩) hadz).trans r2, (hbz.cell (p := ⟨(ad.add (i * 4)).block, (ad.add (i * 4)).off + 3, none⟩) hadz).trans r3⟩ (fun hHeld => ?_)
    clear hK K
    try simp only [List.setIfInBounds_toArray, List.set_cons_zero, List.set_cons_succ]
    refine wpAnyH_takeAt (i := 14) (d := 20) (v := ?vq42x) rfl rfl (by kernel_rfl) (by kernel_rfl) (by kernel_rfl) (fun _ _ _ h => h) (Or.inl ⟨by rfl, ?hyq42x⟩) hHeld ?_
    case hyq42x =>
      intro W hSw
      clear hSw
      (go_simp; try with_reducible rfl)
    simp only [List.setIfInBounds_toArray, List.set_cons_zero, List.set_cons_succ]
    refine wpAnyH_takeAt (i := 15) (d := 21) (v := ?vq43x) rfl rfl (by kernel_rfl) (by kernel_rfl) (by kernel_rfl) (fun _ _ _ h => h) (Or.inl ⟨by rfl, ?hyq43x⟩) hHeld ?_
    case hyq43x =>
      intro W hSw
      clear hSw
      (go_simp; try with_reducible rfl)
    simp only [List.setIfInBounds_toArray, List.set_cons_zero, List.set_cons_succ]
    refine wpAnyH_done (by kernel_rfl) ?_ _
    have p2 := m2.below hbz m2.lt
    clear hHeld c0 c1 c2 r1 r2 r3
    obtain ⟨z0, z1, z2⟩ := fz.three
    go_wp2_with fail
    refine wp_region_np ?_
    refine wp_region_held_drew (S := fun W => Blk W bb 28 #[.int .i64 ((s.putA m).most : Int), .slice A5 n5 c5, .int .i64 ((s.putA m).came : Int)]) (by kernel_rfl) fz.drew (fun hHeld => ?_)
    refine wpAnyH_takeAt (i := 0) (d := 128) (v := ?vq44x) rfl rfl (by kernel_rfl) (by kernel_rfl) (by kernel_rfl) (fun _ _ _ h => h) (Or.inl ⟨by rfl, ?hyq44x⟩) hHeld ?_
    case hyq44x =>
      intro W hSw
      obtain ⟨s0, s1, s2⟩ := (show Blk W bb 28 #[.int .i64 ((s.putA m).most : Int), .slice A5 n5 c5, .int .i64 ((s.putA m).came : Int)] from hSw).three
      (go_simp; try with_reducible rfl)
    simp only [List.setIfInBounds_toArray, List.set_cons_zero, List.set_cons_succ]
    refine wpAnyH_takeAt (i := 1) (d := 129) (v := ?vq45x) rfl rfl (by kernel_rfl) (by kernel_rfl) (by kernel_rfl) (fun _ _ _ h => h) (Or.inl ⟨by rfl, ?hyq45x⟩) hHeld ?_
    case hyq45x =>
      intro W hSw
      clear hSw
      (go_simp; try with_reducible rfl)
    simp only [List.setIfInBounds_toArray, List.set_cons_zero, List.set_cons_succ]
    refine wpAnyH_takeAt (i := 2) (d := 130) (v := ?vq46x) rfl rfl (by kernel_rfl) (by kernel_rfl) (by kernel_rfl) (fun _ _ _ h => h) (Or.inl ⟨by rfl, ?hyq46x⟩) hHeld ?_
    case hyq46x =>
      intro W hSw
      clear hSw
      (go_simp; try with_reducible rfl)
    simp only [List.setIfInBounds_toArray, List.set_cons_zero, List.set_cons_succ]
    refine wpAnyH_takeAt (i := 3) (d := 131) (v := .bool true) rfl rfl (by kernel_rfl) (by kernel_rfl) (by kernel_rfl) (fun _ _ _ h => h) (Or.inl ⟨by rfl, ?hyq47x⟩) hHeld ?_
    case hyq47x =>
      intro W hSw
      clear hSw
      go_simp
      all_goals (first | with_reducible rfl | (simp; done) | (simp; omega))
    simp only [List.setIfInBounds_toArray, List.set_cons_zero, List.set_cons_succ]
    refine wpAnyH_takeAt (i := 4) (d := 132) (v := ?vq48x) rfl rfl (by kernel_rfl) (by kernel_rfl) (by kernel_rfl) (fun _ _ _ h => h) (Or.inl ⟨by rfl, ?hyq48x⟩) hHeld ?_
    case hyq48x =>
      intro W hSw
      clear hSw
      (go_simp; try with_reducible rfl)
    simp only [List.setIfInBounds_toArray, List.set_cons_zero, List.set_cons_succ]
    refine wpAnyH_takeAt (i := 5) (d := 133) (v := ?vq49x) rfl rfl (by kernel_rfl) (by kernel_rfl) (by kernel_rfl) (fun _ _ _ h => h) (Or.inl ⟨by rfl, ?hyq49x⟩) hHeld ?_
    case hyq49x =>
      intro W hSw
      clear hSw
      (go_simp; try with_reducible rfl)
    simp only [List.setIfInBounds_toArray, List.set_cons_zero, List.set_cons_succ]
    refine wpAnyH_takeAt (i := 7) (d := 135) (v := ?vq50x) rfl rfl (by kernel_rfl) (by kernel_rfl) (by kernel_rfl) (fun _ _ _ h => h) (Or.inl ⟨by rfl, ?hyq50x⟩) hHeld ?_
    case hyq50x =>
      intro W hSw
      clear hSw
      (go_simp; try with_reducible rfl)
    simp only [List.setIfInBounds_toArray, List.set_cons_zero, List.set_cons_succ]
    refine wpAnyH_ready (rs := [6]) (by kernel_rfl) (by simp) (AllReadyH.cons rfl (fun K hK => ?_) AllReadyH.nil)
    go_simp
    refine (num_any _ _).mono ?_
    rintro e w' ⟨rfl, rfl⟩
    dsimp only
    refine hK.out _ _ (show Blk _ bb 28 #[.int .i64 ((s.putA m).most : Int), .slice A5 n5 c5, .int .i64 ((s.putA m).came : Int)] from fz.drew) (fun hHeld => ?_)
    clear hK K
    try simp only [List.setIfInBounds_toArray, List.set_cons_zero, List.set_cons_succ]
    refine wpAnyH_takeAt (i := 8) (d := 136) (v := .bool true) rfl rfl (by kernel_rfl) (by kernel_rfl) (by kernel_rfl) (fun _ _ _ h => h) (Or.inl ⟨by rfl, ?hyq51x⟩) hHeld ?_
    case hyq51x =>
      intro W hSw
      clear hSw
      go_simp
      all_goals (first | with_reducible rfl | (simp; done) | (simp; omega))
    simp only [List.setIfInBounds_toArray, List.set_cons_zero, List.set_cons_succ]
    refine wpAnyH_takeAt (i := 9) (d := 137) (v := ?vq52x) rfl rfl (by kernel_rfl) (by kernel_rfl) (by kernel_rfl) (fun _ _ _ h => h) (Or.inl ⟨by rfl, ?hyq52x⟩) hHeld ?_
    case hyq52x =>
      intro W hSw
      clear hSw
      (go_simp; try with_reducible rfl)
    simp only [List.setIfInBounds_toArray, List.set_cons_zero, List.set_cons_succ]
    refine wpAnyH_ready (rs := [10]) (by kernel_rfl) (by simp) (AllReadyH.cons rfl (fun K hK => ?_) AllReadyH.nil)
    refine step_store_blk (by rfl) rfl 28 _ _ rfl (w.heap.size + 1 + 1) _ #[.int .i64 ((s.putA m).most : Int), .slice A5 n5 c5, .int .i64 ((s.putA m).came : Int)] rfl rfl 28 p2.drew rfl (info28 _ rfl) (by simp [Value.oneCell']) ?_
    intro wq fq gq sq
    refine hK.out _ _ (show Blk wq bb 28 #[.int .i64 ((s.putA m).most : Int), .slice A5 n5 c5, .int .i64 ((s.putA m).came : Int)] from (fz.drew).grown gq (by omega)) (fun hHeld => ?_)
    clear hK K
    try simp only [List.setIfInBounds_toArray, List.set_cons_zero, List.set_cons_succ]
    refine wpAnyH_takeAt (i := 11) (d := 7) (v := ?vq53x) rfl rfl (by kernel_rfl) (by kernel_rfl) (by kernel_rfl) (fun _ _ _ h => h) (Or.inl ⟨by rfl, ?hyq53x⟩) hHeld ?_
    case hyq53x =>
      intro W hSw
      clear hSw
      (go_simp; try with_reducible rfl)
    simp only [List.setIfInBounds_toArray, List.set_cons_zero, List.set_cons_succ]
    refine wpAnyH_done (by kernel_rfl) ?_ _
    go_wp2_with fail
    refine bodyPost_ret (v := .tuple #[.agg #[.int .i64 ((s.putA m).most : Int), .slice A5 n5 c5, .int .i64 ((s.putA m).came : Int)], .bool true]) (results_ct (by rfl) _ _ (w.heap.size + 1 + 1) 28 _ (0, 0) _ (by rfl) fq Try.underlying28 (by rfl) (info28 _ rfl) (by rfl)) rfl ?_
    obtain ⟨hN3, hTw, hnS6⟩ := HBG.out
    have hTq : Turn (fun b => b = w.heap.size + 1 + 1) wz wq := Turn.of_grown (show wz.grownBy wq (some (w.heap.size + 1 + 1)) from ⟨gq.os, gq.tape, gq.output, gq.size, gq.block⟩) (fun r e => by injection e with e; exact e.symm)
    exact ⟨_, rfl, S6, hS1, fun b e => (hS2 b e).elim .inl (fun e => .inr (by omega)), (hTw.trans (Turn.of_below hbz S) (fun _ _ e => e)).trans hTq (fun b hb e => by omega), (hN3.below hbz).keep hTq (fun b _ e e' => hnS6 b (by omega) (by omega) (e' )), (hRe.keep hTq (fun b _ e => .inr (by omega))).wide (fun b _ e => .inl e)⟩
  · go_simp
    have hbA : Below w3.heap.size w3 (wd.alloc (.cells #[.int .i64 0, .slice none 0 0, .int .i64 0] 28)) := hbd.alloc hbd.size _
    refine hK.out _ _ ⟨m0.below hbA m0.lt, (hbA.cell (p := ⟨(ad.add (i * 4)).block, (ad.add (i * 4)).off + 1, none⟩) hadz).trans r1, (hbA.cell (p := ⟨(ad.add (i * 4)).block, (ad.add (i * 4)).off + 2, none⟩) hadz).trans r2, (hbA.cell (p := ⟨(ad.add (i * 4)).block, (ad.add (i * 4)).off + 3, none⟩) hadz).trans r3⟩ (fun hHeld => ?_)
    clear hK K
    try simp only [List.setIfInBounds_toArray, List.set_cons_zero, List.set_cons_succ]
    have kb0 : Blk (wd.alloc (.cells #[.int .i64 0, .slice none 0 0, .int .i64 0] 28)) wd.heap.size 28 #[.int .i64 0, .slice none 0 0, .int .i64 0] := Blk.new _ _ _
    have hbb0 : w3.heap.size ≤ wd.heap.size := hbd.size
    have hbl0 : wd.heap.size < (wd.alloc (.cells #[.int .i64 0, .slice none 0 0, .int .i64 0] 28)).heap.size := by simp
    obtain ⟨bb, hbb⟩ : ∃ x, x = wd.heap.size := ⟨_, rfl⟩
    rw [← hbb] at kb0 hbb0 hbl0 ⊢
    clear hbb
    generalize wd.alloc (.cells #[.int .i64 0, .slice none 0 0, .int .i64 0] 28) = wy at *
    refine wpAnyH_ready (rs := [7]) (by kernel_rfl) (by simp) (AllReadyH.cons rfl (fun K hK => ?_) AllReadyH.nil)
    go_simp
    refine (refPut_any (w := wy) ((HR3.out.wide (X' := fun b => (fun b => (S6 b ∨ X b) ∨ (w.heap.size ≤ b ∧ b < w.heap.size + 3)) b ∨ b = bb) (fun b hb e => e.elim id (fun e => absurd e (by omega)))).below hbA) (fun b e => e.elim (fun e => by have := HX3.out b e; have := hbA.size; omega) (fun e => by rw [e]; exact hbl0)) (m := m) (hmR.below hbA) HOK.out hcame).mono ?_
    rintro e w5 ⟨cs5, rfl, hRY, hb5⟩
    obtain ⟨A5, n5, c5, rfl⟩ := hRY.three
    dsimp only
    have hb5' : Below w3.heap.size w3 w5 := hbA.trans (hb5.mono hbA.size)
    refine hK.out _ _ ⟨m0.below hb5' m0.lt, (hb5'.cell (p := ⟨(ad.add (i * 4)).block, (ad.add (i * 4)).off + 1, none⟩) hadz).trans r1, (hb5'.cell (p := ⟨(ad.add (i * 4)).block, (ad.add (i * 4)).off + 2, none⟩) hadz).trans r2, (hb5'.cell (p := ⟨(ad.add (i * 4)).block, (ad.add (i * 4)).off + 3, none⟩) hadz).trans r3⟩ (fun hHeld => ?_)
    clear hK K
    try simp only [List.setIfInBounds_toArray, List.set_cons_zero, List.set_cons_succ]
    have kbb := kb0.below hb5 hbl0
    have hbbR := hRY
    refine wpAnyH_takeAt (i := 8) (d := 116) (v := ?vq54x) rfl rfl (by kernel_rfl) (by kernel_rfl) (by kernel_rfl) (fun _ _ _ h => h) (Or.inl ⟨by rfl, ?hyq54x⟩) hHeld ?_
    case hyq54x =>
      intro W hSw
      clear hSw
      (go_simp; try with_reducible rfl)
    simp only [List.setIfInBounds_toArray, List.set_cons_zero, List.set_cons_succ]
    refine wpAnyH_takeAt (i := 9) (d := 125) (v := ?vq55x) rfl rfl (by kernel_rfl) (by kernel_rfl) (by kernel_rfl) (fun _ _ _ h => h) (Or.inl ⟨by rfl, ?hyq55x⟩) hHeld ?_
    case hyq55x =>
      intro W hSw
      clear hSw
      (go_simp; try with_reducible rfl)
    simp only [List.setIfInBounds_toArray, List.set_cons_zero, List.set_cons_succ]
    refine wpAnyH_takeAt (i := 10) (d := 126) (v := ?vq56x) rfl rfl (by kernel_rfl) (by kernel_rfl) (by kernel_rfl) (fun _ _ _ h => h) (Or.inl ⟨by rfl, ?hyq56x⟩) hHeld ?_
    case hyq56x =>
      intro W hSw
      clear hSw
      (go_simp; try with_reducible rfl)
    simp only [List.setIfInBounds_toArray, List.set_cons_zero, List.set_cons_succ]
    refine wpAnyH_takeAt (i := 11) (d := 127) (v := ?vq57x) rfl rfl (by kernel_rfl) (by kernel_rfl) (by kernel_rfl) (fun _ _ _ h => h) (Or.inl ⟨by rfl, ?hyq57x⟩) hHeld ?_
    case hyq57x =>
      intro W hSw
      clear hSw
      (go_simp; try with_reducible rfl)
    simp only [List.setIfInBounds_toArray, List.set_cons_zero, List.set_cons_succ]
    refine wpAnyH_ready (rs := [13]) (by kernel_rfl) (by simp) (AllReadyH.cons rfl (fun K hK => ?_) AllReadyH.nil)
    refine step_store_blk (by rfl) rfl 28 _ _ rfl bb _ #[.int .i64 ((s.putA m).most : Int), .slice A5 n5 c5, .int .i64 ((s.putA m).came : Int)] rfl rfl 28 kbb rfl (info28 _ rfl) (by simp [Value.oneCell']) ?_
    intro wz fz gz sz
    have hTg : Turn (fun b => b = bb) w5 wz := Turn.of_grown gz (fun r e => by injection e with e; exact e.symm)
    have hRe : RAt wz (fun b => (S6 b ∨ X b) ∨ (w.heap.size ≤ b ∧ b < w.heap.size + 3)) (s.putA m) #[.int .i64 ((s.putA m).most : Int), .slice A5 n5 c5, .int .i64 ((s.putA m).came : Int)] := (hbbR.keep hTg (fun b _ e => .inr e)).wide (fun b _ e => .inl e)
    have hbz : Below w3.heap.size w3 wz := hb5'.trans (hTg.below hb5'.size (fun b e => by omega))
    refine hK.out _ _ ⟨m0.below hbz m0.lt, (hbz.cell (p := ⟨(ad.add (i * 4)).block, (ad.add (i * 4)).off + 1, none⟩) hadz).trans r1, (hbz.cell (p := ⟨(ad.add (i * 4)).block, (ad.add (i * 4)).off + 2, none⟩) hadz).trans r2, (hbz.cell (p := ⟨(ad.add (i * 4)).block, (ad.add (i * 4)).off + 3, none⟩) hadz).trans r3⟩ (fun hHeld => ?_)
    clear hK K
    try simp only [List.setIfInBounds_toArray, List.set_cons_zero, List.set_cons_succ]
    refine wpAnyH_takeAt (i := 14) (d := 20) (v := ?vq58x) rfl rfl (by kernel_rfl) (by kernel_rfl) (by kernel_rfl) (fun _ _ _ h => h) (Or.inl ⟨by rfl, ?hyq58x⟩) hHeld ?_
    case hyq58x =>
      intro W hSw
      clear hSw
      (go_simp; try with_reducible rfl)
    simp only [List.setIfInBounds_toArray, List.set_cons_zero, List.set_cons_succ]
    refine wpAnyH_takeAt (i := 15) (d := 21) (v := ?vq59x) rfl rfl (by kernel_rfl) (by kernel_rfl) (by kernel_rfl) (fun _ _ _ h => h) (Or.inl ⟨by rfl, ?hyq59x⟩) hHeld ?_
    case hyq59x =>
      intro W hSw
      clear hSw
      (go_simp; try with_reducible rfl)
    simp only [List.setIfInBounds_toArray, List.set_cons_zero, List.set_cons_succ]
    refine wpAnyH_done (by kernel_rfl) ?_ _
    have p2 := m2.below hbz m2.lt
    clear hHeld c0 c1 c2 r1 r2 r3
    obtain ⟨z0, z1, z2⟩ := fz.three
    go_wp2_with fail
    refine wp_region_np ?_
    refine wp_region_held_drew (S := fun W => Blk W bb 28 #[.int .i64 ((s.putA m).most : Int), .slice A5 n5 c5, .int .i64 ((s.putA m).came : Int)]) (by kernel_rfl) fz.drew (fun hHeld => ?_)
    refine wpAnyH_takeAt (i := 0) (d := 128) (v := ?vq60x) rfl rfl (by kernel_rfl) (by kernel_rfl) (by kernel_rfl) (fun _ _ _ h => h) (Or.inl ⟨by rfl, ?hyq60x⟩) hHeld ?_
    case hyq60x =>
      intro W hSw
      obtain ⟨s0, s1, s2⟩ := (show Blk W bb 28 #[.int .i64 ((s.putA m).most : Int), .slice A5 n5 c5, .int .i64 ((s.putA m).came : Int)] from hSw).three
      (go_simp; try with_reducible rfl)
    simp only [List.setIfInBounds_toArray, List.set_cons_zero, List.set_cons_succ]
    refine wpAnyH_takeAt (i := 1) (d := 129) (v := ?vq61x) rfl rfl (by kernel_rfl) (by kernel_rfl) (by kernel_rfl) (fun _ _ _ h => h) (Or.inl ⟨by rfl, ?hyq61x⟩) hHeld ?_
    case hyq61x =>
      intro W hSw
      clear hSw
      (go_simp; try with_reducible rfl)
    simp only [List.setIfInBounds_toArray, List.set_cons_zero, List.set_cons_succ]
    refine wpAnyH_takeAt (i := 2) (d := 130) (v := ?vq62x) rfl rfl (by kernel_rfl) (by kernel_rfl) (by kernel_rfl) (fun _ _ _ h => h) (Or.inl ⟨by rfl, ?hyq62x⟩) hHeld ?_
    case hyq62x =>
      intro W hSw
      clear hSw
      (go_simp; try with_reducible rfl)
    simp only [List.setIfInBounds_toArray, List.set_cons_zero, List.set_cons_succ]
    refine wpAnyH_takeAt (i := 3) (d := 131) (v := .bool true) rfl rfl (by kernel_rfl) (by kernel_rfl) (by kernel_rfl) (fun _ _ _ h => h) (Or.inl ⟨by rfl, ?hyq63x⟩) hHeld ?_
    case hyq63x =>
      intro W hSw
      clear hSw
      go_simp
      all_goals (first | with_reducible rfl | (simp; done) | (simp; omega))
    simp only [List.setIfInBounds_toArray, List.set_cons_zero, List.set_cons_succ]
    refine wpAnyH_takeAt (i := 4) (d := 132) (v := ?vq64x) rfl rfl (by kernel_rfl) (by kernel_rfl) (by kernel_rfl) (fun _ _ _ h => h) (Or.inl ⟨by rfl, ?hyq64x⟩) hHeld ?_
    case hyq64x =>
      intro W hSw
      clear hSw
      (go_simp; try with_reducible rfl)
    simp only [List.setIfInBounds_toArray, List.set_cons_zero, List.set_cons_succ]
    refine wpAnyH_takeAt (i := 5) (d := 133) (v := ?vq65x) rfl rfl (by kernel_rfl) (by kernel_rfl) (by kernel_rfl) (fun _ _ _ h => h) (Or.inl ⟨by rfl, ?hyq65x⟩) hHeld ?_
    case hyq65x =>
      intro W hSw
      clear hSw
      (go_simp; try with_reducible rfl)
    simp only [List.setIfInBounds_toArray, List.set_cons_zero, List.set_cons_succ]
    refine wpAnyH_takeAt (i := 7) (d := 135) (v := ?vq66x) rfl rfl (by kernel_rfl) (by kernel_rfl) (by kernel_rfl) (fun _ _ _ h => h) (Or.inl ⟨by rfl, ?hyq66x⟩) hHeld ?_
    case hyq66x =>
      intro W hSw
      clear hSw
      (go_simp; try with_reducible rfl)
    simp only [List.setIfInBounds_toArray, List.set_cons_zero, List.set_cons_succ]
    refine wpAnyH_ready (rs := [6]) (by kernel_rfl) (by simp) (AllReadyH.cons rfl (fun K hK => ?_) AllReadyH.nil)
    go_simp
    refine (num_any _ _).mono ?_
    rintro e w' ⟨rfl, rfl⟩
    dsimp only
    refine hK.out _ _ (show Blk _ bb 28 #[.int .i64 ((s.putA m).most : Int), .slice A5 n5 c5, .int .i64 ((s.putA m).came : Int)] from fz.drew) (fun hHeld => ?_)
    clear hK K
    try simp only [List.setIfInBounds_toArray, List.set_cons_zero, List.set_cons_succ]
    refine wpAnyH_takeAt (i := 8) (d := 136) (v := .bool true) rfl rfl (by kernel_rfl) (by kernel_rfl) (by kernel_rfl) (fun _ _ _ h => h) (Or.inl ⟨by rfl, ?hyq67x⟩) hHeld ?_
    case hyq67x =>
      intro W hSw
      clear hSw
      go_simp
      all_goals (first | with_reducible rfl | (simp; done) | (simp; omega))
    simp only [List.setIfInBounds_toArray, List.set_cons_zero, List.set_cons_succ]
    refine wpAnyH_takeAt (i := 9) (d := 137) (v := ?vq68x) rfl rfl (by kernel_rfl) (by kernel_rfl) (by kernel_rfl) (fun _ _ _ h => h) (Or.inl ⟨by rfl, ?hyq68x⟩) hHeld ?_
    case hyq68x =>
      intro W hSw
      clear hSw
      (go_simp; try with_reducible rfl)
    simp only [List.setIfInBounds_toArray, List.set_cons_zero, List.set_cons_succ]
    refine wpAnyH_ready (rs := [10]) (by kernel_rfl) (by simp) (AllReadyH.cons rfl (fun K hK => ?_) AllReadyH.nil)
    refine step_store_blk (by rfl) rfl 28 _ _ rfl (w.heap.size + 1 + 1) _ #[.int .i64 ((s.putA m).most : Int), .slice A5 n5 c5, .int .i64 ((s.putA m).came : Int)] rfl rfl 28 p2.drew rfl (info28 _ rfl) (by simp [Value.oneCell']) ?_
    intro wq fq gq sq
    refine hK.out _ _ (show Blk wq bb 28 #[.int .i64 ((s.putA m).most : Int), .slice A5 n5 c5, .int .i64 ((s.putA m).came : Int)] from (fz.drew).grown gq (by omega)) (fun hHeld => ?_)
    clear hK K
    try simp only [List.setIfInBounds_toArray, List.set_cons_zero, List.set_cons_succ]
    refine wpAnyH_takeAt (i := 11) (d := 7) (v := ?vq69x) rfl rfl (by kernel_rfl) (by kernel_rfl) (by kernel_rfl) (fun _ _ _ h => h) (Or.inl ⟨by rfl, ?hyq69x⟩) hHeld ?_
    case hyq69x =>
      intro W hSw
      clear hSw
      (go_simp; try with_reducible rfl)
    simp only [List.setIfInBounds_toArray, List.set_cons_zero, List.set_cons_succ]
    refine wpAnyH_done (by kernel_rfl) ?_ _
    go_wp2_with fail
    refine bodyPost_ret (v := .tuple #[.agg #[.int .i64 ((s.putA m).most : Int), .slice A5 n5 c5, .int .i64 ((s.putA m).came : Int)], .bool true]) (results_ct (by rfl) _ _ (w.heap.size + 1 + 1) 28 _ (0, 0) _ (by rfl) fq Try.underlying28 (by rfl) (info28 _ rfl) (by rfl)) rfl ?_
    obtain ⟨hN3, hTw, hnS6⟩ := HBG.out
    have hTq : Turn (fun b => b = w.heap.size + 1 + 1) wz wq := Turn.of_grown (show wz.grownBy wq (some (w.heap.size + 1 + 1)) from ⟨gq.os, gq.tape, gq.output, gq.size, gq.block⟩) (fun r e => by injection e with e; exact e.symm)
    exact ⟨_, rfl, S6, hS1, fun b e => (hS2 b e).elim .inl (fun e => .inr (by omega)), (hTw.trans (Turn.of_below hbz S) (fun _ _ e => e)).trans hTq (fun b hb e => by omega), (hN3.below hbz).keep hTq (fun b _ e e' => hnS6 b (by omega) (by omega) (e' )), (hRe.keep hTq (fun b _ e => .inr (by omega))).wide (fun b _ e => .inl e)⟩
end Go.Proofs.Yticabfmjdjcfnaa
