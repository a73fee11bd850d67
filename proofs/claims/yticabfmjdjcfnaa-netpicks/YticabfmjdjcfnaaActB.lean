/-
  waystationlaw05.act, where a message is doubled or dropped: by both, and both tell the same. Conditions: bounds.
-/
import Derived.Test.YticabfmjdjcfnaaWithout
namespace Go.Proofs.Yticabfmjdjcfnaa
open Go.RowKit
set_option linter.unusedVariables false
theorem putC_own {s : St} (h : s.ok) {p : Int × Msg} (hp : p ∈ s.l) : putC s p.2 = if s.l.length < s.most then 0 else 150 := by
  have h1 := h.place p hp
  have h2 := h.short p hp
  have a1 : isPl p.2.fr = true := isPl_iff.2 ⟨h1.1, h1.2.1⟩
  have a2 : isPl p.2.to = true := isPl_iff.2 ⟨h1.2.2.1, h1.2.2.2⟩
  by_cases hr : s.l.length < s.most
  · rw [if_pos hr]; exact putC_ok a1 a2 h2 hr
  · rw [if_neg hr]; exact putC_crowd a1 a2 h2 (by omega)
theorem dup_all {w : World} {S : Nat → Prop} {g : Nat} {s : St} (h : Nt w S g s) {k num : Int} {m : Msg} (hi : s.l[pick k s.l.length]? = some (num, m)) (hc : s.came ≤ 1000000000) : Calls Try.prog 23 #[.pointer (some ⟨g, 0, none⟩), .int .i64 k] w (PutC w S g s m) := by
  have hp := putC_own h.ok (List.mem_of_getElem? hi)
  by_cases hr : s.l.length < s.most
  · rw [if_pos hr] at hp
    obtain ⟨e1, e2⟩ := putA_yes hp
    refine (dup_some h hi hr hc).mono ?_
    rintro e w' ⟨rfl, hw⟩
    exact ⟨by rw [e2, hp], by rw [e1]; exact hw⟩
  · rw [if_neg hr] at hp
    refine (dup_crowd h hi (by omega)).mono ?_
    rintro e w' ⟨rfl, hb⟩
    exact PutC.no hp (by omega) h hb
theorem its_nth {w : World} {X : Nat → Prop} {A : Option Addr} {n : Nat} {l : Row} (h : Its w X A n l) {k : Nat} {num : Int} {m : Msg} (hk : l[k]? = some (num, m)) : ∃ ad Am q c, A = some ad ∧ ad.block < w.heap.size ∧ ¬ X ad.block ∧ Bys w X Am q m.b ∧
    w.cell? (ad.add (k * 4)) = some (.int .i64 num) ∧ w.cell? ⟨(ad.add (k * 4)).block, (ad.add (k * 4)).off + 1, none⟩ = some (.int .i64 m.fr) ∧ w.cell? ⟨(ad.add (k * 4)).block, (ad.add (k * 4)).off + 2, none⟩ = some (.int .i64 m.to) ∧ w.cell? ⟨(ad.add (k * 4)).block, (ad.add (k * 4)).off + 3, none⟩ = some (.slice Am q c) := by
  obtain ⟨hlt, e⟩ := List.getElem?_eq_some_iff.1 hk
  have := h.at_ hlt
  rw [e] at this
  exact this
theorem pickI_zero (k : Int) {n : Nat} (h : n = 0) : pickI k n = -1 := by unfold pickI; rw [if_pos h]
theorem pickI_pos (k : Int) {n : Nat} (h : n ≠ 0) : pickI k n = (pick k n : Int) := by unfold pickI; rw [if_neg h]
set_option maxRecDepth 100000 in
set_option maxHeartbeats 16000000 in
theorem act_dup0 {w : World} {S X : Nat → Prop} {g : Nat} {s : St} {cs ccs : Array Value} {x : Ac} (hN : Nt w S g s) (hR : RAt w (fun b => S b ∨ X b) s cs) (hX : ∀ b, X b → b < w.heap.size) (hx : AcAt w S x ccs) (hw0 : (x.what == 0) = false) (hw2 : (x.what == 2) = true) (hl0 : s.l.length = 0) : Calls Try.prog 16 #[.pointer (some ⟨g, 0, none⟩), .agg cs, .agg ccs] w (ActP w S X g s) := by
  obtain ⟨A, n, c, rfl, hIt, hnc, hcm⟩ := hR
  have hlen := hIt.len
  obtain ⟨Ab, qb, cb, rfl, hby, hqb, hcb, i1, i2, i3, i4⟩ := hx
  have hok := hN.ok
  have hl4 : n ≤ 4096 := by rw [← hlen]; exact Nat.le_trans hok.len hok.hi
  have HSL := Lib.hid (fun b => hN.lt (b := b))
  have k0 : Blk (((w.alloc (.cells #[.int .i64 (s.most : Int), .slice A n c, .int .i64 (s.came : Int)] 28)).alloc (.cells #[.int .i64 x.what, .int .i64 x.pick, .int .i64 x.m.fr, .int .i64 x.m.to, .slice Ab qb cb] 47)).alloc (.cells #[.int .i64 0, .slice none 0 0, .int .i64 0] 28)) w.heap.size 28 #[.int .i64 (s.most : Int), .slice A n c, .int .i64 (s.came : Int)] := ((Blk.new _ _ _).alloc _).alloc _
  have k1 : Blk (((w.alloc (.cells #[.int .i64 (s.most : Int), .slice A n c, .int .i64 (s.came : Int)] 28)).alloc (.cells #[.int .i64 x.what, .int .i64 x.pick, .int .i64 x.m.fr, .int .i64 x.m.to, .slice Ab qb cb] 47)).alloc (.cells #[.int .i64 0, .slice none 0 0, .int .i64 0] 28)) (w.heap.size + 1) 47 #[.int .i64 x.what, .int .i64 x.pick, .int .i64 x.m.fr, .int .i64 x.m.to, .slice Ab qb cb] := (blk_new _ 47 _ (by simp)).alloc _
  have k2 : Blk (((w.alloc (.cells #[.int .i64 (s.most : Int), .slice A n c, .int .i64 (s.came : Int)] 28)).alloc (.cells #[.int .i64 x.what, .int .i64 x.pick, .int .i64 x.m.fr, .int .i64 x.m.to, .slice Ab qb cb] 47)).alloc (.cells #[.int .i64 0, .slice none 0 0, .int .i64 0] 28)) (w.heap.size + 1 + 1) 28 #[.int .i64 0, .slice none 0 0, .int .i64 0] := blk_new _ 28 _ (by simp)
  have hb1 : Below w.heap.size w (((w.alloc (.cells #[.int .i64 (s.most : Int), .slice A n c, .int .i64 (s.came : Int)] 28)).alloc (.cells #[.int .i64 x.what, .int .i64 x.pick, .int .i64 x.m.fr, .int .i64 x.m.to, .slice Ab qb cb] 47)).alloc (.cells #[.int .i64 0, .slice none 0 0, .int .i64 0] 28)) := (((Below.refl _ _).alloc (Nat.le_refl _) _).alloc (by simp) _).alloc (by simp; omega) _
  have HZ1 : Hid ((((w.alloc (.cells #[.int .i64 (s.most : Int), .slice A n c, .int .i64 (s.came : Int)] 28)).alloc (.cells #[.int .i64 x.what, .int .i64 x.pick, .int .i64 x.m.fr, .int .i64 x.m.to, .slice Ab qb cb] 47)).alloc (.cells #[.int .i64 0, .slice none 0 0, .int .i64 0] 28)).heap.size = w.heap.size + 3) := Lib.hid (by simp)
  have HR := Lib.hid (show RAt w (fun b => S b ∨ X b) s #[.int .i64 (s.most : Int), .slice A n c, .int .i64 (s.came : Int)] from ⟨A, n, c, rfl, hIt, hnc, hcm⟩)
  have HN := Lib.hid hN
  have HBY := Lib.hid hby
  have HOK := Lib.hid hok
  have HLEN := Lib.hid hlen
  clear hIt hN hby hok hlen
  obtain ⟨c0, c1, c2⟩ := k0.three
  obtain ⟨d0, d1, d2, d3, d4⟩ := k1.five
  have hm1 := hcm
  unfold maxLen at hm1
  go_enter Try.func16, Try.ntmps16
  go_wp2_with fail
  generalize (((w.alloc (.cells #[.int .i64 (s.most : Int), .slice A n c, .int .i64 (s.came : Int)] 28)).alloc (.cells #[.int .i64 x.what, .int .i64 x.pick, .int .i64 x.m.fr, .int .i64 x.m.to, .slice Ab qb cb] 47)).alloc (.cells #[.int .i64 0, .slice none 0 0, .int .i64 0] 28)) = w1 at *
  refine (refPick_all _ _ A n c x.pick w1 (by omega)).mono ?_
  rintro e w2 ⟨rfl, hb2⟩
  have hz1 : w1.heap.size = w.heap.size + 3 := HZ1.out
  have HZ := Lib.hid hz1
  have hz2 := hb2.size
  have k0 := k0.below hb2 k0.lt
  have k1 := k1.below hb2 k1.lt
  have k2 := k2.below hb2 k2.lt
  have hbw := hb1.trans (hb2.mono hb1.size)
  have hzw : w.heap.size + 3 ≤ w2.heap.size := by omega
  clear c0 c1 c2 d0 d1 d2 d3 d4 hb1 hb2 HZ1 hz1 hz2
  obtain ⟨c0, c1, c2⟩ := k0.three
  obtain ⟨d0, d1, d2, d3, d4⟩ := k1.five
  have HL0 := Lib.hid hl0
  rw [pickI_zero x.pick (show n = 0 by rw [← HLEN.out]; exact hl0)]
  clear hl0
  go_wp2_with fail
  refine (dup_none (HN.out.keep (T := No) (Turn.of_below hbw No) (fun _ _ h => h.elim)) x.pick HL0.out).mono ?_
  rintro e w3 ⟨rfl, hb3⟩
  have m0 := k0.below hb3 k0.lt
  have m2 := k2.below hb3 k2.lt
  have hbw3 := hbw.trans (hb3.mono hbw.size)
  clear c0 c1 c2 d0 d1 d2 d3 d4 k0 k1 k2 hb3
  obtain ⟨c0, c1, c2⟩ := m0.three
  go_wp2_with fail
  refine wp_region_np ?_
  refine wp_region_held_drew (S := fun W => Blk W w.heap.size 28 #[.int .i64 (s.most : Int), .slice A n c, .int .i64 (s.came : Int)]) (by kernel_rfl) m0.drew (fun hHeld => ?_)
  refine wpAnyH_takeAt (i := 0) (d := 108) (v := ?vq0x) rfl rfl (by kernel_rfl) (by kernel_rfl) (by kernel_rfl) (fun _ _ _ h => h) (Or.inl ⟨by rfl, ?hyq0x⟩) hHeld ?_
  case hyq0x =>
    intro W hSw
    obtain ⟨s0, s1, s2⟩ := (show Blk W w.heap.size 28 #[.int .i64 (s.most : Int), .slice A n c, .int .i64 (s.came : Int)] from hSw).three
    (go_simp; try with_reducible rfl)
  simp only [List.setIfInBounds_toArray, List.set_cons_zero, List.set_cons_succ]
  refine wpAnyH_takeAt (i := 1) (d := 109) (v := ?vq1x) rfl rfl (by kernel_rfl) (by kernel_rfl) (by kernel_rfl) (fun _ _ _ h => h) (Or.inl ⟨by rfl, ?hyq1x⟩) hHeld ?_
  case hyq1x =>
    intro W hSw
    clear hSw
    (go_simp; try with_reducible rfl)
  simp only [List.setIfInBounds_toArray, List.set_cons_zero, List.set_cons_succ]
  refine wpAnyH_takeAt (i := 2) (d := 110) (v := .bool true) rfl rfl (by kernel_rfl) (by kernel_rfl) (by kernel_rfl) (fun _ _ _ h => h) (Or.inl ⟨by rfl, ?hyq2x⟩) hHeld ?_
  case hyq2x =>
    intro W hSw
    clear hSw
    go_simp
    all_goals (first | with_reducible rfl | (simp; done) | (simp; omega))
  simp only [List.setIfInBounds_toArray, List.set_cons_zero, List.set_cons_succ]
  refine wpAnyH_takeAt (i := 3) (d := 111) (v := ?vq3x) rfl rfl (by kernel_rfl) (by kernel_rfl) (by kernel_rfl) (fun _ _ _ h => h) (Or.inl ⟨by rfl, ?hyq3x⟩) hHeld ?_
  case hyq3x =>
    intro W hSw
    clear hSw
    (go_simp; try with_reducible rfl)
  simp only [List.setIfInBounds_toArray, List.set_cons_zero, List.set_cons_succ]
  refine wpAnyH_takeAt (i := 4) (d := 112) (v := ?vq4x) rfl rfl (by kernel_rfl) (by kernel_rfl) (by kernel_rfl) (fun _ _ _ h => h) (Or.inl ⟨by rfl, ?hyq4x⟩) hHeld ?_
  case hyq4x =>
    intro W hSw
    clear hSw
    (go_simp; try with_reducible rfl)
  simp only [List.setIfInBounds_toArray, List.set_cons_zero, List.set_cons_succ]
  refine wpAnyH_ready (rs := [5]) (by kernel_rfl) (by simp) (AllReadyH.cons rfl (fun K hK => ?_) AllReadyH.nil)
  go_simp
  refine (num_any _ _).mono ?_
  rintro e w' ⟨rfl, rfl⟩
  dsimp only
  refine hK.out _ _ (show Blk _ w.heap.size 28 #[.int .i64 (s.most : Int), .slice A n c, .int .i64 (s.came : Int)] from m0.drew) (fun hHeld => ?_)
  clear hK K
  try simp only [List.setIfInBounds_toArray, List.set_cons_zero, List.set_cons_succ]
  refine wpAnyH_takeAt (i := 6) (d := 114) (v := .bool true) rfl rfl (by kernel_rfl) (by kernel_rfl) (by kernel_rfl) (fun _ _ _ h => h) (Or.inl ⟨by rfl, ?hyq5x⟩) hHeld ?_
  case hyq5x =>
    intro W hSw
    clear hSw
    go_simp
    all_goals (first | with_reducible rfl | (simp; done) | (simp; omega))
  simp only [List.setIfInBounds_toArray, List.set_cons_zero, List.set_cons_succ]
  refine wpAnyH_takeAt (i := 7) (d := 115) (v := ?vq6x) rfl rfl (by kernel_rfl) (by kernel_rfl) (by kernel_rfl) (fun _ _ _ h => h) (Or.inl ⟨by rfl, ?hyq6x⟩) hHeld ?_
  case hyq6x =>
    intro W hSw
    clear hSw
    (go_simp; try with_reducible rfl)
  simp only [List.setIfInBounds_toArray, List.set_cons_zero, List.set_cons_succ]
  refine wpAnyH_ready (rs := [8]) (by kernel_rfl) (by simp) (AllReadyH.cons rfl (fun K hK => ?_) AllReadyH.nil)
  refine step_store_blk (by rfl) rfl 28 _ _ rfl (w.heap.size + 1 + 1) _ #[.int .i64 (s.most : Int), .slice A n c, .int .i64 (s.came : Int)] rfl rfl 28 m2.drew rfl (info28 _ rfl) (by simp [Value.oneCell']) ?_
  intro wz fz gz sz
  refine hK.out _ _ (show Blk wz w.heap.size 28 #[.int .i64 (s.most : Int), .slice A n c, .int .i64 (s.came : Int)] from (m0.drew).grown gz (by omega)) (fun hHeld => ?_)
  clear hK K
  try simp only [List.setIfInBounds_toArray, List.set_cons_zero, List.set_cons_succ]
  refine wpAnyH_takeAt (i := 9) (d := 7) (v := ?vq7x) rfl rfl (by kernel_rfl) (by kernel_rfl) (by kernel_rfl) (fun _ _ _ h => h) (Or.inl ⟨by rfl, ?hyq7x⟩) hHeld ?_
  case hyq7x =>
    intro W hSw
    clear hSw
    (go_simp; try with_reducible rfl)
  simp only [List.setIfInBounds_toArray, List.set_cons_zero, List.set_cons_succ]
  refine wpAnyH_done (by kernel_rfl) ?_ _
  go_wp2_with fail
  refine bodyPost_ret (v := .tuple #[.agg #[.int .i64 (s.most : Int), .slice A n c, .int .i64 (s.came : Int)], .bool true]) (results_ct (by rfl) _ _ (w.heap.size + 1 + 1) 28 _ (0, 0) _ (by rfl) fz Try.underlying28 (by rfl) (info28 _ rfl) (by rfl)) rfl ?_
  have hTz : Turn (fun b => b = w.heap.size + 1 + 1) w3 wz := Turn.of_grown (show w3.grownBy wz (some (w.heap.size + 1 + 1)) from ⟨gz.os, gz.tape, gz.output, gz.size, gz.block⟩) (fun r e => by injection e with e; exact e.symm)
  have hN3 := HN.out.keep (T := No) (Turn.of_below hbw3 No) (fun _ _ h => h.elim)
  have hR3 : RAt w3 (fun b => (S b ∨ X b) ∨ (w.heap.size ≤ b ∧ b < w.heap.size + 3)) s #[.int .i64 (s.most : Int), .slice A n c, .int .i64 (s.came : Int)] := (HR.out.wide (fun b hb e => e.elim id (fun e => absurd e.1 (by omega)))).keep (S := No) (Turn.of_below hbw3 No) (fun _ _ h => h.elim)
  exact ⟨_, rfl, S, fun _ e => e, fun _ e => .inl e, (Turn.of_below hbw3 S).trans hTz (fun b hb e => by omega), hN3.keep hTz (fun b _ e e' => by have := HSL.out b e'; omega), (hR3.keep hTz (fun b _ e => .inr (by omega))).wide (fun b _ e => .inl e)⟩
set_option maxRecDepth 100000 in
set_option maxHeartbeats 16000000 in
theorem act_drop0 {w : World} {S X : Nat → Prop} {g : Nat} {s : St} {cs ccs : Array Value} {x : Ac} (hN : Nt w S g s) (hR : RAt w (fun b => S b ∨ X b) s cs) (hX : ∀ b, X b → b < w.heap.size) (hx : AcAt w S x ccs) (hw0 : (x.what == 0) = false) (hw2 : (x.what == 2) = false) (hw3 : (x.what == 3) = true) (hl0 : s.l.length = 0) : Calls Try.prog 16 #[.pointer (some ⟨g, 0, none⟩), .agg cs, .agg ccs] w (ActP w S X g s) := by
  obtain ⟨A, n, c, rfl, hIt, hnc, hcm⟩ := hR
  have hlen := hIt.len
  obtain ⟨Ab, qb, cb, rfl, hby, hqb, hcb, i1, i2, i3, i4⟩ := hx
  have hok := hN.ok
  have hl4 : n ≤ 4096 := by rw [← hlen]; exact Nat.le_trans hok.len hok.hi
  have HSL := Lib.hid (fun b => hN.lt (b := b))
  have k0 : Blk (((w.alloc (.cells #[.int .i64 (s.most : Int), .slice A n c, .int .i64 (s.came : Int)] 28)).alloc (.cells #[.int .i64 x.what, .int .i64 x.pick, .int .i64 x.m.fr, .int .i64 x.m.to, .slice Ab qb cb] 47)).alloc (.cells #[.int .i64 0, .slice none 0 0, .int .i64 0] 28)) w.heap.size 28 #[.int .i64 (s.most : Int), .slice A n c, .int .i64 (s.came : Int)] := ((Blk.new _ _ _).alloc _).alloc _
  have k1 : Blk (((w.alloc (.cells #[.int .i64 (s.most : Int), .slice A n c, .int .i64 (s.came : Int)] 28)).alloc (.cells #[.int .i64 x.what, .int .i64 x.pick, .int .i64 x.m.fr, .int .i64 x.m.to, .slice Ab qb cb] 47)).alloc (.cells #[.int .i64 0, .slice none 0 0, .int .i64 0] 28)) (w.heap.size + 1) 47 #[.int .i64 x.what, .int .i64 x.pick, .int .i64 x.m.fr, .int .i64 x.m.to, .slice Ab qb cb] := (blk_new _ 47 _ (by simp)).alloc _
  have k2 : Blk (((w.alloc (.cells #[.int .i64 (s.most : Int), .slice A n c, .int .i64 (s.came : Int)] 28)).alloc (.cells #[.int .i64 x.what, .int .i64 x.pick, .int .i64 x.m.fr, .int .i64 x.m.to, .slice Ab qb cb] 47)).alloc (.cells #[.int .i64 0, .slice none 0 0, .int .i64 0] 28)) (w.heap.size + 1 + 1) 28 #[.int .i64 0, .slice none 0 0, .int .i64 0] := blk_new _ 28 _ (by simp)
  have hb1 : Below w.heap.size w (((w.alloc (.cells #[.int .i64 (s.most : Int), .slice A n c, .int .i64 (s.came : Int)] 28)).alloc (.cells #[.int .i64 x.what, .int .i64 x.pick, .int .i64 x.m.fr, .int .i64 x.m.to, .slice Ab qb cb] 47)).alloc (.cells #[.int .i64 0, .slice none 0 0, .int .i64 0] 28)) := (((Below.refl _ _).alloc (Nat.le_refl _) _).alloc (by simp) _).alloc (by simp; omega) _
  have HZ1 : Hid ((((w.alloc (.cells #[.int .i64 (s.most : Int), .slice A n c, .int .i64 (s.came : Int)] 28)).alloc (.cells #[.int .i64 x.what, .int .i64 x.pick, .int .i64 x.m.fr, .int .i64 x.m.to, .slice Ab qb cb] 47)).alloc (.cells #[.int .i64 0, .slice none 0 0, .int .i64 0] 28)).heap.size = w.heap.size + 3) := Lib.hid (by simp)
  have HR := Lib.hid (show RAt w (fun b => S b ∨ X b) s #[.int .i64 (s.most : Int), .slice A n c, .int .i64 (s.came : Int)] from ⟨A, n, c, rfl, hIt, hnc, hcm⟩)
  have HN := Lib.hid hN
  have HBY := Lib.hid hby
  have HOK := Lib.hid hok
  have HLEN := Lib.hid hlen
  clear hIt hN hby hok hlen
  obtain ⟨c0, c1, c2⟩ := k0.three
  obtain ⟨d0, d1, d2, d3, d4⟩ := k1.five
  have hm1 := hcm
  unfold maxLen at hm1
  go_enter Try.func16, Try.ntmps16
  go_wp2_with fail
  generalize (((w.alloc (.cells #[.int .i64 (s.most : Int), .slice A n c, .int .i64 (s.came : Int)] 28)).alloc (.cells #[.int .i64 x.what, .int .i64 x.pick, .int .i64 x.m.fr, .int .i64 x.m.to, .slice Ab qb cb] 47)).alloc (.cells #[.int .i64 0, .slice none 0 0, .int .i64 0] 28)) = w1 at *
  refine (refPick_all _ _ A n c x.pick w1 (by omega)).mono ?_
  rintro e w2 ⟨rfl, hb2⟩
  have hz1 : w1.heap.size = w.heap.size + 3 := HZ1.out
  have HZ := Lib.hid hz1
  have hz2 := hb2.size
  have k0 := k0.below hb2 k0.lt
  have k1 := k1.below hb2 k1.lt
  have k2 := k2.below hb2 k2.lt
  have hbw := hb1.trans (hb2.mono hb1.size)
  have hzw : w.heap.size + 3 ≤ w2.heap.size := by omega
  clear c0 c1 c2 d0 d1 d2 d3 d4 hb1 hb2 HZ1 hz1 hz2
  obtain ⟨c0, c1, c2⟩ := k0.three
  obtain ⟨d0, d1, d2, d3, d4⟩ := k1.five
  have HL0 := Lib.hid hl0
  rw [pickI_zero x.pick (show n = 0 by rw [← HLEN.out]; exact hl0)]
  clear hl0
  go_wp2_with fail
  refine (drop_none (HN.out.keep (T := No) (Turn.of_below hbw No) (fun _ _ h => h.elim)) x.pick HL0.out).mono ?_
  rintro e w3 ⟨rfl, hb3⟩
  have m0 := k0.below hb3 k0.lt
  have m2 := k2.below hb3 k2.lt
  have hbw3 := hbw.trans (hb3.mono hbw.size)
  clear c0 c1 c2 d0 d1 d2 d3 d4 k0 k1 k2 hb3
  obtain ⟨c0, c1, c2⟩ := m0.three
  go_wp2_with fail
  refine wp_region_np ?_
  refine wp_region_held_drew (S := fun W => Blk W w.heap.size 28 #[.int .i64 (s.most : Int), .slice A n c, .int .i64 (s.came : Int)]) (by kernel_rfl) m0.drew (fun hHeld => ?_)
  refine wpAnyH_takeAt (i := 0) (d := 149) (v := ?vq8x) rfl rfl (by kernel_rfl) (by kernel_rfl) (by kernel_rfl) (fun _ _ _ h => h) (Or.inl ⟨by rfl, ?hyq8x⟩) hHeld ?_
  case hyq8x =>
    intro W hSw
    obtain ⟨s0, s1, s2⟩ := (show Blk W w.heap.size 28 #[.int .i64 (s.most : Int), .slice A n c, .int .i64 (s.came : Int)] from hSw).three
    (go_simp; try with_reducible rfl)
  simp only [List.setIfInBounds_toArray, List.set_cons_zero, List.set_cons_succ]
  refine wpAnyH_takeAt (i := 1) (d := 150) (v := ?vq9x) rfl rfl (by kernel_rfl) (by kernel_rfl) (by kernel_rfl) (fun _ _ _ h => h) (Or.inl ⟨by rfl, ?hyq9x⟩) hHeld ?_
  case hyq9x =>
    intro W hSw
    clear hSw
    (go_simp; try with_reducible rfl)
  simp only [List.setIfInBounds_toArray, List.set_cons_zero, List.set_cons_succ]
  refine wpAnyH_takeAt (i := 2) (d := 151) (v := .bool true) rfl rfl (by kernel_rfl) (by kernel_rfl) (by kernel_rfl) (fun _ _ _ h => h) (Or.inl ⟨by rfl, ?hyq10x⟩) hHeld ?_
  case hyq10x =>
    intro W hSw
    clear hSw
    go_simp
    all_goals (first | with_reducible rfl | (simp; done) | (simp; omega))
  simp only [List.setIfInBounds_toArray, List.set_cons_zero, List.set_cons_succ]
  refine wpAnyH_takeAt (i := 3) (d := 152) (v := ?vq11x) rfl rfl (by kernel_rfl) (by kernel_rfl) (by kernel_rfl) (fun _ _ _ h => h) (Or.inl ⟨by rfl, ?hyq11x⟩) hHeld ?_
  case hyq11x =>
    intro W hSw
    clear hSw
    (go_simp; try with_reducible rfl)
  simp only [List.setIfInBounds_toArray, List.set_cons_zero, List.set_cons_succ]
  refine wpAnyH_takeAt (i := 4) (d := 153) (v := ?vq12x) rfl rfl (by kernel_rfl) (by kernel_rfl) (by kernel_rfl) (fun _ _ _ h => h) (Or.inl ⟨by rfl, ?hyq12x⟩) hHeld ?_
  case hyq12x =>
    intro W hSw
    clear hSw
    (go_simp; try with_reducible rfl)
  simp only [List.setIfInBounds_toArray, List.set_cons_zero, List.set_cons_succ]
  refine wpAnyH_ready (rs := [5]) (by kernel_rfl) (by simp) (AllReadyH.cons rfl (fun K hK => ?_) AllReadyH.nil)
  go_simp
  refine (num_any _ _).mono ?_
  rintro e w' ⟨rfl, rfl⟩
  dsimp only
  refine hK.out _ _ (show Blk _ w.heap.size 28 #[.int .i64 (s.most : Int), .slice A n c, .int .i64 (s.came : Int)] from m0.drew) (fun hHeld => ?_)
  clear hK K
  try simp only [List.setIfInBounds_toArray, List.set_cons_zero, List.set_cons_succ]
  refine wpAnyH_takeAt (i := 6) (d := 155) (v := .bool true) rfl rfl (by kernel_rfl) (by kernel_rfl) (by kernel_rfl) (fun _ _ _ h => h) (Or.inl ⟨by rfl, ?hyq13x⟩) hHeld ?_
  case hyq13x =>
    intro W hSw
    clear hSw
    go_simp
    all_goals (first | with_reducible rfl | (simp; done) | (simp; omega))
  simp only [List.setIfInBounds_toArray, List.set_cons_zero, List.set_cons_succ]
  refine wpAnyH_takeAt (i := 7) (d := 156) (v := ?vq14x) rfl rfl (by kernel_rfl) (by kernel_rfl) (by kernel_rfl) (fun _ _ _ h => h) (Or.inl ⟨by rfl, ?hyq14x⟩) hHeld ?_
  case hyq14x =>
    intro W hSw
    clear hSw
    (go_simp; try with_reducible rfl)
  simp only [List.setIfInBounds_toArray, List.set_cons_zero, List.set_cons_succ]
  refine wpAnyH_ready (rs := [8]) (by kernel_rfl) (by simp) (AllReadyH.cons rfl (fun K hK => ?_) AllReadyH.nil)
  refine step_store_blk (by rfl) rfl 28 _ _ rfl (w.heap.size + 1 + 1) _ #[.int .i64 (s.most : Int), .slice A n c, .int .i64 (s.came : Int)] rfl rfl 28 m2.drew rfl (info28 _ rfl) (by simp [Value.oneCell']) ?_
  intro wz fz gz sz
  refine hK.out _ _ (show Blk wz w.heap.size 28 #[.int .i64 (s.most : Int), .slice A n c, .int .i64 (s.came : Int)] from (m0.drew).grown gz (by omega)) (fun hHeld => ?_)
  clear hK K
  try simp only [List.setIfInBounds_toArray, List.set_cons_zero, List.set_cons_succ]
  refine wpAnyH_takeAt (i := 9) (d := 7) (v := ?vq15x) rfl rfl (by kernel_rfl) (by kernel_rfl) (by kernel_rfl) (fun _ _ _ h => h) (Or.inl ⟨by rfl, ?hyq15x⟩) hHeld ?_
  case hyq15x =>
    intro W hSw
    clear hSw
    (go_simp; try with_reducible rfl)
  simp only [List.setIfInBounds_toArray, List.set_cons_zero, List.set_cons_succ]
  refine wpAnyH_done (by kernel_rfl) ?_ _
  go_wp2_with fail
  refine bodyPost_ret (v := .tuple #[.agg #[.int .i64 (s.most : Int), .slice A n c, .int .i64 (s.came : Int)], .bool true]) (results_ct (by rfl) _ _ (w.heap.size + 1 + 1) 28 _ (0, 0) _ (by rfl) fz Try.underlying28 (by rfl) (info28 _ rfl) (by rfl)) rfl ?_
  have hTz : Turn (fun b => b = w.heap.size + 1 + 1) w3 wz := Turn.of_grown (show w3.grownBy wz (some (w.heap.size + 1 + 1)) from ⟨gz.os, gz.tape, gz.output, gz.size, gz.block⟩) (fun r e => by injection e with e; exact e.symm)
  have hN3 := HN.out.keep (T := No) (Turn.of_below hbw3 No) (fun _ _ h => h.elim)
  have hR3 : RAt w3 (fun b => (S b ∨ X b) ∨ (w.heap.size ≤ b ∧ b < w.heap.size + 3)) s #[.int .i64 (s.most : Int), .slice A n c, .int .i64 (s.came : Int)] := (HR.out.wide (fun b hb e => e.elim id (fun e => absurd e.1 (by omega)))).keep (S := No) (Turn.of_below hbw3 No) (fun _ _ h => h.elim)
  exact ⟨_, rfl, S, fun _ e => e, fun _ e => .inl e, (Turn.of_below hbw3 S).trans hTz (fun b hb e => by omega), hN3.keep hTz (fun b _ e e' => by have := HSL.out b e'; omega), (hR3.keep hTz (fun b _ e => .inr (by omega))).wide (fun b _ e => .inl e)⟩
end Go.Proofs.Yticabfmjdjcfnaa
