/-
  A call by both where there is nothing, of a net of whose own blocks some lie as they lay. Conditions: bounds.
-/
import Derived.Test.YticabfmjdjcfnaaKeepC
namespace Go.Proofs.Yticabfmjdjcfnaa.K
open Go.RowKit
set_option linter.unusedVariables false
set_option linter.unusedSectionVars false
variable [Quiet]
set_option maxRecDepth 100000 in
set_option maxHeartbeats 16000000 in
theorem act_peek0 {w : World} {S X : Nat → Prop} {g : Nat} {s : St} {cs ccs : Array Value} {x : Ac} (hN : Nt w S g s) (hR : RAt w (fun b => S b ∨ X b) s cs) (hX : ∀ b, X b → b < w.heap.size) (hx : AcAt w S x ccs) (hw0 : (x.what == 0) = false) (hw2 : (x.what == 2) = false) (hw3 : (x.what == 3) = false) (hw1 : (x.what == 1) = false) (hl0 : s.l.length = 0) : Calls Try.prog 16 #[.pointer (some ⟨g, 0, none⟩), .agg cs, .agg ccs] w (ActP w S X g s) := by
  obtain ⟨A, n, c, rfl, hIt, hnc, hcm⟩ := hR
  have hlen := hIt.len
  obtain ⟨Ab, qb, cb, rfl, hby, hqb, hcb, i1, i2, i3, i4⟩ := hx
  have hok := hN.ok
  have hl4 : n ≤ 4096 := by rw [← hlen]; exact Nat.le_trans hok.len hok.hi
  have HSL := Lib.hid (fun b => hN.lt (b := b))
  have k0 : Blk (((w.alloc (.cells #[.int .i64 (s.most : Int), .slice A n c, .int .i64 (s.came : Int)] 28)).alloc (.cells #[.int .i64 x.what, .int .i64 x.pick, .int .i64 x.m.fr, .int .i64 x.m.to, .slice Ab qb cb] 47)).alloc (.cells #[.int .i64 0, .slice none 0 0, .int .i64 0] 28)) w.heap.size 28 #[.int .i64 (s.most : Int), .slice A n c, .int .i64 (s.came : Int)] := ((Blk.new _ _ _).alloc _).alloc _
  have k1 : Blk (((w.alloc (.cells #[.int .i64 (s.most : Int), .slice A n c, .int .i64 (s.came : Int)] 28)).alloc (.cells #[.int .i64 x.what, .int .i64 x.pick, .int .i64 x.m.fr, .int .i64 x.m.to, .slice Ab qb cb] 47)).alloc (.cells #[.int .i64 0, .slice none 0 0, .int .i64 0] 28)) (w.heap.size + 1) 47 #[.int .i64 x.what, .int .i64 x.pick, .int .i64 x.m.fr, .int .i64 x.m.to, .slice Ab qb cb] := (blk_new _ 47 _ (by simp)).alloc _
  have k2 : Blk (((w.alloc (.cells #[.int .i64 (s.most : Int), .slice A n c, .int .i64 (s.came : Int)] 28)).alloc (.cells #[.int .i64 x.what, .int .i64 x.pick, .int .i64 x.m.fr, .int .i64 x.m.to, .slice Ab qb cb] 47)).alloc (.cells #[.int .i64 0, .slice none 0 0, .int .i64 0] 28)) (w.heap.size + 1 + 1) 28 #[.int .i64 0, .slice none 0 0, .int .i64 0] := blk_new _ 28 _ (by simp)
  have hb1 : Below w.heap.size w (((w.alloc (.cells #[.int .i64 (s.most : Int), .slice A n c, .int .i64 (s.came : Int)] 28)).alloc (.cells #[.int .i64 x.what, .int .i64 x.pick, .int .i64 x.m.fr, .int .i64 x.m.to, .slice Ab qb cb] 47)).alloc (.cells #[.int .i64 0, .slice none 0 0, .int .i64 0] 28)) := (((Below.refl _ _).alloc (Nat.le_refl _) _).alloc (by simp) _).alloc (by simp; omega) _
  have HZ1 : Hid ((((w.alloc (.cells #[.int .i64 (s.most : Int), .slice A n c, .int .i64 (s.came : Int)] 28)).alloc (.cells #[.int .i64 x.what, .int .i64 x.pick, .int .i64 x.m.fr, .int .i64 x.m.to, .slice Ab qb cb] 47)).alloc (.cells #[.int .i64 0, .slice none 0 0, .int .i64 0] 28)).heap.size = w.heap.size + 3) := Lib.hid (by simp)
  have HR := Lib.hid (show RAt w (fun b => S b ∨ X b) s #[.int .i64 (s.most : Int), .slice A n c, .int .i64 (s.came : Int)] from ⟨A, n, c, rfl, hIt, hnc, hcm⟩)
  have HN := Lib.hid hN
  have HBY := Lib.hid hby
  have HOK := Lib.hid hok
  have HLEN := Lib.hid hlen
  clear hIt hN hby hok hlen
  obtain ⟨c0, c1, c2⟩ := k0.three
  obtain ⟨d0, d1, d2, d3, d4⟩ := k1.five
  have hm1 := hcm
  unfold maxLen at hm1
  go_enter Try.func16, Try.ntmps16
  go_wp2_with fail
  generalize (((w.alloc (.cells #[.int .i64 (s.most : Int), .slice A n c, .int .i64 (s.came : Int)] 28)).alloc (.cells #[.int .i64 x.what, .int .i64 x.pick, .int .i64 x.m.fr, .int .i64 x.m.to, .slice Ab qb cb] 47)).alloc (.cells #[.int .i64 0, .slice none 0 0, .int .i64 0] 28)) = w1 at *
  refine (refPick_all _ _ A n c x.pick w1 (by omega)).mono ?_
  rintro e w2 ⟨rfl, hb2⟩
  have hz1 : w1.heap.size = w.heap.size + 3 := HZ1.out
  have HZ := Lib.hid hz1
  have hz2 := hb2.size
  have k0 := k0.below hb2 k0.lt
  have k1 := k1.below hb2 k1.lt
  have k2 := k2.below hb2 k2.lt
  have hbw := hb1.trans (hb2.mono hb1.size)
  have hzw : w.heap.size + 3 ≤ w2.heap.size := by omega
  clear c0 c1 c2 d0 d1 d2 d3 d4 hb1 hb2 HZ1 hz1 hz2
  obtain ⟨c0, c1, c2⟩ := k0.three
  obtain ⟨d0, d1, d2, d3, d4⟩ := k1.five
  have HL0 := Lib.hid hl0
  rw [pickI_zero x.pick (show n = 0 by rw [← HLEN.out]; exact hl0)]
  clear hl0
  have hN2 := HN.out.keep (T := No) (Turn.of_below hbw No) (fun _ _ h => h.elim)
  go_wp2_with fail
  refine (peek_none hN2.old x.pick HL0.out).mono ?_
  rintro e w3 ⟨rfl, hb3⟩
  rw [zMsg_cs]
  have hz3 := hb3.size
  go_wp2_with (with_reducible refine at_store 39 rfl ?_)
  refine Stop.go (wpList_store_blk (by rfl) (by rfl) 39 _ _ (by rfl) w3.heap.size _ #[.int .i64 0, .int .i64 0, .slice none 0 0] (by rfl) (by rfl) 39 (Blk.new w3 39 #[.int .i64 0, .int .i64 0, .slice none 0 0]) (by rfl) (info39 _ rfl) (by simp [Value.oneCell']) ?_)
  intro wq f4 g4 s4
  clear s4
  have hb4 : Below w3.heap.size w3 wq := below_grown ((Below.refl _ _).alloc (Nat.le_refl _) _) g4 (Nat.le_refl _) (Nat.le_refl _)
  have hb24 := hb3.trans (hb4.mono hz3)
  have hbw4 := hbw.trans (hb24.mono hbw.size)
  have k0 := k0.below hb24 k0.lt
  have k1 := k1.below hb24 k1.lt
  have k2 := k2.below hb24 k2.lt
  obtain ⟨mb, hmb⟩ : ∃ x, x = w3.heap.size := ⟨_, rfl⟩
  rw [← hmb] at f4 ⊢
  have hmbl : w.heap.size + 3 ≤ mb := by omega
  clear c0 c1 c2 d0 d1 d2 d3 d4 hb3 hb4 g4 hmb hz3
  obtain ⟨d0, d1, d2, d3, d4⟩ := k1.five
  have m0 := k0
  have m2 := k2
  have f6 := f4
  have hbw6 := hbw4
  clear k0 k2 f4 hbw4
  obtain ⟨c0, c1, c2⟩ := m0.three
  obtain ⟨z0, z1, z2⟩ := f6.three
  go_wp2_with fail
  refine wp_region_np ?_
  refine wp_region_held_drew (S := fun W => Blk W w.heap.size 28 #[.int .i64 (s.most : Int), .slice A n c, .int .i64 (s.came : Int)] ∧ Blk W mb 39 #[.int .i64 0, .int .i64 0, .slice none 0 0]) (by kernel_rfl) ⟨m0.drew, f6.drew⟩ (fun hHeld => ?_)
  refine wpAnyH_takeAt (i := 0) (d := 194) (v := ?vq70x) rfl rfl (by kernel_rfl) (by kernel_rfl) (by kernel_rfl) (fun _ _ _ h => h) (Or.inl ⟨by rfl, ?hyq70x⟩) hHeld ?_
  case hyq70x =>
    intro W hSw
    obtain ⟨sv, su⟩ : Blk W w.heap.size 28 #[.int .i64 (s.most : Int), .slice A n c, .int .i64 (s.came : Int)] ∧ Blk W mb 39 #[.int .i64 0, .int .i64 0, .slice none 0 0] := hSw; obtain ⟨s0, s1, s2⟩ := sv.three; obtain ⟨s3, s4, s5⟩ := su.three; clear sv su
    (go_simp; try with_reducible rfl)
  simp only [List.setIfInBounds_toArray, List.set_cons_zero, List.set_cons_succ]
  refine wpAnyH_takeAt (i := 1) (d := 195) (v := ?vq71x) rfl rfl (by kernel_rfl) (by kernel_rfl) (by kernel_rfl) (fun _ _ _ h => h) (Or.inl ⟨by rfl, ?hyq71x⟩) hHeld ?_
  case hyq71x =>
    intro W hSw
    clear hSw
    (go_simp; try with_reducible rfl)
  simp only [List.setIfInBounds_toArray, List.set_cons_zero, List.set_cons_succ]
  refine wpAnyH_takeAt (i := 2) (d := 196) (v := .bool true) rfl rfl (by kernel_rfl) (by kernel_rfl) (by kernel_rfl) (fun _ _ _ h => h) (Or.inl ⟨by rfl, ?hyq72x⟩) hHeld ?_
  case hyq72x =>
    intro W hSw
    clear hSw
    go_simp
    all_goals (first | with_reducible rfl | (simp; done) | (simp; omega))
  simp only [List.setIfInBounds_toArray, List.set_cons_zero, List.set_cons_succ]
  refine wpAnyH_takeAt (i := 3) (d := 197) (v := ?vq73x) rfl rfl (by kernel_rfl) (by kernel_rfl) (by kernel_rfl) (fun _ _ _ h => h) (Or.inl ⟨by rfl, ?hyq73x⟩) hHeld ?_
  case hyq73x =>
    intro W hSw
    clear hSw
    (go_simp; try with_reducible rfl)
  simp only [List.setIfInBounds_toArray, List.set_cons_zero, List.set_cons_succ]
  refine wpAnyH_takeAt (i := 4) (d := 198) (v := ?vq74x) rfl rfl (by kernel_rfl) (by kernel_rfl) (by kernel_rfl) (fun _ _ _ h => h) (Or.inl ⟨by rfl, ?hyq74x⟩) hHeld ?_
  case hyq74x =>
    intro W hSw
    clear hSw
    (go_simp; try with_reducible rfl)
  simp only [List.setIfInBounds_toArray, List.set_cons_zero, List.set_cons_succ]
  refine wpAnyH_ready (rs := [5]) (by kernel_rfl) (by simp) (AllReadyH.cons rfl (fun K hK => ?_) AllReadyH.nil)
  go_simp
  refine (num_any _ _).mono ?_
  rintro e w' ⟨rfl, rfl⟩
  dsimp only
  refine hK.out _ _ ⟨m0.drew, f6.drew⟩ (fun hHeld => ?_)
  clear hK K
  try simp only [List.setIfInBounds_toArray, List.set_cons_zero, List.set_cons_succ]
  refine wpAnyH_takeAt (i := 6) (d := 200) (v := .bool true) rfl rfl (by kernel_rfl) (by kernel_rfl) (by kernel_rfl) (fun _ _ _ h => h) (Or.inl ⟨by rfl, ?hyq75x⟩) hHeld ?_
  case hyq75x =>
    intro W hSw
    clear hSw
    go_simp
    all_goals (first | with_reducible rfl | (simp; done) | (simp; omega))
  simp only [List.setIfInBounds_toArray, List.set_cons_zero, List.set_cons_succ]
  refine wpAnyH_takeAt (i := 7) (d := 201) (v := ?vq76x) rfl rfl (by kernel_rfl) (by kernel_rfl) (by kernel_rfl) (fun _ _ _ h => h) (Or.inl ⟨by rfl, ?hyq76x⟩) hHeld ?_
  case hyq76x =>
    intro W hSw
    clear hSw
    (go_simp; try with_reducible rfl)
  simp only [List.setIfInBounds_toArray, List.set_cons_zero, List.set_cons_succ]
  refine wpAnyH_takeAt (i := 8) (d := 202) (v := ?vq77x) rfl rfl (by kernel_rfl) (by kernel_rfl) (by kernel_rfl) (fun _ _ _ h => h) (Or.inl ⟨by rfl, ?hyq77x⟩) hHeld ?_
  case hyq77x =>
    intro W hSw
    clear hSw
    (go_simp; try with_reducible rfl)
  simp only [List.setIfInBounds_toArray, List.set_cons_zero, List.set_cons_succ]
  refine wpAnyH_takeAt (i := 9) (d := 203) (v := ?vq78x) rfl rfl (by kernel_rfl) (by kernel_rfl) (by kernel_rfl) (fun _ _ _ h => h) (Or.inl ⟨by rfl, ?hyq78x⟩) hHeld ?_
  case hyq78x =>
    intro W hSw
    obtain ⟨sv, su⟩ : Blk W w.heap.size 28 #[.int .i64 (s.most : Int), .slice A n c, .int .i64 (s.came : Int)] ∧ Blk W mb 39 #[.int .i64 0, .int .i64 0, .slice none 0 0] := hSw; obtain ⟨s0, s1, s2⟩ := sv.three; obtain ⟨s3, s4, s5⟩ := su.three; clear sv su
    (go_simp; try with_reducible rfl)
  simp only [List.setIfInBounds_toArray, List.set_cons_zero, List.set_cons_succ]
  refine wpAnyH_takeAt (i := 10) (d := 204) (v := ?vq79x) rfl rfl (by kernel_rfl) (by kernel_rfl) (by kernel_rfl) (fun _ _ _ h => h) (Or.inl ⟨by rfl, ?hyq79x⟩) hHeld ?_
  case hyq79x =>
    intro W hSw
    clear hSw
    (go_simp; try with_reducible rfl)
  simp only [List.setIfInBounds_toArray, List.set_cons_zero, List.set_cons_succ]
  refine wpAnyH_ready (rs := [11]) (by kernel_rfl) (by simp) (AllReadyH.cons rfl (fun K hK => ?_) AllReadyH.nil)
  go_simp
  refine (sameMsg_any (w := wq.drew) (msgV_z _ No) (msgV_z _ No)).mono ?_
  rintro e w7 ⟨rfl, hb7⟩
  rw [sameM_refl]
  dsimp only
  replace hb7 : Below wq.heap.size wq w7 := ((Below.refl _ _).drew).trans hb7
  have m0' := m0.below hb7 m0.lt
  have m2' := m2.below hb7 m2.lt
  have f6' := f6.below hb7 f6.lt
  refine hK.out _ _ ⟨m0', f6'⟩ (fun hHeld => ?_)
  clear hK K
  try simp only [List.setIfInBounds_toArray, List.set_cons_zero, List.set_cons_succ]
  refine wpAnyH_takeAt (i := 12) (d := 206) (v := ?vq80x) rfl rfl (by kernel_rfl) (by kernel_rfl) (by kernel_rfl) (fun _ _ _ h => h) (Or.inl ⟨by rfl, ?hyq80x⟩) hHeld ?_
  case hyq80x =>
    intro W hSw
    clear hSw
    (go_simp; try with_reducible rfl)
  simp only [List.setIfInBounds_toArray, List.set_cons_zero, List.set_cons_succ]
  refine wpAnyH_ready (rs := [13]) (by kernel_rfl) (by simp) (AllReadyH.cons rfl (fun K hK => ?_) AllReadyH.nil)
  refine step_store_blk (by rfl) rfl 28 _ _ rfl (w.heap.size + 1 + 1) _ #[.int .i64 (s.most : Int), .slice A n c, .int .i64 (s.came : Int)] rfl rfl 28 m2' rfl (info28 _ rfl) (by simp [Value.oneCell']) ?_
  intro wz fz gz sz
  have hTz : Turn (fun b => b = w.heap.size + 1 + 1) w7 wz := Turn.of_grown gz (fun r e => by injection e with e; exact e.symm)
  refine hK.out _ _ ⟨m0'.keep hTz (by omega), f6'.keep hTz (by omega)⟩ (fun hHeld => ?_)
  clear hK K
  try simp only [List.setIfInBounds_toArray, List.set_cons_zero, List.set_cons_succ]
  refine wpAnyH_takeAt (i := 14) (d := 7) (v := ?vq81x) rfl rfl (by kernel_rfl) (by kernel_rfl) (by kernel_rfl) (fun _ _ _ h => h) (Or.inl ⟨by rfl, ?hyq81x⟩) hHeld ?_
  case hyq81x =>
    intro W hSw
    clear hSw
    (go_simp; try with_reducible rfl)
  simp only [List.setIfInBounds_toArray, List.set_cons_zero, List.set_cons_succ]
  refine wpAnyH_done (by kernel_rfl) ?_ _
  go_wp2_with fail
  refine bodyPost_ret (v := .tuple #[.agg #[.int .i64 (s.most : Int), .slice A n c, .int .i64 (s.came : Int)], .bool true]) (results_ct (by rfl) _ _ (w.heap.size + 1 + 1) 28 _ (0, 0) _ (by rfl) fz Try.underlying28 (by rfl) (info28 _ rfl) (by rfl)) rfl ?_
  have hbw7 := hbw6.trans (hb7.mono hbw6.size)
  have hTw : Turn S w wz := (Turn.of_below hbw7 S).trans hTz (fun b hb e => by omega)
  have hN7 := HN.out.keep (T := No) (Turn.of_below hbw7 No) (fun _ _ h => h.elim)
  have hR7 : RAt wz (fun b => (S b ∨ X b) ∨ (w.heap.size ≤ b ∧ b < w2.heap.size)) s #[.int .i64 (s.most : Int), .slice A n c, .int .i64 (s.came : Int)] := (HR.out.wide (fun b hb e => e.elim id (fun e => absurd e.1 (by omega)))).keep hTw (fun b _ e => .inl (.inl e))
  exact ⟨_, rfl, S, fun _ e => e, fun _ e => .inl e, hTw, hN7.keep hTz (fun b _ e e' => by have := HSL.out b e'; omega), hR7.wide (fun b _ e => .inl e)⟩
set_option maxRecDepth 100000 in
set_option maxHeartbeats 16000000 in
theorem act_take0 {w : World} {S X : Nat → Prop} {g : Nat} {s : St} {cs ccs : Array Value} {x : Ac} (hN : Nt w S g s) (hR : RAt w (fun b => S b ∨ X b) s cs) (hX : ∀ b, X b → b < w.heap.size) (hx : AcAt w S x ccs) (hw0 : (x.what == 0) = false) (hw2 : (x.what == 2) = false) (hw3 : (x.what == 3) = false) (hw1 : (x.what == 1) = true) (hl0 : s.l.length = 0) : Calls Try.prog 16 #[.pointer (some ⟨g, 0, none⟩), .agg cs, .agg ccs] w (ActP w S X g s) := by
  obtain ⟨A, n, c, rfl, hIt, hnc, hcm⟩ := hR
  have hlen := hIt.len
  obtain ⟨Ab, qb, cb, rfl, hby, hqb, hcb, i1, i2, i3, i4⟩ := hx
  have hok := hN.ok
  have hl4 : n ≤ 4096 := by rw [← hlen]; exact Nat.le_trans hok.len hok.hi
  have HSL := Lib.hid (fun b => hN.lt (b := b))
  have k0 : Blk (((w.alloc (.cells #[.int .i64 (s.most : Int), .slice A n c, .int .i64 (s.came : Int)] 28)).alloc (.cells #[.int .i64 x.what, .int .i64 x.pick, .int .i64 x.m.fr, .int .i64 x.m.to, .slice Ab qb cb] 47)).alloc (.cells #[.int .i64 0, .slice none 0 0, .int .i64 0] 28)) w.heap.size 28 #[.int .i64 (s.most : Int), .slice A n c, .int .i64 (s.came : Int)] := ((Blk.new _ _ _).alloc _).alloc _
  have k1 : Blk (((w.alloc (.cells #[.int .i64 (s.most : Int), .slice A n c, .int .i64 (s.came : Int)] 28)).alloc (.cells #[.int .i64 x.what, .int .i64 x.pick, .int .i64 x.m.fr, .int .i64 x.m.to, .slice Ab qb cb] 47)).alloc (.cells #[.int .i64 0, .slice none 0 0, .int .i64 0] 28)) (w.heap.size + 1) 47 #[.int .i64 x.what, .int .i64 x.pick, .int .i64 x.m.fr, .int .i64 x.m.to, .slice Ab qb cb] := (blk_new _ 47 _ (by simp)).alloc _
  have k2 : Blk (((w.alloc (.cells #[.int .i64 (s.most : Int), .slice A n c, .int .i64 (s.came : Int)] 28)).alloc (.cells #[.int .i64 x.what, .int .i64 x.pick, .int .i64 x.m.fr, .int .i64 x.m.to, .slice Ab qb cb] 47)).alloc (.cells #[.int .i64 0, .slice none 0 0, .int .i64 0] 28)) (w.heap.size + 1 + 1) 28 #[.int .i64 0, .slice none 0 0, .int .i64 0] := blk_new _ 28 _ (by simp)
  have hb1 : Below w.heap.size w (((w.alloc (.cells #[.int .i64 (s.most : Int), .slice A n c, .int .i64 (s.came : Int)] 28)).alloc (.cells #[.int .i64 x.what, .int .i64 x.pick, .int .i64 x.m.fr, .int .i64 x.m.to, .slice Ab qb cb] 47)).alloc (.cells #[.int .i64 0, .slice none 0 0, .int .i64 0] 28)) := (((Below.refl _ _).alloc (Nat.le_refl _) _).alloc (by simp) _).alloc (by simp; omega) _
  have HZ1 : Hid ((((w.alloc (.cells #[.int .i64 (s.most : Int), .slice A n c, .int .i64 (s.came : Int)] 28)).alloc (.cells #[.int .i64 x.what, .int .i64 x.pick, .int .i64 x.m.fr, .int .i64 x.m.to, .slice Ab qb cb] 47)).alloc (.cells #[.int .i64 0, .slice none 0 0, .int .i64 0] 28)).heap.size = w.heap.size + 3) := Lib.hid (by simp)
  have HR := Lib.hid (show RAt w (fun b => S b ∨ X b) s #[.int .i64 (s.most : Int), .slice A n c, .int .i64 (s.came : Int)] from ⟨A, n, c, rfl, hIt, hnc, hcm⟩)
  have HN := Lib.hid hN
  have HBY := Lib.hid hby
  have HOK := Lib.hid hok
  have HLEN := Lib.hid hlen
  clear hIt hN hby hok hlen
  obtain ⟨c0, c1, c2⟩ := k0.three
  obtain ⟨d0, d1, d2, d3, d4⟩ := k1.five
  have hm1 := hcm
  unfold maxLen at hm1
  go_enter Try.func16, Try.ntmps16
  go_wp2_with fail
  generalize (((w.alloc (.cells #[.int .i64 (s.most : Int), .slice A n c, .int .i64 (s.came : Int)] 28)).alloc (.cells #[.int .i64 x.what, .int .i64 x.pick, .int .i64 x.m.fr, .int .i64 x.m.to, .slice Ab qb cb] 47)).alloc (.cells #[.int .i64 0, .slice none 0 0, .int .i64 0] 28)) = w1 at *
  refine (refPick_all _ _ A n c x.pick w1 (by omega)).mono ?_
  rintro e w2 ⟨rfl, hb2⟩
  have hz1 : w1.heap.size = w.heap.size + 3 := HZ1.out
  have HZ := Lib.hid hz1
  have hz2 := hb2.size
  have k0 := k0.below hb2 k0.lt
  have k1 := k1.below hb2 k1.lt
  have k2 := k2.below hb2 k2.lt
  have hbw := hb1.trans (hb2.mono hb1.size)
  have hzw : w.heap.size + 3 ≤ w2.heap.size := by omega
  clear c0 c1 c2 d0 d1 d2 d3 d4 hb1 hb2 HZ1 hz1 hz2
  obtain ⟨c0, c1, c2⟩ := k0.three
  obtain ⟨d0, d1, d2, d3, d4⟩ := k1.five
  have HL0 := Lib.hid hl0
  rw [pickI_zero x.pick (show n = 0 by rw [← HLEN.out]; exact hl0)]
  clear hl0
  have hN2 := HN.out.keep (T := No) (Turn.of_below hbw No) (fun _ _ h => h.elim)
  go_wp2_with fail
  refine (peek_none hN2.old x.pick HL0.out).mono ?_
  rintro e w3 ⟨rfl, hb3⟩
  rw [zMsg_cs]
  have hz3 := hb3.size
  go_wp2_with (with_reducible refine at_store 39 rfl ?_)
  refine Stop.go (wpList_store_blk (by rfl) (by rfl) 39 _ _ (by rfl) w3.heap.size _ #[.int .i64 0, .int .i64 0, .slice none 0 0] (by rfl) (by rfl) 39 (Blk.new w3 39 #[.int .i64 0, .int .i64 0, .slice none 0 0]) (by rfl) (info39 _ rfl) (by simp [Value.oneCell']) ?_)
  intro w4 f4 g4 s4
  clear s4
  have hb4 : Below w3.heap.size w3 w4 := below_grown ((Below.refl _ _).alloc (Nat.le_refl _) _) g4 (Nat.le_refl _) (Nat.le_refl _)
  have hb24 := hb3.trans (hb4.mono hz3)
  have hbw4 := hbw.trans (hb24.mono hbw.size)
  have k0 := k0.below hb24 k0.lt
  have k1 := k1.below hb24 k1.lt
  have k2 := k2.below hb24 k2.lt
  obtain ⟨mb, hmb⟩ : ∃ x, x = w3.heap.size := ⟨_, rfl⟩
  rw [← hmb] at f4 ⊢
  have hmbl : w.heap.size + 3 ≤ mb := by omega
  clear c0 c1 c2 d0 d1 d2 d3 d4 hb3 hb4 g4 hmb hz3
  obtain ⟨d0, d1, d2, d3, d4⟩ := k1.five
  go_wp2_with fail
  refine (take_none (hN2.below hb24).old x.pick HL0.out).mono ?_
  rintro e w5 ⟨rfl, hb5⟩
  rw [zMsg_cs]
  have f5 := f4.below hb5 f4.lt
  have hz5 := hb5.size
  go_wp2_with (with_reducible refine at_store 39 rfl ?_)
  refine Stop.go (wpList_store_blk (by rfl) (by rfl) 39 _ _ (by rfl) mb _ #[.int .i64 0, .int .i64 0, .slice none 0 0] (by rfl) (by rfl) 39 f5 (by rfl) (info39 _ rfl) (by simp [Value.oneCell']) ?_)
  intro w6 f6 g6 s6
  clear s6
  have hbw5 := hbw4.trans (hb5.mono hbw4.size)
  have hbw6 : Below w.heap.size w w6 := below_grown hbw5 g6 (Nat.le_refl _) (by omega)
  have hT6 : Turn (fun b => b = mb) w5 w6 := Turn.of_grown g6 (fun r e => by injection e with e; exact e.symm)
  have m0 := (k0.below hb5 k0.lt).keep hT6 (by omega)
  have m2 := (k2.below hb5 k2.lt).keep hT6 (by omega)
  clear d0 d1 d2 d3 d4 k0 k1 k2 hb5 hT6 f4 f5 hz5 g6 hbw4 hbw5 hb24
  generalize w6 = wq at *
  obtain ⟨c0, c1, c2⟩ := m0.three
  obtain ⟨z0, z1, z2⟩ := f6.three
  go_wp2_with fail
  refine wp_region_np ?_
  refine wp_region_held_drew (S := fun W => Blk W w.heap.size 28 #[.int .i64 (s.most : Int), .slice A n c, .int .i64 (s.came : Int)] ∧ Blk W mb 39 #[.int .i64 0, .int .i64 0, .slice none 0 0]) (by kernel_rfl) ⟨m0.drew, f6.drew⟩ (fun hHeld => ?_)
  refine wpAnyH_takeAt (i := 0) (d := 194) (v := ?vq82x) rfl rfl (by kernel_rfl) (by kernel_rfl) (by kernel_rfl) (fun _ _ _ h => h) (Or.inl ⟨by rfl, ?hyq82x⟩) hHeld ?_
  case hyq82x =>
    intro W hSw
    obtain ⟨sv, su⟩ : Blk W w.heap.size 28 #[.int .i64 (s.most : Int), .slice A n c, .int .i64 (s.came : Int)] ∧ Blk W mb 39 #[.int .i64 0, .int .i64 0, .slice none 0 0] := hSw; obtain ⟨s0, s1, s2⟩ := sv.three; obtain ⟨s3, s4, s5⟩ := su.three; clear sv su
    (go_simp; try with_reducible rfl)
  simp only [List.setIfInBounds_toArray, List.set_cons_zero, List.set_cons_succ]
  refine wpAnyH_takeAt (i := 1) (d := 195) (v := ?vq83x) rfl rfl (by kernel_rfl) (by kernel_rfl) (by kernel_rfl) (fun _ _ _ h => h) (Or.inl ⟨by rfl, ?hyq83x⟩) hHeld ?_
  case hyq83x =>
    intro W hSw
    clear hSw
    (go_simp; try with_reducible rfl)
  simp only [List.setIfInBounds_toArray, List.set_cons_zero, List.set_cons_succ]
  refine wpAnyH_takeAt (i := 2) (d := 196) (v := .bool true) rfl rfl (by kernel_rfl) (by kernel_rfl) (by kernel_rfl) (fun _ _ _ h => h) (Or.inl ⟨by rfl, ?hyq84x⟩) hHeld ?_
  case hyq84x =>
    intro W hSw
    clear hSw
    go_simp
    all_goals (first | with_reducible rfl | (simp; done) | (simp; omega))
  simp only [List.setIfInBounds_toArray, List.set_cons_zero, List.set_cons_succ]
  refine wpAnyH_takeAt (i := 3) (d := 197) (v := ?vq85x) rfl rfl (by kernel_rfl) (by kernel_rfl) (by kernel_rfl) (fun _ _ _ h => h) (Or.inl ⟨by rfl, ?hyq85x⟩) hHeld ?_
  case hyq85x =>
    intro W hSw
    clear hSw
    (go_simp; try with_reducible rfl)
  simp only [List.setIfInBounds_toArray, List.set_cons_zero, List.set_cons_succ]
  refine wpAnyH_takeAt (i := 4) (d := 198) (v := ?vq86x) rfl rfl (by kernel_rfl) (by kernel_rfl) (by kernel_rfl) (fun _ _ _ h => h) (Or.inl ⟨by rfl, ?hyq86x⟩) hHeld ?_
  case hyq86x =>
    intro W hSw
    clear hSw
    (go_simp; try with_reducible rfl)
  simp only [List.setIfInBounds_toArray, List.set_cons_zero, List.set_cons_succ]
  refine wpAnyH_ready (rs := [5]) (by kernel_rfl) (by simp) (AllReadyH.cons rfl (fun K hK => ?_) AllReadyH.nil)
  go_simp
  refine (num_any _ _).mono ?_
  rintro e w' ⟨rfl, rfl⟩
  dsimp only
  refine hK.out _ _ ⟨m0.drew, f6.drew⟩ (fun hHeld => ?_)
  clear hK K
  try simp only [List.setIfInBounds_toArray, List.set_cons_zero, List.set_cons_succ]
  refine wpAnyH_takeAt (i := 6) (d := 200) (v := .bool true) rfl rfl (by kernel_rfl) (by kernel_rfl) (by kernel_rfl) (fun _ _ _ h => h) (Or.inl ⟨by rfl, ?hyq87x⟩) hHeld ?_
  case hyq87x =>
    intro W hSw
    clear hSw
    go_simp
    all_goals (first | with_reducible rfl | (simp; done) | (simp; omega))
  simp only [List.setIfInBounds_toArray, List.set_cons_zero, List.set_cons_succ]
  refine wpAnyH_takeAt (i := 7) (d := 201) (v := ?vq88x) rfl rfl (by kernel_rfl) (by kernel_rfl) (by kernel_rfl) (fun _ _ _ h => h) (Or.inl ⟨by rfl, ?hyq88x⟩) hHeld ?_
  case hyq88x =>
    intro W hSw
    clear hSw
    (go_simp; try with_reducible rfl)
  simp only [List.setIfInBounds_toArray, List.set_cons_zero, List.set_cons_succ]
  refine wpAnyH_takeAt (i := 8) (d := 202) (v := ?vq89x) rfl rfl (by kernel_rfl) (by kernel_rfl) (by kernel_rfl) (fun _ _ _ h => h) (Or.inl ⟨by rfl, ?hyq89x⟩) hHeld ?_
  case hyq89x =>
    intro W hSw
    clear hSw
    (go_simp; try with_reducible rfl)
  simp only [List.setIfInBounds_toArray, List.set_cons_zero, List.set_cons_succ]
  refine wpAnyH_takeAt (i := 9) (d := 203) (v := ?vq90x) rfl rfl (by kernel_rfl) (by kernel_rfl) (by kernel_rfl) (fun _ _ _ h => h) (Or.inl ⟨by rfl, ?hyq90x⟩) hHeld ?_
  case hyq90x =>
    intro W hSw
    obtain ⟨sv, su⟩ : Blk W w.heap.size 28 #[.int .i64 (s.most : Int), .slice A n c, .int .i64 (s.came : Int)] ∧ Blk W mb 39 #[.int .i64 0, .int .i64 0, .slice none 0 0] := hSw; obtain ⟨s0, s1, s2⟩ := sv.three; obtain ⟨s3, s4, s5⟩ := su.three; clear sv su
    (go_simp; try with_reducible rfl)
  simp only [List.setIfInBounds_toArray, List.set_cons_zero, List.set_cons_succ]
  refine wpAnyH_takeAt (i := 10) (d := 204) (v := ?vq91x) rfl rfl (by kernel_rfl) (by kernel_rfl) (by kernel_rfl) (fun _ _ _ h => h) (Or.inl ⟨by rfl, ?hyq91x⟩) hHeld ?_
  case hyq91x =>
    intro W hSw
    clear hSw
    (go_simp; try with_reducible rfl)
  simp only [List.setIfInBounds_toArray, List.set_cons_zero, List.set_cons_succ]
  refine wpAnyH_ready (rs := [11]) (by kernel_rfl) (by simp) (AllReadyH.cons rfl (fun K hK => ?_) AllReadyH.nil)
  go_simp
  refine (sameMsg_any (w := wq.drew) (msgV_z _ No) (msgV_z _ No)).mono ?_
  rintro e w7 ⟨rfl, hb7⟩
  rw [sameM_refl]
  dsimp only
  replace hb7 : Below wq.heap.size wq w7 := ((Below.refl _ _).drew).trans hb7
  have m0' := m0.below hb7 m0.lt
  have m2' := m2.below hb7 m2.lt
  have f6' := f6.below hb7 f6.lt
  refine hK.out _ _ ⟨m0', f6'⟩ (fun hHeld => ?_)
  clear hK K
  try simp only [List.setIfInBounds_toArray, List.set_cons_zero, List.set_cons_succ]
  refine wpAnyH_takeAt (i := 12) (d := 206) (v := ?vq92x) rfl rfl (by kernel_rfl) (by kernel_rfl) (by kernel_rfl) (fun _ _ _ h => h) (Or.inl ⟨by rfl, ?hyq92x⟩) hHeld ?_
  case hyq92x =>
    intro W hSw
    clear hSw
    (go_simp; try with_reducible rfl)
  simp only [List.setIfInBounds_toArray, List.set_cons_zero, List.set_cons_succ]
  refine wpAnyH_ready (rs := [13]) (by kernel_rfl) (by simp) (AllReadyH.cons rfl (fun K hK => ?_) AllReadyH.nil)
  refine step_store_blk (by rfl) rfl 28 _ _ rfl (w.heap.size + 1 + 1) _ #[.int .i64 (s.most : Int), .slice A n c, .int .i64 (s.came : Int)] rfl rfl 28 m2' rfl (info28 _ rfl) (by simp [Value.oneCell']) ?_
  intro wz fz gz sz
  have hTz : Turn (fun b => b = w.heap.size + 1 + 1) w7 wz := Turn.of_grown gz (fun r e => by injection e with e; exact e.symm)
  refine hK.out _ _ ⟨m0'.keep hTz (by omega), f6'.keep hTz (by omega)⟩ (fun hHeld => ?_)
  clear hK K
  try simp only [List.setIfInBounds_toArray, List.set_cons_zero, List.set_cons_succ]
  refine wpAnyH_takeAt (i := 14) (d := 7) (v := ?vq93x) rfl rfl (by kernel_rfl) (by kernel_rfl) (by kernel_rfl) (fun _ _ _ h => h) (Or.inl ⟨by rfl, ?hyq93x⟩) hHeld ?_
  case hyq93x =>
    intro W hSw
    clear hSw
    (go_simp; try with_reducible rfl)
  simp only [List.setIfInBounds_toArray, List.set_cons_zero, List.set_cons_succ]
  refine wpAnyH_done (by kernel_rfl) ?_ _
  go_wp2_with fail
  refine bodyPost_ret (v := .tuple #[.agg #[.int .i64 (s.most : Int), .slice A n c, .int .i64 (s.came : Int)], .bool true]) (results_ct (by rfl) _ _ (w.heap.size + 1 + 1) 28 _ (0, 0) _ (by rfl) fz Try.underlying28 (by rfl) (info28 _ rfl) (by rfl)) rfl ?_
  have hbw7 := hbw6.trans (hb7.mono hbw6.size)
  have hTw : Turn S w wz := (Turn.of_below hbw7 S).trans hTz (fun b hb e => by omega)
  have hN7 := HN.out.keep (T := No) (Turn.of_below hbw7 No) (fun _ _ h => h.elim)
  have hR7 : RAt wz (fun b => (S b ∨ X b) ∨ (w.heap.size ≤ b ∧ b < w2.heap.size)) s #[.int .i64 (s.most : Int), .slice A n c, .int .i64 (s.came : Int)] := (HR.out.wide (fun b hb e => e.elim id (fun e => absurd e.1 (by omega)))).keep hTw (fun b _ e => .inl (.inl e))
  exact ⟨_, rfl, S, fun _ e => e, fun _ e => .inl e, hTw, hN7.keep hTz (fun b _ e e' => by have := HSL.out b e'; omega), hR7.wide (fun b _ e => .inl e)⟩
end Go.Proofs.Yticabfmjdjcfnaa.K
