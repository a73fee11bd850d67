/-
  Peek by both, of a net of whose own blocks some lie as they lay. Conditions: bounds.
-/
import Derived.Test.YticabfmjdjcfnaaKeepC
namespace Go.Proofs.Yticabfmjdjcfnaa.K
open Go.RowKit
set_option linter.unusedVariables false
set_option linter.unusedSectionVars false
variable [Quiet]
set_option maxRecDepth 100000 in
set_option maxHeartbeats 16000000 in
theorem act_peek1 {w : World} {S X : Nat → Prop} {g : Nat} {s : St} {cs ccs : Array Value} {x : Ac} (hN : Nt w S g s) (hR : RAt w (fun b => S b ∨ X b) s cs) (hX : ∀ b, X b → b < w.heap.size) (hx : AcAt w S x ccs) (hw0 : (x.what == 0) = false) (hw2 : (x.what == 2) = false) (hw3 : (x.what == 3) = false) (hw1 : (x.what == 1) = false) {num : Int} {m : Msg} (hi : s.l[pick x.pick s.l.length]? = some (num, m)) : Calls Try.prog 16 #[.pointer (some ⟨g, 0, none⟩), .agg cs, .agg ccs] w (ActP w S X g s) := by
  obtain ⟨A, n, c, rfl, hIt, hnc, hcm⟩ := hR
  have hlen := hIt.len
  obtain ⟨Ab, qb, cb, rfl, hby, hqb, hcb, i1, i2, i3, i4⟩ := hx
  have hok := hN.ok
  have hl4 : n ≤ 4096 := by rw [← hlen]; exact Nat.le_trans hok.len hok.hi
  have HSL := Lib.hid (fun b => hN.lt (b := b))
  have k0 : Blk (((w.alloc (.cells #[.int .i64 (s.most : Int), .slice A n c, .int .i64 (s.came : Int)] 28)).alloc (.cells #[.int .i64 x.what, .int .i64 x.pick, .int .i64 x.m.fr, .int .i64 x.m.to, .slice Ab qb cb] 47)).alloc (.cells #[.int .i64 0, .slice none 0 0, .int .i64 0] 28)) w.heap.size 28 #[.int .i64 (s.most : Int), .slice A n c, .int .i64 (s.came : Int)] := ((Blk.new _ _ _).alloc _).alloc _
  have k1 : Blk (((w.alloc (.cells #[.int .i64 (s.most : Int), .slice A n c, .int .i64 (s.came : Int)] 28)).alloc (.cells #[.int .i64 x.what, .int .i64 x.pick, .int .i64 x.m.fr, .int .i64 x.m.to, .slice Ab qb cb] 47)).alloc (.cells #[.int .i64 0, .slice none 0 0, .int .i64 0] 28)) (w.heap.size + 1) 47 #[.int .i64 x.what, .int .i64 x.pick, .int .i64 x.m.fr, .int .i64 x.m.to, .slice Ab qb cb] := (blk_new _ 47 _ (by simp)).alloc _
  have k2 : Blk (((w.alloc (.cells #[.int .i64 (s.most : Int), .slice A n c, .int .i64 (s.came : Int)] 28)).alloc (.cells #[.int .i64 x.what, .int .i64 x.pick, .int .i64 x.m.fr, .int .i64 x.m.to, .slice Ab qb cb] 47)).alloc (.cells #[.int .i64 0, .slice none 0 0, .int .i64 0] 28)) (w.heap.size + 1 + 1) 28 #[.int .i64 0, .slice none 0 0, .int .i64 0] := blk_new _ 28 _ (by simp)
  have hb1 : Below w.heap.size w (((w.alloc (.cells #[.int .i64 (s.most : Int), .slice A n c, .int .i64 (s.came : Int)] 28)).alloc (.cells #[.int .i64 x.what, .int .i64 x.pick, .int .i64 x.m.fr, .int .i64 x.m.to, .slice Ab qb cb] 47)).alloc (.cells #[.int .i64 0, .slice none 0 0, .int .i64 0] 28)) := (((Below.refl _ _).alloc (Nat.le_refl _) _).alloc (by simp) _).alloc (by simp; omega) _
  have HZ1 : Hid ((((w.alloc (.cells #[.int .i64 (s.most : Int), .slice A n c, .int .i64 (s.came : Int)] 28)).alloc (.cells #[.int .i64 x.what, .int .i64 x.pick, .int .i64 x.m.fr, .int .i64 x.m.to, .slice Ab qb cb] 47)).alloc (.cells #[.int .i64 0, .slice none 0 0, .int .i64 0] 28)).heap.size = w.heap.size + 3) := Lib.hid (by simp)
  have HR := Lib.hid (show RAt w (fun b => S b ∨ X b) s #[.int .i64 (s.most : Int), .slice A n c, .int .i64 (s.came : Int)] from ⟨A, n, c, rfl, hIt, hnc, hcm⟩)
  have HN := Lib.hid hN
  have HBY := Lib.hid hby
  have HOK := Lib.hid hok
  have HLEN := Lib.hid hlen
  clear hIt hN hby hok hlen
  obtain ⟨c0, c1, c2⟩ := k0.three
  obtain ⟨d0, d1, d2, d3, d4⟩ := k1.five
  have hm1 := hcm
  unfold maxLen at hm1
  go_enter Try.func16, Try.ntmps16
  go_wp2_with fail
  generalize (((w.alloc (.cells #[.int .i64 (s.most : Int), .slice A n c, .int .i64 (s.came : Int)] 28)).alloc (.cells #[.int .i64 x.what, .int .i64 x.pick, .int .i64 x.m.fr, .int .i64 x.m.to, .slice Ab qb cb] 47)).alloc (.cells #[.int .i64 0, .slice none 0 0, .int .i64 0] 28)) = w1 at *
  refine (refPick_all _ _ A n c x.pick w1 (by omega)).mono ?_
  rintro e w2 ⟨rfl, hb2⟩
  have hz1 : w1.heap.size = w.heap.size + 3 := HZ1.out
  have HZ := Lib.hid hz1
  have hz2 := hb2.size
  have k0 := k0.below hb2 k0.lt
  have k1 := k1.below hb2 k1.lt
  have k2 := k2.below hb2 k2.lt
  have hbw := hb1.trans (hb2.mono hb1.size)
  have hzw : w.heap.size + 3 ≤ w2.heap.size := by omega
  clear c0 c1 c2 d0 d1 d2 d3 d4 hb1 hb2 HZ1 hz1 hz2
  obtain ⟨c0, c1, c2⟩ := k0.three
  obtain ⟨d0, d1, d2, d3, d4⟩ := k1.five
  have HI := Lib.hid hi
  have hil : pick x.pick s.l.length < s.l.length := (List.getElem?_eq_some_iff.1 hi).1
  rw [pickI_pos x.pick (show n ≠ 0 by rw [← HLEN.out]; omega), ← HLEN.out]
  have hil2 : pick x.pick s.l.length < n := by rw [← HLEN.out]; exact hil
  have HIL := Lib.hid hil
  clear hi hil
  obtain ⟨i, hpi⟩ : ∃ i, i = pick x.pick s.l.length := ⟨_, rfl⟩
  have HPI := Lib.hid hpi
  rw [← hpi] at HI HIL hil2 ⊢
  clear hpi
  have hpin : decide ((i : Int) < 0) = false := by simp
  have hN2 := HN.out.keep (T := No) (Turn.of_below hbw No) (fun _ _ h => h.elim)
  have hi2 : s.l[pick x.pick s.l.length]? = some (num, m) := by rw [← HPI.out]; exact HI.out
  have HI2 := Lib.hid hi2
  clear hi2
  have hnS : ∀ b, w.heap.size ≤ b → ¬ S b := fun b h1 e => by have := HSL.out b e; omega
  have HNS := Lib.hid hnS
  have hsh := HOK.out.short _ (List.mem_of_getElem? HI2.out)
  have hq4 : m.b.length ≤ 4096 := hsh
  clear hsh hnS
  go_wp2_with fail
  refine (peek_some hN2.old HI2.out).mono ?_
  rintro e w3 ⟨⟨v3, rfl, hn3⟩, hb3⟩
  obtain ⟨A3, q3, c3, rfl, ho3, hnw3⟩ := hn3
  have hz3 := hb3.size
  have hlt3 : ∀ r, Value.ownBlock (.slice A3 q3 c3) = some r → r < w3.heap.size := fun r e => ho3.lt e
  go_wp2_with (with_reducible refine at_store 39 rfl ?_)
  refine Stop.go (wpList_store_blk (by rfl) (by rfl) 39 _ _ (by rfl) w3.heap.size _ #[.int .i64 m.fr, .int .i64 m.to, .slice A3 q3 c3] (by rfl) (by rfl) 39 (Blk.new w3 39 #[.int .i64 0, .int .i64 0, .slice none 0 0]) (by rfl) (info39 _ rfl) (by simp [Value.oneCell']) ?_)
  intro w4 f4 g4 s4
  clear s4
  have hb4 : Below w3.heap.size w3 w4 := below_grown ((Below.refl _ _).alloc (Nat.le_refl _) _) g4 (Nat.le_refl _) (Nat.le_refl _)
  have hb24 := hb3.trans (hb4.mono hz3)
  have hbw4 := hbw.trans (hb24.mono hbw.size)
  have k0 := k0.below hb24 k0.lt
  have k1 := k1.below hb24 k1.lt
  have k2 := k2.below hb24 k2.lt
  have ho4 := ho3.below hb4
  obtain ⟨mb, hmb⟩ : ∃ x, x = w3.heap.size := ⟨_, rfl⟩
  rw [← hmb] at f4 hlt3 ⊢
  have hmbl : w2.heap.size ≤ mb := by omega
  have hmbz := f4.lt
  clear c0 c1 c2 d0 d1 d2 d3 d4 hb3 hb4 g4 hmb ho3 hz3
  obtain ⟨d0, d1, d2, d3, d4⟩ := k1.five
  have m0 := k0
  have m1 := k1
  have m2 := k2
  have mq := f4
  have hoq := ho4
  have hrow : ∀ r, Value.ownBlock (.slice A3 q3 c3) = some r → w2.heap.size ≤ r ∧ r < w4.heap.size ∧ r ≠ mb := fun r e => ⟨hnw3 r e, hoq.lt e, by have := hlt3 r e; omega⟩
  have hTq : Turn S w w4 := Turn.of_below hbw4 S
  have hNq := hN2.below hb24
  clear f4 ho4 hnw3 hlt3 hN2 hb24 hbw4 k0 k1 k2 d0 d1 d2 d3 d4
  generalize w4 = wq at *
  generalize A3 = Am at *
  generalize q3 = q at *
  generalize c3 = cm at *
  have hql : q = m.b.length := by obtain ⟨_, _, _, e, e', _⟩ := hoq.form; injection e with _ e _; omega
  have HQL := Lib.hid hql
  have hqq : q ≤ 4096 := by omega
  clear hql
  obtain ⟨Aq, nq, cq, ecs, hItq, _, _⟩ := (HR.out.wide (X' := (fun b => (S b ∨ X b) ∨ (w.heap.size ≤ b ∧ b < w2.heap.size))) (fun b hb e => e.elim id (fun e => absurd e.1 (by omega)))).keep hTq (fun b _ e => .inl (.inl e))
  obtain ⟨rfl, rfl, rfl⟩ : A = Aq ∧ n = nq ∧ c = cq := by simpa using ecs
  obtain ⟨ad, Ar, qr, cr, rfl, hadl, -, hbr, r0, r1, r2, r3⟩ := its_nth hItq HI.out
  have hadz : (ad.add (i * 4)).block < wq.heap.size := by rw [block_of_add]; exact hadl
  have hmA : MsgV wq No m (.agg #[.int .i64 m.fr, .int .i64 m.to, .slice Am q cm]) := ⟨_, _, _, rfl, hoq.bys (fun _ _ h => h)⟩
  have hmR : MsgV wq (fun b => (S b ∨ X b) ∨ (w.heap.size ≤ b ∧ b < w2.heap.size)) m (.agg #[.int .i64 m.fr, .int .i64 m.to, .slice Ar qr cr]) := ⟨_, _, _, rfl, hbr⟩
  have hqi : ((i : Nat) : Int) < ((n : Nat) : Int) := by omega
  have hmqz := mq.lt
  have hm0z := m0.lt
  have HBG := Lib.hid (And.intro hNq (And.intro hTq hrow))
  have HOQ := Lib.hid hoq
  have HMQ := Lib.hid mq
  have hwr := wrap_u8
  clear hItq hadl ecs hbr hNq hTq hoq hrow
  obtain ⟨c0, c1, c2⟩ := m0.three
  obtain ⟨d0, d1, d2, d3, d4⟩ := m1.five
  obtain ⟨y0, y1, y2⟩ := mq.three
  go_wp2_with fail
  refine wp_region_np ?_
  refine wp_region_held_drew (S := fun W => Below wq.heap.size wq W) (by kernel_rfl) (show Below wq.heap.size wq wq.drew from (Below.refl _ _).drew) (fun hHeld => ?_)
  refine wpAnyH_takeAt (i := 0) (d := 207) (v := ?vq94x) rfl rfl (by kernel_rfl) (by kernel_rfl) (by kernel_rfl) (fun _ _ _ h => h) (Or.inl ⟨by rfl, ?hyq94x⟩) hHeld ?_
  case hyq94x =>
    intro W hSw
    clear hSw
    (go_simp; try with_reducible rfl)
  simp only [List.setIfInBounds_toArray, List.set_cons_zero, List.set_cons_succ]
  refine wpAnyH_takeAt (i := 1) (d := 208) (v := ?vq95x) rfl rfl (by kernel_rfl) (by kernel_rfl) (by kernel_rfl) (fun _ _ _ h => h) (Or.inl ⟨by rfl, ?hyq95x⟩) hHeld ?_
  case hyq95x =>
    intro W hSw
    clear hSw
    (go_simp; try with_reducible rfl)
  simp only [List.setIfInBounds_toArray, List.set_cons_zero, List.set_cons_succ]
  refine wpAnyH_takeAt (i := 2) (d := 209) (v := ?vq96x) rfl rfl (by kernel_rfl) (by kernel_rfl) (by kernel_rfl) (fun _ _ _ h => h) (Or.inl ⟨by rfl, ?hyq96x⟩) hHeld ?_
  case hyq96x =>
    intro W hSw
    have hSw' : Below wq.heap.size wq W := hSw; have c1' := (hSw'.cell (p := ⟨w.heap.size, 1, none⟩) hm0z).trans c1; clear hSw hSw'
    (go_simp; try with_reducible rfl)
  simp only [List.setIfInBounds_toArray, List.set_cons_zero, List.set_cons_succ]
  refine wpAnyH_takeAt (i := 3) (d := 210) (v := ?vq97x) rfl rfl (by kernel_rfl) (by kernel_rfl) (by kernel_rfl) (fun _ _ _ h => h) (Or.inl ⟨by rfl, ?hyq97x⟩) hHeld ?_
  case hyq97x =>
    intro W hSw
    clear hSw
    (go_simp; try with_reducible rfl)
  simp only [List.setIfInBounds_toArray, List.set_cons_zero, List.set_cons_succ]
  refine wpAnyH_takeAt (i := 4) (d := 211) (v := ?vq98x) rfl rfl (by kernel_rfl) (by kernel_rfl) (by kernel_rfl) (fun _ _ _ h => h) (Or.inl ⟨by rfl, ?hyq98x⟩) hHeld ?_
  case hyq98x =>
    intro W hSw
    clear hSw
    (go_simp; try with_reducible rfl)
  simp only [List.setIfInBounds_toArray, List.set_cons_zero, List.set_cons_succ]
  refine wpAnyH_takeAt (i := 5) (d := 212) (v := ?vq99x) rfl rfl (by kernel_rfl) (by kernel_rfl) (by kernel_rfl) (fun _ _ _ h => h) (Or.inl ⟨by rfl, ?hyq99x⟩) hHeld ?_
  case hyq99x =>
    intro W hSw
    clear hSw
    (go_simp; try with_reducible rfl)
  simp only [List.setIfInBounds_toArray, List.set_cons_zero, List.set_cons_succ]
  refine wpAnyH_takeAt (i := 6) (d := 213) (v := ?vq100x) rfl rfl (by kernel_rfl) (by kernel_rfl) (by kernel_rfl) (fun _ _ _ h => h) (Or.inl ⟨by rfl, ?hyq100x⟩) hHeld ?_
  case hyq100x =>
    intro W hSw
    have hSw' : Below wq.heap.size wq W := hSw; have r0' := (hSw'.cell (p := (ad.add (i * 4))) hadz).trans r0; clear hSw hSw'
    (go_simp; try with_reducible rfl)
  simp only [List.setIfInBounds_toArray, List.set_cons_zero, List.set_cons_succ]
  refine wpAnyH_takeAt (i := 7) (d := 214) (v := .bool true) rfl rfl (by kernel_rfl) (by kernel_rfl) (by kernel_rfl) (fun _ _ _ h => h) (Or.inl ⟨by rfl, ?hyq101x⟩) hHeld ?_
  case hyq101x =>
    intro W hSw
    clear hSw
    go_simp
    all_goals (first | with_reducible rfl | (simp; done) | (simp; omega))
  simp only [List.setIfInBounds_toArray, List.set_cons_zero, List.set_cons_succ]
  refine wpAnyH_takeAt (i := 8) (d := 215) (v := ?vq102x) rfl rfl (by kernel_rfl) (by kernel_rfl) (by kernel_rfl) (fun _ _ _ h => h) (Or.inl ⟨by rfl, ?hyq102x⟩) hHeld ?_
  case hyq102x =>
    intro W hSw
    clear hSw
    (go_simp; try with_reducible rfl)
  simp only [List.setIfInBounds_toArray, List.set_cons_zero, List.set_cons_succ]
  refine wpAnyH_takeAt (i := 9) (d := 216) (v := ?vq103x) rfl rfl (by kernel_rfl) (by kernel_rfl) (by kernel_rfl) (fun _ _ _ h => h) (Or.inl ⟨by rfl, ?hyq103x⟩) hHeld ?_
  case hyq103x =>
    intro W hSw
    clear hSw
    (go_simp; try with_reducible rfl)
  simp only [List.setIfInBounds_toArray, List.set_cons_zero, List.set_cons_succ]
  refine wpAnyH_ready (rs := [10]) (by kernel_rfl) (by simp) (AllReadyH.cons rfl (fun K hK => ?_) AllReadyH.nil)
  go_simp
  refine (num_any _ _).mono ?_
  rintro e w' ⟨rfl, rfl⟩
  dsimp only
  refine hK.out _ _ (show Below wq.heap.size wq wq.drew from (Below.refl _ _).drew) (fun hHeld => ?_)
  clear hK K
  try simp only [List.setIfInBounds_toArray, List.set_cons_zero, List.set_cons_succ]
  refine wpAnyH_takeAt (i := 11) (d := 218) (v := .bool true) rfl rfl (by kernel_rfl) (by kernel_rfl) (by kernel_rfl) (fun _ _ _ h => h) (Or.inl ⟨by rfl, ?hyq104x⟩) hHeld ?_
  case hyq104x =>
    intro W hSw
    clear hSw
    go_simp
    all_goals (first | with_reducible rfl | (simp; done) | (simp; omega))
  simp only [List.setIfInBounds_toArray, List.set_cons_zero, List.set_cons_succ]
  refine wpAnyH_takeAt (i := 12) (d := 219) (v := ?vq105x) rfl rfl (by kernel_rfl) (by kernel_rfl) (by kernel_rfl) (fun _ _ _ h => h) (Or.inl ⟨by rfl, ?hyq105x⟩) hHeld ?_
  case hyq105x =>
    intro W hSw
    clear hSw
    (go_simp; try with_reducible rfl)
  simp only [List.setIfInBounds_toArray, List.set_cons_zero, List.set_cons_succ]
  refine wpAnyH_takeAt (i := 13) (d := 220) (v := ?vq106x) rfl rfl (by kernel_rfl) (by kernel_rfl) (by kernel_rfl) (fun _ _ _ h => h) (Or.inl ⟨by rfl, ?hyq106x⟩) hHeld ?_
  case hyq106x =>
    intro W hSw
    clear hSw
    (go_simp; try with_reducible rfl)
  simp only [List.setIfInBounds_toArray, List.set_cons_zero, List.set_cons_succ]
  refine wpAnyH_takeAt (i := 14) (d := 221) (v := ?vq107x) rfl rfl (by kernel_rfl) (by kernel_rfl) (by kernel_rfl) (fun _ _ _ h => h) (Or.inl ⟨by rfl, ?hyq107x⟩) hHeld ?_
  case hyq107x =>
    intro W hSw
    have hSw' : Below wq.heap.size wq W := hSw; have y0' := (hSw'.cell (p := ⟨mb, 0, none⟩) hmqz).trans y0; have y1' := (hSw'.cell (p := ⟨mb, 1, none⟩) hmqz).trans y1; have y2' := (hSw'.cell (p := ⟨mb, 2, none⟩) hmqz).trans y2; clear hSw hSw'
    (go_simp; try with_reducible rfl)
  simp only [List.setIfInBounds_toArray, List.set_cons_zero, List.set_cons_succ]
  refine wpAnyH_takeAt (i := 15) (d := 222) (v := ?vq108x) rfl rfl (by kernel_rfl) (by kernel_rfl) (by kernel_rfl) (fun _ _ _ h => h) (Or.inl ⟨by rfl, ?hyq108x⟩) hHeld ?_
  case hyq108x =>
    intro W hSw
    clear hSw
    (go_simp; try with_reducible rfl)
  simp only [List.setIfInBounds_toArray, List.set_cons_zero, List.set_cons_succ]
  refine wpAnyH_takeAt (i := 16) (d := 223) (v := ?vq109x) rfl rfl (by kernel_rfl) (by kernel_rfl) (by kernel_rfl) (fun _ _ _ h => h) (Or.inl ⟨by rfl, ?hyq109x⟩) hHeld ?_
  case hyq109x =>
    intro W hSw
    have hSw' : Below wq.heap.size wq W := hSw; have c1' := (hSw'.cell (p := ⟨w.heap.size, 1, none⟩) hm0z).trans c1; clear hSw hSw'
    (go_simp; try with_reducible rfl)
  simp only [List.setIfInBounds_toArray, List.set_cons_zero, List.set_cons_succ]
  refine wpAnyH_takeAt (i := 17) (d := 224) (v := ?vq110x) rfl rfl (by kernel_rfl) (by kernel_rfl) (by kernel_rfl) (fun _ _ _ h => h) (Or.inl ⟨by rfl, ?hyq110x⟩) hHeld ?_
  case hyq110x =>
    intro W hSw
    clear hSw
    (go_simp; try with_reducible rfl)
  simp only [List.setIfInBounds_toArray, List.set_cons_zero, List.set_cons_succ]
  refine wpAnyH_takeAt (i := 18) (d := 225) (v := ?vq111x) rfl rfl (by kernel_rfl) (by kernel_rfl) (by kernel_rfl) (fun _ _ _ h => h) (Or.inl ⟨by rfl, ?hyq111x⟩) hHeld ?_
  case hyq111x =>
    intro W hSw
    clear hSw
    (go_simp; try with_reducible rfl)
  simp only [List.setIfInBounds_toArray, List.set_cons_zero, List.set_cons_succ]
  refine wpAnyH_takeAt (i := 19) (d := 226) (v := ?vq112x) rfl rfl (by kernel_rfl) (by kernel_rfl) (by kernel_rfl) (fun _ _ _ h => h) (Or.inl ⟨by rfl, ?hyq112x⟩) hHeld ?_
  case hyq112x =>
    intro W hSw
    clear hSw
    (go_simp; try with_reducible rfl)
  simp only [List.setIfInBounds_toArray, List.set_cons_zero, List.set_cons_succ]
  refine wpAnyH_takeAt (i := 20) (d := 227) (v := ?vq113x) rfl rfl (by kernel_rfl) (by kernel_rfl) (by kernel_rfl) (fun _ _ _ h => h) (Or.inl ⟨by rfl, ?hyq113x⟩) hHeld ?_
  case hyq113x =>
    intro W hSw
    have hSw' : Below wq.heap.size wq W := hSw; have r1' := (hSw'.cell (p := ⟨(ad.add (i * 4)).block, (ad.add (i * 4)).off + 1, none⟩) hadz).trans r1; have r2' := (hSw'.cell (p := ⟨(ad.add (i * 4)).block, (ad.add (i * 4)).off + 2, none⟩) hadz).trans r2; have r3' := (hSw'.cell (p := ⟨(ad.add (i * 4)).block, (ad.add (i * 4)).off + 3, none⟩) hadz).trans r3; clear hSw hSw'
    (go_simp; try with_reducible rfl)
  simp only [List.setIfInBounds_toArray, List.set_cons_zero, List.set_cons_succ]
  refine wpAnyH_ready (rs := [21]) (by kernel_rfl) (by simp) (AllReadyH.cons rfl (fun K hK => ?_) AllReadyH.nil)
  go_simp
  refine (sameMsg_any (w := wq.drew) (hmA.below (Below.refl _ _).drew) (hmR.below (Below.refl _ _).drew)).mono ?_
  rintro e w5 ⟨rfl, hb5⟩
  rw [sameM_refl]
  dsimp only
  replace hb5 : Below wq.heap.size wq w5 := ((Below.refl _ _).drew).trans hb5
  refine hK.out _ _ (show Below wq.heap.size wq w5 from hb5) (fun hHeld => ?_)
  clear hK K
  try simp only [List.setIfInBounds_toArray, List.set_cons_zero, List.set_cons_succ]
  refine wpAnyH_takeAt (i := 22) (d := 229) (v := ?vq114x) rfl rfl (by kernel_rfl) (by kernel_rfl) (by kernel_rfl) (fun _ _ _ h => h) (Or.inl ⟨by rfl, ?hyq114x⟩) hHeld ?_
  case hyq114x =>
    intro W hSw
    clear hSw
    (go_simp; try with_reducible rfl)
  simp only [List.setIfInBounds_toArray, List.set_cons_zero, List.set_cons_succ]
  refine wpAnyH_takeAt (i := 23) (d := 27) (v := ?vq115x) rfl rfl (by kernel_rfl) (by kernel_rfl) (by kernel_rfl) (fun _ _ _ h => h) (Or.inl ⟨by rfl, ?hyq115x⟩) hHeld ?_
  case hyq115x =>
    intro W hSw
    clear hSw
    (go_simp; try with_reducible rfl)
  simp only [List.setIfInBounds_toArray, List.set_cons_zero, List.set_cons_succ]
  refine wpAnyH_done (by kernel_rfl) ?_ _
  clear hHeld r0 r1 r2 r3 hmA hmR y0 y1 y2 c0 c1 c2 d0 d1 d2 d3 d4
  have hz5 := hb5.size
  have mq5 := HMQ.out.below hb5 HMQ.out.lt
  have oq5 := HOQ.out.below hb5
  have p0 := m0.below hb5 m0.lt
  have p1 := m1.below hb5 m1.lt
  have p2 := m2.below hb5 m2.lt
  have HMQ5 := Lib.hid mq5
  have HO5 := Lib.hid oq5
  have HRW := Lib.hid HBG.out.2.2
  clear mq5 oq5 m0 m1 m2
  go_wp2_with fail
  go_loopw [28] (fun i' wr => ∃ (j : Nat) (l' : Bs), j ≤ q ∧ i' = .int .i64 j ∧ l'.length = q ∧ Own wr (.slice Am q cm) l' ∧ Turn (fun r => Value.ownBlock (.slice Am q cm) = some r) w5 wr) (fun i' _ => q - (intOf i').toNat)
  case atStart => exact ⟨0, m.b, by omega, rfl, HQL.out.symm, HO5.out, Turn.refl _ _⟩
  case round =>
    obtain ⟨j, l', hj, rfl, hl', hoj, hTj⟩ := hrel
    have mqj := HMQ5.out.keep hTj (fun e => (HRW.out _ e).2.2 rfl)
    obtain ⟨u0, u1, u2⟩ := mqj.three
    by_cases hjq : j < q
    case pos =>
      obtain ⟨r, u, rfl, hlu, hcu, hfu⟩ := hoj.at_ hjq
      have hj0 : ((j : Nat) : Int) < ((q : Nat) : Int) := by omega
      have hbl : mb < wr.heap.size := mqj.lt
      go_wp2_with fail
      refine wp_region_np ?_
      refine wp_region_held_drew (S := fun W => W.cell? ⟨mb, 2, none⟩ = some (.slice (some ⟨r, 0, none⟩) q cm)) (by kernel_rfl) u2 (fun hHeld => ?_)
      refine wpAnyH_takeAt (i := 0) (d := 237) (v := ?vq116x) rfl rfl (by kernel_rfl) (by kernel_rfl) (by kernel_rfl) (fun _ _ _ h => h) (Or.inl ⟨by rfl, ?hyq116x⟩) hHeld ?_
      case hyq116x =>
        intro W hSw
        clear hSw
        (go_simp; try with_reducible rfl)
      simp only [List.setIfInBounds_toArray, List.set_cons_zero, List.set_cons_succ]
      refine wpAnyH_takeAt (i := 1) (d := 238) (v := ?vq117x) rfl rfl (by kernel_rfl) (by kernel_rfl) (by kernel_rfl) (fun _ _ _ h => h) (Or.inl ⟨by rfl, ?hyq117x⟩) hHeld ?_
      case hyq117x =>
        intro W hSw
        have sc := hSw
        (go_simp; try with_reducible rfl)
      simp only [List.setIfInBounds_toArray, List.set_cons_zero, List.set_cons_succ]
      refine wpAnyH_takeAt (i := 2) (d := 239) (v := ?vq118x) rfl rfl (by kernel_rfl) (by kernel_rfl) (by kernel_rfl) (fun _ _ _ h => h) (Or.inl ⟨by rfl, ?hyq118x⟩) hHeld ?_
      case hyq118x =>
        intro W hSw
        clear hSw
        (go_simp; try with_reducible rfl)
      simp only [List.setIfInBounds_toArray, List.set_cons_zero, List.set_cons_succ]
      refine wpAnyH_takeAt (i := 3) (d := 240) (v := ?vq119x) rfl rfl (by kernel_rfl) (by kernel_rfl) (by kernel_rfl) (fun _ _ _ h => h) (Or.inl ⟨by rfl, ?hyq119x⟩) hHeld ?_
      case hyq119x =>
        intro W hSw
        clear hSw
        (go_simp; try with_reducible rfl)
      simp only [List.setIfInBounds_toArray, List.set_cons_zero, List.set_cons_succ]
      refine wpAnyH_takeAt (i := 4) (d := 241) (v := ?vq120x) rfl rfl (by kernel_rfl) (by kernel_rfl) (by kernel_rfl) (fun _ _ _ h => h) (Or.inl ⟨by rfl, ?hyq120x⟩) hHeld ?_
      case hyq120x =>
        intro W hSw
        have sc := hSw
        (go_simp; try with_reducible rfl)
      simp only [List.setIfInBounds_toArray, List.set_cons_zero, List.set_cons_succ]
      refine wpAnyH_takeAt (i := 5) (d := 242) (v := ?vq121x) rfl rfl (by kernel_rfl) (by kernel_rfl) (by kernel_rfl) (fun _ _ _ h => h) (Or.inl ⟨by rfl, ?hyq121x⟩) hHeld ?_
      case hyq121x =>
        intro W hSw
        clear hSw
        (go_simp; try with_reducible rfl)
      simp only [List.setIfInBounds_toArray, List.set_cons_zero, List.set_cons_succ]
      refine wpAnyH_takeAt (i := 6) (d := 243) (v := ?vq122x) rfl rfl (by kernel_rfl) (by kernel_rfl) (by kernel_rfl) (fun _ _ _ h => h) (Or.inl ⟨by rfl, ?hyq122x⟩) hHeld ?_
      case hyq122x =>
        intro W hSw
        clear hSw
        (go_simp; try with_reducible rfl)
      simp only [List.setIfInBounds_toArray, List.set_cons_zero, List.set_cons_succ]
      refine wpAnyH_ready (rs := [7]) (by kernel_rfl) (by simp) (AllReadyH.cons rfl (fun K hK => ?_) AllReadyH.nil)
      go_simp
      refine hK.out _ _ u2 (fun hHeld => ?_)
      clear hK K
      try simp only [List.setIfInBounds_toArray, List.set_cons_zero, List.set_cons_succ]
      refine wpAnyH_takeAt (i := 8) (d := 245) (v := (.int .u8 ((u + 1).toNat : Int))) rfl rfl (by kernel_rfl) (by kernel_rfl) (by kernel_rfl) (fun _ _ _ h => h) (Or.inl ⟨by rfl, ?hyq123x⟩) hHeld ?_
      case hyq123x =>
        intro W hSw
        clear hSw
        go_simp
        all_goals (first | with_reducible rfl | (simp; done) | (simp; omega))
      simp only [List.setIfInBounds_toArray, List.set_cons_zero, List.set_cons_succ]
      refine wpAnyH_takeAt (i := 9) (d := 246) (v := ?vq124x) rfl rfl (by kernel_rfl) (by kernel_rfl) (by kernel_rfl) (fun _ _ _ h => h) (Or.inl ⟨by rfl, ?hyq124x⟩) hHeld ?_
      case hyq124x =>
        intro W hSw
        clear hSw
        (go_simp; try with_reducible rfl)
      simp only [List.setIfInBounds_toArray, List.set_cons_zero, List.set_cons_succ]
      refine wpAnyH_ready (rs := [10]) (by kernel_rfl) (by simp) (AllReadyH.cons rfl (fun K hK => ?_) AllReadyH.nil)
      go_simp
      obtain ⟨hs1, hs2⟩ := (show Own wr.drew (.slice (some ⟨r, 0, none⟩) q cm) l' from hoj).set_ (j := j) (u + 1)
      have hT10 : Turn (fun x => x = r) wr.drew (wr.drew.setCell ⟨r, j, none⟩ (byteV (u + 1))) := Turn.of_grown hs2 (fun x e => by injection e with e; exact e.symm)
      have hrb2 : r ≠ mb := (HRW.out r rfl).2.2
      refine hK.out _ _ ((hT10.cell (p := ⟨mb, 2, none⟩) hbl (fun e => hrb2 e.symm)).trans u2) (fun hHeld => ?_)
      clear hK K
      try simp only [List.setIfInBounds_toArray, List.set_cons_zero, List.set_cons_succ]
      refine wpAnyH_done (by kernel_rfl) ?_ _
      go_wp2_with fail
      have hTj' : Turn (fun x => Value.ownBlock (.slice (some ⟨r, 0, none⟩) q cm) = some x) w5 (wr.drew.setCell ⟨r, j, none⟩ (byteV (u + 1))) := hTj.drew.trans hT10 (fun x _ e => by rw [e]; rfl)
      exact ⟨⟨j + 1, l'.set j (u + 1), by omega, by go_num, by rw [List.length_set]; exact hl', hs1, hTj'⟩, by simp [intOf]; omega⟩
    case neg =>
      have hdj : decide (j < q) = false := by simpa using hjq
      obtain ⟨hNq, hTq, hrow⟩ := HBG.out
      have hrS : ∀ b, Value.ownBlock (.slice Am q cm) = some b → w2.heap.size ≤ b := fun b e => (hrow b e).1
      have n0 := p0.keep hTj (fun e => by have := hrS _ e; omega)
      have n1 := p1.keep hTj (fun e => by have := hrS _ e; omega)
      have n2 := p2.keep hTj (fun e => by have := hrS _ e; omega)
      have hTl : Turn S w wr := (hTq.trans (Turn.of_below hb5 S) (fun _ _ e => e)).trans hTj (fun b hb e => by have := hrS _ e; omega)
      have hNl := (hNq.below hb5).keep hTj (fun b _ e e' => by have := hrS _ e; have := HSL.out b e'; omega)
      have hRl := (HR.out.wide (X' := (fun b => (S b ∨ X b) ∨ (w.heap.size ≤ b ∧ b < w2.heap.size))) (fun b hb e => e.elim id (fun e => absurd e.1 (by omega)))).keep hTl (fun b _ e => .inl (.inl e))
      have hXl : ∀ b, (fun b => (S b ∨ X b) ∨ (w.heap.size ≤ b ∧ b < w2.heap.size)) b → b < wr.heap.size := fun b e => by
        have := hTl.size
        have := hTj.size
        rcases e with (e | e) | e
        · have := HSL.out b e; omega
        · have := hX b e; omega
        · omega
      have HEND := Lib.hid (And.intro hNl (And.intro hTl (And.intro hRl hXl)))
      obtain ⟨c0, c1, c2⟩ := n0.three
      obtain ⟨d0, d1, d2, d3, d4⟩ := n1.five
      clear hNq hTq hrow hTj hoj hNl hTl hRl hXl p0 p1 p2
      go_wp2_with (with_reducible refine at_store 28 rfl ?_)
      refine Stop.go (wpList_store_blk (by rfl) (by rfl) 28 _ _ (by rfl) (w.heap.size + 1 + 1) _ #[.int .i64 (s.most : Int), .slice (some ad) n c, .int .i64 (s.came : Int)] (by rfl) (by rfl) 28 n2 (by rfl) (info28 _ rfl) (by simp [Value.oneCell']) ?_)
      intro wz fz gz sz
      clear sz
      have hTz : Turn (fun b => b = w.heap.size + 1 + 1) wr wz := Turn.of_grown gz (fun r e => by injection e with e; exact e.symm)
      go_wp2_with fail
      refine bodyPost_ret (v := .tuple #[.agg #[.int .i64 (s.most : Int), .slice (some ad) n c, .int .i64 (s.came : Int)], .bool true]) (results_ct (by rfl) _ _ (w.heap.size + 1 + 1) 28 _ (0, 0) _ (by rfl) fz Try.underlying28 (by rfl) (info28 _ rfl) (by rfl)) rfl ?_
      obtain ⟨hNl, hTl, hRl, _⟩ := HEND.out
      exact ⟨_, rfl, S, fun _ e => e, fun _ e => .inl e, hTl.trans hTz (fun b hb e => by omega), hNl.keep hTz (fun b _ e e' => by have := HSL.out b e'; omega), (hRl.keep hTz (fun b _ e => .inr (by omega))).wide (fun b _ e => .inl e)⟩
end Go.Proofs.Yticabfmjdjcfnaa.K
