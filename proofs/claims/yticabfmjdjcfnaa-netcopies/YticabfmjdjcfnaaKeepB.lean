/-
  A call by both, of a net of whose own blocks some lie as they lay: Put. Conditions: bounds.
-/
import Derived.Test.YticabfmjdjcfnaaKeepA
import Derived.Test.YticabfmjdjcfnaaActA
namespace Go.Proofs.Yticabfmjdjcfnaa.K
open Go.RowKit
set_option linter.unusedVariables false
set_option linter.unusedSectionVars false
variable [Quiet]
/-- What a call by both leaves: they tell the same, and both stand as s'. -/
def ActP (w : World) (S X : Nat → Prop) (g : Nat) (s' : St) (e : Ending) (w' : World) : Prop :=
  ∃ cs', e = .returned (.tuple #[.agg cs', .bool true]) ∧ ∃ S', (∀ b, S b → S' b) ∧ (∀ b, S' b → S b ∨ w.heap.size ≤ b) ∧ Turn S w w' ∧ Nt w' S' g s' ∧ RAt w' (fun b => S' b ∨ X b) s' cs'
set_option maxRecDepth 100000 in
set_option maxHeartbeats 16000000 in
theorem act_put {w : World} {S X : Nat → Prop} {g : Nat} {s : St} {cs ccs : Array Value} {x : Ac} (hN : Nt w S g s) (hR : RAt w (fun b => S b ∨ X b) s cs) (hX : ∀ b, X b → b < w.heap.size) (hx : AcAt w S x ccs) (hw : (x.what == 0) = true) (hbl : x.m.b.length ≤ 1000000) (hcame : s.came ≤ 1000000000) :
    Calls Try.prog 16 #[.pointer (some ⟨g, 0, none⟩), .agg cs, .agg ccs] w (ActP w S X g (s.putA x.m)) := by
  obtain ⟨A, n, c, rfl, hIt, hnc, hcm⟩ := hR
  have hlen := hIt.len
  obtain ⟨Ab, qb, cb, rfl, hby, hqb, hcb, i1, i2, i3, i4⟩ := hx
  have hok := hN.ok
  have hl4 : n ≤ 4096 := by rw [← hlen]; exact Nat.le_trans hok.len hok.hi
  have HSL := Lib.hid (fun b => hN.lt (b := b))
  have k0 : Blk (((w.alloc (.cells #[.int .i64 (s.most : Int), .slice A n c, .int .i64 (s.came : Int)] 28)).alloc (.cells #[.int .i64 x.what, .int .i64 x.pick, .int .i64 x.m.fr, .int .i64 x.m.to, .slice Ab qb cb] 47)).alloc (.cells #[.int .i64 0, .slice none 0 0, .int .i64 0] 28)) w.heap.size 28 #[.int .i64 (s.most : Int), .slice A n c, .int .i64 (s.came : Int)] := ((Blk.new _ _ _).alloc _).alloc _
  have k1 : Blk (((w.alloc (.cells #[.int .i64 (s.most : Int), .slice A n c, .int .i64 (s.came : Int)] 28)).alloc (.cells #[.int .i64 x.what, .int .i64 x.pick, .int .i64 x.m.fr, .int .i64 x.m.to, .slice Ab qb cb] 47)).alloc (.cells #[.int .i64 0, .slice none 0 0, .int .i64 0] 28)) (w.heap.size + 1) 47 #[.int .i64 x.what, .int .i64 x.pick, .int .i64 x.m.fr, .int .i64 x.m.to, .slice Ab qb cb] := (blk_new _ 47 _ (by simp)).alloc _
  have k2 : Blk (((w.alloc (.cells #[.int .i64 (s.most : Int), .slice A n c, .int .i64 (s.came : Int)] 28)).alloc (.cells #[.int .i64 x.what, .int .i64 x.pick, .int .i64 x.m.fr, .int .i64 x.m.to, .slice Ab qb cb] 47)).alloc (.cells #[.int .i64 0, .slice none 0 0, .int .i64 0] 28)) (w.heap.size + 1 + 1) 28 #[.int .i64 0, .slice none 0 0, .int .i64 0] := blk_new _ 28 _ (by simp)
  have hb1 : Below w.heap.size w (((w.alloc (.cells #[.int .i64 (s.most : Int), .slice A n c, .int .i64 (s.came : Int)] 28)).alloc (.cells #[.int .i64 x.what, .int .i64 x.pick, .int .i64 x.m.fr, .int .i64 x.m.to, .slice Ab qb cb] 47)).alloc (.cells #[.int .i64 0, .slice none 0 0, .int .i64 0] 28)) := (((Below.refl _ _).alloc (Nat.le_refl _) _).alloc (by simp) _).alloc (by simp; omega) _
  have HZ1 : Hid ((((w.alloc (.cells #[.int .i64 (s.most : Int), .slice A n c, .int .i64 (s.came : Int)] 28)).alloc (.cells #[.int .i64 x.what, .int .i64 x.pick, .int .i64 x.m.fr, .int .i64 x.m.to, .slice Ab qb cb] 47)).alloc (.cells #[.int .i64 0, .slice none 0 0, .int .i64 0] 28)).heap.size = w.heap.size + 3) := Lib.hid (by simp)
  have HR := Lib.hid (show RAt w (fun b => S b ∨ X b) s #[.int .i64 (s.most : Int), .slice A n c, .int .i64 (s.came : Int)] from ⟨A, n, c, rfl, hIt, hnc, hcm⟩)
  have HN := Lib.hid hN
  have HBY := Lib.hid hby
  have HOK := Lib.hid hok
  have HLEN := Lib.hid hlen
  clear hIt hN hby hok hlen
  obtain ⟨c0, c1, c2⟩ := k0.three
  obtain ⟨d0, d1, d2, d3, d4⟩ := k1.five
  have hm1 := hcm
  unfold maxLen at hm1
  go_enter Try.func16, Try.ntmps16
  go_wp2_with fail
  generalize (((w.alloc (.cells #[.int .i64 (s.most : Int), .slice A n c, .int .i64 (s.came : Int)] 28)).alloc (.cells #[.int .i64 x.what, .int .i64 x.pick, .int .i64 x.m.fr, .int .i64 x.m.to, .slice Ab qb cb] 47)).alloc (.cells #[.int .i64 0, .slice none 0 0, .int .i64 0] 28)) = w1 at *
  refine (refPick_all _ _ A n c x.pick w1 (by omega)).mono ?_
  rintro e w2 ⟨rfl, hb2⟩
  have hz1 : w1.heap.size = w.heap.size + 3 := HZ1.out
  have HZ := Lib.hid hz1
  have hz2 := hb2.size
  have k0 := k0.below hb2 k0.lt
  have k1 := k1.below hb2 k1.lt
  have k2 := k2.below hb2 k2.lt
  have hbw := hb1.trans (hb2.mono hb1.size)
  have hzw : w.heap.size + 3 ≤ w2.heap.size := by omega
  clear c0 c1 c2 d0 d1 d2 d3 d4 hb1 hb2 HZ1 hz1 hz2
  obtain ⟨c0, c1, c2⟩ := k0.three
  obtain ⟨d0, d1, d2, d3, d4⟩ := k1.five
  have hql := HBY.out.1
  have HQL := Lib.hid hql
  have hq6 : qb ≤ 1000000 := by omega
  clear hql
  obtain ⟨-, -, -, -, a4⟩ := (k1.alloc (.cells #[] 5)).five
  go_wp2_with (at_builtin; refine stop ?_)
  clear a4
  refine Stop.go (wpList_append_bytes _ (by rfl) _ _ (by rfl) _ [] (by rfl) (own_empty w2) S _ qb _ x.m.b (by rfl) ((HBY.out.keep (S := No) (Turn.of_below hbw No) (fun _ _ h => h.elim)).alloc _) (by simp) (by omega) ?_)
  intro v9 w3 ho3 hg3
  have hg3' := (Grew.alloc (v := .slice (some ⟨w2.heap.size, 0, none⟩) 0 0) (w := w2) (.cells #[] 5)).trans hg3
  have hb3 : Below w2.heap.size w2 w3 := hg3'.low (fun g e => (by cases e; exact Nat.le_refl _))
  have hn3 : ∀ g, v9.ownBlock = some g → w2.heap.size ≤ g := fun g e => (hg3'.2 g e).elim (fun q => (by cases q; exact Nat.le_refl _)) id
  obtain ⟨A9, q9, c9, rfl, hq9, hqc9, hcm9⟩ := ho3.form
  have hqq : q9 = qb := by have := HQL.out; simp at hq9; omega
  subst hqq
  have ho3' : Own w3 (.slice A9 q9 c9) x.m.b := by simpa using ho3
  have hlt3 : ∀ r, Value.ownBlock (.slice A9 q9 c9) = some r → r < w3.heap.size := fun r e => ho3.lt e
  have hz3 := hb3.size
  have k0 := k0.below hb3 k0.lt
  have k1 := k1.below hb3 k1.lt
  have k2 := k2.below hb3 k2.lt
  have hbw3 := hbw.trans (hb3.mono hbw.size)
  clear hg3 hg3' ho3 hq9 c0 c1 c2 d0 d1 d2 d3 d4 hb3
  obtain ⟨c0, c1, c2⟩ := k0.three
  obtain ⟨d0, d1, d2, d3, d4⟩ := k1.five
  have hby3 : Bys w3 S Ab q9 x.m.b := HBY.out.keep (S := No) (Turn.of_below hbw3 No) (fun _ _ h => h.elim)
  have hR3 : RAt w3 (fun b => (S b ∨ X b) ∨ (w.heap.size ≤ b ∧ b < w3.heap.size)) s #[.int .i64 (s.most : Int), .slice A n c, .int .i64 (s.came : Int)] := (HR.out.wide (fun b hb e => e.elim id (fun e => absurd e.1 (by omega)))).keep (S := No) (Turn.of_below hbw3 No) (fun _ _ h => h.elim)
  go_wp2_with fail
  refine (refPut_any hR3 (fun b e => e.elim (fun e => e.elim (fun e => by have := HSL.out b e; have := hbw3.size; omega) (fun e => by have := hX b e; have := hbw3.size; omega)) (fun e => e.2)) (m := x.m) ⟨Ab, q9, cb, rfl, hby3⟩ HOK.out hcame).mono ?_
  rintro e w4 ⟨cs4, rfl, hR4, hb4⟩
  obtain ⟨A4, n4, c4, hcs4⟩ := hR4.three
  have HC4 := Lib.hid hcs4
  have hz4 := hb4.size
  have k1 := k1.below hb4 k1.lt
  have k2 := k2.below hb4 k2.lt
  clear hcs4
  have hcz : cs4.size = 3 := by rw [HC4.out]; rfl
  have hca : cs4.all (·.oneCell') = true := by rw [HC4.out]; simp [Value.oneCell']
  go_wp2_with (with_reducible refine at_store 28 rfl ?_)
  refine Stop.go (wpList_store_blk (by rfl) (by rfl) 28 _ _ (by rfl) w4.heap.size _ cs4 (by rfl) (by rfl) 28 (Blk.new w4 28 #[.int .i64 0, .slice none 0 0, .int .i64 0]) (by rw [hcz]; rfl) (info28 _ hcz) hca ?_)
  intro w5 f5 g5 s5
  clear s5
  have hb5 : Below w4.heap.size w4 w5 := below_grown ((Below.refl _ _).alloc (Nat.le_refl _) _) g5 (Nat.le_refl _) (Nat.le_refl _)
  have hz5 := hb5.size
  have hb35 := hb4.trans (hb5.mono hz4)
  have hbw5 := hbw3.trans (hb35.mono hbw3.size)
  have k1 := k1.below hb5 k1.lt
  have k2 := k2.below hb5 k2.lt
  have hR5 := hR4.below hb5
  have ho5 := ho3'.below hb35
  have hN5 := HN.out.keep (T := No) (Turn.of_below hbw5 No) (fun _ _ h => h.elim)
  have hf5l := f5.lt
  clear d0 d1 d2 d3 d4 g5 hb4 hb5 hR4 hR3 k0 c0 c1 c2 hca
  obtain ⟨d0, d1, d2, d3, d4⟩ := k1.five
  have hgS := hN5.g_in
  have hgl := HSL.out g hgS
  have hzz := hbw3.size
  have hmv5 : MsgV w5 (fun b => b = g) x.m (.agg #[.int .i64 x.m.fr, .int .i64 x.m.to, .slice A9 q9 c9]) := ⟨_, _, _, rfl, ho5.bys (fun r e e' => by have := hn3 r e; omega)⟩
  go_wp2_with fail
  refine (put_any hN5 hmv5 rfl hcame).mono ?_
  rintro e w6 ⟨rfl, hT6, S6, hS1, hS2, hN6⟩
  have hz6 := hT6.size
  have hnS : ∀ b, w.heap.size ≤ b → b < w5.heap.size → ¬ S6 b := fun b h1 h2 e => by
    rcases hS2 b e with e | e
    · have := HSL.out b e; omega
    · omega
  have hnS' : ∀ b, w.heap.size ≤ b → ¬ S b := fun b h1 e => by have := HSL.out b e; omega
  have k1 := k1.keep hT6 (hnS' _ (by omega))
  have k2 := k2.keep hT6 (hnS' _ (by omega))
  have f6 := f5.keep hT6 (hnS' _ (by omega))
  have ho6 := ho5.keep hT6 (fun r e => hnS' _ (by have := hn3 r e; omega))
  have hR6 : RAt w6 (fun b => (S6 b ∨ X b) ∨ (w.heap.size ≤ b ∧ b < w3.heap.size)) (s.putA x.m) cs4 := (hR5.wide (fun b hb e => e.elim (fun e => e.elim (fun e => (hS2 b e).elim (fun e => .inl (.inl e)) (fun e => absurd e (by omega))) (fun e => .inl (.inr e))) .inr)).keep hT6 (fun b _ e => .inl (.inl (hS1 b e)))
  have hby6 : Bys w6 S Ab q9 x.m.b := (hby3.below hb35).keep hT6 (fun b _ e => e)
  have hcv1 := conv_str w6 No A9 q9 c9 x.m.b (ho6.bys (fun _ _ h => h))
  have hcv2 := conv_str w6 S Ab q9 cb x.m.b hby6
  have hTw6 : Turn S w w6 := (Turn.of_below hbw5 S).trans hT6 (fun _ _ e => e)
  have HBIG := Lib.hid (And.intro hN6 (And.intro hR6 (And.intro hTw6 (And.intro hnS hS2))))
  clear d0 d1 d2 d3 d4 hN5 hmv5 hR5 ho5 f5 hby3 hT6 hN6 hR6 hTw6 hbw5 hb35 hby6
  obtain ⟨d0, d1, d2, d3, d4⟩ := k1.five
  have hst := str_toList x.m.b
  have hwr := wrap_u8
  go_wp2_with fail
  clear hcv1 hcv2 hst
  have HO6 := Lib.hid ho6
  clear ho6
  have hm9 := hcm9
  unfold maxLen at hm9
  go_loopw [16] (fun i wr => ∃ (j : Nat) (l' : Bs), j ≤ q9 ∧ i = .int .i64 j ∧ l'.length = q9 ∧ Own wr (.slice A9 q9 c9) l' ∧ Turn (fun r => Value.ownBlock (.slice A9 q9 c9) = some r) w6 wr) (fun i _ => q9 - (intOf i).toNat)
  case atStart => exact ⟨0, x.m.b, by omega, rfl, HQL.out, HO6.out, Turn.refl _ _⟩
  case round =>
    obtain ⟨j, l', hj, rfl, hl', hoj, hTj⟩ := hrel
    by_cases hjq : j < q9
    case pos =>
      obtain ⟨r, u, rfl, hlu, hcu, hfu⟩ := hoj.at_ hjq
      obtain ⟨hs1, hs2⟩ := hoj.set_ (j := j) (u + 1)
      have hT10 : Turn (fun x => x = r) wr (wr.setCell ⟨r, j, none⟩ (byteV (u + 1))) := Turn.of_grown hs2 (fun x e => by injection e with e; exact e.symm)
      have hTj' : Turn (fun x => Value.ownBlock (.slice (some ⟨r, 0, none⟩) q9 c9) = some x) w6 (wr.setCell ⟨r, j, none⟩ (byteV (u + 1))) := hTj.trans hT10 (fun x _ e => by rw [e]; rfl)
      have HTT := Lib.hid (And.intro hs1 hTj')
      clear hs1 hs2 hT10 hTj' hTj hoj
      go_wp2_with fail
      exact ⟨⟨j + 1, l'.set j (u + 1), by omega, by go_num, by rw [List.length_set]; exact hl', HTT.out.1, HTT.out.2⟩, by simp [intOf]; omega⟩
    case neg =>
      have hdj : decide (j < q9) = false := by simpa using hjq
      obtain ⟨hN6, hR6, hTw6, hnS, hS2⟩ := HBIG.out
      have hrow : ∀ r, Value.ownBlock (.slice A9 q9 c9) = some r → w2.heap.size ≤ r ∧ r < w3.heap.size := fun r e => ⟨hn3 r e, hlt3 r e⟩
      have hN7 := hN6.keep hTj (fun b _ e e' => hnS b (by have := hrow b e; omega) (by have := hrow b e; omega) e')
      have hR7 := hR6.keep hTj (fun b _ e => .inr (by have := hrow b e; omega))
      have hTw7 := hTw6.trans hTj (fun b hb e => by have := hrow b e; omega)
      have m2 := k2.keep hTj (fun e => by have := hrow _ e; omega)
      have m5 := f6.keep hTj (fun e => by have := hrow _ e; omega)
      have HBG := Lib.hid (And.intro hN7 (And.intro hR7 (And.intro hTw7 (And.intro hnS hS2))))
      have m5l := m5.lt
      obtain ⟨_, rfl⟩ : ∃ _ : True, cs4 = _ := ⟨trivial, HC4.out⟩
      obtain ⟨y0, y1, y2⟩ := m5.three
      clear hN6 hR6 hTw6 hnS hS2 hN7 hR7 hTw7 HBIG hTj hoj k1 k2 f6 d0 d1 d2 d3 d4 HO6 HC4
      go_wp2_with fail
      refine wp_region_np ?_
      refine wp_region_held_drew (S := fun W => Blk W w4.heap.size 28 #[.int .i64 ((s.putA x.m).most : Int), .slice A4 n4 c4, .int .i64 ((s.putA x.m).came : Int)]) (by kernel_rfl) m5.drew (fun hHeld => ?_)
      refine wpAnyH_takeAt (i := 0) (d := 84) (v := ?vq0x) rfl rfl (by kernel_rfl) (by kernel_rfl) (by kernel_rfl) (fun _ _ _ h => h) (Or.inl ⟨by rfl, ?hyq0x⟩) hHeld ?_
      case hyq0x =>
        intro W hSw
        obtain ⟨s0, s1, s2⟩ := (show Blk W w4.heap.size 28 #[.int .i64 ((s.putA x.m).most : Int), .slice A4 n4 c4, .int .i64 ((s.putA x.m).came : Int)] from hSw).three
        (go_simp; try with_reducible rfl)
      simp only [List.setIfInBounds_toArray, List.set_cons_zero, List.set_cons_succ]
      refine wpAnyH_takeAt (i := 1) (d := 85) (v := ?vq1x) rfl rfl (by kernel_rfl) (by kernel_rfl) (by kernel_rfl) (fun _ _ _ h => h) (Or.inl ⟨by rfl, ?hyq1x⟩) hHeld ?_
      case hyq1x =>
        intro W hSw
        clear hSw
        (go_simp; try with_reducible rfl)
      simp only [List.setIfInBounds_toArray, List.set_cons_zero, List.set_cons_succ]
      refine wpAnyH_takeAt (i := 2) (d := 86) (v := ?vq2x) rfl rfl (by kernel_rfl) (by kernel_rfl) (by kernel_rfl) (fun _ _ _ h => h) (Or.inl ⟨by rfl, ?hyq2x⟩) hHeld ?_
      case hyq2x =>
        intro W hSw
        clear hSw
        (go_simp; try with_reducible rfl)
      simp only [List.setIfInBounds_toArray, List.set_cons_zero, List.set_cons_succ]
      refine wpAnyH_takeAt (i := 3) (d := 87) (v := .bool true) rfl rfl (by kernel_rfl) (by kernel_rfl) (by kernel_rfl) (fun _ _ _ h => h) (Or.inl ⟨by rfl, ?hyq3x⟩) hHeld ?_
      case hyq3x =>
        intro W hSw
        clear hSw
        go_simp
        all_goals (first | with_reducible rfl | (simp; done) | (simp; omega))
      simp only [List.setIfInBounds_toArray, List.set_cons_zero, List.set_cons_succ]
      refine wpAnyH_takeAt (i := 4) (d := 88) (v := ?vq4x) rfl rfl (by kernel_rfl) (by kernel_rfl) (by kernel_rfl) (fun _ _ _ h => h) (Or.inl ⟨by rfl, ?hyq4x⟩) hHeld ?_
      case hyq4x =>
        intro W hSw
        clear hSw
        (go_simp; try with_reducible rfl)
      simp only [List.setIfInBounds_toArray, List.set_cons_zero, List.set_cons_succ]
      refine wpAnyH_takeAt (i := 5) (d := 89) (v := ?vq5x) rfl rfl (by kernel_rfl) (by kernel_rfl) (by kernel_rfl) (fun _ _ _ h => h) (Or.inl ⟨by rfl, ?hyq5x⟩) hHeld ?_
      case hyq5x =>
        intro W hSw
        clear hSw
        (go_simp; try with_reducible rfl)
      simp only [List.setIfInBounds_toArray, List.set_cons_zero, List.set_cons_succ]
      refine wpAnyH_takeAt (i := 7) (d := 91) (v := ?vq6x) rfl rfl (by kernel_rfl) (by kernel_rfl) (by kernel_rfl) (fun _ _ _ h => h) (Or.inl ⟨by rfl, ?hyq6x⟩) hHeld ?_
      case hyq6x =>
        intro W hSw
        clear hSw
        (go_simp; try with_reducible rfl)
      simp only [List.setIfInBounds_toArray, List.set_cons_zero, List.set_cons_succ]
      refine wpAnyH_ready (rs := [6]) (by kernel_rfl) (by simp) (AllReadyH.cons rfl (fun K hK => ?_) AllReadyH.nil)
      go_simp
      refine (num_any _ _).mono ?_
      rintro e w' ⟨rfl, rfl⟩
      dsimp only
      refine hK.out _ _ (show Blk _ w4.heap.size 28 #[.int .i64 ((s.putA x.m).most : Int), .slice A4 n4 c4, .int .i64 ((s.putA x.m).came : Int)] from m5.drew) (fun hHeld => ?_)
      clear hK K
      try simp only [List.setIfInBounds_toArray, List.set_cons_zero, List.set_cons_succ]
      refine wpAnyH_takeAt (i := 8) (d := 92) (v := .bool true) rfl rfl (by kernel_rfl) (by kernel_rfl) (by kernel_rfl) (fun _ _ _ h => h) (Or.inl ⟨by rfl, ?hyq7x⟩) hHeld ?_
      case hyq7x =>
        intro W hSw
        clear hSw
        go_simp
        all_goals (first | with_reducible rfl | (simp; done) | (simp; omega))
      simp only [List.setIfInBounds_toArray, List.set_cons_zero, List.set_cons_succ]
      refine wpAnyH_takeAt (i := 9) (d := 93) (v := ?vq8x) rfl rfl (by kernel_rfl) (by kernel_rfl) (by kernel_rfl) (fun _ _ _ h => h) (Or.inl ⟨by rfl, ?hyq8x⟩) hHeld ?_
      case hyq8x =>
        intro W hSw
        clear hSw
        (go_simp; try with_reducible rfl)
      simp only [List.setIfInBounds_toArray, List.set_cons_zero, List.set_cons_succ]
      refine wpAnyH_takeAt (i := 10) (d := 94) (v := ?vq9x) rfl rfl (by kernel_rfl) (by kernel_rfl) (by kernel_rfl) (fun _ _ _ h => h) (Or.inl ⟨by rfl, ?hyq9x⟩) hHeld ?_
      case hyq9x =>
        intro W hSw
        clear hSw
        (go_simp; try with_reducible rfl)
      simp only [List.setIfInBounds_toArray, List.set_cons_zero, List.set_cons_succ]
      refine wpAnyH_takeAt (i := 11) (d := 95) (v := ?vq10x) rfl rfl (by kernel_rfl) (by kernel_rfl) (by kernel_rfl) (fun _ _ _ h => h) (Or.inl ⟨by rfl, ?hyq10x⟩) hHeld ?_
      case hyq10x =>
        intro W hSw
        clear hSw
        (go_simp; try with_reducible rfl)
      simp only [List.setIfInBounds_toArray, List.set_cons_zero, List.set_cons_succ]
      refine wpAnyH_takeAt (i := 12) (d := 96) (v := ?vq11x) rfl rfl (by kernel_rfl) (by kernel_rfl) (by kernel_rfl) (fun _ _ _ h => h) (Or.inl ⟨by rfl, ?hyq11x⟩) hHeld ?_
      case hyq11x =>
        intro W hSw
        clear hSw
        (go_simp; try with_reducible rfl)
      simp only [List.setIfInBounds_toArray, List.set_cons_zero, List.set_cons_succ]
      refine wpAnyH_ready (rs := [13]) (by kernel_rfl) (by simp) (AllReadyH.cons rfl (fun K hK => ?_) AllReadyH.nil)
      refine step_store_blk (by rfl) rfl 28 _ _ rfl (w.heap.size + 1 + 1) _ #[.int .i64 ((s.putA x.m).most : Int), .slice A4 n4 c4, .int .i64 ((s.putA x.m).came : Int)] rfl rfl 28 m2.drew rfl (info28 _ rfl) (by simp [Value.oneCell']) ?_
      intro wz fz gz sz
      refine hK.out _ _ (show Blk wz w4.heap.size 28 #[.int .i64 ((s.putA x.m).most : Int), .slice A4 n4 c4, .int .i64 ((s.putA x.m).came : Int)] from (m5.drew).grown gz (by omega)) (fun hHeld => ?_)
      clear hK K
      try simp only [List.setIfInBounds_toArray, List.set_cons_zero, List.set_cons_succ]
      refine wpAnyH_takeAt (i := 14) (d := 7) (v := ?vq12x) rfl rfl (by kernel_rfl) (by kernel_rfl) (by kernel_rfl) (fun _ _ _ h => h) (Or.inl ⟨by rfl, ?hyq12x⟩) hHeld ?_
      case hyq12x =>
        intro W hSw
        clear hSw
        (go_simp; try with_reducible rfl)
      simp only [List.setIfInBounds_toArray, List.set_cons_zero, List.set_cons_succ]
      refine wpAnyH_done (by kernel_rfl) ?_ _
      go_wp2_with fail
      refine bodyPost_ret (v := .tuple #[.agg #[.int .i64 ((s.putA x.m).most : Int), .slice A4 n4 c4, .int .i64 ((s.putA x.m).came : Int)], .bool true]) (results_ct (by rfl) _ _ (w.heap.size + 1 + 1) 28 _ (0, 0) _ (by rfl) fz Try.underlying28 (by rfl) (info28 _ rfl) (by rfl)) rfl ?_
      obtain ⟨hN7, hR7, hTw7, hnS, hS2⟩ := HBG.out
      have hTz : Turn (fun b => b = w.heap.size + 1 + 1) wr wz := Turn.of_grown (show wr.grownBy wz (some (w.heap.size + 1 + 1)) from ⟨gz.os, gz.tape, gz.output, gz.size, gz.block⟩) (fun r e => by injection e with e; exact e.symm)
      refine ⟨_, rfl, S6, hS1, fun b e => (hS2 b e).elim .inl (fun e => .inr (by omega)), hTw7.trans hTz (fun b hb e => by omega), hN7.keep hTz (fun b _ e e' => hnS b (by omega) (by omega) e'), (hR7.keep hTz (fun b _ e => .inr (by omega))).wide (fun b _ e => .inl e)⟩
end Go.Proofs.Yticabfmjdjcfnaa.K
