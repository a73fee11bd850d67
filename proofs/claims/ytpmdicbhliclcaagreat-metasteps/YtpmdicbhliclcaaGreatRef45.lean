/-
  The document: Add. Conditions: a controller as it is between two calls.
-/
import Derived.Test.YtpmdicbhliclcaaGreatRef46
namespace Go.Proofs.YtpmdicbhliclcaaGreat
open Go.RowKit Go.Maps
set_option linter.unusedVariables false
set_option linter.unusedSimpArgs false
def Mt.addN (M : Mt) (x s y : Int) : Int := if M.addE x s y = 0 then ((M.wrs x.toNat).add y).num else 0
/-- Which partitions of the first k there are. -/
def pick (k : Nat) (V : List Int) (y : Int) : List Int := (upTo k).filter fun i => decide (i = y ∨ i ∈ V)
theorem pick_succ (k : Nat) (V : List Int) (y : Int) : pick (k + 1) V y = if (k : Int) = y ∨ (k : Int) ∈ V then pick k V y ++ [(k : Int)] else pick k V y := by
  unfold pick
  rw [upTo_succ, List.filter_append]
  by_cases h : (k : Int) = y ∨ (k : Int) ∈ V
  · rw [if_pos h, List.filter_cons_of_pos (by simpa using h)]; rfl
  · rw [if_neg h, List.filter_cons_of_neg (by simpa using h)]; simp
theorem pick_len (k : Nat) (V : List Int) (y : Int) : (pick k V y).length ≤ k := Nat.le_trans (List.length_filter_le _ _) (by rw [upTo_len]; exact Nat.le_refl _)
/-- While the list is made. -/
structure PickI (V : List Int) (y : Int) (w5 : World) (lx k : Nat) (l : Value) (W : World) : Prop where
  own : OwnK W 3 1 l (intsOf (pick k V y))
  fresh : ∀ z, l.ownBlock = some z → w5.heap.size ≤ z
  low : Below w5.heap.size w5 W
theorem PickI.more {V : List Int} {y : Int} {w5 W w9 : World} {lx k : Nat} {l v9 : Value} (h : PickI V y w5 lx k l W) (ho9 : OwnK w9 3 1 v9 (intsOf (pick k V y) ++ [#[.int .i64 (k : Int)]])) (hg9 : Grew l (W.alloc (.cells #[.int .i64 (k : Int)] 3)) v9 w9) (he : pick (k + 1) V y = pick k V y ++ [(k : Int)]) : PickI V y w5 lx (k + 1) v9 w9 := by
  refine ⟨?_, fun z e => ?_, below_grew (h.low.alloc h.low.size _) hg9 h.fresh (le_alloc h.low.size _)⟩
  · rw [he]
    simpa [intsOf] using ho9
  · rcases hg9.2 z e with q | q
    · exact h.fresh z q
    · exact Nat.le_trans (le_alloc h.low.size _) q
section
variable {w : World} {X : Nat → Prop} {M : Mt} {v : Value}
set_option maxRecDepth 100000 in
set_option maxHeartbeats 8000000 in
theorem add45_any (h : Rf w X M v) (hX : ∀ b, X b → b < w.heap.size) (hk : M.ok) (x s y : Int) : Calls Tryz.prog 45 #[v, .int .i64 x, .int .i64 s, .int .i64 y] w (RfQ w X M (if M.addE x s y = 0 then M.setW x.toNat ((M.wrs x.toNat).add y) else M) (M.addN x s y) (M.addE x s y)) := by
  obtain ⟨A1, A2, A3, c1, c2, c3, rs, rfl, hR⟩ := h
  obtain ⟨M1, hM1⟩ : ∃ M1, ((if M.addE x s y = 0 then M.setW x.toNat ((M.wrs x.toNat).add y) else M)) = M1 := ⟨_, rfl⟩
  obtain ⟨ee, hee⟩ : ∃ ee, M.addE x s y = ee := ⟨_, rfl⟩
  rw [hM1, hee]
  have HM1 := Lib.hid hM1
  have HE := Lib.hid hee
  obtain ⟨nn, hnn⟩ : ∃ nn, M.addN x s y = nn := ⟨_, rfl⟩
  rw [hnn]
  have HNN := Lib.hid hnn
  clear hnn
  have HR := Lib.hid hR
  have HX := Lib.hid hX
  have HK := Lib.hid hk
  have HA : Hid (Wa w ((w.alloc (.cells #[.int .i64 (M.nb : Int), .int .i64 (M.np : Int), .int .i64 (M.ni : Int), .slice A1 M.nb c1, .slice A2 M.np c2, .slice A3 M.ni c3] 36)).alloc (.cells #[.int .i64 0, .int .i64 0, .int .i64 0, .slice none 0 0, .slice none 0 0, .slice none 0 0] 36)) w.heap.size (w.heap.size + 1) #[.int .i64 (M.nb : Int), .int .i64 (M.np : Int), .int .i64 (M.ni : Int), .slice A1 M.nb c1, .slice A2 M.np c2, .slice A3 M.ni c3] #[.int .i64 0, .int .i64 0, .int .i64 0, .slice none 0 0, .slice none 0 0, .slice none 0 0]) := Lib.hid ⟨(((Below.refl w.heap.size w).alloc (Nat.le_refl _) (.cells #[.int .i64 (M.nb : Int), .int .i64 (M.np : Int), .int .i64 (M.ni : Int), .slice A1 M.nb c1, .slice A2 M.np c2, .slice A3 M.ni c3] 36)).alloc (le_alloc (Nat.le_refl _) _) (.cells #[.int .i64 0, .int .i64 0, .int .i64 0, .slice none 0 0, .slice none 0 0, .slice none 0 0] 36)), ((Blk.new w 36 _).alloc _), blk_new (w.alloc (.cells #[.int .i64 (M.nb : Int), .int .i64 (M.np : Int), .int .i64 (M.ni : Int), .slice A1 M.nb c1, .slice A2 M.np c2, .slice A3 M.ni c3] 36)) 36 _ (by simp)⟩
  have HSZ : Hid (((w.alloc (.cells #[.int .i64 (M.nb : Int), .int .i64 (M.np : Int), .int .i64 (M.ni : Int), .slice A1 M.nb c1, .slice A2 M.np c2, .slice A3 M.ni c3] 36)).alloc (.cells #[.int .i64 0, .int .i64 0, .int .i64 0, .slice none 0 0, .slice none 0 0, .slice none 0 0] 36)).heap.size = w.heap.size + 2) := Lib.hid (by simp)
  have HRX : Hid (Rf w (fun z => X z ∨ z = (w.heap.size + 1)) M (.agg #[.int .i64 (M.nb : Int), .int .i64 (M.np : Int), .int .i64 (M.ni : Int), .slice A1 M.nb c1, .slice A2 M.np c2, .slice A3 M.ni c3])) := Lib.hid (Rf.wide (X := X) ⟨_, _, _, _, _, _, _, rfl, hR⟩ (fun z hz e => e.elim id (fun e => by omega)))
  have HXX : ∀ (W : World), w.heap.size ≤ W.heap.size → (w.heap.size + 1) < W.heap.size → ∀ z, (X z ∨ z = (w.heap.size + 1)) → z < W.heap.size := fun W h1 h2 z e => e.elim (fun e => Nat.lt_of_lt_of_le (hX z e) h1) (fun e => e ▸ h2)
  have HXX := Lib.hid HXX
  clear hR hX hk hM1 hee
  go_enter Tryz.func45, Tryz.ntmps45
  go_upto_region 1 with fail
  generalize hw2 : ((w.alloc (.cells #[.int .i64 (M.nb : Int), .int .i64 (M.np : Int), .int .i64 (M.ni : Int), .slice A1 M.nb c1, .slice A2 M.np c2, .slice A3 M.ni c3] 36)).alloc (.cells #[.int .i64 0, .int .i64 0, .int .i64 0, .slice none 0 0, .slice none 0 0, .slice none 0 0] 36)) = w2 at *
  clear hw2
  have c0 : w2.cell? ⟨w.heap.size, 0, none⟩ = some (.int .i64 (M.nb : Int)) := HA.out.b.cell 0
  have c1' : w2.cell? ⟨w.heap.size, 1, none⟩ = some (.int .i64 (M.np : Int)) := HA.out.b.cell 1
  have c2' : w2.cell? ⟨w.heap.size, 2, none⟩ = some (.int .i64 (M.ni : Int)) := HA.out.b.cell 2
  have c3' : w2.cell? ⟨w.heap.size, 3, none⟩ = some (.slice A1 M.nb c1) := HA.out.b.cell 3
  have c4' : w2.cell? ⟨w.heap.size, 4, none⟩ = some (.slice A2 M.np c2) := HA.out.b.cell 4
  have c5' : w2.cell? ⟨w.heap.size, 5, none⟩ = some (.slice A3 M.ni c3) := HA.out.b.cell 5
  by_cases r0 : x < 0
  case pos =>
    have d0 : decide (x < 0) = true := decide_eq_true r0
    have R0 := Lib.hid r0
    clear r0
    have hie : ee = 2 := by
      rw [← HE.out]
      unfold Mt.addE
      rw [if_pos]
      have := R0.out
      omega
    have HIE := Lib.hid hie
    go_wp2_with (with_reducible refine at_load 36 rfl ?_)
    refine Stop.go (wpList_load_blk (by rfl) 36 _ (by rfl) w.heap.size (by rfl) 36 _ HA.out.b _ und36 (by rfl) (by kernel_rfl) ?_)
    go_wp2_with (with_reducible refine at_store 36 rfl ?_)
    refine Stop.go (wpList_store_blk (by rfl) (by rfl) 36 _ _ (by rfl) (w.heap.size + 1) _ #[.int .i64 (M.nb : Int), .int .i64 (M.np : Int), .int .i64 (M.ni : Int), .slice A1 M.nb c1, .slice A2 M.np c2, .slice A3 M.ni c3] (by rfl) (by rfl) 36 HA.out.r (by rfl) (by kernel_rfl) (by simp [Value.oneCell']) ?_)
    intro w8 hB8 hg8 hs8
    have HB8 := Lib.hid hB8
    have hb8 : Below w.heap.size w w8 := below_grown HA.out.low hg8 (Nat.le_refl _) (by omega)
    have HF : Hid (Rf w8 X M (.agg #[.int .i64 (M.nb : Int), .int .i64 (M.np : Int), .int .i64 (M.ni : Int), .slice A1 M.nb c1, .slice A2 M.np c2, .slice A3 M.ni c3]) ∧ Below w.heap.size w w8) := Lib.hid ⟨⟨_, _, _, _, _, _, _, rfl, HR.out.below hb8⟩, hb8⟩
    have he : ee = 2 := by
      rw [← HE.out]
      rw [HE.out]
      exact HIE.out
    subst he
    clear hie hB8 hg8 hs8 hb8
    go_wp2_with fail
    refine bodyPost_ret (results_ctt (by rfl) _ _ (w.heap.size + 1) 36 _ (0, 0) _ (by rfl) HB8.out und36 (by rfl) (by kernel_rfl) (by rfl) (by rfl)) rfl ?_
    exact ⟨_, by rw [show nn = 0 by rw [← HNN.out]; exact if_neg (by rw [HE.out]; decide)]; rfl, by rw [← HM1.out, if_neg (by rw [HE.out]; decide)]; exact HF.out.1, HF.out.2⟩
  case neg =>
  have d0 : decide (x < 0) = false := decide_eq_false r0
  by_cases r1 : (M.ni : Int) ≤ x
  case pos =>
    have d1 : decide ((M.ni : Int) ≤ x) = true := decide_eq_true r1
    have R1 := Lib.hid r1
    clear r0 r1
    have hie : ee = 2 := by
      rw [← HE.out]
      unfold Mt.addE
      rw [if_pos]
      have := R1.out
      omega
    have HIE := Lib.hid hie
    go_wp2_with (with_reducible refine at_load 36 rfl ?_)
    refine Stop.go (wpList_load_blk (by rfl) 36 _ (by rfl) w.heap.size (by rfl) 36 _ HA.out.b _ und36 (by rfl) (by kernel_rfl) ?_)
    go_wp2_with (with_reducible refine at_store 36 rfl ?_)
    refine Stop.go (wpList_store_blk (by rfl) (by rfl) 36 _ _ (by rfl) (w.heap.size + 1) _ #[.int .i64 (M.nb : Int), .int .i64 (M.np : Int), .int .i64 (M.ni : Int), .slice A1 M.nb c1, .slice A2 M.np c2, .slice A3 M.ni c3] (by rfl) (by rfl) 36 HA.out.r (by rfl) (by kernel_rfl) (by simp [Value.oneCell']) ?_)
    intro w8 hB8 hg8 hs8
    have HB8 := Lib.hid hB8
    have hb8 : Below w.heap.size w w8 := below_grown HA.out.low hg8 (Nat.le_refl _) (by omega)
    have HF : Hid (Rf w8 X M (.agg #[.int .i64 (M.nb : Int), .int .i64 (M.np : Int), .int .i64 (M.ni : Int), .slice A1 M.nb c1, .slice A2 M.np c2, .slice A3 M.ni c3]) ∧ Below w.heap.size w w8) := Lib.hid ⟨⟨_, _, _, _, _, _, _, rfl, HR.out.below hb8⟩, hb8⟩
    have he : ee = 2 := by
      rw [← HE.out]
      rw [HE.out]
      exact HIE.out
    subst he
    clear hie hB8 hg8 hs8 hb8
    go_wp2_with fail
    refine bodyPost_ret (results_ctt (by rfl) _ _ (w.heap.size + 1) 36 _ (0, 0) _ (by rfl) HB8.out und36 (by rfl) (by kernel_rfl) (by rfl) (by rfl)) rfl ?_
    exact ⟨_, by rw [show nn = 0 by rw [← HNN.out]; exact if_neg (by rw [HE.out]; decide)]; rfl, by rw [← HM1.out, if_neg (by rw [HE.out]; decide)]; exact HF.out.1, HF.out.2⟩
  case neg =>
  have d1 : decide ((M.ni : Int) ≤ x) = false := decide_eq_false r1
  by_cases r2 : y < 0
  case pos =>
    have d2 : decide (y < 0) = true := decide_eq_true r2
    have R2 := Lib.hid r2
    clear r0 r1 r2
    have hie : ee = 2 := by
      rw [← HE.out]
      unfold Mt.addE
      rw [if_pos]
      have := R2.out
      omega
    have HIE := Lib.hid hie
    go_wp2_with (with_reducible refine at_load 36 rfl ?_)
    refine Stop.go (wpList_load_blk (by rfl) 36 _ (by rfl) w.heap.size (by rfl) 36 _ HA.out.b _ und36 (by rfl) (by kernel_rfl) ?_)
    go_wp2_with (with_reducible refine at_store 36 rfl ?_)
    refine Stop.go (wpList_store_blk (by rfl) (by rfl) 36 _ _ (by rfl) (w.heap.size + 1) _ #[.int .i64 (M.nb : Int), .int .i64 (M.np : Int), .int .i64 (M.ni : Int), .slice A1 M.nb c1, .slice A2 M.np c2, .slice A3 M.ni c3] (by rfl) (by rfl) 36 HA.out.r (by rfl) (by kernel_rfl) (by simp [Value.oneCell']) ?_)
    intro w8 hB8 hg8 hs8
    have HB8 := Lib.hid hB8
    have hb8 : Below w.heap.size w w8 := below_grown HA.out.low hg8 (Nat.le_refl _) (by omega)
    have HF : Hid (Rf w8 X M (.agg #[.int .i64 (M.nb : Int), .int .i64 (M.np : Int), .int .i64 (M.ni : Int), .slice A1 M.nb c1, .slice A2 M.np c2, .slice A3 M.ni c3]) ∧ Below w.heap.size w w8) := Lib.hid ⟨⟨_, _, _, _, _, _, _, rfl, HR.out.below hb8⟩, hb8⟩
    have he : ee = 2 := by
      rw [← HE.out]
      rw [HE.out]
      exact HIE.out
    subst he
    clear hie hB8 hg8 hs8 hb8
    go_wp2_with fail
    refine bodyPost_ret (results_ctt (by rfl) _ _ (w.heap.size + 1) 36 _ (0, 0) _ (by rfl) HB8.out und36 (by rfl) (by kernel_rfl) (by rfl) (by rfl)) rfl ?_
    exact ⟨_, by rw [show nn = 0 by rw [← HNN.out]; exact if_neg (by rw [HE.out]; decide)]; rfl, by rw [← HM1.out, if_neg (by rw [HE.out]; decide)]; exact HF.out.1, HF.out.2⟩
  case neg =>
  have d2 : decide (y < 0) = false := decide_eq_false r2
  by_cases r3 : (M.np : Int) ≤ y
  case pos =>
    have d3 : decide ((M.np : Int) ≤ y) = true := decide_eq_true r3
    have R3 := Lib.hid r3
    clear r0 r1 r2 r3
    have hie : ee = 2 := by
      rw [← HE.out]
      unfold Mt.addE
      rw [if_pos]
      have := R3.out
      omega
    have HIE := Lib.hid hie
    go_wp2_with (with_reducible refine at_load 36 rfl ?_)
    refine Stop.go (wpList_load_blk (by rfl) 36 _ (by rfl) w.heap.size (by rfl) 36 _ HA.out.b _ und36 (by rfl) (by kernel_rfl) ?_)
    go_wp2_with (with_reducible refine at_store 36 rfl ?_)
    refine Stop.go (wpList_store_blk (by rfl) (by rfl) 36 _ _ (by rfl) (w.heap.size + 1) _ #[.int .i64 (M.nb : Int), .int .i64 (M.np : Int), .int .i64 (M.ni : Int), .slice A1 M.nb c1, .slice A2 M.np c2, .slice A3 M.ni c3] (by rfl) (by rfl) 36 HA.out.r (by rfl) (by kernel_rfl) (by simp [Value.oneCell']) ?_)
    intro w8 hB8 hg8 hs8
    have HB8 := Lib.hid hB8
    have hb8 : Below w.heap.size w w8 := below_grown HA.out.low hg8 (Nat.le_refl _) (by omega)
    have HF : Hid (Rf w8 X M (.agg #[.int .i64 (M.nb : Int), .int .i64 (M.np : Int), .int .i64 (M.ni : Int), .slice A1 M.nb c1, .slice A2 M.np c2, .slice A3 M.ni c3]) ∧ Below w.heap.size w w8) := Lib.hid ⟨⟨_, _, _, _, _, _, _, rfl, HR.out.below hb8⟩, hb8⟩
    have he : ee = 2 := by
      rw [← HE.out]
      rw [HE.out]
      exact HIE.out
    subst he
    clear hie hB8 hg8 hs8 hb8
    go_wp2_with fail
    refine bodyPost_ret (results_ctt (by rfl) _ _ (w.heap.size + 1) 36 _ (0, 0) _ (by rfl) HB8.out und36 (by rfl) (by kernel_rfl) (by rfl) (by rfl)) rfl ?_
    exact ⟨_, by rw [show nn = 0 by rw [← HNN.out]; exact if_neg (by rw [HE.out]; decide)]; rfl, by rw [← HM1.out, if_neg (by rw [HE.out]; decide)]; exact HF.out.1, HF.out.2⟩
  case neg =>
  have d3 : decide ((M.np : Int) ≤ y) = false := decide_eq_false r3
  obtain ⟨p, rfl⟩ : ∃ p : Nat, x = (p : Int) := ⟨x.toNat, by omega⟩
  have hp : p < M.ni := by omega
  have d9 : decide (M.ni ≤ p) = false := decide_eq_false (by omega)
  have HIN : Hid (¬ ¬ ((0 ≤ (p : Int) ∧ (p : Int) < (M.ni : Int)) ∧ 0 ≤ y ∧ y < (M.np : Int))) := Lib.hid (fun e => e ⟨⟨by omega, by omega⟩, by omega, by omega⟩)
  have HYY : Hid (0 ≤ y ∧ y < (M.np : Int)) := Lib.hid ⟨by omega, by omega⟩
  have HP := Lib.hid hp
  have hok := HK.out.wr p hp
  have hle := hok.len
  have hnp := HK.out.np
  have HOK := Lib.hid hok
  have HLE : Hid ((M.wrs p).parts.length ≤ 1000000) := Lib.hid (by omega)
  clear r0 r1 r2 r3 hok hle hnp
  obtain ⟨ad, eA, v0, v1, v2', v3, v4, v5⟩ := (HR.out.below HA.out.low).wrCells HP.out
  obtain ⟨As, ks, es, hrs⟩ := HR.out.wl p HP.out
  rw [es] at v3
  have HS := Lib.hid hrs
  subst eA
  clear hrs es
  go_wp2_with (with_reducible refine at_store 55 rfl ?_)
  refine Stop.go (wpList_store_blk (by rfl) (by rfl) 55 _ _ (by rfl) w2.heap.size _ #[.int .i64 (M.wrs p).session, .int .i64 (M.wrs p).num, .int .i64 (M.wrs p).state, .slice As (M.wrs p).parts.length ks, .int .i64 (M.wrs p).offset, .int .i64 (M.wrs p).next] (by rfl) (by rfl) 55 (Blk.new w2 55 #[.int .i64 0, .int .i64 0, .int .i64 0, .slice none 0 0, .int .i64 0, .int .i64 0]) (by rfl) (by kernel_rfl) (by simp [Value.oneCell']) ?_)
  intro w3 hB3 hg3 hs3
  have hal3 : Below w2.heap.size w2 w3 := below_grown ((Below.refl w2.heap.size w2).alloc (Nat.le_refl _) (.cells #[.int .i64 0, .int .i64 0, .int .i64 0, .slice none 0 0, .int .i64 0, .int .i64 0] 55)) hg3 (Nat.le_refl _) (Nat.le_refl _)
  have HA3 := Lib.hid (HA.out.below hal3)
  have HL3 := Lib.hid hB3
  have HLX : Hid (w.heap.size + 2 ≤ w2.heap.size) := Lib.hid (by have := HSZ.out; omega)
  clear hB3 hg3 hs3 hal3 v0 v1 v2' v3 v4 v5 c0 c1' c2' c3' c4' c5' HSZ
  generalize w2.heap.size = lx at *
  clear HA
  have l0 : w3.cell? ⟨lx, 0, none⟩ = some (.int .i64 (M.wrs p).session) := HL3.out.cell 0
  have l1 : w3.cell? ⟨lx, 1, none⟩ = some (.int .i64 (M.wrs p).num) := HL3.out.cell 1
  have l2 : w3.cell? ⟨lx, 2, none⟩ = some (.int .i64 (M.wrs p).state) := HL3.out.cell 2
  have HEN : Hid ((M.wrs p).ending = decide (3 ≤ (M.wrs p).state)) := Lib.hid (by
    have h1 := HOK.out.t1
    exact decide_eq_decide.2 ⟨fun q => by omega, fun q => by omega⟩)
  by_cases hs : (M.wrs p).session = s
  case neg =>
    have es := nen hs
    have HS0 := Lib.hid hs
    clear hs
    have hie : ee = 200 := by
      rw [← HE.out]
      unfold Mt.addE
      rw [if_neg HIN.out]
      simp only [Int.toNat_natCast]
      exact if_pos HS0.out
    have HIE := Lib.hid hie
    go_wp2_with (with_reducible refine at_load 36 rfl ?_)
    refine Stop.go (wpList_load_blk (by rfl) 36 _ (by rfl) w.heap.size (by rfl) 36 _ HA3.out.b _ und36 (by rfl) (by kernel_rfl) ?_)
    go_wp2_with (with_reducible refine at_store 36 rfl ?_)
    refine Stop.go (wpList_store_blk (by rfl) (by rfl) 36 _ _ (by rfl) (w.heap.size + 1) _ #[.int .i64 (M.nb : Int), .int .i64 (M.np : Int), .int .i64 (M.ni : Int), .slice A1 M.nb c1, .slice A2 M.np c2, .slice (some ad) M.ni c3] (by rfl) (by rfl) 36 HA3.out.r (by rfl) (by kernel_rfl) (by simp [Value.oneCell']) ?_)
    intro w8 hB8 hg8 hs8
    have HB8 := Lib.hid hB8
    have hb8 : Below w.heap.size w w8 := below_grown HA3.out.low hg8 (Nat.le_refl _) (by omega)
    have HF : Hid (Rf w8 X M (.agg #[.int .i64 (M.nb : Int), .int .i64 (M.np : Int), .int .i64 (M.ni : Int), .slice A1 M.nb c1, .slice A2 M.np c2, .slice (some ad) M.ni c3]) ∧ Below w.heap.size w w8) := Lib.hid ⟨⟨_, _, _, _, _, _, _, rfl, HR.out.below hb8⟩, hb8⟩
    have he : ee = 200 := by
      rw [← HE.out]
      rw [HE.out]
      exact HIE.out
    subst he
    clear hie hB8 hg8 hs8 hb8
    go_wp2_with fail
    refine bodyPost_ret (results_ctt (by rfl) _ _ (w.heap.size + 1) 36 _ (0, 0) _ (by rfl) HB8.out und36 (by rfl) (by kernel_rfl) (by rfl) (by rfl)) rfl ?_
    exact ⟨_, by rw [show nn = 0 by rw [← HNN.out]; exact if_neg (by rw [HE.out]; decide)]; rfl, by rw [← HM1.out, if_neg (by rw [HE.out]; decide)]; exact HF.out.1, HF.out.2⟩
  case pos =>
  have es := eqn hs
  have HS0 := Lib.hid hs
  clear hs
  by_cases hs3 : 3 ≤ (M.wrs p).state
  case pos =>
    have e3 : decide (3 ≤ (M.wrs p).state) = true := decide_eq_true hs3
    have HS3 := Lib.hid hs3
    clear hs3
    have hie : ee = 203 := by
      rw [← HE.out]
      unfold Mt.addE
      rw [if_neg HIN.out]
      simp only [Int.toNat_natCast]
      rw [if_neg (fun e => e HS0.out)]
      exact if_pos (by rw [HEN.out]; exact decide_eq_true (by have := HS3.out; omega))
    have HIE := Lib.hid hie
    go_wp2_with (with_reducible refine at_load 36 rfl ?_)
    refine Stop.go (wpList_load_blk (by rfl) 36 _ (by rfl) w.heap.size (by rfl) 36 _ HA3.out.b _ und36 (by rfl) (by kernel_rfl) ?_)
    go_wp2_with (with_reducible refine at_store 36 rfl ?_)
    refine Stop.go (wpList_store_blk (by rfl) (by rfl) 36 _ _ (by rfl) (w.heap.size + 1) _ #[.int .i64 (M.nb : Int), .int .i64 (M.np : Int), .int .i64 (M.ni : Int), .slice A1 M.nb c1, .slice A2 M.np c2, .slice (some ad) M.ni c3] (by rfl) (by rfl) 36 HA3.out.r (by rfl) (by kernel_rfl) (by simp [Value.oneCell']) ?_)
    intro w8 hB8 hg8 hs8
    have HB8 := Lib.hid hB8
    have hb8 : Below w.heap.size w w8 := below_grown HA3.out.low hg8 (Nat.le_refl _) (by omega)
    have HF : Hid (Rf w8 X M (.agg #[.int .i64 (M.nb : Int), .int .i64 (M.np : Int), .int .i64 (M.ni : Int), .slice A1 M.nb c1, .slice A2 M.np c2, .slice (some ad) M.ni c3]) ∧ Below w.heap.size w w8) := Lib.hid ⟨⟨_, _, _, _, _, _, _, rfl, HR.out.below hb8⟩, hb8⟩
    have he : ee = 203 := by
      rw [← HE.out]
      rw [HE.out]
      exact HIE.out
    subst he
    clear hie hB8 hg8 hs8 hb8
    go_wp2_with fail
    refine bodyPost_ret (results_ctt (by rfl) _ _ (w.heap.size + 1) 36 _ (0, 0) _ (by rfl) HB8.out und36 (by rfl) (by kernel_rfl) (by rfl) (by rfl)) rfl ?_
    exact ⟨_, by rw [show nn = 0 by rw [← HNN.out]; exact if_neg (by rw [HE.out]; decide)]; rfl, by rw [← HM1.out, if_neg (by rw [HE.out]; decide)]; exact HF.out.1, HF.out.2⟩
  case neg =>
  have e3 : decide (3 ≤ (M.wrs p).state) = false := decide_eq_false hs3
  have HS3 := Lib.hid hs3
  clear hs3
  by_cases h1 : (M.wrs p).state = 1
  case pos =>
    have e1 := eqb h1
    by_cases hm : (M.wrs p).num = 2147483647
    case pos =>
      have em := eqb hm
      have HM := Lib.hid (And.intro h1 hm)
      clear h1 hm
      have hie : ee = 204 := by
        rw [← HE.out]
        unfold Mt.addE
        rw [if_neg HIN.out]
        simp only [Int.toNat_natCast]
        rw [if_neg (fun e => e HS0.out), if_neg (by rw [HEN.out, decide_eq_false (by have := HS3.out; omega)]; decide)]
        exact if_pos HM.out
      have HIE := Lib.hid hie
      go_wp2_with (with_reducible refine at_load 36 rfl ?_)
      refine Stop.go (wpList_load_blk (by rfl) 36 _ (by rfl) w.heap.size (by rfl) 36 _ HA3.out.b _ und36 (by rfl) (by kernel_rfl) ?_)
      go_wp2_with (with_reducible refine at_store 36 rfl ?_)
      refine Stop.go (wpList_store_blk (by rfl) (by rfl) 36 _ _ (by rfl) (w.heap.size + 1) _ #[.int .i64 (M.nb : Int), .int .i64 (M.np : Int), .int .i64 (M.ni : Int), .slice A1 M.nb c1, .slice A2 M.np c2, .slice (some ad) M.ni c3] (by rfl) (by rfl) 36 HA3.out.r (by rfl) (by kernel_rfl) (by simp [Value.oneCell']) ?_)
      intro w8 hB8 hg8 hs8
      have HB8 := Lib.hid hB8
      have hb8 : Below w.heap.size w w8 := below_grown HA3.out.low hg8 (Nat.le_refl _) (by omega)
      have HF : Hid (Rf w8 X M (.agg #[.int .i64 (M.nb : Int), .int .i64 (M.np : Int), .int .i64 (M.ni : Int), .slice A1 M.nb c1, .slice A2 M.np c2, .slice (some ad) M.ni c3]) ∧ Below w.heap.size w w8) := Lib.hid ⟨⟨_, _, _, _, _, _, _, rfl, HR.out.below hb8⟩, hb8⟩
      have he : ee = 204 := by
        rw [← HE.out]
        rw [HE.out]
        exact HIE.out
      subst he
      clear hie hB8 hg8 hs8 hb8
      go_wp2_with fail
      refine bodyPost_ret (results_ctt (by rfl) _ _ (w.heap.size + 1) 36 _ (0, 0) _ (by rfl) HB8.out und36 (by rfl) (by kernel_rfl) (by rfl) (by rfl)) rfl ?_
      exact ⟨_, by rw [show nn = 0 by rw [← HNN.out]; exact if_neg (by rw [HE.out]; decide)]; rfl, by rw [← HM1.out, if_neg (by rw [HE.out]; decide)]; exact HF.out.1, HF.out.2⟩
    case neg =>
    have em := neb hm
    have HM : Hid (¬ ((M.wrs p).state = 1 ∧ (M.wrs p).num = 2147483647)) := Lib.hid (fun e => hm e.2)
    have HNP := Lib.hid (HOK.out.non h1)
    have HBG : Hid ((M.wrs p).add y = { (M.wrs p) with num := (M.wrs p).num + 1, state := 2, parts := withs (M.wrs p).parts y }) := Lib.hid (by unfold Wt.add; rw [if_pos h1])
    have we : IntKind.i64.wrap ((M.wrs p).num + 1) = (M.wrs p).num + 1 := by have := HOK.out.n0; have := HOK.out.n1; rw [IntWalk.i64_in _ (by omega)]
    clear h1 hm
    have l3 : w3.cell? ⟨lx, 3, none⟩ = some (.slice As (M.wrs p).parts.length ks) := HL3.out.cell 3
    have hS0 := HL3.out
    have k0 : (w3).cell? ⟨lx, 1, none⟩ = some (.int .i64 (M.wrs p).num) := hS0.cell 1
    have g0 := hS0.frozen 1
    have hS1 : Blk ((w3).setCell ⟨lx, 1, none⟩ (.int .i64 ((M.wrs p).num + 1))) lx 55 #[.int .i64 (M.wrs p).session, .int .i64 ((M.wrs p).num + 1), .int .i64 (M.wrs p).state, .slice As (M.wrs p).parts.length ks, .int .i64 (M.wrs p).offset, .int .i64 (M.wrs p).next] := hS0.set_ 1 (.int .i64 ((M.wrs p).num + 1))
    have k1 : ((w3).setCell ⟨lx, 1, none⟩ (.int .i64 ((M.wrs p).num + 1))).cell? ⟨lx, 2, none⟩ = some (.int .i64 (M.wrs p).state) := hS1.cell 2
    have g1 := hS1.frozen 2
    have hS2 : Blk (((w3).setCell ⟨lx, 1, none⟩ (.int .i64 ((M.wrs p).num + 1))).setCell ⟨lx, 2, none⟩ (.int .i64 2)) lx 55 #[.int .i64 (M.wrs p).session, .int .i64 ((M.wrs p).num + 1), .int .i64 2, .slice As (M.wrs p).parts.length ks, .int .i64 (M.wrs p).offset, .int .i64 (M.wrs p).next] := hS1.set_ 2 (.int .i64 2)
    have k2 : (((w3).setCell ⟨lx, 1, none⟩ (.int .i64 ((M.wrs p).num + 1))).setCell ⟨lx, 2, none⟩ (.int .i64 2)).cell? ⟨lx, 3, none⟩ = some (.slice As (M.wrs p).parts.length ks) := hS2.cell 3
    have g2 := hS2.frozen 3
    have hS3 : Blk ((((w3).setCell ⟨lx, 1, none⟩ (.int .i64 ((M.wrs p).num + 1))).setCell ⟨lx, 2, none⟩ (.int .i64 2)).setCell ⟨lx, 3, none⟩ (.slice none 0 0)) lx 55 #[.int .i64 (M.wrs p).session, .int .i64 ((M.wrs p).num + 1), .int .i64 2, .slice none 0 0, .int .i64 (M.wrs p).offset, .int .i64 (M.wrs p).next] := hS2.set_ 3 (.slice none 0 0)
    have hT9 : Turn (fun z => z = lx) (w3) ((((w3).setCell ⟨lx, 1, none⟩ (.int .i64 ((M.wrs p).num + 1))).setCell ⟨lx, 2, none⟩ (.int .i64 2)).setCell ⟨lx, 3, none⟩ (.slice none 0 0)) := ((((Turn.refl (fun z => z = lx) (w3)).setCell (p := ⟨lx, 1, none⟩) (fun _ => rfl) (.int .i64 ((M.wrs p).num + 1))).setCell (p := ⟨lx, 2, none⟩) (fun _ => rfl) (.int .i64 2)).setCell (p := ⟨lx, 3, none⟩) (fun _ => rfl) (.slice none 0 0))
    have HA5 := Lib.hid (HA3.out.on hT9 (fun z e => by have := HLX.out; omega) (fun e => by have := HLX.out; omega) (fun e => by have := HLX.out; omega))
    have HL5 := Lib.hid hS3
    clear hT9 hS0 hS1 hS2 hS3
    go_upto_region 12 with fail
    generalize (((w3).setCell ⟨lx, 1, none⟩ (.int .i64 ((M.wrs p).num + 1))).setCell ⟨lx, 2, none⟩ (.int .i64 2)).setCell ⟨lx, 3, none⟩ (.slice none 0 0) = w5 at *
    clear k0 g0 k1 g1 k2 g2
    clear l0 l1 l2 l3
    have HAI := HA5
    have HLI := HL5
    have HADI : Hid (PickI (M.wrs p).parts y w5 lx 0 (.slice none 0 0) w5) := Lib.hid ⟨OwnK.nil _ _ _, fun z e => (nomatch e), Below.refl _ _⟩
    have hnp4 := HK.out.np.2
    go_wp2_with fail
    go_loopw [12, 13] (fun l i wv => ∃ k : Nat, k ≤ M.np ∧ i = .int .i64 k ∧ Hid (PickI (M.wrs p).parts y w5 lx k l wv)) (fun _ i _ => M.np - (iOf i).toNat)
    case atStart => exact ⟨0, by omega, rfl, HADI⟩
    case round =>
      clear HADI
      obtain ⟨k, hk, rfl, HPI⟩ := hrel
      have HAr := Lib.hid (HAI.out.below HPI.out.low)
      have HLr := Lib.hid (HLI.out.below HPI.out.low HLI.out.lt)
      have b1 : wr.cell? ⟨w.heap.size, 1, none⟩ = some (.int .i64 (M.np : Int)) := HAr.out.b.cell 1
      obtain ⟨Al, kl, el, -⟩ := ints_form HPI.out.own
      subst el
      by_cases hlt : k < M.np
      case neg =>
        have dk : decide (k < M.np) = false := decide_eq_false hlt
        have HW9 : Hid (pick k (M.wrs p).parts y = withs (M.wrs p).parts y) := Lib.hid (by rw [show k = M.np by omega]; exact withs_upTo HOK.out.rise HYY.out)
        clear hlt hk
        have ho7 := HPI.out.own
        have hv7 := HPI.out.fresh
        rw [HW9.out] at ho7 hv7 ⊢
        generalize Al = A7 at *
        generalize kl = k7 at *
        have HO6 := Lib.hid ho7
        have HV7 : Hid (∀ z, (Value.slice A7 (withs (M.wrs p).parts y).length k7).ownBlock = some z → lx < z) := Lib.hid (fun z e => by have := hv7 z e; have := HLI.out.lt; omega)
        clear ho7 hv7
        obtain ⟨w6, hw6⟩ : ∃ w6, w6 = wr := ⟨_, rfl⟩
        rw [← hw6] at HAr HLr HO6 b1 ⊢
        have HA6 := HAr
        have HL6 := HLr
        clear hw6 HPI HAr HLr
        have hS0 := HL6.out
        have k0 : (w6).cell? ⟨lx, 3, none⟩ = some (.slice none 0 0) := hS0.cell 3
        have g0 := hS0.frozen 3
        have hS1 : Blk ((w6).setCell ⟨lx, 3, none⟩ (.slice A7 (withs (M.wrs p).parts y).length k7)) lx 55 #[.int .i64 (M.wrs p).session, .int .i64 ((M.wrs p).num + 1), .int .i64 2, .slice A7 (withs (M.wrs p).parts y).length k7, .int .i64 (M.wrs p).offset, .int .i64 (M.wrs p).next] := hS0.set_ 3 (.slice A7 (withs (M.wrs p).parts y).length k7)
        have hT9 : Turn (fun z => z = lx) (w6) ((w6).setCell ⟨lx, 3, none⟩ (.slice A7 (withs (M.wrs p).parts y).length k7)) := ((Turn.refl (fun z => z = lx) (w6)).setCell (p := ⟨lx, 3, none⟩) (fun _ => rfl) (.slice A7 (withs (M.wrs p).parts y).length k7))
        have HO7 := Lib.hid (HO6.out.keep hT9 (fun z hz e => by have := HV7.out z hz; omega))
        have HA7 := Lib.hid (HA6.out.on hT9 (fun z e => by have := HLX.out; omega) (fun e => by have := HLX.out; omega) (fun e => by have := HLX.out; omega))
        have HL7 := Lib.hid hS1
        clear hT9 hS0 hS1
        go_upto_region 19 with fail
        clear b1
        generalize (w6).setCell ⟨lx, 3, none⟩ (.slice A7 (withs (M.wrs p).parts y).length k7) = w7x at *
        clear k0 g0
        have hrx9 := HRX.out.below ((HA7.out.below (Below.refl _ _).drew).low)
        have hxx9 := HXX.out _ (HA7.out.below (Below.refl _ _).drew).low.size (HA7.out.below (Below.refl _ _).drew).r.lt
        have hcall := writing105_any hrx9 hxx9 HK.out.ni.2 HK.out.np.2 HP.out ({ (M.wrs p) with num := (M.wrs p).num + 1, state := 2, parts := withs (M.wrs p).parts y }) (s := .slice A7 (withs (M.wrs p).parts y).length k7) ⟨A7, k7, rfl, (HO7.out.below (Below.refl _ _).drew).rd (X := fun z => X z ∨ z = w.heap.size + 1) (fun z hz e => e.elim (fun e => by have := HX.out z e; have := HV7.out z hz; have := HLX.out; omega) (fun e => by have := HV7.out z hz; have := HLX.out; omega))⟩
        clear hrx9 hxx9
        have hA0 := HA7.out.below (Below.refl _ _).drew
        refine wp_region_np ?_
        refine wp_region_held_drew (S := fun W => Blk W w.heap.size 36 #[.int .i64 (M.nb : Int), .int .i64 (M.np : Int), .int .i64 (M.ni : Int), .slice A1 M.nb c1, .slice A2 M.np c2, .slice (some ad) M.ni c3] ∧ Blk W lx 55 #[.int .i64 (M.wrs p).session, .int .i64 ((M.wrs p).num + 1), .int .i64 2, .slice A7 (withs (M.wrs p).parts y).length k7, .int .i64 (M.wrs p).offset, .int .i64 (M.wrs p).next]) (by kernel_rfl) (show (fun W => Blk W w.heap.size 36 #[.int .i64 (M.nb : Int), .int .i64 (M.np : Int), .int .i64 (M.ni : Int), .slice A1 M.nb c1, .slice A2 M.np c2, .slice (some ad) M.ni c3] ∧ Blk W lx 55 #[.int .i64 (M.wrs p).session, .int .i64 ((M.wrs p).num + 1), .int .i64 2, .slice A7 (withs (M.wrs p).parts y).length k7, .int .i64 (M.wrs p).offset, .int .i64 (M.wrs p).next]) w7x.drew from ⟨hA0.b, HL7.out.drew⟩) (fun hHeld => ?_)
        generalize hv0 : w7x.drew = V0 at *
        clear hv0
        refine wpAnyH_takeAt (i := 0) (d := 84) (v := ?vq0x) rfl rfl (by kernel_rfl) (by kernel_rfl) (by kernel_rfl) (fun _ _ _ h => h) (Or.inl ⟨by rfl, ?hyq0x⟩) hHeld ?_
        case hyq0x =>
          intro W hSw
          obtain ⟨kb, kl⟩ := hSw; have q0 : W.cell? ⟨w.heap.size, 0, none⟩ = some (.int .i64 (M.nb : Int)) := kb.cell 0; have q1 : W.cell? ⟨w.heap.size, 1, none⟩ = some (.int .i64 (M.np : Int)) := kb.cell 1; have q2 : W.cell? ⟨w.heap.size, 2, none⟩ = some (.int .i64 (M.ni : Int)) := kb.cell 2; have q3 : W.cell? ⟨w.heap.size, 3, none⟩ = some (.slice A1 M.nb c1) := kb.cell 3; have q4 : W.cell? ⟨w.heap.size, 4, none⟩ = some (.slice A2 M.np c2) := kb.cell 4; have q5 : W.cell? ⟨w.heap.size, 5, none⟩ = some (.slice (some ad) M.ni c3) := kb.cell 5; have s0 : W.cell? ⟨lx, 0, none⟩ = some (.int .i64 (M.wrs p).session) := kl.cell 0; have s1 : W.cell? ⟨lx, 1, none⟩ = some (.int .i64 ((M.wrs p).num + 1)) := kl.cell 1; have s2 : W.cell? ⟨lx, 2, none⟩ = some (.int .i64 2) := kl.cell 2; have s3 : W.cell? ⟨lx, 3, none⟩ = some (.slice A7 (withs (M.wrs p).parts y).length k7) := kl.cell 3; have s4 : W.cell? ⟨lx, 4, none⟩ = some (.int .i64 (M.wrs p).offset) := kl.cell 4; have s5 : W.cell? ⟨lx, 5, none⟩ = some (.int .i64 (M.wrs p).next) := kl.cell 5; clear kb kl
          (go_simp; try with_reducible rfl)
        simp only [List.setIfInBounds_toArray, List.set_cons_zero, List.set_cons_succ]
        refine wpAnyH_takeAt (i := 1) (d := 85) (v := ?vq1x) rfl rfl (by kernel_rfl) (by kernel_rfl) (by kernel_rfl) (fun _ _ _ h => h) (Or.inl ⟨by rfl, ?hyq1x⟩) hHeld ?_
        case hyq1x =>
          intro W hSw
          clear hSw
          (go_simp; try with_reducible rfl)
        simp only [List.setIfInBounds_toArray, List.set_cons_zero, List.set_cons_succ]
        refine wpAnyH_takeAt (i := 2) (d := 86) (v := ?vq2x) rfl rfl (by kernel_rfl) (by kernel_rfl) (by kernel_rfl) (fun _ _ _ h => h) (Or.inl ⟨by rfl, ?hyq2x⟩) hHeld ?_
        case hyq2x =>
          intro W hSw
          obtain ⟨kb, kl⟩ := hSw; have q0 : W.cell? ⟨w.heap.size, 0, none⟩ = some (.int .i64 (M.nb : Int)) := kb.cell 0; have q1 : W.cell? ⟨w.heap.size, 1, none⟩ = some (.int .i64 (M.np : Int)) := kb.cell 1; have q2 : W.cell? ⟨w.heap.size, 2, none⟩ = some (.int .i64 (M.ni : Int)) := kb.cell 2; have q3 : W.cell? ⟨w.heap.size, 3, none⟩ = some (.slice A1 M.nb c1) := kb.cell 3; have q4 : W.cell? ⟨w.heap.size, 4, none⟩ = some (.slice A2 M.np c2) := kb.cell 4; have q5 : W.cell? ⟨w.heap.size, 5, none⟩ = some (.slice (some ad) M.ni c3) := kb.cell 5; have s0 : W.cell? ⟨lx, 0, none⟩ = some (.int .i64 (M.wrs p).session) := kl.cell 0; have s1 : W.cell? ⟨lx, 1, none⟩ = some (.int .i64 ((M.wrs p).num + 1)) := kl.cell 1; have s2 : W.cell? ⟨lx, 2, none⟩ = some (.int .i64 2) := kl.cell 2; have s3 : W.cell? ⟨lx, 3, none⟩ = some (.slice A7 (withs (M.wrs p).parts y).length k7) := kl.cell 3; have s4 : W.cell? ⟨lx, 4, none⟩ = some (.int .i64 (M.wrs p).offset) := kl.cell 4; have s5 : W.cell? ⟨lx, 5, none⟩ = some (.int .i64 (M.wrs p).next) := kl.cell 5; clear kb kl
          (go_simp; try with_reducible rfl)
        simp only [List.setIfInBounds_toArray, List.set_cons_zero, List.set_cons_succ]
        refine wpAnyH_takeAt (i := 4) (d := 88) (v := ?vq3x) rfl rfl (by kernel_rfl) (by kernel_rfl) (by kernel_rfl) (fun _ _ _ h => h) (Or.inl ⟨by rfl, ?hyq3x⟩) hHeld ?_
        case hyq3x =>
          intro W hSw
          clear hSw
          (go_simp; try with_reducible rfl)
        simp only [List.setIfInBounds_toArray, List.set_cons_zero, List.set_cons_succ]
        refine wpAnyH_takeAt (i := 5) (d := 89) (v := ?vq4x) rfl rfl (by kernel_rfl) (by kernel_rfl) (by kernel_rfl) (fun _ _ _ h => h) (Or.inl ⟨by rfl, ?hyq4x⟩) hHeld ?_
        case hyq4x =>
          intro W hSw
          obtain ⟨kb, kl⟩ := hSw; have q0 : W.cell? ⟨w.heap.size, 0, none⟩ = some (.int .i64 (M.nb : Int)) := kb.cell 0; have q1 : W.cell? ⟨w.heap.size, 1, none⟩ = some (.int .i64 (M.np : Int)) := kb.cell 1; have q2 : W.cell? ⟨w.heap.size, 2, none⟩ = some (.int .i64 (M.ni : Int)) := kb.cell 2; have q3 : W.cell? ⟨w.heap.size, 3, none⟩ = some (.slice A1 M.nb c1) := kb.cell 3; have q4 : W.cell? ⟨w.heap.size, 4, none⟩ = some (.slice A2 M.np c2) := kb.cell 4; have q5 : W.cell? ⟨w.heap.size, 5, none⟩ = some (.slice (some ad) M.ni c3) := kb.cell 5; have s0 : W.cell? ⟨lx, 0, none⟩ = some (.int .i64 (M.wrs p).session) := kl.cell 0; have s1 : W.cell? ⟨lx, 1, none⟩ = some (.int .i64 ((M.wrs p).num + 1)) := kl.cell 1; have s2 : W.cell? ⟨lx, 2, none⟩ = some (.int .i64 2) := kl.cell 2; have s3 : W.cell? ⟨lx, 3, none⟩ = some (.slice A7 (withs (M.wrs p).parts y).length k7) := kl.cell 3; have s4 : W.cell? ⟨lx, 4, none⟩ = some (.int .i64 (M.wrs p).offset) := kl.cell 4; have s5 : W.cell? ⟨lx, 5, none⟩ = some (.int .i64 (M.wrs p).next) := kl.cell 5; clear kb kl
          (go_simp; try with_reducible rfl)
        simp only [List.setIfInBounds_toArray, List.set_cons_zero, List.set_cons_succ]
        refine wpAnyH_ready (rs := [3]) (by kernel_rfl) (by simp) (AllReadyH.cons rfl (fun K hK => ?_) AllReadyH.nil)
        go_simp
        refine hcall.mono ?_
        rintro r w7 ⟨v7, rfl, hrf, hb7⟩
        dsimp only
        have hA7 := hA0.below hb7
        obtain ⟨B1, B2, B3, d1', d2', d3', rs7, e7, hR7⟩ := hrf
        subst e7
        have hHeld2 : (fun W => Blk W w.heap.size 36 #[.int .i64 (M.nb : Int), .int .i64 (M.np : Int), .int .i64 (M.ni : Int), .slice A1 M.nb c1, .slice A2 M.np c2, .slice (some ad) M.ni c3] ∧ Blk W lx 55 #[.int .i64 (M.wrs p).session, .int .i64 ((M.wrs p).num + 1), .int .i64 2, .slice A7 (withs (M.wrs p).parts y).length k7, .int .i64 (M.wrs p).offset, .int .i64 (M.wrs p).next]) w7 := ⟨hHeld.1.below hb7 hHeld.1.lt, hHeld.2.below hb7 hHeld.2.lt⟩
        refine hK.out _ _ hHeld2 (fun hHeld => ?_)
        clear hK K hcall hHeld2 hb7
        try simp only [List.setIfInBounds_toArray, List.set_cons_zero, List.set_cons_succ]
        refine wpAnyH_ready (rs := [6]) (by kernel_rfl) (by simp) (AllReadyH.cons rfl (fun K hK => ?_) AllReadyH.nil)
        refine step_store_blk (by rfl) rfl 36 _ _ rfl (w.heap.size + 1) _ #[.int .i64 (M.nb : Int), .int .i64 (M.np : Int), .int .i64 (M.ni : Int), .slice B1 M.nb d1', .slice B2 M.np d2', .slice B3 M.ni d3'] rfl rfl 36 hA7.r rfl (by kernel_rfl) (by simp [Value.oneCell']) ?_
        intro w8 hB8 hg8 hs8
        have HB8 := Lib.hid hB8
        have hb8 : Below w.heap.size w w8 := below_grown hA7.low hg8 (Nat.le_refl _) (by omega)
        have hb78 : Turn (fun z => z = (w.heap.size + 1)) w7 w8 := Turn.of_grown hg8 (fun r e => by injection e with e; exact e.symm)
        have HF : Hid (Rf w8 X (M.setW p ({ (M.wrs p) with num := (M.wrs p).num + 1, state := 2, parts := withs (M.wrs p).parts y })) (.agg #[.int .i64 (M.nb : Int), .int .i64 (M.np : Int), .int .i64 (M.ni : Int), .slice B1 M.nb d1', .slice B2 M.np d2', .slice B3 M.ni d3']) ∧ Below w.heap.size w w8) := Lib.hid ⟨((Rf.keep (X := fun z => X z ∨ z = (w.heap.size + 1)) ⟨_, _, _, _, _, _, _, rfl, hR7⟩ hb78 (fun z _ e => .inr e)).wide (fun z _ e => .inl e)), hb8⟩
        have hHeld2 : (fun W => Blk W w.heap.size 36 #[.int .i64 (M.nb : Int), .int .i64 (M.np : Int), .int .i64 (M.ni : Int), .slice A1 M.nb c1, .slice A2 M.np c2, .slice (some ad) M.ni c3] ∧ Blk W lx 55 #[.int .i64 (M.wrs p).session, .int .i64 ((M.wrs p).num + 1), .int .i64 2, .slice A7 (withs (M.wrs p).parts y).length k7, .int .i64 (M.wrs p).offset, .int .i64 (M.wrs p).next]) w8 := ⟨hHeld.1.keep hb78 (fun e => by omega), hHeld.2.keep hb78 (fun e => by have := HLX.out; omega)⟩
        refine hK.out _ _ hHeld2 (fun hHeld => ?_)
        clear hK K hHeld2 hb78 hb8 hR7 hA7 hB8 hg8 hs8
        try simp only [List.setIfInBounds_toArray, List.set_cons_zero, List.set_cons_succ]
        refine wpAnyH_takeAt (i := 7) (d := 9) (v := ?vq5x) rfl rfl (by kernel_rfl) (by kernel_rfl) (by kernel_rfl) (fun _ _ _ h => h) (Or.inl ⟨by rfl, ?hyq5x⟩) hHeld ?_
        case hyq5x =>
          intro W hSw
          clear hSw
          (go_simp; try with_reducible rfl)
        simp only [List.setIfInBounds_toArray, List.set_cons_zero, List.set_cons_succ]
        refine wpAnyH_takeAt (i := 8) (d := 10) (v := ?vq6x) rfl rfl (by kernel_rfl) (by kernel_rfl) (by kernel_rfl) (fun _ _ _ h => h) (Or.inl ⟨by rfl, ?hyq6x⟩) hHeld ?_
        case hyq6x =>
          intro W hSw
          clear hSw
          (go_simp; try with_reducible rfl)
        simp only [List.setIfInBounds_toArray, List.set_cons_zero, List.set_cons_succ]
        refine wpAnyH_done (by kernel_rfl) ?_ _
        clear hHeld
        have he : ee = 0 := by
          rw [← HE.out]
          unfold Mt.addE
          rw [if_neg HIN.out]
          simp only [Int.toNat_natCast]
          rw [if_neg (fun e => e HS0.out), if_neg (by rw [HEN.out, decide_eq_false (by have := HS3.out; omega)]; decide)]
          exact if_neg HM.out
        have hn : nn = (M.wrs p).num + 1 := by
          rw [← HNN.out]
          unfold Mt.addN
          rw [if_pos (by rw [HE.out]; exact he)]
          simp only [Int.toNat_natCast]
          rw [HBG.out]
        subst hn
        have HNX : Hid (M.addE (p : Int) s y = 0) := Lib.hid (by rw [HE.out]; exact he)
        subst he
        go_wp2_with fail
        refine bodyPost_ret (results_ctt (by rfl) _ _ (w.heap.size + 1) 36 _ (0, 0) _ (by rfl) HB8.out und36 (by rfl) (by kernel_rfl) (by rfl) (by rfl)) rfl ?_
        exact ⟨_, rfl, by rw [← HM1.out, if_pos HNX.out]; simp only [Int.toNat_natCast]; rw [HBG.out]; exact HF.out.1, HF.out.2⟩
      case pos =>
      have dk : decide (k < M.np) = true := decide_eq_true hlt
      have l3 : wr.cell? ⟨lx, 3, none⟩ = some (.slice none (M.wrs p).parts.length 0) := by rw [HNP.out]; exact HLr.out.cell 3
      have hin := refIn_any (w := wr) (X := X) (A := none) (n := (M.wrs p).parts.length) (c := 0) (V := (M.wrs p).parts) (by rw [HNP.out]; exact Rd.none_) HLE.out (k : Int)
      by_cases hy : (k : Int) = y
      case pos =>
        have ey := eqb hy
        have HPK : Hid (pick (k + 1) (M.wrs p).parts y = pick k (M.wrs p).parts y ++ [(k : Int)]) := Lib.hid (by rw [pick_succ, if_pos (.inl hy)])
        clear hy hin
        go_wp2_with (at_builtin; refine stop ?_)
        refine Stop.go (wpList_append_k el41 _ (by rfl) _ _ (by rfl) (.slice Al (pick k (M.wrs p).parts y).length kl) (intsOf (pick k (M.wrs p).parts y)) (by rfl) (HPI.out.own.alloc _) No (some ⟨wr.heap.size, 0, none⟩) 1 1 [#[.int .i64 (k : Int)]] (by rfl) (rd_one wr 3 #[.int .i64 (k : Int)] rfl (by simp [Value.oneCell']) (fun h => h)) (by have := pick_len k (M.wrs p).parts y; simp [intsOf]; omega) (by omega) ?_)
        intro v9 w9 ho9 hg9
        have hnew := HPI.out.more ho9 hg9 HPK.out
        have HNEW := Lib.hid hnew
        clear ho9 hg9 hnew
        go_wp2_with fail
        go_round
        case rel => exact ⟨k + 1, by omega, by go_num, HNEW⟩
        case measure => simp [iOf]; omega
      case neg =>
      have ey := neb hy
      by_cases hm : (k : Int) ∈ (M.wrs p).parts
      case pos =>
        rw [decide_eq_true hm] at hin
        have HPK : Hid (pick (k + 1) (M.wrs p).parts y = pick k (M.wrs p).parts y ++ [(k : Int)]) := Lib.hid (by rw [pick_succ, if_pos (.inr hm)])
        clear hy hm
        go_wp2_with fail
        refine hin.mono ?_
        rintro r w9 ⟨rfl, hw9⟩
        rw [hw9]
        clear hin hw9
        go_wp2_with (at_builtin; refine stop ?_)
        refine Stop.go (wpList_append_k el41 _ (by rfl) _ _ (by rfl) (.slice Al (pick k (M.wrs p).parts y).length kl) (intsOf (pick k (M.wrs p).parts y)) (by rfl) (HPI.out.own.alloc _) No (some ⟨wr.heap.size, 0, none⟩) 1 1 [#[.int .i64 (k : Int)]] (by rfl) (rd_one wr 3 #[.int .i64 (k : Int)] rfl (by simp [Value.oneCell']) (fun h => h)) (by have := pick_len k (M.wrs p).parts y; simp [intsOf]; omega) (by omega) ?_)
        intro v9 w9 ho9 hg9
        have hnew := HPI.out.more ho9 hg9 HPK.out
        have HNEW := Lib.hid hnew
        clear ho9 hg9 hnew
        go_wp2_with fail
        go_round
        case rel => exact ⟨k + 1, by omega, by go_num, HNEW⟩
        case measure => simp [iOf]; omega
      case neg =>
      rw [decide_eq_false hm] at hin
      have HPK : Hid (PickI (M.wrs p).parts y w5 lx (k + 1) (.slice Al (pick k (M.wrs p).parts y).length kl) wr) := Lib.hid (by
        have hk2 : pick (k + 1) (M.wrs p).parts y = pick k (M.wrs p).parts y := by rw [pick_succ, if_neg (fun e => e.elim hy hm)]
        have h9 := HPI.out
        exact ⟨by rw [hk2]; exact h9.own, h9.fresh, h9.low⟩)
      clear hy hm
      go_wp2_with fail
      refine hin.mono ?_
      rintro r w9 ⟨rfl, hw9⟩
      rw [hw9]
      clear hin hw9
      go_wp2_with fail
      go_round
      case rel => exact ⟨k + 1, by omega, by go_num, HPK⟩
      case measure => simp [iOf]; omega
  case neg =>
  have e1 := neb h1
  have HM : Hid (¬ ((M.wrs p).state = 1 ∧ (M.wrs p).num = 2147483647)) := Lib.hid (fun e => h1 e.1)
  have HBG : Hid ((M.wrs p).add y = { (M.wrs p) with parts := withs (M.wrs p).parts y }) := Lib.hid (by unfold Wt.add; rw [if_neg h1])
  clear h1
  go_upto_region 12 with fail
  clear l0 l1 l2
  have HAI := HA3
  have HLI := HL3
  have HADI : Hid (PickI (M.wrs p).parts y w3 lx 0 (.slice none 0 0) w3) := Lib.hid ⟨OwnK.nil _ _ _, fun z e => (nomatch e), Below.refl _ _⟩
  have hnp4 := HK.out.np.2
  go_wp2_with fail
  go_loopw [12, 13] (fun l i wv => ∃ k : Nat, k ≤ M.np ∧ i = .int .i64 k ∧ Hid (PickI (M.wrs p).parts y w3 lx k l wv)) (fun _ i _ => M.np - (iOf i).toNat)
  case atStart => exact ⟨0, by omega, rfl, HADI⟩
  case round =>
    clear HADI
    obtain ⟨k, hk, rfl, HPI⟩ := hrel
    have HAr := Lib.hid (HAI.out.below HPI.out.low)
    have HLr := Lib.hid (HLI.out.below HPI.out.low HLI.out.lt)
    have b1 : wr.cell? ⟨w.heap.size, 1, none⟩ = some (.int .i64 (M.np : Int)) := HAr.out.b.cell 1
    obtain ⟨Al, kl, el, -⟩ := ints_form HPI.out.own
    subst el
    by_cases hlt : k < M.np
    case neg =>
      have dk : decide (k < M.np) = false := decide_eq_false hlt
      have HW9 : Hid (pick k (M.wrs p).parts y = withs (M.wrs p).parts y) := Lib.hid (by rw [show k = M.np by omega]; exact withs_upTo HOK.out.rise HYY.out)
      clear hlt hk
      have ho7 := HPI.out.own
      have hv7 := HPI.out.fresh
      rw [HW9.out] at ho7 hv7 ⊢
      generalize Al = A7 at *
      generalize kl = k7 at *
      have HO6 := Lib.hid ho7
      have HV7 : Hid (∀ z, (Value.slice A7 (withs (M.wrs p).parts y).length k7).ownBlock = some z → lx < z) := Lib.hid (fun z e => by have := hv7 z e; have := HLI.out.lt; omega)
      clear ho7 hv7
      obtain ⟨w6, hw6⟩ : ∃ w6, w6 = wr := ⟨_, rfl⟩
      rw [← hw6] at HAr HLr HO6 b1 ⊢
      have HA6 := HAr
      have HL6 := HLr
      clear hw6 HPI HAr HLr
      have hS0 := HL6.out
      have k0 : (w6).cell? ⟨lx, 3, none⟩ = some (.slice As (M.wrs p).parts.length ks) := hS0.cell 3
      have g0 := hS0.frozen 3
      have hS1 : Blk ((w6).setCell ⟨lx, 3, none⟩ (.slice A7 (withs (M.wrs p).parts y).length k7)) lx 55 #[.int .i64 (M.wrs p).session, .int .i64 (M.wrs p).num, .int .i64 (M.wrs p).state, .slice A7 (withs (M.wrs p).parts y).length k7, .int .i64 (M.wrs p).offset, .int .i64 (M.wrs p).next] := hS0.set_ 3 (.slice A7 (withs (M.wrs p).parts y).length k7)
      have hT9 : Turn (fun z => z = lx) (w6) ((w6).setCell ⟨lx, 3, none⟩ (.slice A7 (withs (M.wrs p).parts y).length k7)) := ((Turn.refl (fun z => z = lx) (w6)).setCell (p := ⟨lx, 3, none⟩) (fun _ => rfl) (.slice A7 (withs (M.wrs p).parts y).length k7))
      have HO7 := Lib.hid (HO6.out.keep hT9 (fun z hz e => by have := HV7.out z hz; omega))
      have HA7 := Lib.hid (HA6.out.on hT9 (fun z e => by have := HLX.out; omega) (fun e => by have := HLX.out; omega) (fun e => by have := HLX.out; omega))
      have HL7 := Lib.hid hS1
      clear hT9 hS0 hS1
      go_upto_region 19 with fail
      clear b1
      generalize (w6).setCell ⟨lx, 3, none⟩ (.slice A7 (withs (M.wrs p).parts y).length k7) = w7x at *
      clear k0 g0
      have hrx9 := HRX.out.below ((HA7.out.below (Below.refl _ _).drew).low)
      have hxx9 := HXX.out _ (HA7.out.below (Below.refl _ _).drew).low.size (HA7.out.below (Below.refl _ _).drew).r.lt
      have hcall := writing105_any hrx9 hxx9 HK.out.ni.2 HK.out.np.2 HP.out ({ (M.wrs p) with parts := withs (M.wrs p).parts y }) (s := .slice A7 (withs (M.wrs p).parts y).length k7) ⟨A7, k7, rfl, (HO7.out.below (Below.refl _ _).drew).rd (X := fun z => X z ∨ z = w.heap.size + 1) (fun z hz e => e.elim (fun e => by have := HX.out z e; have := HV7.out z hz; have := HLX.out; omega) (fun e => by have := HV7.out z hz; have := HLX.out; omega))⟩
      clear hrx9 hxx9
      have hA0 := HA7.out.below (Below.refl _ _).drew
      refine wp_region_np ?_
      refine wp_region_held_drew (S := fun W => Blk W w.heap.size 36 #[.int .i64 (M.nb : Int), .int .i64 (M.np : Int), .int .i64 (M.ni : Int), .slice A1 M.nb c1, .slice A2 M.np c2, .slice (some ad) M.ni c3] ∧ Blk W lx 55 #[.int .i64 (M.wrs p).session, .int .i64 (M.wrs p).num, .int .i64 (M.wrs p).state, .slice A7 (withs (M.wrs p).parts y).length k7, .int .i64 (M.wrs p).offset, .int .i64 (M.wrs p).next]) (by kernel_rfl) (show (fun W => Blk W w.heap.size 36 #[.int .i64 (M.nb : Int), .int .i64 (M.np : Int), .int .i64 (M.ni : Int), .slice A1 M.nb c1, .slice A2 M.np c2, .slice (some ad) M.ni c3] ∧ Blk W lx 55 #[.int .i64 (M.wrs p).session, .int .i64 (M.wrs p).num, .int .i64 (M.wrs p).state, .slice A7 (withs (M.wrs p).parts y).length k7, .int .i64 (M.wrs p).offset, .int .i64 (M.wrs p).next]) w7x.drew from ⟨hA0.b, HL7.out.drew⟩) (fun hHeld => ?_)
      generalize hv0 : w7x.drew = V0 at *
      clear hv0
      refine wpAnyH_takeAt (i := 0) (d := 84) (v := ?vq7x) rfl rfl (by kernel_rfl) (by kernel_rfl) (by kernel_rfl) (fun _ _ _ h => h) (Or.inl ⟨by rfl, ?hyq7x⟩) hHeld ?_
      case hyq7x =>
        intro W hSw
        obtain ⟨kb, kl⟩ := hSw; have q0 : W.cell? ⟨w.heap.size, 0, none⟩ = some (.int .i64 (M.nb : Int)) := kb.cell 0; have q1 : W.cell? ⟨w.heap.size, 1, none⟩ = some (.int .i64 (M.np : Int)) := kb.cell 1; have q2 : W.cell? ⟨w.heap.size, 2, none⟩ = some (.int .i64 (M.ni : Int)) := kb.cell 2; have q3 : W.cell? ⟨w.heap.size, 3, none⟩ = some (.slice A1 M.nb c1) := kb.cell 3; have q4 : W.cell? ⟨w.heap.size, 4, none⟩ = some (.slice A2 M.np c2) := kb.cell 4; have q5 : W.cell? ⟨w.heap.size, 5, none⟩ = some (.slice (some ad) M.ni c3) := kb.cell 5; have s0 : W.cell? ⟨lx, 0, none⟩ = some (.int .i64 (M.wrs p).session) := kl.cell 0; have s1 : W.cell? ⟨lx, 1, none⟩ = some (.int .i64 (M.wrs p).num) := kl.cell 1; have s2 : W.cell? ⟨lx, 2, none⟩ = some (.int .i64 (M.wrs p).state) := kl.cell 2; have s3 : W.cell? ⟨lx, 3, none⟩ = some (.slice A7 (withs (M.wrs p).parts y).length k7) := kl.cell 3; have s4 : W.cell? ⟨lx, 4, none⟩ = some (.int .i64 (M.wrs p).offset) := kl.cell 4; have s5 : W.cell? ⟨lx, 5, none⟩ = some (.int .i64 (M.wrs p).next) := kl.cell 5; clear kb kl
        (go_simp; try with_reducible rfl)
      simp only [List.setIfInBounds_toArray, List.set_cons_zero, List.set_cons_succ]
      refine wpAnyH_takeAt (i := 1) (d := 85) (v := ?vq8x) rfl rfl (by kernel_rfl) (by kernel_rfl) (by kernel_rfl) (fun _ _ _ h => h) (Or.inl ⟨by rfl, ?hyq8x⟩) hHeld ?_
      case hyq8x =>
        intro W hSw
        clear hSw
        (go_simp; try with_reducible rfl)
      simp only [List.setIfInBounds_toArray, List.set_cons_zero, List.set_cons_succ]
      refine wpAnyH_takeAt (i := 2) (d := 86) (v := ?vq9x) rfl rfl (by kernel_rfl) (by kernel_rfl) (by kernel_rfl) (fun _ _ _ h => h) (Or.inl ⟨by rfl, ?hyq9x⟩) hHeld ?_
      case hyq9x =>
        intro W hSw
        obtain ⟨kb, kl⟩ := hSw; have q0 : W.cell? ⟨w.heap.size, 0, none⟩ = some (.int .i64 (M.nb : Int)) := kb.cell 0; have q1 : W.cell? ⟨w.heap.size, 1, none⟩ = some (.int .i64 (M.np : Int)) := kb.cell 1; have q2 : W.cell? ⟨w.heap.size, 2, none⟩ = some (.int .i64 (M.ni : Int)) := kb.cell 2; have q3 : W.cell? ⟨w.heap.size, 3, none⟩ = some (.slice A1 M.nb c1) := kb.cell 3; have q4 : W.cell? ⟨w.heap.size, 4, none⟩ = some (.slice A2 M.np c2) := kb.cell 4; have q5 : W.cell? ⟨w.heap.size, 5, none⟩ = some (.slice (some ad) M.ni c3) := kb.cell 5; have s0 : W.cell? ⟨lx, 0, none⟩ = some (.int .i64 (M.wrs p).session) := kl.cell 0; have s1 : W.cell? ⟨lx, 1, none⟩ = some (.int .i64 (M.wrs p).num) := kl.cell 1; have s2 : W.cell? ⟨lx, 2, none⟩ = some (.int .i64 (M.wrs p).state) := kl.cell 2; have s3 : W.cell? ⟨lx, 3, none⟩ = some (.slice A7 (withs (M.wrs p).parts y).length k7) := kl.cell 3; have s4 : W.cell? ⟨lx, 4, none⟩ = some (.int .i64 (M.wrs p).offset) := kl.cell 4; have s5 : W.cell? ⟨lx, 5, none⟩ = some (.int .i64 (M.wrs p).next) := kl.cell 5; clear kb kl
        (go_simp; try with_reducible rfl)
      simp only [List.setIfInBounds_toArray, List.set_cons_zero, List.set_cons_succ]
      refine wpAnyH_takeAt (i := 4) (d := 88) (v := ?vq10x) rfl rfl (by kernel_rfl) (by kernel_rfl) (by kernel_rfl) (fun _ _ _ h => h) (Or.inl ⟨by rfl, ?hyq10x⟩) hHeld ?_
      case hyq10x =>
        intro W hSw
        clear hSw
        (go_simp; try with_reducible rfl)
      simp only [List.setIfInBounds_toArray, List.set_cons_zero, List.set_cons_succ]
      refine wpAnyH_takeAt (i := 5) (d := 89) (v := ?vq11x) rfl rfl (by kernel_rfl) (by kernel_rfl) (by kernel_rfl) (fun _ _ _ h => h) (Or.inl ⟨by rfl, ?hyq11x⟩) hHeld ?_
      case hyq11x =>
        intro W hSw
        obtain ⟨kb, kl⟩ := hSw; have q0 : W.cell? ⟨w.heap.size, 0, none⟩ = some (.int .i64 (M.nb : Int)) := kb.cell 0; have q1 : W.cell? ⟨w.heap.size, 1, none⟩ = some (.int .i64 (M.np : Int)) := kb.cell 1; have q2 : W.cell? ⟨w.heap.size, 2, none⟩ = some (.int .i64 (M.ni : Int)) := kb.cell 2; have q3 : W.cell? ⟨w.heap.size, 3, none⟩ = some (.slice A1 M.nb c1) := kb.cell 3; have q4 : W.cell? ⟨w.heap.size, 4, none⟩ = some (.slice A2 M.np c2) := kb.cell 4; have q5 : W.cell? ⟨w.heap.size, 5, none⟩ = some (.slice (some ad) M.ni c3) := kb.cell 5; have s0 : W.cell? ⟨lx, 0, none⟩ = some (.int .i64 (M.wrs p).session) := kl.cell 0; have s1 : W.cell? ⟨lx, 1, none⟩ = some (.int .i64 (M.wrs p).num) := kl.cell 1; have s2 : W.cell? ⟨lx, 2, none⟩ = some (.int .i64 (M.wrs p).state) := kl.cell 2; have s3 : W.cell? ⟨lx, 3, none⟩ = some (.slice A7 (withs (M.wrs p).parts y).length k7) := kl.cell 3; have s4 : W.cell? ⟨lx, 4, none⟩ = some (.int .i64 (M.wrs p).offset) := kl.cell 4; have s5 : W.cell? ⟨lx, 5, none⟩ = some (.int .i64 (M.wrs p).next) := kl.cell 5; clear kb kl
        (go_simp; try with_reducible rfl)
      simp only [List.setIfInBounds_toArray, List.set_cons_zero, List.set_cons_succ]
      refine wpAnyH_ready (rs := [3]) (by kernel_rfl) (by simp) (AllReadyH.cons rfl (fun K hK => ?_) AllReadyH.nil)
      go_simp
      refine hcall.mono ?_
      rintro r w7 ⟨v7, rfl, hrf, hb7⟩
      dsimp only
      have hA7 := hA0.below hb7
      obtain ⟨B1, B2, B3, d1', d2', d3', rs7, e7, hR7⟩ := hrf
      subst e7
      have hHeld2 : (fun W => Blk W w.heap.size 36 #[.int .i64 (M.nb : Int), .int .i64 (M.np : Int), .int .i64 (M.ni : Int), .slice A1 M.nb c1, .slice A2 M.np c2, .slice (some ad) M.ni c3] ∧ Blk W lx 55 #[.int .i64 (M.wrs p).session, .int .i64 (M.wrs p).num, .int .i64 (M.wrs p).state, .slice A7 (withs (M.wrs p).parts y).length k7, .int .i64 (M.wrs p).offset, .int .i64 (M.wrs p).next]) w7 := ⟨hHeld.1.below hb7 hHeld.1.lt, hHeld.2.below hb7 hHeld.2.lt⟩
      refine hK.out _ _ hHeld2 (fun hHeld => ?_)
      clear hK K hcall hHeld2 hb7
      try simp only [List.setIfInBounds_toArray, List.set_cons_zero, List.set_cons_succ]
      refine wpAnyH_ready (rs := [6]) (by kernel_rfl) (by simp) (AllReadyH.cons rfl (fun K hK => ?_) AllReadyH.nil)
      refine step_store_blk (by rfl) rfl 36 _ _ rfl (w.heap.size + 1) _ #[.int .i64 (M.nb : Int), .int .i64 (M.np : Int), .int .i64 (M.ni : Int), .slice B1 M.nb d1', .slice B2 M.np d2', .slice B3 M.ni d3'] rfl rfl 36 hA7.r rfl (by kernel_rfl) (by simp [Value.oneCell']) ?_
      intro w8 hB8 hg8 hs8
      have HB8 := Lib.hid hB8
      have hb8 : Below w.heap.size w w8 := below_grown hA7.low hg8 (Nat.le_refl _) (by omega)
      have hb78 : Turn (fun z => z = (w.heap.size + 1)) w7 w8 := Turn.of_grown hg8 (fun r e => by injection e with e; exact e.symm)
      have HF : Hid (Rf w8 X (M.setW p ({ (M.wrs p) with parts := withs (M.wrs p).parts y })) (.agg #[.int .i64 (M.nb : Int), .int .i64 (M.np : Int), .int .i64 (M.ni : Int), .slice B1 M.nb d1', .slice B2 M.np d2', .slice B3 M.ni d3']) ∧ Below w.heap.size w w8) := Lib.hid ⟨((Rf.keep (X := fun z => X z ∨ z = (w.heap.size + 1)) ⟨_, _, _, _, _, _, _, rfl, hR7⟩ hb78 (fun z _ e => .inr e)).wide (fun z _ e => .inl e)), hb8⟩
      have hHeld2 : (fun W => Blk W w.heap.size 36 #[.int .i64 (M.nb : Int), .int .i64 (M.np : Int), .int .i64 (M.ni : Int), .slice A1 M.nb c1, .slice A2 M.np c2, .slice (some ad) M.ni c3] ∧ Blk W lx 55 #[.int .i64 (M.wrs p).session, .int .i64 (M.wrs p).num, .int .i64 (M.wrs p).state, .slice A7 (withs (M.wrs p).parts y).length k7, .int .i64 (M.wrs p).offset, .int .i64 (M.wrs p).next]) w8 := ⟨hHeld.1.keep hb78 (fun e => by omega), hHeld.2.keep hb78 (fun e => by have := HLX.out; omega)⟩
      refine hK.out _ _ hHeld2 (fun hHeld => ?_)
      clear hK K hHeld2 hb78 hb8 hR7 hA7 hB8 hg8 hs8
      try simp only [List.setIfInBounds_toArray, List.set_cons_zero, List.set_cons_succ]
      refine wpAnyH_takeAt (i := 7) (d := 9) (v := ?vq12x) rfl rfl (by kernel_rfl) (by kernel_rfl) (by kernel_rfl) (fun _ _ _ h => h) (Or.inl ⟨by rfl, ?hyq12x⟩) hHeld ?_
      case hyq12x =>
        intro W hSw
        clear hSw
        (go_simp; try with_reducible rfl)
      simp only [List.setIfInBounds_toArray, List.set_cons_zero, List.set_cons_succ]
      refine wpAnyH_takeAt (i := 8) (d := 10) (v := ?vq13x) rfl rfl (by kernel_rfl) (by kernel_rfl) (by kernel_rfl) (fun _ _ _ h => h) (Or.inl ⟨by rfl, ?hyq13x⟩) hHeld ?_
      case hyq13x =>
        intro W hSw
        clear hSw
        (go_simp; try with_reducible rfl)
      simp only [List.setIfInBounds_toArray, List.set_cons_zero, List.set_cons_succ]
      refine wpAnyH_done (by kernel_rfl) ?_ _
      clear hHeld
      have he : ee = 0 := by
        rw [← HE.out]
        unfold Mt.addE
        rw [if_neg HIN.out]
        simp only [Int.toNat_natCast]
        rw [if_neg (fun e => e HS0.out), if_neg (by rw [HEN.out, decide_eq_false (by have := HS3.out; omega)]; decide)]
        exact if_neg HM.out
      have hn : nn = (M.wrs p).num := by
        rw [← HNN.out]
        unfold Mt.addN
        rw [if_pos (by rw [HE.out]; exact he)]
        simp only [Int.toNat_natCast]
        rw [HBG.out]
      subst hn
      have HNX : Hid (M.addE (p : Int) s y = 0) := Lib.hid (by rw [HE.out]; exact he)
      subst he
      go_wp2_with fail
      refine bodyPost_ret (results_ctt (by rfl) _ _ (w.heap.size + 1) 36 _ (0, 0) _ (by rfl) HB8.out und36 (by rfl) (by kernel_rfl) (by rfl) (by rfl)) rfl ?_
      exact ⟨_, rfl, by rw [← HM1.out, if_pos HNX.out]; simp only [Int.toNat_natCast]; rw [HBG.out]; exact HF.out.1, HF.out.2⟩
    case pos =>
    have dk : decide (k < M.np) = true := decide_eq_true hlt
    have l3 : wr.cell? ⟨lx, 3, none⟩ = some (.slice As (M.wrs p).parts.length ks) := HLr.out.cell 3
    have hin := refIn_any (w := wr) (X := X) (A := As) (n := (M.wrs p).parts.length) (c := ks) (V := (M.wrs p).parts) (HS.out.below HAr.out.low) HLE.out (k : Int)
    by_cases hy : (k : Int) = y
    case pos =>
      have ey := eqb hy
      have HPK : Hid (pick (k + 1) (M.wrs p).parts y = pick k (M.wrs p).parts y ++ [(k : Int)]) := Lib.hid (by rw [pick_succ, if_pos (.inl hy)])
      clear hy hin
      go_wp2_with (at_builtin; refine stop ?_)
      refine Stop.go (wpList_append_k el41 _ (by rfl) _ _ (by rfl) (.slice Al (pick k (M.wrs p).parts y).length kl) (intsOf (pick k (M.wrs p).parts y)) (by rfl) (HPI.out.own.alloc _) No (some ⟨wr.heap.size, 0, none⟩) 1 1 [#[.int .i64 (k : Int)]] (by rfl) (rd_one wr 3 #[.int .i64 (k : Int)] rfl (by simp [Value.oneCell']) (fun h => h)) (by have := pick_len k (M.wrs p).parts y; simp [intsOf]; omega) (by omega) ?_)
      intro v9 w9 ho9 hg9
      have hnew := HPI.out.more ho9 hg9 HPK.out
      have HNEW := Lib.hid hnew
      clear ho9 hg9 hnew
      go_wp2_with fail
      go_round
      case rel => exact ⟨k + 1, by omega, by go_num, HNEW⟩
      case measure => simp [iOf]; omega
    case neg =>
    have ey := neb hy
    by_cases hm : (k : Int) ∈ (M.wrs p).parts
    case pos =>
      rw [decide_eq_true hm] at hin
      have HPK : Hid (pick (k + 1) (M.wrs p).parts y = pick k (M.wrs p).parts y ++ [(k : Int)]) := Lib.hid (by rw [pick_succ, if_pos (.inr hm)])
      clear hy hm
      go_wp2_with fail
      refine hin.mono ?_
      rintro r w9 ⟨rfl, hw9⟩
      rw [hw9]
      clear hin hw9
      go_wp2_with (at_builtin; refine stop ?_)
      refine Stop.go (wpList_append_k el41 _ (by rfl) _ _ (by rfl) (.slice Al (pick k (M.wrs p).parts y).length kl) (intsOf (pick k (M.wrs p).parts y)) (by rfl) (HPI.out.own.alloc _) No (some ⟨wr.heap.size, 0, none⟩) 1 1 [#[.int .i64 (k : Int)]] (by rfl) (rd_one wr 3 #[.int .i64 (k : Int)] rfl (by simp [Value.oneCell']) (fun h => h)) (by have := pick_len k (M.wrs p).parts y; simp [intsOf]; omega) (by omega) ?_)
      intro v9 w9 ho9 hg9
      have hnew := HPI.out.more ho9 hg9 HPK.out
      have HNEW := Lib.hid hnew
      clear ho9 hg9 hnew
      go_wp2_with fail
      go_round
      case rel => exact ⟨k + 1, by omega, by go_num, HNEW⟩
      case measure => simp [iOf]; omega
    case neg =>
    rw [decide_eq_false hm] at hin
    have HPK : Hid (PickI (M.wrs p).parts y w3 lx (k + 1) (.slice Al (pick k (M.wrs p).parts y).length kl) wr) := Lib.hid (by
      have hk2 : pick (k + 1) (M.wrs p).parts y = pick k (M.wrs p).parts y := by rw [pick_succ, if_neg (fun e => e.elim hy hm)]
      have h9 := HPI.out
      exact ⟨by rw [hk2]; exact h9.own, h9.fresh, h9.low⟩)
    clear hy hm
    go_wp2_with fail
    refine hin.mono ?_
    rintro r w9 ⟨rfl, hw9⟩
    rw [hw9]
    clear hin hw9
    go_wp2_with fail
    go_round
    case rel => exact ⟨k + 1, by omega, by go_num, HPK⟩
    case measure => simp [iOf]; omega
end
end Go.Proofs.YtpmdicbhliclcaaGreat
