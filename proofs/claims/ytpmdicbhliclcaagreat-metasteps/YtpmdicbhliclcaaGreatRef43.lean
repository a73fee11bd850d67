/-
  The document: Alter. Conditions: a controller as it is between two calls.
-/
import Derived.Test.YtpmdicbhliclcaaGreatRef45
namespace Go.Proofs.YtpmdicbhliclcaaGreat
open Go.RowKit Go.Maps
set_option linter.unusedVariables false
set_option linter.unusedSimpArgs false
section
variable {w : World} {X : Nat → Prop} {M : Mt} {v : Value}
set_option maxRecDepth 100000 in
set_option maxHeartbeats 8000000 in
theorem alter43_any (h : Rf w X M v) (hX : ∀ b, X b → b < w.heap.size) (hk : M.ok) {I : List Int} {A : Option Addr} {n k : Nat} (hr : Rd w X 1 A n (intsOf I)) (hn : n ≤ 1000000) (x l e vn : Int) : Calls Tryz.prog 43 #[v, .int .i64 x, .agg #[.int .i64 l, .int .i64 e, .int .i64 vn, .slice A n k]] w (RfP w X M (M.setV x.toNat ((M.views x.toNat).alter I)) (M.alterE x l e vn I)) := by
  obtain ⟨A1, A2, A3, c1, c2, c3, rs, rfl, hR⟩ := h
  obtain ⟨M1, hM1⟩ : ∃ M1, (M.setV x.toNat ((M.views x.toNat).alter I)) = M1 := ⟨_, rfl⟩
  obtain ⟨ee, hee⟩ : ∃ ee, M.alterE x l e vn I = ee := ⟨_, rfl⟩
  rw [hM1, hee]
  have HM1 := Lib.hid hM1
  have HE := Lib.hid hee
  have HR := Lib.hid hR
  have HX := Lib.hid hX
  have HK := Lib.hid hk
  have HA : Hid (Wa w (((w.alloc (.cells #[.int .i64 (M.nb : Int), .int .i64 (M.np : Int), .int .i64 (M.ni : Int), .slice A1 M.nb c1, .slice A2 M.np c2, .slice A3 M.ni c3] 36)).alloc (.cells #[.int .i64 l, .int .i64 e, .int .i64 vn, .slice A n k] 95)).alloc (.cells #[.int .i64 0, .int .i64 0, .int .i64 0, .slice none 0 0, .slice none 0 0, .slice none 0 0] 36)) w.heap.size (w.heap.size + 2) #[.int .i64 (M.nb : Int), .int .i64 (M.np : Int), .int .i64 (M.ni : Int), .slice A1 M.nb c1, .slice A2 M.np c2, .slice A3 M.ni c3] #[.int .i64 0, .int .i64 0, .int .i64 0, .slice none 0 0, .slice none 0 0, .slice none 0 0]) := Lib.hid ⟨((((Below.refl w.heap.size w).alloc (Nat.le_refl _) (.cells #[.int .i64 (M.nb : Int), .int .i64 (M.np : Int), .int .i64 (M.ni : Int), .slice A1 M.nb c1, .slice A2 M.np c2, .slice A3 M.ni c3] 36)).alloc (le_alloc (Nat.le_refl _) _) (.cells #[.int .i64 l, .int .i64 e, .int .i64 vn, .slice A n k] 95)).alloc (le_alloc (le_alloc (Nat.le_refl _) _) _) (.cells #[.int .i64 0, .int .i64 0, .int .i64 0, .slice none 0 0, .slice none 0 0, .slice none 0 0] 36)), (((Blk.new w 36 _).alloc _).alloc _), blk_new ((w.alloc (.cells #[.int .i64 (M.nb : Int), .int .i64 (M.np : Int), .int .i64 (M.ni : Int), .slice A1 M.nb c1, .slice A2 M.np c2, .slice A3 M.ni c3] 36)).alloc (.cells #[.int .i64 l, .int .i64 e, .int .i64 vn, .slice A n k] 95)) 36 _ (by simp)⟩
  have HBX1 : Hid (Blk (((w.alloc (.cells #[.int .i64 (M.nb : Int), .int .i64 (M.np : Int), .int .i64 (M.ni : Int), .slice A1 M.nb c1, .slice A2 M.np c2, .slice A3 M.ni c3] 36)).alloc (.cells #[.int .i64 l, .int .i64 e, .int .i64 vn, .slice A n k] 95)).alloc (.cells #[.int .i64 0, .int .i64 0, .int .i64 0, .slice none 0 0, .slice none 0 0, .slice none 0 0] 36)) (w.heap.size + 1) 95 #[.int .i64 l, .int .i64 e, .int .i64 vn, .slice A n k]) := Lib.hid ((blk_new (w.alloc (.cells #[.int .i64 (M.nb : Int), .int .i64 (M.np : Int), .int .i64 (M.ni : Int), .slice A1 M.nb c1, .slice A2 M.np c2, .slice A3 M.ni c3] 36)) 95 #[.int .i64 l, .int .i64 e, .int .i64 vn, .slice A n k] (by simp)).alloc _)
  have HSZ : Hid ((((w.alloc (.cells #[.int .i64 (M.nb : Int), .int .i64 (M.np : Int), .int .i64 (M.ni : Int), .slice A1 M.nb c1, .slice A2 M.np c2, .slice A3 M.ni c3] 36)).alloc (.cells #[.int .i64 l, .int .i64 e, .int .i64 vn, .slice A n k] 95)).alloc (.cells #[.int .i64 0, .int .i64 0, .int .i64 0, .slice none 0 0, .slice none 0 0, .slice none 0 0] 36)).heap.size = w.heap.size + 3) := Lib.hid (by simp)
  have HRX : Hid (Rf w (fun z => X z ∨ z = (w.heap.size + 2)) M (.agg #[.int .i64 (M.nb : Int), .int .i64 (M.np : Int), .int .i64 (M.ni : Int), .slice A1 M.nb c1, .slice A2 M.np c2, .slice A3 M.ni c3])) := Lib.hid (Rf.wide (X := X) ⟨_, _, _, _, _, _, _, rfl, hR⟩ (fun z hz e => e.elim id (fun e => by omega)))
  have HXX : ∀ (W : World), w.heap.size ≤ W.heap.size → (w.heap.size + 2) < W.heap.size → ∀ z, (X z ∨ z = (w.heap.size + 2)) → z < W.heap.size := fun W h1 h2 z e => e.elim (fun e => Nat.lt_of_lt_of_le (hX z e) h1) (fun e => e ▸ h2)
  have HXX := Lib.hid HXX
  have HRI := Lib.hid hr
  have hnl := hr.lenI
  clear hr
  clear hR hX hk hM1 hee
  go_enter Tryz.func43, Tryz.ntmps43
  go_upto_region 1 with fail
  generalize hw2 : (((w.alloc (.cells #[.int .i64 (M.nb : Int), .int .i64 (M.np : Int), .int .i64 (M.ni : Int), .slice A1 M.nb c1, .slice A2 M.np c2, .slice A3 M.ni c3] 36)).alloc (.cells #[.int .i64 l, .int .i64 e, .int .i64 vn, .slice A n k] 95)).alloc (.cells #[.int .i64 0, .int .i64 0, .int .i64 0, .slice none 0 0, .slice none 0 0, .slice none 0 0] 36)) = w2 at *
  clear hw2
  have c0 : w2.cell? ⟨w.heap.size, 0, none⟩ = some (.int .i64 (M.nb : Int)) := HA.out.b.cell 0
  have c1' : w2.cell? ⟨w.heap.size, 1, none⟩ = some (.int .i64 (M.np : Int)) := HA.out.b.cell 1
  have c2' : w2.cell? ⟨w.heap.size, 2, none⟩ = some (.int .i64 (M.ni : Int)) := HA.out.b.cell 2
  have c3' : w2.cell? ⟨w.heap.size, 3, none⟩ = some (.slice A1 M.nb c1) := HA.out.b.cell 3
  have c4' : w2.cell? ⟨w.heap.size, 4, none⟩ = some (.slice A2 M.np c2) := HA.out.b.cell 4
  have c5' : w2.cell? ⟨w.heap.size, 5, none⟩ = some (.slice A3 M.ni c3) := HA.out.b.cell 5
  have b0 : w2.cell? ⟨w.heap.size + 1, 0, none⟩ = some (.int .i64 l) := HBX1.out.cell 0
  have b3 : w2.cell? ⟨w.heap.size + 1, 3, none⟩ = some (.slice A n k) := HBX1.out.cell 3
  by_cases r0 : x < 0
  case pos =>
    have d0 : decide (x < 0) = true := decide_eq_true r0
    have R0 := Lib.hid r0
    clear r0
    go_wp2_with (with_reducible refine at_load 36 rfl ?_)
    refine Stop.go (wpList_load_blk (by rfl) 36 _ (by rfl) w.heap.size (by rfl) 36 _ HA.out.b _ und36 (by rfl) (by kernel_rfl) ?_)
    go_wp2_with (with_reducible refine at_store 36 rfl ?_)
    refine Stop.go (wpList_store_blk (by rfl) (by rfl) 36 _ _ (by rfl) (w.heap.size + 2) _ #[.int .i64 (M.nb : Int), .int .i64 (M.np : Int), .int .i64 (M.ni : Int), .slice A1 M.nb c1, .slice A2 M.np c2, .slice A3 M.ni c3] (by rfl) (by rfl) 36 HA.out.r (by rfl) (by kernel_rfl) (by simp [Value.oneCell']) ?_)
    intro w8 hB8 hg8 hs8
    have HB8 := Lib.hid hB8
    have hb8 : Below w.heap.size w w8 := below_grown HA.out.low hg8 (Nat.le_refl _) (by omega)
    have HF : Hid (Rf w8 X M (.agg #[.int .i64 (M.nb : Int), .int .i64 (M.np : Int), .int .i64 (M.ni : Int), .slice A1 M.nb c1, .slice A2 M.np c2, .slice A3 M.ni c3]) ∧ Below w.heap.size w w8) := Lib.hid ⟨⟨_, _, _, _, _, _, _, rfl, HR.out.below hb8⟩, hb8⟩
    have he : ee = 2 := by
      rw [← HE.out]
      unfold Mt.alterE
      rw [if_pos]
      rintro ⟨q1, q2, q3⟩
      have h9 := R0.out
      have h8 := q2.1 l q3
      omega
    subst he
    clear hB8 hg8 hs8 hb8
    go_wp2_with fail
    refine bodyPost_ret (results_ct (by rfl) _ _ (w.heap.size + 2) 36 _ (0, 0) _ (by rfl) HB8.out und36 (by rfl) (by kernel_rfl) (by rfl)) rfl ?_
    exact ⟨_, rfl, by rw [if_neg (by decide)]; exact HF.out.1, HF.out.2⟩
  case neg =>
  have d0 : decide (x < 0) = false := decide_eq_false r0
  by_cases r1 : (M.np : Int) ≤ x
  case pos =>
    have d1 : decide ((M.np : Int) ≤ x) = true := decide_eq_true r1
    have R1 := Lib.hid r1
    clear r0 r1
    go_wp2_with (with_reducible refine at_load 36 rfl ?_)
    refine Stop.go (wpList_load_blk (by rfl) 36 _ (by rfl) w.heap.size (by rfl) 36 _ HA.out.b _ und36 (by rfl) (by kernel_rfl) ?_)
    go_wp2_with (with_reducible refine at_store 36 rfl ?_)
    refine Stop.go (wpList_store_blk (by rfl) (by rfl) 36 _ _ (by rfl) (w.heap.size + 2) _ #[.int .i64 (M.nb : Int), .int .i64 (M.np : Int), .int .i64 (M.ni : Int), .slice A1 M.nb c1, .slice A2 M.np c2, .slice A3 M.ni c3] (by rfl) (by rfl) 36 HA.out.r (by rfl) (by kernel_rfl) (by simp [Value.oneCell']) ?_)
    intro w8 hB8 hg8 hs8
    have HB8 := Lib.hid hB8
    have hb8 : Below w.heap.size w w8 := below_grown HA.out.low hg8 (Nat.le_refl _) (by omega)
    have HF : Hid (Rf w8 X M (.agg #[.int .i64 (M.nb : Int), .int .i64 (M.np : Int), .int .i64 (M.ni : Int), .slice A1 M.nb c1, .slice A2 M.np c2, .slice A3 M.ni c3]) ∧ Below w.heap.size w w8) := Lib.hid ⟨⟨_, _, _, _, _, _, _, rfl, HR.out.below hb8⟩, hb8⟩
    have he : ee = 2 := by
      rw [← HE.out]
      unfold Mt.alterE
      rw [if_pos]
      rintro ⟨q1, q2, q3⟩
      have h9 := R1.out
      have h8 := q2.1 l q3
      omega
    subst he
    clear hB8 hg8 hs8 hb8
    go_wp2_with fail
    refine bodyPost_ret (results_ct (by rfl) _ _ (w.heap.size + 2) 36 _ (0, 0) _ (by rfl) HB8.out und36 (by rfl) (by kernel_rfl) (by rfl)) rfl ?_
    exact ⟨_, rfl, by rw [if_neg (by decide)]; exact HF.out.1, HF.out.2⟩
  case neg =>
  have d1 : decide ((M.np : Int) ≤ x) = false := decide_eq_false r1
  by_cases r2 : l < 0
  case pos =>
    have d2 : decide (l < 0) = true := decide_eq_true r2
    have R2 := Lib.hid r2
    clear r0 r1 r2
    go_wp2_with (with_reducible refine at_load 36 rfl ?_)
    refine Stop.go (wpList_load_blk (by rfl) 36 _ (by rfl) w.heap.size (by rfl) 36 _ HA.out.b _ und36 (by rfl) (by kernel_rfl) ?_)
    go_wp2_with (with_reducible refine at_store 36 rfl ?_)
    refine Stop.go (wpList_store_blk (by rfl) (by rfl) 36 _ _ (by rfl) (w.heap.size + 2) _ #[.int .i64 (M.nb : Int), .int .i64 (M.np : Int), .int .i64 (M.ni : Int), .slice A1 M.nb c1, .slice A2 M.np c2, .slice A3 M.ni c3] (by rfl) (by rfl) 36 HA.out.r (by rfl) (by kernel_rfl) (by simp [Value.oneCell']) ?_)
    intro w8 hB8 hg8 hs8
    have HB8 := Lib.hid hB8
    have hb8 : Below w.heap.size w w8 := below_grown HA.out.low hg8 (Nat.le_refl _) (by omega)
    have HF : Hid (Rf w8 X M (.agg #[.int .i64 (M.nb : Int), .int .i64 (M.np : Int), .int .i64 (M.ni : Int), .slice A1 M.nb c1, .slice A2 M.np c2, .slice A3 M.ni c3]) ∧ Below w.heap.size w w8) := Lib.hid ⟨⟨_, _, _, _, _, _, _, rfl, HR.out.below hb8⟩, hb8⟩
    have he : ee = 2 := by
      rw [← HE.out]
      unfold Mt.alterE
      rw [if_pos]
      rintro ⟨q1, q2, q3⟩
      have h9 := R2.out
      have h8 := q2.1 l q3
      omega
    subst he
    clear hB8 hg8 hs8 hb8
    go_wp2_with fail
    refine bodyPost_ret (results_ct (by rfl) _ _ (w.heap.size + 2) 36 _ (0, 0) _ (by rfl) HB8.out und36 (by rfl) (by kernel_rfl) (by rfl)) rfl ?_
    exact ⟨_, rfl, by rw [if_neg (by decide)]; exact HF.out.1, HF.out.2⟩
  case neg =>
  have d2 : decide (l < 0) = false := decide_eq_false r2
  by_cases r3 : (M.nb : Int) ≤ l
  case pos =>
    have d3 : decide ((M.nb : Int) ≤ l) = true := decide_eq_true r3
    have R3 := Lib.hid r3
    clear r0 r1 r2 r3
    go_wp2_with (with_reducible refine at_load 36 rfl ?_)
    refine Stop.go (wpList_load_blk (by rfl) 36 _ (by rfl) w.heap.size (by rfl) 36 _ HA.out.b _ und36 (by rfl) (by kernel_rfl) ?_)
    go_wp2_with (with_reducible refine at_store 36 rfl ?_)
    refine Stop.go (wpList_store_blk (by rfl) (by rfl) 36 _ _ (by rfl) (w.heap.size + 2) _ #[.int .i64 (M.nb : Int), .int .i64 (M.np : Int), .int .i64 (M.ni : Int), .slice A1 M.nb c1, .slice A2 M.np c2, .slice A3 M.ni c3] (by rfl) (by rfl) 36 HA.out.r (by rfl) (by kernel_rfl) (by simp [Value.oneCell']) ?_)
    intro w8 hB8 hg8 hs8
    have HB8 := Lib.hid hB8
    have hb8 : Below w.heap.size w w8 := below_grown HA.out.low hg8 (Nat.le_refl _) (by omega)
    have HF : Hid (Rf w8 X M (.agg #[.int .i64 (M.nb : Int), .int .i64 (M.np : Int), .int .i64 (M.ni : Int), .slice A1 M.nb c1, .slice A2 M.np c2, .slice A3 M.ni c3]) ∧ Below w.heap.size w w8) := Lib.hid ⟨⟨_, _, _, _, _, _, _, rfl, HR.out.below hb8⟩, hb8⟩
    have he : ee = 2 := by
      rw [← HE.out]
      unfold Mt.alterE
      rw [if_pos]
      rintro ⟨q1, q2, q3⟩
      have h9 := R3.out
      have h8 := q2.1 l q3
      omega
    subst he
    clear hB8 hg8 hs8 hb8
    go_wp2_with fail
    refine bodyPost_ret (results_ct (by rfl) _ _ (w.heap.size + 2) 36 _ (0, 0) _ (by rfl) HB8.out und36 (by rfl) (by kernel_rfl) (by rfl)) rfl ?_
    exact ⟨_, rfl, by rw [if_neg (by decide)]; exact HF.out.1, HF.out.2⟩
  case neg =>
  have d3 : decide ((M.nb : Int) ≤ l) = false := decide_eq_false r3
  obtain ⟨p, rfl⟩ : ∃ p : Nat, x = (p : Int) := ⟨x.toNat, by omega⟩
  have hp : p < M.np := by omega
  have d9 : decide (M.np ≤ p) = false := decide_eq_false (by omega)
  have HIN0 : Hid (0 ≤ (p : Int) ∧ (p : Int) < (M.np : Int)) := Lib.hid ⟨by omega, by omega⟩
  have HP := Lib.hid hp
  have HOK := Lib.hid (HK.out.vw p hp)
  clear r0 r1 r2 r3
  have hri := rises_any (c := k) (HRI.out.below HA.out.low) hn (M.nb : Int)
  go_wp2_with fail
  refine hri.mono ?_
  rintro r w9 ⟨bb, rfl, hbb, hb9⟩
  have HA9 := Lib.hid (HA.out.below hb9)
  have HB9 := Lib.hid (HBX1.out.below hb9 HBX1.out.lt)
  have HSZ : Hid (w.heap.size + 3 ≤ w9.heap.size) := Lib.hid (by have := HSZ.out; have := hb9.size; omega)
  clear hri hb9 b0 b3 c0 c1' c2' c3' c4' c5'
  have c0 : w9.cell? ⟨w.heap.size, 0, none⟩ = some (.int .i64 (M.nb : Int)) := HA9.out.b.cell 0
  have c1' : w9.cell? ⟨w.heap.size, 1, none⟩ = some (.int .i64 (M.np : Int)) := HA9.out.b.cell 1
  have c2' : w9.cell? ⟨w.heap.size, 2, none⟩ = some (.int .i64 (M.ni : Int)) := HA9.out.b.cell 2
  have c3' : w9.cell? ⟨w.heap.size, 3, none⟩ = some (.slice A1 M.nb c1) := HA9.out.b.cell 3
  have c4' : w9.cell? ⟨w.heap.size, 4, none⟩ = some (.slice A2 M.np c2) := HA9.out.b.cell 4
  have c5' : w9.cell? ⟨w.heap.size, 5, none⟩ = some (.slice A3 M.ni c3) := HA9.out.b.cell 5
  have b0 : w9.cell? ⟨w.heap.size + 1, 0, none⟩ = some (.int .i64 l) := HB9.out.cell 0
  have b3 : w9.cell? ⟨w.heap.size + 1, 3, none⟩ = some (.slice A n k) := HB9.out.cell 3
  cases bb with
  | false =>
    have HNR : Hid (¬ Rise I M.nb) := Lib.hid (fun q => nomatch hbb.2 q)
    clear hbb
    go_wp2_with (with_reducible refine at_load 36 rfl ?_)
    refine Stop.go (wpList_load_blk (by rfl) 36 _ (by rfl) w.heap.size (by rfl) 36 _ HA9.out.b _ und36 (by rfl) (by kernel_rfl) ?_)
    go_wp2_with (with_reducible refine at_store 36 rfl ?_)
    refine Stop.go (wpList_store_blk (by rfl) (by rfl) 36 _ _ (by rfl) (w.heap.size + 2) _ #[.int .i64 (M.nb : Int), .int .i64 (M.np : Int), .int .i64 (M.ni : Int), .slice A1 M.nb c1, .slice A2 M.np c2, .slice A3 M.ni c3] (by rfl) (by rfl) 36 HA9.out.r (by rfl) (by kernel_rfl) (by simp [Value.oneCell']) ?_)
    intro w8 hB8 hg8 hs8
    have HB8 := Lib.hid hB8
    have hb8 : Below w.heap.size w w8 := below_grown HA9.out.low hg8 (Nat.le_refl _) (by omega)
    have HF : Hid (Rf w8 X M (.agg #[.int .i64 (M.nb : Int), .int .i64 (M.np : Int), .int .i64 (M.ni : Int), .slice A1 M.nb c1, .slice A2 M.np c2, .slice A3 M.ni c3]) ∧ Below w.heap.size w w8) := Lib.hid ⟨⟨_, _, _, _, _, _, _, rfl, HR.out.below hb8⟩, hb8⟩
    have he : ee = 2 := by
      rw [← HE.out]
      unfold Mt.alterE
      exact if_pos (fun q => HNR.out q.2.1)
    subst he
    clear hB8 hg8 hs8 hb8
    go_wp2_with fail
    refine bodyPost_ret (results_ct (by rfl) _ _ (w.heap.size + 2) 36 _ (0, 0) _ (by rfl) HB8.out und36 (by rfl) (by kernel_rfl) (by rfl)) rfl ?_
    exact ⟨_, rfl, by rw [if_neg (by decide)]; exact HF.out.1, HF.out.2⟩
  | true =>
  have HRS : Hid (Rise I M.nb) := Lib.hid (hbb.1 rfl)
  clear hbb
  have hin := refIn_any (c := k) (HRI.out.below HA9.out.low) hn l
  by_cases hm : l ∈ I
  case neg =>
    have HM := Lib.hid hm
    rw [decide_eq_false hm] at hin
    clear hm
    go_wp2_with fail
    refine hin.mono ?_
    rintro r w10 ⟨rfl, hw10⟩
    rw [hw10]
    clear hin hw10
    go_wp2_with (with_reducible refine at_load 36 rfl ?_)
    refine Stop.go (wpList_load_blk (by rfl) 36 _ (by rfl) w.heap.size (by rfl) 36 _ HA9.out.b _ und36 (by rfl) (by kernel_rfl) ?_)
    go_wp2_with (with_reducible refine at_store 36 rfl ?_)
    refine Stop.go (wpList_store_blk (by rfl) (by rfl) 36 _ _ (by rfl) (w.heap.size + 2) _ #[.int .i64 (M.nb : Int), .int .i64 (M.np : Int), .int .i64 (M.ni : Int), .slice A1 M.nb c1, .slice A2 M.np c2, .slice A3 M.ni c3] (by rfl) (by rfl) 36 HA9.out.r (by rfl) (by kernel_rfl) (by simp [Value.oneCell']) ?_)
    intro w8 hB8 hg8 hs8
    have HB8 := Lib.hid hB8
    have hb8 : Below w.heap.size w w8 := below_grown HA9.out.low hg8 (Nat.le_refl _) (by omega)
    have HF : Hid (Rf w8 X M (.agg #[.int .i64 (M.nb : Int), .int .i64 (M.np : Int), .int .i64 (M.ni : Int), .slice A1 M.nb c1, .slice A2 M.np c2, .slice A3 M.ni c3]) ∧ Below w.heap.size w w8) := Lib.hid ⟨⟨_, _, _, _, _, _, _, rfl, HR.out.below hb8⟩, hb8⟩
    have he : ee = 2 := by
      rw [← HE.out]
      unfold Mt.alterE
      exact if_pos (fun q => HM.out q.2.2)
    subst he
    clear hB8 hg8 hs8 hb8
    go_wp2_with fail
    refine bodyPost_ret (results_ct (by rfl) _ _ (w.heap.size + 2) 36 _ (0, 0) _ (by rfl) HB8.out und36 (by rfl) (by kernel_rfl) (by rfl)) rfl ?_
    exact ⟨_, rfl, by rw [if_neg (by decide)]; exact HF.out.1, HF.out.2⟩
  case pos =>
  have HIN : Hid (¬ ¬ ((0 ≤ (p : Int) ∧ (p : Int) < (M.np : Int)) ∧ Rise I M.nb ∧ l ∈ I)) := Lib.hid (fun q => q ⟨HIN0.out, HRS.out, hm⟩)
  rw [decide_eq_true hm] at hin
  clear hm
  go_wp2_with fail
  refine hin.mono ?_
  rintro r w10 ⟨rfl, hw10⟩
  rw [hw10]
  clear hin hw10
  obtain ⟨ad, eA, v0, v1, v2', v3⟩ := (HR.out.below HA9.out.low).viewCells HP.out
  obtain ⟨As, ks, es, hrs⟩ := HR.out.vr p HP.out
  rw [es] at v3
  have HS := Lib.hid hrs
  subst eA
  clear hrs es
  go_wp2_with (with_reducible refine at_store 47 rfl ?_)
  refine Stop.go (wpList_store_blk (by rfl) (by rfl) 47 _ _ (by rfl) w9.heap.size _ #[.int .i64 (M.views p).leader, .int .i64 (M.views p).epoch, .int .i64 (M.views p).version, .slice As (M.views p).isr.length ks] (by rfl) (by rfl) 47 (Blk.new w9 47 #[.int .i64 0, .int .i64 0, .int .i64 0, .slice none 0 0]) (by rfl) (by kernel_rfl) (by simp [Value.oneCell']) ?_)
  intro w3 hB3 hg3 hs3
  have hal3 : Below w9.heap.size w9 w3 := below_grown ((Below.refl w9.heap.size w9).alloc (Nat.le_refl _) (.cells #[.int .i64 0, .int .i64 0, .int .i64 0, .slice none 0 0] 47)) hg3 (Nat.le_refl _) (Nat.le_refl _)
  have HA3 := Lib.hid (HA9.out.below hal3)
  have HB3 := Lib.hid (HB9.out.below hal3 HB9.out.lt)
  have HL3 := Lib.hid hB3
  have HLX : Hid (w.heap.size + 3 ≤ w9.heap.size) := Lib.hid (by have := HSZ.out; omega)
  clear hB3 hg3 hs3 hal3 v0 v1 v2' v3 c0 c1' c2' c3' c4' c5' HSZ
  generalize w9.heap.size = lx at *
  clear HA9 b0 b3
  have l0 : w3.cell? ⟨lx, 0, none⟩ = some (.int .i64 (M.views p).leader) := HL3.out.cell 0
  have l1 : w3.cell? ⟨lx, 1, none⟩ = some (.int .i64 (M.views p).epoch) := HL3.out.cell 1
  have l2 : w3.cell? ⟨lx, 2, none⟩ = some (.int .i64 (M.views p).version) := HL3.out.cell 2
  have b0 : w3.cell? ⟨w.heap.size + 1, 0, none⟩ = some (.int .i64 l) := HB3.out.cell 0
  have b1 : w3.cell? ⟨w.heap.size + 1, 1, none⟩ = some (.int .i64 e) := HB3.out.cell 1
  have b2 : w3.cell? ⟨w.heap.size + 1, 2, none⟩ = some (.int .i64 vn) := HB3.out.cell 2
  have b3 : w3.cell? ⟨w.heap.size + 1, 3, none⟩ = some (.slice A n k) := HB3.out.cell 3
  by_cases ha : (M.views p).leader = l
  case neg =>
    have ea := nen ha
    have Ha := Lib.hid ha
    clear ha
    go_wp2_with (with_reducible refine at_load 36 rfl ?_)
    refine Stop.go (wpList_load_blk (by rfl) 36 _ (by rfl) w.heap.size (by rfl) 36 _ HA3.out.b _ und36 (by rfl) (by kernel_rfl) ?_)
    go_wp2_with (with_reducible refine at_store 36 rfl ?_)
    refine Stop.go (wpList_store_blk (by rfl) (by rfl) 36 _ _ (by rfl) (w.heap.size + 2) _ #[.int .i64 (M.nb : Int), .int .i64 (M.np : Int), .int .i64 (M.ni : Int), .slice A1 M.nb c1, .slice (some ad) M.np c2, .slice A3 M.ni c3] (by rfl) (by rfl) 36 HA3.out.r (by rfl) (by kernel_rfl) (by simp [Value.oneCell']) ?_)
    intro w8 hB8 hg8 hs8
    have HB8 := Lib.hid hB8
    have hb8 : Below w.heap.size w w8 := below_grown HA3.out.low hg8 (Nat.le_refl _) (by omega)
    have HF : Hid (Rf w8 X M (.agg #[.int .i64 (M.nb : Int), .int .i64 (M.np : Int), .int .i64 (M.ni : Int), .slice A1 M.nb c1, .slice (some ad) M.np c2, .slice A3 M.ni c3]) ∧ Below w.heap.size w w8) := Lib.hid ⟨⟨_, _, _, _, _, _, _, rfl, HR.out.below hb8⟩, hb8⟩
    have he : ee = 200 := by
      rw [← HE.out]
      unfold Mt.alterE
      rw [if_neg HIN.out]
      simp only [Int.toNat_natCast]
      exact if_pos (fun q => Ha.out q.1)
    subst he
    clear hB8 hg8 hs8 hb8
    go_wp2_with fail
    refine bodyPost_ret (results_ct (by rfl) _ _ (w.heap.size + 2) 36 _ (0, 0) _ (by rfl) HB8.out und36 (by rfl) (by kernel_rfl) (by rfl)) rfl ?_
    exact ⟨_, rfl, by rw [if_neg (by decide)]; exact HF.out.1, HF.out.2⟩
  case pos =>
  have ea := eqn ha
  have Ha := Lib.hid ha
  clear ha
  by_cases hb : (M.views p).epoch = e
  case neg =>
    have eb := nen hb
    have Hb := Lib.hid hb
    clear hb
    go_wp2_with (with_reducible refine at_load 36 rfl ?_)
    refine Stop.go (wpList_load_blk (by rfl) 36 _ (by rfl) w.heap.size (by rfl) 36 _ HA3.out.b _ und36 (by rfl) (by kernel_rfl) ?_)
    go_wp2_with (with_reducible refine at_store 36 rfl ?_)
    refine Stop.go (wpList_store_blk (by rfl) (by rfl) 36 _ _ (by rfl) (w.heap.size + 2) _ #[.int .i64 (M.nb : Int), .int .i64 (M.np : Int), .int .i64 (M.ni : Int), .slice A1 M.nb c1, .slice (some ad) M.np c2, .slice A3 M.ni c3] (by rfl) (by rfl) 36 HA3.out.r (by rfl) (by kernel_rfl) (by simp [Value.oneCell']) ?_)
    intro w8 hB8 hg8 hs8
    have HB8 := Lib.hid hB8
    have hb8 : Below w.heap.size w w8 := below_grown HA3.out.low hg8 (Nat.le_refl _) (by omega)
    have HF : Hid (Rf w8 X M (.agg #[.int .i64 (M.nb : Int), .int .i64 (M.np : Int), .int .i64 (M.ni : Int), .slice A1 M.nb c1, .slice (some ad) M.np c2, .slice A3 M.ni c3]) ∧ Below w.heap.size w w8) := Lib.hid ⟨⟨_, _, _, _, _, _, _, rfl, HR.out.below hb8⟩, hb8⟩
    have he : ee = 200 := by
      rw [← HE.out]
      unfold Mt.alterE
      rw [if_neg HIN.out]
      simp only [Int.toNat_natCast]
      exact if_pos (fun q => Hb.out q.2.1)
    subst he
    clear hB8 hg8 hs8 hb8
    go_wp2_with fail
    refine bodyPost_ret (results_ct (by rfl) _ _ (w.heap.size + 2) 36 _ (0, 0) _ (by rfl) HB8.out und36 (by rfl) (by kernel_rfl) (by rfl)) rfl ?_
    exact ⟨_, rfl, by rw [if_neg (by decide)]; exact HF.out.1, HF.out.2⟩
  case pos =>
  have eb := eqn hb
  have Hb := Lib.hid hb
  clear hb
  by_cases hc : (M.views p).version = vn
  case neg =>
    have ec := nen hc
    have Hc := Lib.hid hc
    clear hc
    go_wp2_with (with_reducible refine at_load 36 rfl ?_)
    refine Stop.go (wpList_load_blk (by rfl) 36 _ (by rfl) w.heap.size (by rfl) 36 _ HA3.out.b _ und36 (by rfl) (by kernel_rfl) ?_)
    go_wp2_with (with_reducible refine at_store 36 rfl ?_)
    refine Stop.go (wpList_store_blk (by rfl) (by rfl) 36 _ _ (by rfl) (w.heap.size + 2) _ #[.int .i64 (M.nb : Int), .int .i64 (M.np : Int), .int .i64 (M.ni : Int), .slice A1 M.nb c1, .slice (some ad) M.np c2, .slice A3 M.ni c3] (by rfl) (by rfl) 36 HA3.out.r (by rfl) (by kernel_rfl) (by simp [Value.oneCell']) ?_)
    intro w8 hB8 hg8 hs8
    have HB8 := Lib.hid hB8
    have hb8 : Below w.heap.size w w8 := below_grown HA3.out.low hg8 (Nat.le_refl _) (by omega)
    have HF : Hid (Rf w8 X M (.agg #[.int .i64 (M.nb : Int), .int .i64 (M.np : Int), .int .i64 (M.ni : Int), .slice A1 M.nb c1, .slice (some ad) M.np c2, .slice A3 M.ni c3]) ∧ Below w.heap.size w w8) := Lib.hid ⟨⟨_, _, _, _, _, _, _, rfl, HR.out.below hb8⟩, hb8⟩
    have he : ee = 200 := by
      rw [← HE.out]
      unfold Mt.alterE
      rw [if_neg HIN.out]
      simp only [Int.toNat_natCast]
      exact if_pos (fun q => Hc.out q.2.2)
    subst he
    clear hB8 hg8 hs8 hb8
    go_wp2_with fail
    refine bodyPost_ret (results_ct (by rfl) _ _ (w.heap.size + 2) 36 _ (0, 0) _ (by rfl) HB8.out und36 (by rfl) (by kernel_rfl) (by rfl)) rfl ?_
    exact ⟨_, rfl, by rw [if_neg (by decide)]; exact HF.out.1, HF.out.2⟩
  case pos =>
  have ec := eqn hc
  have Hc := Lib.hid hc
  clear hc
  have s3 : w3.cell? ⟨w.heap.size, 3, none⟩ = some (.slice A1 M.nb c1) := HA3.out.b.cell 3
  have hnb4 := HK.out.nb
  obtain ⟨ad1, eA1, -⟩ := (HR.out.below HA3.out.low).lifeCell (b := 0) (by omega)
  subst eA1
  have HLV : Hid (∀ b, b < M.nb → w3.cell? (ad1.add b) = some (.bool (M.lives b))) := Lib.hid (fun b hb => by
    obtain ⟨ad2, e2, h2⟩ := (HR.out.below HA3.out.low).lifeCell hb
    injection e2 with e2
    rw [e2]
    exact h2)
  clear hnb4
  go_wp2_with fail
  go_loopw [9] (fun i wv => ∃ q : Nat, q ≤ n ∧ i = .int .i64 q ∧ Hid (∀ (j : Nat) (z : Int), j < q → I[j]? = some z → (!M.lives z.toNat) = false) ∧ ∃ j, wv = w3.drewN j) (fun i _ => n - (iOf i).toNat)
  case atStart => exact ⟨0, by omega, rfl, Lib.hid (fun j z hj => by omega), 0, rfl⟩
  case round =>
    obtain ⟨q, hq, rfl, HNO, j, rfl⟩ := hrel
    by_cases hlt : q < n
    case pos =>
      have hd1 : decide (q < n) = true := decide_eq_true hlt
      obtain ⟨y, hy⟩ : ∃ y, I[q]? = some y := ⟨_, List.getElem?_eq_getElem (by omega)⟩
      obtain ⟨adI, eI, hc⟩ := (HRI.out.below HA3.out.low).intAt hy
      subst eI
      have hyr := HRS.out.1 y (List.mem_iff_getElem?.2 ⟨q, hy⟩)
      obtain ⟨z, rfl⟩ : ∃ z : Nat, y = (z : Int) := ⟨y.toNat, by omega⟩
      have hzb : z < M.nb := by omega
      have life := HLV.out z hzb
      have HY := Lib.hid hy
      clear hy hyr
      cases hl : M.lives z with
      | false =>
        have HDE : Hid (I.any (fun x => !M.lives x.toNat) = true) := Lib.hid (by
          rw [List.any_eq_true]
          exact ⟨(z : Int), List.mem_iff_getElem?.2 ⟨q, HY.out⟩, by simp only [Int.toNat_natCast]; rw [hl]; rfl⟩)
        rw [hl] at life
        clear hl
        go_wp2_with fail
        go_quiet (fail)
        have HA4d := Lib.hid (HA3.out.below (below_drewN (Below.refl _ _) (j + nq)))
        go_wp2_with (with_reducible refine at_load 36 rfl ?_)
        refine Stop.go (wpList_load_blk (by rfl) 36 _ (by rfl) w.heap.size (by rfl) 36 _ HA4d.out.b _ und36 (by rfl) (by kernel_rfl) ?_)
        go_wp2_with (with_reducible refine at_store 36 rfl ?_)
        refine Stop.go (wpList_store_blk (by rfl) (by rfl) 36 _ _ (by rfl) (w.heap.size + 2) _ #[.int .i64 (M.nb : Int), .int .i64 (M.np : Int), .int .i64 (M.ni : Int), .slice (some ad1) M.nb c1, .slice (some ad) M.np c2, .slice A3 M.ni c3] (by rfl) (by rfl) 36 HA4d.out.r (by rfl) (by kernel_rfl) (by simp [Value.oneCell']) ?_)
        intro w8 hB8 hg8 hs8
        have HB8 := Lib.hid hB8
        have hb8 : Below w.heap.size w w8 := below_grown HA4d.out.low hg8 (Nat.le_refl _) (by omega)
        have HF : Hid (Rf w8 X M (.agg #[.int .i64 (M.nb : Int), .int .i64 (M.np : Int), .int .i64 (M.ni : Int), .slice (some ad1) M.nb c1, .slice (some ad) M.np c2, .slice A3 M.ni c3]) ∧ Below w.heap.size w w8) := Lib.hid ⟨⟨_, _, _, _, _, _, _, rfl, HR.out.below hb8⟩, hb8⟩
        have he : ee = 201 := by
          rw [← HE.out]
          unfold Mt.alterE
          rw [if_neg HIN.out]
          simp only [Int.toNat_natCast]
          rw [if_neg (c := ¬ ((M.views p).leader = l ∧ (M.views p).epoch = e ∧ (M.views p).version = vn)) (fun q => q ⟨Ha.out, Hb.out, Hc.out⟩)]
          exact if_pos HDE.out
        subst he
        clear hB8 hg8 hs8 hb8
        go_wp2_with fail
        refine bodyPost_ret (results_ct (by rfl) _ _ (w.heap.size + 2) 36 _ (0, 0) _ (by rfl) HB8.out und36 (by rfl) (by kernel_rfl) (by rfl)) rfl ?_
        exact ⟨_, rfl, by rw [if_neg (by decide)]; exact HF.out.1, HF.out.2⟩
      | true =>
        have HNO2 : Hid (∀ (j : Nat) (x : Int), j < q + 1 → I[j]? = some x → (!M.lives x.toNat) = false) := Lib.hid (fun j x hj e => by
          by_cases hjk : j < q
          · exact HNO.out j x hjk e
          · obtain rfl : j = q := by omega
            rw [HY.out] at e; injection e with e; rw [← e]; simp only [Int.toNat_natCast]; rw [hl]; rfl)
        rw [hl] at life
        clear hl
        go_wp2_with fail
        go_quiet (fail)
        go_wp2_with fail
        go_round
        case rel => exact ⟨q + 1, by omega, by go_num, HNO2, _, (by first | rfl | rw [World.drewN_drewN])⟩
        case measure => simp [iOf]; omega
    case neg =>
    have hd1 : decide (q < n) = false := decide_eq_false hlt
    have HDE : Hid (I.any (fun x => !M.lives x.toNat) = false) := Lib.hid (by
      rw [List.any_eq_false]
      intro x hx
      obtain ⟨i, hi⟩ := List.mem_iff_getElem?.1 hx
      have := HNO.out i x (by have := (List.getElem?_eq_some_iff.1 hi).1; omega) hi
      rw [this]; decide)
    clear hlt
    have HA4 := Lib.hid (HA3.out.below (below_drewN (Below.refl _ _) j))
    have HL4 : Hid (Blk (w3.drewN j) lx 47 #[.int .i64 (M.views p).leader, .int .i64 (M.views p).epoch, .int .i64 (M.views p).version, .slice As (M.views p).isr.length ks]) := Lib.hid (HL3.out.drewN j)
    by_cases hv : (M.views p).version = 2147483647
    case pos =>
      have ev := eqb hv
      have HV := Lib.hid hv
      clear hv
      go_wp2_with (with_reducible refine at_load 36 rfl ?_)
      refine Stop.go (wpList_load_blk (by rfl) 36 _ (by rfl) w.heap.size (by rfl) 36 _ HA4.out.b _ und36 (by rfl) (by kernel_rfl) ?_)
      go_wp2_with (with_reducible refine at_store 36 rfl ?_)
      refine Stop.go (wpList_store_blk (by rfl) (by rfl) 36 _ _ (by rfl) (w.heap.size + 2) _ #[.int .i64 (M.nb : Int), .int .i64 (M.np : Int), .int .i64 (M.ni : Int), .slice (some ad1) M.nb c1, .slice (some ad) M.np c2, .slice A3 M.ni c3] (by rfl) (by rfl) 36 HA4.out.r (by rfl) (by kernel_rfl) (by simp [Value.oneCell']) ?_)
      intro w8 hB8 hg8 hs8
      have HB8 := Lib.hid hB8
      have hb8 : Below w.heap.size w w8 := below_grown HA4.out.low hg8 (Nat.le_refl _) (by omega)
      have HF : Hid (Rf w8 X M (.agg #[.int .i64 (M.nb : Int), .int .i64 (M.np : Int), .int .i64 (M.ni : Int), .slice (some ad1) M.nb c1, .slice (some ad) M.np c2, .slice A3 M.ni c3]) ∧ Below w.heap.size w w8) := Lib.hid ⟨⟨_, _, _, _, _, _, _, rfl, HR.out.below hb8⟩, hb8⟩
      have he : ee = 204 := by
        rw [← HE.out]
        unfold Mt.alterE
        rw [if_neg HIN.out]
        simp only [Int.toNat_natCast]
        rw [if_neg (c := ¬ ((M.views p).leader = l ∧ (M.views p).epoch = e ∧ (M.views p).version = vn)) (fun q => q ⟨Ha.out, Hb.out, Hc.out⟩)]
        rw [if_neg (by rw [HDE.out]; decide)]
        exact if_pos HV.out
      subst he
      clear hB8 hg8 hs8 hb8
      go_wp2_with fail
      refine bodyPost_ret (results_ct (by rfl) _ _ (w.heap.size + 2) 36 _ (0, 0) _ (by rfl) HB8.out und36 (by rfl) (by kernel_rfl) (by rfl)) rfl ?_
      exact ⟨_, rfl, by rw [if_neg (by decide)]; exact HF.out.1, HF.out.2⟩
    case neg =>
    have ev := neb hv
    have HV := Lib.hid hv
    have wv2 : IntKind.i64.wrap ((M.views p).version + 1) = (M.views p).version + 1 := by have := HOK.out.e0; have := HOK.out.ev; have := HOK.out.v1; rw [IntWalk.i64_in _ (by omega)]
    clear hv
    have HBG : Hid ((M.views p).alter I = { (M.views p) with version := (M.views p).version + 1, isr := I }) := Lib.hid rfl
    have HNL := Lib.hid hnl
    clear hnl
    have hS0 := HL4.out
    have k0 : (w3.drewN j).cell? ⟨lx, 3, none⟩ = some (.slice As (M.views p).isr.length ks) := hS0.cell 3
    have g0 := hS0.frozen 3
    have hS1 : Blk ((w3.drewN j).setCell ⟨lx, 3, none⟩ (.slice A n k)) lx 47 #[.int .i64 (M.views p).leader, .int .i64 (M.views p).epoch, .int .i64 (M.views p).version, .slice A n k] := hS0.set_ 3 (.slice A n k)
    have k1 : ((w3.drewN j).setCell ⟨lx, 3, none⟩ (.slice A n k)).cell? ⟨lx, 2, none⟩ = some (.int .i64 (M.views p).version) := hS1.cell 2
    have g1 := hS1.frozen 2
    have hS2 : Blk (((w3.drewN j).setCell ⟨lx, 3, none⟩ (.slice A n k)).setCell ⟨lx, 2, none⟩ (.int .i64 ((M.views p).version + 1))) lx 47 #[.int .i64 (M.views p).leader, .int .i64 (M.views p).epoch, .int .i64 ((M.views p).version + 1), .slice A n k] := hS1.set_ 2 (.int .i64 ((M.views p).version + 1))
    have hT9 : Turn (fun z => z = lx) (w3.drewN j) (((w3.drewN j).setCell ⟨lx, 3, none⟩ (.slice A n k)).setCell ⟨lx, 2, none⟩ (.int .i64 ((M.views p).version + 1))) := (((Turn.refl (fun z => z = lx) (w3.drewN j)).setCell (p := ⟨lx, 3, none⟩) (fun _ => rfl) (.slice A n k)).setCell (p := ⟨lx, 2, none⟩) (fun _ => rfl) (.int .i64 ((M.views p).version + 1)))
    have HA5 := Lib.hid (HA4.out.on hT9 (fun z e => by have := HLX.out; omega) (fun e => by have := HLX.out; omega) (fun e => by have := HLX.out; omega))
    have HL5 := Lib.hid hS2
    clear hT9 hS0 hS1 hS2
    go_upto_region 14 with fail
    generalize ((w3.drewN j).setCell ⟨lx, 3, none⟩ (.slice A n k)).setCell ⟨lx, 2, none⟩ (.int .i64 ((M.views p).version + 1)) = w5 at *
    clear k0 g0 k1 g1
    go_wp2_with (with_reducible refine at_load 36 rfl ?_)
    refine Stop.go (wpList_load_blk (by rfl) 36 _ (by rfl) w.heap.size (by rfl) 36 _ HA5.out.b _ und36 (by rfl) (by kernel_rfl) ?_)
    go_wp2_with (with_reducible refine at_load 47 rfl ?_)
    refine Stop.go (wpList_load_blk (by rfl) 47 _ (by rfl) lx (by rfl) 47 _ HL5.out _ und47 (by rfl) (by kernel_rfl) ?_)
    have hrx9 := HRX.out.below HA5.out.low
    have hxx9 := HXX.out _ HA5.out.low.size HA5.out.r.lt
    have hcall := view103_any hrx9 hxx9 HK.out.np.2 HK.out.np.2 HP.out ({ (M.views p) with version := (M.views p).version + 1, isr := I }) (s := .slice A n k) ⟨A, k, by rw [HNL.out], by rw [HNL.out]; exact (HRI.out.wide (fun z hz e => e.elim id (fun e => by omega))).below HA5.out.low⟩
    clear hrx9 hxx9
    go_wp2_with fail
    refine hcall.mono ?_
    rintro r w7 ⟨v7, rfl, hrf, hb7⟩
    have HA7 := Lib.hid (HA5.out.below hb7)
    have hrf7 := hrf
    obtain ⟨B1, B2, B3, d1, d2, d3, rs7, rfl, hR7⟩ := hrf
    have HRF := Lib.hid hrf7
    clear hcall hrf7 hR7 hb7
    go_wp2_with (with_reducible refine at_store 36 rfl ?_)
    refine Stop.go (wpList_store_blk (by rfl) (by rfl) 36 _ _ (by rfl) (w.heap.size + 2) _ #[.int .i64 (M.nb : Int), .int .i64 (M.np : Int), .int .i64 (M.ni : Int), .slice B1 M.nb d1, .slice B2 M.np d2, .slice B3 M.ni d3] (by rfl) (by rfl) 36 HA7.out.r (by rfl) (by kernel_rfl) (by simp [Value.oneCell']) ?_)
    intro w8 hB8 hg8 hs8
    have HB8 := Lib.hid hB8
    have hb8 : Below w.heap.size w w8 := below_grown HA7.out.low hg8 (Nat.le_refl _) (by omega)
    have hb78 : Turn (fun z => z = (w.heap.size + 2)) w7 w8 := Turn.of_grown hg8 (fun r e => by injection e with e; exact e.symm)
    have HF : Hid (Rf w8 X (M.setV p { (M.views p) with version := (M.views p).version + 1, isr := I }) (.agg #[.int .i64 (M.nb : Int), .int .i64 (M.np : Int), .int .i64 (M.ni : Int), .slice B1 M.nb d1, .slice B2 M.np d2, .slice B3 M.ni d3]) ∧ Below w.heap.size w w8) := Lib.hid ⟨(HRF.out.keep hb78 (fun z _ e => .inr e)).wide (fun z _ e => .inl e), hb8⟩
    have he : ee = 0 := by
      rw [← HE.out]
      unfold Mt.alterE
      rw [if_neg HIN.out]
      simp only [Int.toNat_natCast]
      rw [if_neg (c := ¬ ((M.views p).leader = l ∧ (M.views p).epoch = e ∧ (M.views p).version = vn)) (fun q => q ⟨Ha.out, Hb.out, Hc.out⟩)]
      rw [if_neg (by rw [HDE.out]; decide)]
      exact if_neg HV.out
    subst he
    clear hB8 hg8 hs8 hb8 hb78
    go_wp2_with fail
    refine bodyPost_ret (results_ct (by rfl) _ _ (w.heap.size + 2) 36 _ (0, 0) _ (by rfl) HB8.out und36 (by rfl) (by kernel_rfl) (by rfl)) rfl ?_
    exact ⟨_, rfl, by rw [if_pos rfl, ← HM1.out]; simp only [Int.toNat_natCast]; rw [HBG.out]; exact HF.out.1, HF.out.2⟩
end
end Go.Proofs.YtpmdicbhliclcaaGreat
