/-
  The document's New and Put. Conditions: bounds.
-/
import Derived.Test.YticabfmjdjcfnaaRef
import Derived.Test.YticabfmjdjcfnaaPut
import Derived.Deep.DeepCutAuto
namespace Go.Proofs.Yticabfmjdjcfnaa
open Go.RowKit
set_option maxRecDepth 100000 in
set_option maxHeartbeats 4000000 in
theorem refNew_yes {w : World} (X : Nat → Prop) {r : Nat} (h1 : 1 ≤ r) (h2 : r ≤ 4096) : Calls Try.prog 13 #[.int .i64 (r : Int)] w fun e w' => ∃ cs, e = .returned (.tuple #[.agg cs, .int .i64 0]) ∧ RAt w' X ⟨r, [], 0⟩ cs ∧ Below w.heap.size w w' := by
  go_enter Try.func13, Try.ntmps13
  have b0 : Blk (w.alloc (.cells #[.int .i64 0, .slice none 0 0, .int .i64 0] 28)) w.heap.size 28 #[.int .i64 0, .slice none 0 0, .int .i64 0] := Blk.new _ _ _
  have hb0 : Below w.heap.size w (w.alloc (.cells #[.int .i64 0, .slice none 0 0, .int .i64 0] 28)) := (Below.refl _ _).alloc (Nat.le_refl _) _
  have hd : decide ((r : Int) < 1) = false := by simp; omega
  have hd2 : decide (4096 < (r : Int)) = false := by simp; omega
  go_wp2_with (with_reducible refine at_store 28 rfl ?_)
  refine Stop.go (wpList_store_blk (by rfl) (by rfl) 28 _ _ (by rfl) w.heap.size _ #[.int .i64 (r : Int), .slice none 0 0, .int .i64 0] (by rfl) (by rfl) 28 b0 (by rfl) (info28 _ rfl) (by simp [Value.oneCell']) ?_)
  intro w2 f2 g2 s2
  clear s2
  go_wp2_with fail
  refine bodyPost_ret (v := .tuple #[.agg #[.int .i64 (r : Int), .slice none 0 0, .int .i64 0], .int .i64 0]) (results_ct (by rfl) _ _ w.heap.size 28 _ (0, 0) _ (by rfl) f2 Try.underlying28 (by rfl) (info28 _ rfl) (by rfl)) rfl ?_
  exact ⟨_, rfl, ⟨none, 0, 0, rfl, Its.nil, Nat.le_refl _, Nat.zero_le _⟩, below_grown hb0 g2 (Nat.le_refl _) (Nat.le_refl _)⟩
/-- What the document's Put leaves and tells. -/
def RPut (w : World) (X : Nat → Prop) (s : St) (m : Msg) (e : Ending) (w' : World) : Prop := ∃ cs, e = .returned (.tuple #[.agg cs, .int .i64 (putN s m), .int .i64 (putC s m)]) ∧ RAt w' X (s.putA m) cs ∧ Below w.heap.size w w'
theorem RPut.no {w w' : World} {X : Nat → Prop} {s : St} {m : Msg} {cs : Array Value} {k : Int} (hk : putC s m = k) (h0 : k ≠ 0) (h : RAt w X s cs) (hb : Below w.heap.size w w') : RPut w X s m (.returned (.tuple #[.agg cs, .int .i64 0, .int .i64 k])) w' := by
  subst hk
  obtain ⟨e1, e2⟩ := putA_no h0
  exact ⟨cs, by rw [e2], by rw [e1]; exact h.below hb, hb⟩
theorem isPl_no {p : Int} (h : isPl p = false) : p < 0 ∨ 63 < p := by
  unfold isPl at h
  simp at h
  omega
/-- An item's cells. -/
def itC (k : Int) (m : Msg) (v : Value) : Array Value := #[.int .i64 k, .int .i64 m.fr, .int .i64 m.to, v]
/-- Blocks that the row keeps clear of. -/
def X8 (w : World) (X : Nat → Prop) : Nat → Prop := fun b => X b ∨ (w.heap.size ≤ b ∧ b < w.heap.size + 3)
/-- Behind the append: the net's box with the longer row. -/
def Grown8 (w : World) (X : Nat → Prop) (s : St) (m : Msg) (wx : World) : Prop :=
  ∃ A c, Blk wx w.heap.size 28 #[.int .i64 (s.most : Int), .slice A (s.l.length + 1) c, .int .i64 (s.came : Int)] ∧ Its wx (X8 w X) A (s.l.length + 1) (s.l ++ [((s.came : Int), m)]) ∧ s.l.length + 1 ≤ c ∧ c ≤ maxLen ∧ Blk wx (w.heap.size + 1 + 1) 28 #[.int .i64 0, .slice none 0 0, .int .i64 0] ∧ Below w.heap.size w wx ∧
    (∀ b, Value.ownBlock (.slice A (s.l.length + 1) c) = some b → w.heap.size + 3 ≤ b)
/-- A row that grew by an item. -/
theorem its_snoc {w : World} {X : Nat → Prop} {l : Row} {css : List (Array Value)} {p : Int × Msg} {cs : Array Value} {A : Option Addr} {n c : Nat} (ho : OwnK w 57 4 (.slice A n c) (css ++ [cs])) (hX : ∀ g, Value.ownBlock (.slice A n c) = some g → ¬ X g) (hl : css.length = l.length)
    (h3 : ∀ (i : Nat) (p : Int × Msg) (cs : Array Value), l[i]? = some p → css[i]? = some cs → ItAt w X p cs) (hp : ItAt w X p cs) : Its w X A n (l ++ [p]) := by
  refine ⟨css ++ [cs], ho.rd hX, by simp [hl], fun i x y e1 e2 => ?_⟩
  rcases Nat.lt_or_ge i l.length with hi | hi
  · rw [List.getElem?_append_left hi] at e1
    rw [List.getElem?_append_left (by omega)] at e2
    exact h3 i x y e1 e2
  · rw [List.getElem?_append_right hi] at e1
    rw [List.getElem?_append_right (by omega), hl] at e2
    rcases hd : i - l.length with _ | q
    · rw [hd] at e1 e2
      simp at e1 e2
      subst e1 e2
      exact hp
    · rw [hd] at e1; simp at e1
theorem ownK_form {w : World} {e k : Nat} {v : Value} {css : List (Array Value)} (h : OwnK w e k v css) : ∃ A c, v = .slice A css.length c ∧ css.length ≤ c ∧ c ≤ maxLen := by
  obtain ⟨A, q, c, e1, e2, e3, e4⟩ := h.form
  subst e2
  exact ⟨A, c, e1, e3, e4⟩
set_option maxRecDepth 100000 in
set_option maxHeartbeats 8000000 in
theorem refPut_any {w : World} {X Y : Nat → Prop} {s : St} {cs : Array Value} (h : RAt w X s cs) (hX : ∀ b, X b → b < w.heap.size) {m : Msg} {v : Value} (hv : MsgV w Y m v) (hok : s.ok) (hc : s.came ≤ 1000000000) : Calls Try.prog 14 #[.agg cs, v] w (RPut w X s m) := by
  have HH := Lib.hid h
  obtain ⟨A, n, c, rfl, hI, hnc, hcm⟩ := h
  have hlen := hI.len
  subst hlen
  obtain ⟨Am, q, cm, rfl, hB⟩ := hv
  have hql := hB.1
  have k0 : Blk (((w.alloc (.cells #[.int .i64 (s.most : Int), .slice A s.l.length c, .int .i64 (s.came : Int)] 28)).alloc (.cells #[.int .i64 m.fr, .int .i64 m.to, .slice Am q cm] 39)).alloc (.cells #[.int .i64 0, .slice none 0 0, .int .i64 0] 28)) w.heap.size 28 #[.int .i64 (s.most : Int), .slice A s.l.length c, .int .i64 (s.came : Int)] := ((Blk.new _ _ _).alloc _).alloc _
  have k1 : Blk (((w.alloc (.cells #[.int .i64 (s.most : Int), .slice A s.l.length c, .int .i64 (s.came : Int)] 28)).alloc (.cells #[.int .i64 m.fr, .int .i64 m.to, .slice Am q cm] 39)).alloc (.cells #[.int .i64 0, .slice none 0 0, .int .i64 0] 28)) (w.heap.size + 1) 39 #[.int .i64 m.fr, .int .i64 m.to, .slice Am q cm] := (blk_new _ 39 _ (by simp)).alloc _
  have k2 : Blk (((w.alloc (.cells #[.int .i64 (s.most : Int), .slice A s.l.length c, .int .i64 (s.came : Int)] 28)).alloc (.cells #[.int .i64 m.fr, .int .i64 m.to, .slice Am q cm] 39)).alloc (.cells #[.int .i64 0, .slice none 0 0, .int .i64 0] 28)) (w.heap.size + 1 + 1) 28 #[.int .i64 0, .slice none 0 0, .int .i64 0] := blk_new _ 28 _ (by simp)
  have hb1 : Below w.heap.size w (((w.alloc (.cells #[.int .i64 (s.most : Int), .slice A s.l.length c, .int .i64 (s.came : Int)] 28)).alloc (.cells #[.int .i64 m.fr, .int .i64 m.to, .slice Am q cm] 39)).alloc (.cells #[.int .i64 0, .slice none 0 0, .int .i64 0] 28)) := (((Below.refl _ _).alloc (Nat.le_refl _) _).alloc (by simp) _).alloc (by simp; omega) _
  have HZ1 : Hid ((((w.alloc (.cells #[.int .i64 (s.most : Int), .slice A s.l.length c, .int .i64 (s.came : Int)] 28)).alloc (.cells #[.int .i64 m.fr, .int .i64 m.to, .slice Am q cm] 39)).alloc (.cells #[.int .i64 0, .slice none 0 0, .int .i64 0] 28)).heap.size = w.heap.size + 3) := Lib.hid (by simp)
  have HI1 := Lib.hid (hI.below hb1)
  have HB1 := Lib.hid (hB.below hb1)
  have HIW := Lib.hid ((hI.wide (X' := fun b => X b ∨ w.heap.size ≤ b) (fun b hb e => e.elim id (fun e => absurd e (by omega)))).below hb1)
  have hl4 : s.l.length ≤ 4096 := Nat.le_trans hok.len hok.hi
  clear hI hB
  obtain ⟨c0, c1, c2⟩ := k0.three
  obtain ⟨d0, d1, d2⟩ := k1.three
  have hm1 := hcm
  unfold maxLen at hm1
  go_enter Try.func14, Try.ntmps14
  by_cases hp : isPl m.fr = true ∧ isPl m.to = true
  case neg =>
    have hpb : (m.fr < 0 ∨ 63 < m.fr) ∨ m.to < 0 ∨ 63 < m.to := by
      cases h1 : isPl m.fr with
      | false => exact .inl (isPl_no h1)
      | true =>
        cases h2 : isPl m.to with
        | false => exact .inr (isPl_no h2)
        | true => exact absurd ⟨h1, h2⟩ hp
    have HP := Lib.hid (putC_two (s := s) (m := m) (by
      cases h1 : isPl m.fr with
      | false => exact .inl rfl
      | true =>
        cases h2 : isPl m.to with
        | false => exact .inr rfl
        | true => exact absurd ⟨h1, h2⟩ hp))
    clear hp hok
    go_wp2_with (with_reducible refine at_store 28 rfl ?_)
    all_goals first
      | (exfalso; omega)
      | (generalize (((w.alloc (.cells #[.int .i64 (s.most : Int), .slice A s.l.length c, .int .i64 (s.came : Int)] 28)).alloc (.cells #[.int .i64 m.fr, .int .i64 m.to, .slice Am q cm] 39)).alloc (.cells #[.int .i64 0, .slice none 0 0, .int .i64 0] 28)) = w1 at *
         refine Stop.go (wpList_store_blk (by rfl) (by rfl) 28 _ _ (by rfl) (w.heap.size + 1 + 1) _ #[.int .i64 (s.most : Int), .slice A s.l.length c, .int .i64 (s.came : Int)] (by rfl) (by rfl) 28 k2 (by rfl) (info28 _ rfl) (by simp [Value.oneCell']) ?_)
         intro w2 f2 g2 s2
         clear s2
         go_wp2_with fail
         refine bodyPost_ret (v := .tuple #[.agg #[.int .i64 (s.most : Int), .slice A s.l.length c, .int .i64 (s.came : Int)], .int .i64 0, .int .i64 2]) (results_ctt (by rfl) _ _ (w.heap.size + 1 + 1) 28 _ (0, 0) _ (by rfl) f2 Try.underlying28 (by rfl) (info28 _ rfl) (by rfl) (by rfl)) rfl ?_
         exact RPut.no HP.out (by omega) HH.out (below_grown hb1 g2 (Nat.le_refl _) (by omega)))
  case pos =>
  obtain ⟨hp1, hp2⟩ := hp
  have q1 := isPl_iff.1 hp1
  have q2 := isPl_iff.1 hp2
  have z1 : decide (m.fr < 0) = false := by simp; omega
  have z2 : decide (63 < m.fr) = false := by simp; omega
  have z3 : decide (m.to < 0) = false := by simp; omega
  have z4 : decide (63 < m.to) = false := by simp; omega
  have HP1 := Lib.hid hp1
  have HP2 := Lib.hid hp2
  have HOK := Lib.hid hok
  clear hp1 hp2 hok
  by_cases hl : 4096 < m.b.length
  · have HP := Lib.hid (putC_three (s := s) HP1.out HP2.out hl)
    have hd : decide (4096 < (q : Int)) = true := by simp; omega
    clear hl
    go_wp2_with (with_reducible refine at_store 28 rfl ?_)
    generalize (((w.alloc (.cells #[.int .i64 (s.most : Int), .slice A s.l.length c, .int .i64 (s.came : Int)] 28)).alloc (.cells #[.int .i64 m.fr, .int .i64 m.to, .slice Am q cm] 39)).alloc (.cells #[.int .i64 0, .slice none 0 0, .int .i64 0] 28)) = w1 at *
    refine Stop.go (wpList_store_blk (by rfl) (by rfl) 28 _ _ (by rfl) (w.heap.size + 1 + 1) _ #[.int .i64 (s.most : Int), .slice A s.l.length c, .int .i64 (s.came : Int)] (by rfl) (by rfl) 28 k2 (by rfl) (info28 _ rfl) (by simp [Value.oneCell']) ?_)
    intro w2 f2 g2 s2
    clear s2
    go_wp2_with fail
    refine bodyPost_ret (v := .tuple #[.agg #[.int .i64 (s.most : Int), .slice A s.l.length c, .int .i64 (s.came : Int)], .int .i64 0, .int .i64 3]) (results_ctt (by rfl) _ _ (w.heap.size + 1 + 1) 28 _ (0, 0) _ (by rfl) f2 Try.underlying28 (by rfl) (info28 _ rfl) (by rfl) (by rfl)) rfl ?_
    exact RPut.no HP.out (by omega) HH.out (below_grown hb1 g2 (Nat.le_refl _) (by omega))
  · have HLE : Hid (m.b.length ≤ 4096) := Lib.hid (by omega)
    have hd : decide (4096 < (q : Int)) = false := by simp; omega
    have hq4 : q ≤ 4096 := by omega
    clear hl
    by_cases hf : s.most ≤ s.l.length
    · have HP := Lib.hid (putC_crowd HP1.out HP2.out HLE.out hf)
      have hd2 : decide ((s.most : Int) ≤ (s.l.length : Int)) = true := by simp; omega
      have hd3 : decide (s.most ≤ s.l.length) = true := by simpa using hf
      clear hf
      go_wp2_with (with_reducible refine at_store 28 rfl ?_)
      generalize (((w.alloc (.cells #[.int .i64 (s.most : Int), .slice A s.l.length c, .int .i64 (s.came : Int)] 28)).alloc (.cells #[.int .i64 m.fr, .int .i64 m.to, .slice Am q cm] 39)).alloc (.cells #[.int .i64 0, .slice none 0 0, .int .i64 0] 28)) = w1 at *
      refine Stop.go (wpList_store_blk (by rfl) (by rfl) 28 _ _ (by rfl) (w.heap.size + 1 + 1) _ #[.int .i64 (s.most : Int), .slice A s.l.length c, .int .i64 (s.came : Int)] (by rfl) (by rfl) 28 k2 (by rfl) (info28 _ rfl) (by simp [Value.oneCell']) ?_)
      intro w2 f2 g2 s2
      clear s2
      go_wp2_with fail
      refine bodyPost_ret (v := .tuple #[.agg #[.int .i64 (s.most : Int), .slice A s.l.length c, .int .i64 (s.came : Int)], .int .i64 0, .int .i64 150]) (results_ctt (by rfl) _ _ (w.heap.size + 1 + 1) 28 _ (0, 0) _ (by rfl) f2 Try.underlying28 (by rfl) (info28 _ rfl) (by rfl) (by rfl)) rfl ?_
      exact RPut.no HP.out (by omega) HH.out (below_grown hb1 g2 (Nat.le_refl _) (by omega))
    · have HP := Lib.hid (putC_ok HP1.out HP2.out HLE.out (by omega : s.l.length < s.most))
      have hd2 : decide ((s.most : Int) ≤ (s.l.length : Int)) = false := by simp; omega
      have hd3 : decide (s.most ≤ s.l.length) = false := by simpa using hf
      have HRM : Hid (s.l.length < s.most) := Lib.hid (by omega)
      clear hf HP1 HP2 HLE
      go_wp2_with (at_builtin; refine stop ?_)
      generalize (((w.alloc (.cells #[.int .i64 (s.most : Int), .slice A s.l.length c, .int .i64 (s.came : Int)] 28)).alloc (.cells #[.int .i64 m.fr, .int .i64 m.to, .slice Am q cm] 39)).alloc (.cells #[.int .i64 0, .slice none 0 0, .int .i64 0] 28)) = w1 at *
      have hz1e : w1.heap.size = w.heap.size + 1 + 1 + 1 := HZ1.out
      have hoe : Own (w1.alloc (.cells #[] 5)) (.slice (some ⟨w.heap.size + 1 + 1 + 1, 0, none⟩) 0 0) [] := by have := own_empty w1; rw [hz1e] at this; exact this
      refine Stop.go (wpList_append_bytes _ (by rfl) _ _ (by rfl) _ [] (by rfl) hoe Y _ q _ m.b (by rfl) (HB1.out.alloc _) (by simp) (by omega) ?_)
      intro v3 w3 ho3 hg3
      have hg3' := (Grew.alloc (v := .slice (some ⟨w.heap.size + 1 + 1 + 1, 0, none⟩) 0 0) (w := w1) (.cells #[] 5)).trans hg3
      have hb3 : Below w1.heap.size w1 w3 := hg3'.low (fun g e => (by cases e; show _ ≤ w.heap.size + 1 + 1 + 1; omega))
      have hn3 : ∀ g, v3.ownBlock = some g → w1.heap.size ≤ g := fun g e => (hg3'.2 g e).elim (fun q => (by cases q; show _ ≤ w.heap.size + 1 + 1 + 1; omega)) id
      obtain ⟨A3, q3, c3, rfl, hq3, hqc3, hcm3⟩ := ho3.form
      have HQ3 := Lib.hid hq3
      have k0' := k0.below hb3 k0.lt
      have k1' := k1.below hb3 k1.lt
      have k2' := k2.below hb3 k2.lt
      have hI3 := HI1.out.below hb3
      have hz1 := HZ1.out
      have HZ := Lib.hid hz1
      have hz3 := hb3.size
      obtain ⟨e0, e1, e2⟩ := k1'.three
      have ef := k1'.frozen 2
      have HO3 := Lib.hid ho3
      clear hz1e hoe
      clear hg3 hg3' k0 k1 k2 c0 c1 c2 d0 d1 d2 hq3 hz1 ho3 HB1
      go_upto_region 8 with fail
      have hT4 : Turn (fun b => b = w.heap.size + 1) w3 (w3.setCell ⟨w.heap.size + 1, 2, none⟩ (.slice A3 q3 c3)) := (Turn.refl (fun b => b = w.heap.size + 1) w3).setCell (p := ⟨w.heap.size + 1, 2, none⟩) (fun _ => rfl) _
      have l0 := k0'.keep hT4 (by omega)
      have l1 : Blk (w3.setCell ⟨w.heap.size + 1, 2, none⟩ (.slice A3 q3 c3)) (w.heap.size + 1) 39 #[.int .i64 m.fr, .int .i64 m.to, .slice A3 q3 c3] := k1'.set_ 2 _
      have l2 := k2'.keep hT4 (by omega)
      have hI4 : Its (w3.setCell ⟨w.heap.size + 1, 2, none⟩ (.slice A3 q3 c3)) (fun b => X b ∨ w.heap.size ≤ b) A s.l.length s.l := (HIW.out.below hb3).keep hT4 (fun b _ e => .inr (by omega))
      have ho4 : Own (w3.setCell ⟨w.heap.size + 1, 2, none⟩ (.slice A3 q3 c3)) (.slice A3 q3 c3) m.b := HO3.out.keep hT4 (fun g e e' => by have := hn3 g e; have := HZ.out; omega)
      have hb4 : Below w.heap.size w (w3.setCell ⟨w.heap.size + 1, 2, none⟩ (.slice A3 q3 c3)) := (hb1.trans (hb3.mono hb1.size)).setCell (by show w.heap.size ≤ w.heap.size + 1; omega) _
      have hz4 : w.heap.size + 3 ≤ (w3.setCell ⟨w.heap.size + 1, 2, none⟩ (.slice A3 q3 c3)).heap.size := by have := hT4.size; have := HZ.out; omega
      generalize w3.setCell ⟨w.heap.size + 1, 2, none⟩ (.slice A3 q3 c3) = w4 at *
      have hn4 : ∀ g, Value.ownBlock (.slice A3 q3 c3) = some g → w.heap.size + 3 ≤ g := fun g e => by have := hn3 g e; have := HZ.out; omega
      clear k0' k1' k2' hI3 hT4 e0 e1 e2 ef HO3 hb3 hb1 hn3 HI1 HZ1 HZ hz3
      obtain ⟨c0, c1, c2⟩ := l0.three
      obtain ⟨d0, d1, d2⟩ := l1.three
      obtain ⟨css, r1, r2, r3⟩ := hI4
      go_cut [52] (fun s52 wx => Grown8 w X s m wx)
      case first =>
        refine wp_region_np ?_
        refine wp_region_held_drew (S := fun W => W.cell? ⟨w.heap.size, 2, none⟩ = some (.int .i64 (s.came : Int)) ∧ Blk W (w.heap.size + 1) 39 #[.int .i64 m.fr, .int .i64 m.to, .slice A3 q3 c3]) (by kernel_rfl) (show _ ∧ _ from ⟨c2, l1.drew⟩) (fun hHeld => ?_)
        have hbd : Below w4.heap.size w4 w4.drew := (Below.refl _ _).drew
        generalize w4.drew = wd at *
        refine wpAnyH_takeAt (i := 1) (d := 44) (v := ?vq0x) rfl rfl (by kernel_rfl) (by kernel_rfl) (by kernel_rfl) (fun _ _ _ h => h) (Or.inl ⟨by rfl, ?hyq0x⟩) hHeld ?_
        case hyq0x =>
          intro W hSw
          clear hSw
          (go_simp; try with_reducible rfl)
        simp only [List.setIfInBounds_toArray, List.set_cons_zero, List.set_cons_succ]
        refine wpAnyH_takeAt (i := 4) (d := 47) (v := ?vq1x) rfl rfl (by kernel_rfl) (by kernel_rfl) (by kernel_rfl) (fun _ _ _ h => h) (Or.inl ⟨by rfl, ?hyq1x⟩) hHeld ?_
        case hyq1x =>
          intro W hSw
          clear hSw
          (go_simp; try with_reducible rfl)
        simp only [List.setIfInBounds_toArray, List.set_cons_zero, List.set_cons_succ]
        refine wpAnyH_takeAt (i := 5) (d := 48) (v := ?vq2x) rfl rfl (by kernel_rfl) (by kernel_rfl) (by kernel_rfl) (fun _ _ _ h => h) (Or.inl ⟨by rfl, ?hyq2x⟩) hHeld ?_
        case hyq2x =>
          intro W hSw
          obtain ⟨s2, sb⟩ : _ ∧ Blk W (w.heap.size + 1) 39 #[.int .i64 m.fr, .int .i64 m.to, .slice A3 q3 c3] := hSw; obtain ⟨s3, s4, s5⟩ := sb.three; clear sb
          (go_simp; try with_reducible rfl)
        simp only [List.setIfInBounds_toArray, List.set_cons_zero, List.set_cons_succ]
        refine wpAnyH_takeAt (i := 6) (d := 49) (v := ?vq3x) rfl rfl (by kernel_rfl) (by kernel_rfl) (by kernel_rfl) (fun _ _ _ h => h) (Or.inl ⟨by rfl, ?hyq3x⟩) hHeld ?_
        case hyq3x =>
          intro W hSw
          obtain ⟨s2, sb⟩ : _ ∧ Blk W (w.heap.size + 1) 39 #[.int .i64 m.fr, .int .i64 m.to, .slice A3 q3 c3] := hSw; obtain ⟨s3, s4, s5⟩ := sb.three; clear sb
          (go_simp; try with_reducible rfl)
        simp only [List.setIfInBounds_toArray, List.set_cons_zero, List.set_cons_succ]
        refine wpAnyH_takeAt (i := 7) (d := 50) (v := ?vq4x) rfl rfl (by kernel_rfl) (by kernel_rfl) (by kernel_rfl) (fun _ _ _ h => h) (Or.inl ⟨by rfl, ?hyq4x⟩) hHeld ?_
        case hyq4x =>
          intro W hSw
          clear hSw
          (go_simp; try with_reducible rfl)
        simp only [List.setIfInBounds_toArray, List.set_cons_zero, List.set_cons_succ]
        refine wpAnyH_ready (rs := [0, 2, 8]) (by kernel_rfl) (by simp) (AllReadyH.cons rfl (fun K hK => ?_) (AllReadyH.cons rfl (fun K hK => ?_) (AllReadyH.cons rfl (fun K hK => ?_) AllReadyH.nil)))
        · go_simp
          have hu11 := ownK_empty wd 57 4
          have hb11 : Below w4.heap.size w4 (wd.alloc (.cells #[] 57)) := hbd.alloc hbd.size _
          have hw11 : w4.heap.size ≤ wd.heap.size := hbd.size
          have hlo11 : ∀ g, Value.ownBlock (.slice (some ⟨wd.heap.size, 0, none⟩) 0 0) = some g → w4.heap.size ≤ g := fun g e => by cases e; exact hw11
          refine hK.out _ _ (show _ ∧ _ from ⟨(l0.below hb11 l0.lt).cell 2, l1.below hb11 l1.lt⟩) (fun hHeld => ?_)
          clear hK K hHeld
          try simp only [List.setIfInBounds_toArray, List.set_cons_zero, List.set_cons_succ]
          have hHeld := (show _ ∧ _ from ⟨(l0.below hb11 l0.lt).cell 2, l1.below hb11 l1.lt⟩)
          generalize wd.alloc (.cells #[] 57) = wn11 at *
          refine wpAnyH_ready (rs := [2, 8]) (by kernel_rfl) (by simp) (AllReadyH.cons rfl (fun K hK => ?_) (AllReadyH.cons rfl (fun K hK => ?_) AllReadyH.nil))
          · have cl12 := (l0.below hb11 l0.lt).cell 1
            go_simp
            refine hK.out _ _ (show _ ∧ _ from ⟨(l0.below hb11 l0.lt).cell 2, l1.below hb11 l1.lt⟩) (fun hHeld => ?_)
            clear hK K hHeld
            try simp only [List.setIfInBounds_toArray, List.set_cons_zero, List.set_cons_succ]
            have hHeld := (show _ ∧ _ from ⟨(l0.below hb11 l0.lt).cell 2, l1.below hb11 l1.lt⟩)
            clear cl12
            refine wpAnyH_ready (rs := [3, 8]) (by kernel_rfl) (by simp) (AllReadyH.cons rfl (fun K hK => ?_) (AllReadyH.cons rfl (fun K hK => ?_) AllReadyH.nil))
            · refine step_append_k el26 (by rfl) rfl _ _ rfl (.slice (some ⟨wd.heap.size, 0, none⟩) 0 0) [] rfl hu11 _ _ s.l.length _ css rfl (r1.below hb11) (by simp) (by omega) ?_
              intro va13 wa13 hoa13 hga13
              have hTa13 : Turn (fun b => Value.ownBlock (.slice (some ⟨wd.heap.size, 0, none⟩) 0 0) = some b) wn11 wa13 := hga13.turn (fun g e => e)
              have hb13 : Below w4.heap.size w4 wa13 := hb11.trans (hTa13.below hb11.size hlo11)
              have hlo13 : ∀ g, va13.ownBlock = some g → w4.heap.size ≤ g := fun g e => (hga13.2 g e).elim (hlo11 g) (fun q => Nat.le_trans hb11.size q)
              have hou13 : OwnK wa13 57 4 va13 css := by simpa using hoa13
              refine hK.out _ _ (show _ ∧ _ from ⟨(l0.below hb13 l0.lt).cell 2, l1.below hb13 l1.lt⟩) (fun hHeld => ?_)
              clear hK K hHeld
              try simp only [List.setIfInBounds_toArray, List.set_cons_zero, List.set_cons_succ]
              have hHeld := (show _ ∧ _ from ⟨(l0.below hb13 l0.lt).cell 2, l1.below hb13 l1.lt⟩)
              refine wpAnyH_ready (rs := [8]) (by kernel_rfl) (by simp) (AllReadyH.cons rfl (fun K hK => ?_) AllReadyH.nil)
              go_simp
              have hi14 : Rd (wa13.alloc (.cells #[.int .i64 (s.came : Int), .int .i64 m.fr, .int .i64 m.to, .slice A3 q3 c3] 57)) (fun b => b ≠ wa13.heap.size) 4 (some ⟨wa13.heap.size, 0, none⟩) 1 [#[.int .i64 (s.came : Int), .int .i64 m.fr, .int .i64 m.to, .slice A3 q3 c3]] := rd_one wa13 57 #[.int .i64 (s.came : Int), .int .i64 m.fr, .int .i64 m.to, .slice A3 q3 c3] rfl (by simp [Value.oneCell']) (fun h => h rfl)
              have hb14 : Below w4.heap.size w4 (wa13.alloc (.cells #[.int .i64 (s.came : Int), .int .i64 m.fr, .int .i64 m.to, .slice A3 q3 c3] 57)) := hb13.alloc hb13.size _
              have hil14 : wa13.heap.size < (wa13.alloc (.cells #[.int .i64 (s.came : Int), .int .i64 m.fr, .int .i64 m.to, .slice A3 q3 c3] 57)).heap.size := by simp
              have hu14 := hou13.alloc (.cells #[.int .i64 (s.came : Int), .int .i64 m.fr, .int .i64 m.to, .slice A3 q3 c3] 57)
              have hne14 : ∀ g, Value.ownBlock va13 = some g → g ≠ wa13.heap.size := fun g e => by have := hou13.lt e; omega
              refine hK.out _ _ (show _ ∧ _ from ⟨(l0.below hb14 l0.lt).cell 2, l1.below hb14 l1.lt⟩) (fun hHeld => ?_)
              clear hK K hHeld
              try simp only [List.setIfInBounds_toArray, List.set_cons_zero, List.set_cons_succ]
              have hHeld := (show _ ∧ _ from ⟨(l0.below hb14 l0.lt).cell 2, l1.below hb14 l1.lt⟩)
              generalize wa13.alloc (.cells #[.int .i64 (s.came : Int), .int .i64 m.fr, .int .i64 m.to, .slice A3 q3 c3] 57) = wn14 at *
              refine wpAnyH_ready (rs := [9]) (by kernel_rfl) (by simp) (AllReadyH.cons rfl (fun K hK => ?_) AllReadyH.nil)
              refine step_append_k el26 (by rfl) rfl _ _ rfl va13 css rfl hu14 _ _ 1 _ [#[.int .i64 (s.came : Int), .int .i64 m.fr, .int .i64 m.to, .slice A3 q3 c3]] rfl hi14 (by rw [r2]; omega) (by omega) ?_
              intro vb wb hob hgb
              have hbb : Below w4.heap.size w4 wb := hb14.trans ((hgb.turn (S := fun b => Value.ownBlock va13 = some b) (fun g e => e)).below hb14.size hlo13)
              have hlb : ∀ g, vb.ownBlock = some g → w4.heap.size ≤ g := fun g e => (hgb.2 g e).elim (hlo13 g) (fun q => Nat.le_trans hb14.size q)
              obtain ⟨Ab, cb, hvb, hcb1, hcb2⟩ := ownK_form hob
              have hlb' : (css ++ ([#[.int .i64 (s.came : Int), .int .i64 m.fr, .int .i64 m.to, .slice A3 q3 c3]] : List (Array Value))).length = s.l.length + 1 := by rw [List.length_append, r2]; rfl
              rw [hlb'] at hvb hcb1
              subst hvb
              refine hK.out _ _ (show _ ∧ _ from ⟨(l0.below hbb l0.lt).cell 2, l1.below hbb l1.lt⟩) (fun hHeld => ?_)
              clear hK K hHeld
              try simp only [List.setIfInBounds_toArray, List.set_cons_zero, List.set_cons_succ]
              have hHeld := (show _ ∧ _ from ⟨(l0.below hbb l0.lt).cell 2, l1.below hbb l1.lt⟩)
              have l0b := l0.below hbb l0.lt
              have hcc := l0b.cell 1
              have hff := l0b.frozen 1
              refine wpAnyH_takeAt (i := 10) (d := 53) (v := ?vq5x) rfl rfl (by kernel_rfl) (by kernel_rfl) (by kernel_rfl) (fun _ _ _ h => h) (Or.inl ⟨by rfl, ?hyq5x⟩) hHeld ?_
              case hyq5x =>
                intro W hSw
                clear hSw
                (go_simp; try with_reducible rfl)
              simp only [List.setIfInBounds_toArray, List.set_cons_zero, List.set_cons_succ]
              refine wpAnyH_ready (rs := [11]) (by kernel_rfl) (by simp) (AllReadyH.cons rfl (fun K hK => ?_) AllReadyH.nil)
              go_simp
              have hTs : Turn (fun b => b = w.heap.size) wb (wb.setCell ⟨w.heap.size, 1, none⟩ (.slice Ab (s.l.length + 1) cb)) := (Turn.refl (fun b => b = w.heap.size) wb).setCell (p := ⟨w.heap.size, 1, none⟩) (fun _ => rfl) _
              have hos := hob.keep hTs (fun g e e' => by have := hlb g e; omega)
              have hr3 : ∀ (i : Nat) (p : Int × Msg) (cs : Array Value), s.l[i]? = some p → css[i]? = some cs → ItAt (wb.setCell ⟨w.heap.size, 1, none⟩ (.slice Ab (s.l.length + 1) cb)) (X8 w X) p cs := fun i p cs e1 e2 =>
                (((r3 i p cs e1 e2).keep (S := No) (Turn.of_below hbb No) (fun _ _ h => h.elim)).keep hTs (fun b _ e => .inr (by omega))).wide (fun b _ e => e.elim .inl (fun e => .inr e.1))
              have how := (ho4.below hbb).keep hTs (fun g e e' => by have := hn4 g e; omega)
              have hpt : ItAt (wb.setCell ⟨w.heap.size, 1, none⟩ (.slice Ab (s.l.length + 1) cb)) (X8 w X) ((s.came : Int), m) #[.int .i64 (s.came : Int), .int .i64 m.fr, .int .i64 m.to, .slice A3 q3 c3] := ⟨A3, q3, c3, rfl, how.bys (fun g e e' => by
                have := hn4 g e
                rcases e' with e' | e'
                · have := hX g e'; omega
                · omega)⟩
              have hfin : Grown8 w X s m (wb.setCell ⟨w.heap.size, 1, none⟩ (.slice Ab (s.l.length + 1) cb)) :=
                ⟨Ab, cb, l0b.set_ 1 _, its_snoc hos (fun g e e' => by
                  have := hlb g e
                  rcases e' with e' | e'
                  · have := hX g e'; omega
                  · omega) r2 hr3 hpt, hcb1, hcb2, (l2.below hbb l2.lt).keep hTs (by omega), (hb4.trans (hbb.mono (by omega))).trans (hTs.below (by have := hbb.size; omega) (fun b e => by omega)), fun b e => by have := hlb b e; omega⟩
              refine hK.out _ _ (show _ ∧ _ from ⟨((l0b.set_ 1 (.slice Ab (s.l.length + 1) cb)).cell 2), (l1.below hbb l1.lt).keep hTs (by omega)⟩) (fun hHeld => ?_)
              clear hK K
              try simp only [List.setIfInBounds_toArray, List.set_cons_zero, List.set_cons_succ]
              refine wpAnyH_done (by kernel_rfl) ?_ _
              go_wp2_with fail
              go_meet
              case rel => exact hfin
            · go_simp
              have hi16 : Rd (wn11.alloc (.cells #[.int .i64 (s.came : Int), .int .i64 m.fr, .int .i64 m.to, .slice A3 q3 c3] 57)) (fun b => b ≠ wn11.heap.size) 4 (some ⟨wn11.heap.size, 0, none⟩) 1 [#[.int .i64 (s.came : Int), .int .i64 m.fr, .int .i64 m.to, .slice A3 q3 c3]] := rd_one wn11 57 #[.int .i64 (s.came : Int), .int .i64 m.fr, .int .i64 m.to, .slice A3 q3 c3] rfl (by simp [Value.oneCell']) (fun h => h rfl)
              have hb16 : Below w4.heap.size w4 (wn11.alloc (.cells #[.int .i64 (s.came : Int), .int .i64 m.fr, .int .i64 m.to, .slice A3 q3 c3] 57)) := hb11.alloc hb11.size _
              have hil16 : wn11.heap.size < (wn11.alloc (.cells #[.int .i64 (s.came : Int), .int .i64 m.fr, .int .i64 m.to, .slice A3 q3 c3] 57)).heap.size := by simp
              have hu16 := hu11.alloc (.cells #[.int .i64 (s.came : Int), .int .i64 m.fr, .int .i64 m.to, .slice A3 q3 c3] 57)
              have hne16 : ∀ g, Value.ownBlock (.slice (some ⟨wd.heap.size, 0, none⟩) 0 0) = some g → g ≠ wn11.heap.size := fun g e => by have := hu11.lt e; omega
              refine hK.out _ _ (show _ ∧ _ from ⟨(l0.below hb16 l0.lt).cell 2, l1.below hb16 l1.lt⟩) (fun hHeld => ?_)
              clear hK K hHeld
              try simp only [List.setIfInBounds_toArray, List.set_cons_zero, List.set_cons_succ]
              have hHeld := (show _ ∧ _ from ⟨(l0.below hb16 l0.lt).cell 2, l1.below hb16 l1.lt⟩)
              generalize wn11.alloc (.cells #[.int .i64 (s.came : Int), .int .i64 m.fr, .int .i64 m.to, .slice A3 q3 c3] 57) = wn16 at *
              refine wpAnyH_ready (rs := [3]) (by kernel_rfl) (by simp) (AllReadyH.cons rfl (fun K hK => ?_) AllReadyH.nil)
              refine step_append_k el26 (by rfl) rfl _ _ rfl (.slice (some ⟨wd.heap.size, 0, none⟩) 0 0) [] rfl hu16 _ _ s.l.length _ css rfl (r1.below hb16) (by simp) (by omega) ?_
              intro va17 wa17 hoa17 hga17
              have hTa17 : Turn (fun b => Value.ownBlock (.slice (some ⟨wd.heap.size, 0, none⟩) 0 0) = some b) wn16 wa17 := hga17.turn (fun g e => e)
              have hb17 : Below w4.heap.size w4 wa17 := hb16.trans (hTa17.below hb16.size hlo11)
              have hlo17 : ∀ g, va17.ownBlock = some g → w4.heap.size ≤ g := fun g e => (hga17.2 g e).elim (hlo11 g) (fun q => Nat.le_trans hb16.size q)
              have hou17 : OwnK wa17 57 4 va17 css := by simpa using hoa17
              have hit17 := hi16.keep hTa17 (fun b _ e => hne16 b e)
              have hnf17 : ∀ g, va17.ownBlock = some g → g ≠ wn11.heap.size := fun g e => (hga17.2 g e).elim (hne16 g) (fun q => by have := hil16; omega)
              have hil17 : wn11.heap.size < wa17.heap.size := Nat.lt_of_lt_of_le hil16 hTa17.size
              refine hK.out _ _ (show _ ∧ _ from ⟨(l0.below hb17 l0.lt).cell 2, l1.below hb17 l1.lt⟩) (fun hHeld => ?_)
              clear hK K hHeld
              try simp only [List.setIfInBounds_toArray, List.set_cons_zero, List.set_cons_succ]
              have hHeld := (show _ ∧ _ from ⟨(l0.below hb17 l0.lt).cell 2, l1.below hb17 l1.lt⟩)
              refine wpAnyH_ready (rs := [9]) (by kernel_rfl) (by simp) (AllReadyH.cons rfl (fun K hK => ?_) AllReadyH.nil)
              refine step_append_k el26 (by rfl) rfl _ _ rfl va17 css rfl hou17 _ _ 1 _ [#[.int .i64 (s.came : Int), .int .i64 m.fr, .int .i64 m.to, .slice A3 q3 c3]] rfl hit17 (by rw [r2]; omega) (by omega) ?_
              intro vb wb hob hgb
              have hbb : Below w4.heap.size w4 wb := hb17.trans ((hgb.turn (S := fun b => Value.ownBlock va17 = some b) (fun g e => e)).below hb17.size hlo17)
              have hlb : ∀ g, vb.ownBlock = some g → w4.heap.size ≤ g := fun g e => (hgb.2 g e).elim (hlo17 g) (fun q => Nat.le_trans hb17.size q)
              obtain ⟨Ab, cb, hvb, hcb1, hcb2⟩ := ownK_form hob
              have hlb' : (css ++ ([#[.int .i64 (s.came : Int), .int .i64 m.fr, .int .i64 m.to, .slice A3 q3 c3]] : List (Array Value))).length = s.l.length + 1 := by rw [List.length_append, r2]; rfl
              rw [hlb'] at hvb hcb1
              subst hvb
              refine hK.out _ _ (show _ ∧ _ from ⟨(l0.below hbb l0.lt).cell 2, l1.below hbb l1.lt⟩) (fun hHeld => ?_)
              clear hK K hHeld
              try simp only [List.setIfInBounds_toArray, List.set_cons_zero, List.set_cons_succ]
              have hHeld := (show _ ∧ _ from ⟨(l0.below hbb l0.lt).cell 2, l1.below hbb l1.lt⟩)
              have l0b := l0.below hbb l0.lt
              have hcc := l0b.cell 1
              have hff := l0b.frozen 1
              refine wpAnyH_takeAt (i := 10) (d := 53) (v := ?vq6x) rfl rfl (by kernel_rfl) (by kernel_rfl) (by kernel_rfl) (fun _ _ _ h => h) (Or.inl ⟨by rfl, ?hyq6x⟩) hHeld ?_
              case hyq6x =>
                intro W hSw
                clear hSw
                (go_simp; try with_reducible rfl)
              simp only [List.setIfInBounds_toArray, List.set_cons_zero, List.set_cons_succ]
              refine wpAnyH_ready (rs := [11]) (by kernel_rfl) (by simp) (AllReadyH.cons rfl (fun K hK => ?_) AllReadyH.nil)
              go_simp
              have hTs : Turn (fun b => b = w.heap.size) wb (wb.setCell ⟨w.heap.size, 1, none⟩ (.slice Ab (s.l.length + 1) cb)) := (Turn.refl (fun b => b = w.heap.size) wb).setCell (p := ⟨w.heap.size, 1, none⟩) (fun _ => rfl) _
              have hos := hob.keep hTs (fun g e e' => by have := hlb g e; omega)
              have hr3 : ∀ (i : Nat) (p : Int × Msg) (cs : Array Value), s.l[i]? = some p → css[i]? = some cs → ItAt (wb.setCell ⟨w.heap.size, 1, none⟩ (.slice Ab (s.l.length + 1) cb)) (X8 w X) p cs := fun i p cs e1 e2 =>
                (((r3 i p cs e1 e2).keep (S := No) (Turn.of_below hbb No) (fun _ _ h => h.elim)).keep hTs (fun b _ e => .inr (by omega))).wide (fun b _ e => e.elim .inl (fun e => .inr e.1))
              have how := (ho4.below hbb).keep hTs (fun g e e' => by have := hn4 g e; omega)
              have hpt : ItAt (wb.setCell ⟨w.heap.size, 1, none⟩ (.slice Ab (s.l.length + 1) cb)) (X8 w X) ((s.came : Int), m) #[.int .i64 (s.came : Int), .int .i64 m.fr, .int .i64 m.to, .slice A3 q3 c3] := ⟨A3, q3, c3, rfl, how.bys (fun g e e' => by
                have := hn4 g e
                rcases e' with e' | e'
                · have := hX g e'; omega
                · omega)⟩
              have hfin : Grown8 w X s m (wb.setCell ⟨w.heap.size, 1, none⟩ (.slice Ab (s.l.length + 1) cb)) :=
                ⟨Ab, cb, l0b.set_ 1 _, its_snoc hos (fun g e e' => by
                  have := hlb g e
                  rcases e' with e' | e'
                  · have := hX g e'; omega
                  · omega) r2 hr3 hpt, hcb1, hcb2, (l2.below hbb l2.lt).keep hTs (by omega), (hb4.trans (hbb.mono (by omega))).trans (hTs.below (by have := hbb.size; omega) (fun b e => by omega)), fun b e => by have := hlb b e; omega⟩
              refine hK.out _ _ (show _ ∧ _ from ⟨((l0b.set_ 1 (.slice Ab (s.l.length + 1) cb)).cell 2), (l1.below hbb l1.lt).keep hTs (by omega)⟩) (fun hHeld => ?_)
              clear hK K
              try simp only [List.setIfInBounds_toArray, List.set_cons_zero, List.set_cons_succ]
              refine wpAnyH_done (by kernel_rfl) ?_ _
              go_wp2_with fail
              go_meet
              case rel => exact hfin
          · go_simp
            have hi19 : Rd (wn11.alloc (.cells #[.int .i64 (s.came : Int), .int .i64 m.fr, .int .i64 m.to, .slice A3 q3 c3] 57)) (fun b => b ≠ wn11.heap.size) 4 (some ⟨wn11.heap.size, 0, none⟩) 1 [#[.int .i64 (s.came : Int), .int .i64 m.fr, .int .i64 m.to, .slice A3 q3 c3]] := rd_one wn11 57 #[.int .i64 (s.came : Int), .int .i64 m.fr, .int .i64 m.to, .slice A3 q3 c3] rfl (by simp [Value.oneCell']) (fun h => h rfl)
            have hb19 : Below w4.heap.size w4 (wn11.alloc (.cells #[.int .i64 (s.came : Int), .int .i64 m.fr, .int .i64 m.to, .slice A3 q3 c3] 57)) := hb11.alloc hb11.size _
            have hil19 : wn11.heap.size < (wn11.alloc (.cells #[.int .i64 (s.came : Int), .int .i64 m.fr, .int .i64 m.to, .slice A3 q3 c3] 57)).heap.size := by simp
            have hu19 := hu11.alloc (.cells #[.int .i64 (s.came : Int), .int .i64 m.fr, .int .i64 m.to, .slice A3 q3 c3] 57)
            have hne19 : ∀ g, Value.ownBlock (.slice (some ⟨wd.heap.size, 0, none⟩) 0 0) = some g → g ≠ wn11.heap.size := fun g e => by have := hu11.lt e; omega
            refine hK.out _ _ (show _ ∧ _ from ⟨(l0.below hb19 l0.lt).cell 2, l1.below hb19 l1.lt⟩) (fun hHeld => ?_)
            clear hK K hHeld
            try simp only [List.setIfInBounds_toArray, List.set_cons_zero, List.set_cons_succ]
            have hHeld := (show _ ∧ _ from ⟨(l0.below hb19 l0.lt).cell 2, l1.below hb19 l1.lt⟩)
            generalize wn11.alloc (.cells #[.int .i64 (s.came : Int), .int .i64 m.fr, .int .i64 m.to, .slice A3 q3 c3] 57) = wn19 at *
            refine wpAnyH_ready (rs := [2]) (by kernel_rfl) (by simp) (AllReadyH.cons rfl (fun K hK => ?_) AllReadyH.nil)
            have cl20 := (l0.below hb19 l0.lt).cell 1
            go_simp
            refine hK.out _ _ (show _ ∧ _ from ⟨(l0.below hb19 l0.lt).cell 2, l1.below hb19 l1.lt⟩) (fun hHeld => ?_)
            clear hK K hHeld
            try simp only [List.setIfInBounds_toArray, List.set_cons_zero, List.set_cons_succ]
            have hHeld := (show _ ∧ _ from ⟨(l0.below hb19 l0.lt).cell 2, l1.below hb19 l1.lt⟩)
            clear cl20
            refine wpAnyH_ready (rs := [3]) (by kernel_rfl) (by simp) (AllReadyH.cons rfl (fun K hK => ?_) AllReadyH.nil)
            refine step_append_k el26 (by rfl) rfl _ _ rfl (.slice (some ⟨wd.heap.size, 0, none⟩) 0 0) [] rfl hu19 _ _ s.l.length _ css rfl (r1.below hb19) (by simp) (by omega) ?_
            intro va21 wa21 hoa21 hga21
            have hTa21 : Turn (fun b => Value.ownBlock (.slice (some ⟨wd.heap.size, 0, none⟩) 0 0) = some b) wn19 wa21 := hga21.turn (fun g e => e)
            have hb21 : Below w4.heap.size w4 wa21 := hb19.trans (hTa21.below hb19.size hlo11)
            have hlo21 : ∀ g, va21.ownBlock = some g → w4.heap.size ≤ g := fun g e => (hga21.2 g e).elim (hlo11 g) (fun q => Nat.le_trans hb19.size q)
            have hou21 : OwnK wa21 57 4 va21 css := by simpa using hoa21
            have hit21 := hi19.keep hTa21 (fun b _ e => hne19 b e)
            have hnf21 : ∀ g, va21.ownBlock = some g → g ≠ wn11.heap.size := fun g e => (hga21.2 g e).elim (hne19 g) (fun q => by have := hil19; omega)
            have hil21 : wn11.heap.size < wa21.heap.size := Nat.lt_of_lt_of_le hil19 hTa21.size
            refine hK.out _ _ (show _ ∧ _ from ⟨(l0.below hb21 l0.lt).cell 2, l1.below hb21 l1.lt⟩) (fun hHeld => ?_)
            clear hK K hHeld
            try simp only [List.setIfInBounds_toArray, List.set_cons_zero, List.set_cons_succ]
            have hHeld := (show _ ∧ _ from ⟨(l0.below hb21 l0.lt).cell 2, l1.below hb21 l1.lt⟩)
            refine wpAnyH_ready (rs := [9]) (by kernel_rfl) (by simp) (AllReadyH.cons rfl (fun K hK => ?_) AllReadyH.nil)
            refine step_append_k el26 (by rfl) rfl _ _ rfl va21 css rfl hou21 _ _ 1 _ [#[.int .i64 (s.came : Int), .int .i64 m.fr, .int .i64 m.to, .slice A3 q3 c3]] rfl hit21 (by rw [r2]; omega) (by omega) ?_
            intro vb wb hob hgb
            have hbb : Below w4.heap.size w4 wb := hb21.trans ((hgb.turn (S := fun b => Value.ownBlock va21 = some b) (fun g e => e)).below hb21.size hlo21)
            have hlb : ∀ g, vb.ownBlock = some g → w4.heap.size ≤ g := fun g e => (hgb.2 g e).elim (hlo21 g) (fun q => Nat.le_trans hb21.size q)
            obtain ⟨Ab, cb, hvb, hcb1, hcb2⟩ := ownK_form hob
            have hlb' : (css ++ ([#[.int .i64 (s.came : Int), .int .i64 m.fr, .int .i64 m.to, .slice A3 q3 c3]] : List (Array Value))).length = s.l.length + 1 := by rw [List.length_append, r2]; rfl
            rw [hlb'] at hvb hcb1
            subst hvb
            refine hK.out _ _ (show _ ∧ _ from ⟨(l0.below hbb l0.lt).cell 2, l1.below hbb l1.lt⟩) (fun hHeld => ?_)
            clear hK K hHeld
            try simp only [List.setIfInBounds_toArray, List.set_cons_zero, List.set_cons_succ]
            have hHeld := (show _ ∧ _ from ⟨(l0.below hbb l0.lt).cell 2, l1.below hbb l1.lt⟩)
            have l0b := l0.below hbb l0.lt
            have hcc := l0b.cell 1
            have hff := l0b.frozen 1
            refine wpAnyH_takeAt (i := 10) (d := 53) (v := ?vq7x) rfl rfl (by kernel_rfl) (by kernel_rfl) (by kernel_rfl) (fun _ _ _ h => h) (Or.inl ⟨by rfl, ?hyq7x⟩) hHeld ?_
            case hyq7x =>
              intro W hSw
              clear hSw
              (go_simp; try with_reducible rfl)
            simp only [List.setIfInBounds_toArray, List.set_cons_zero, List.set_cons_succ]
            refine wpAnyH_ready (rs := [11]) (by kernel_rfl) (by simp) (AllReadyH.cons rfl (fun K hK => ?_) AllReadyH.nil)
            go_simp
            have hTs : Turn (fun b => b = w.heap.size) wb (wb.setCell ⟨w.heap.size, 1, none⟩ (.slice Ab (s.l.length + 1) cb)) := (Turn.refl (fun b => b = w.heap.size) wb).setCell (p := ⟨w.heap.size, 1, none⟩) (fun _ => rfl) _
            have hos := hob.keep hTs (fun g e e' => by have := hlb g e; omega)
            have hr3 : ∀ (i : Nat) (p : Int × Msg) (cs : Array Value), s.l[i]? = some p → css[i]? = some cs → ItAt (wb.setCell ⟨w.heap.size, 1, none⟩ (.slice Ab (s.l.length + 1) cb)) (X8 w X) p cs := fun i p cs e1 e2 =>
              (((r3 i p cs e1 e2).keep (S := No) (Turn.of_below hbb No) (fun _ _ h => h.elim)).keep hTs (fun b _ e => .inr (by omega))).wide (fun b _ e => e.elim .inl (fun e => .inr e.1))
            have how := (ho4.below hbb).keep hTs (fun g e e' => by have := hn4 g e; omega)
            have hpt : ItAt (wb.setCell ⟨w.heap.size, 1, none⟩ (.slice Ab (s.l.length + 1) cb)) (X8 w X) ((s.came : Int), m) #[.int .i64 (s.came : Int), .int .i64 m.fr, .int .i64 m.to, .slice A3 q3 c3] := ⟨A3, q3, c3, rfl, how.bys (fun g e e' => by
              have := hn4 g e
              rcases e' with e' | e'
              · have := hX g e'; omega
              · omega)⟩
            have hfin : Grown8 w X s m (wb.setCell ⟨w.heap.size, 1, none⟩ (.slice Ab (s.l.length + 1) cb)) :=
              ⟨Ab, cb, l0b.set_ 1 _, its_snoc hos (fun g e e' => by
                have := hlb g e
                rcases e' with e' | e'
                · have := hX g e'; omega
                · omega) r2 hr3 hpt, hcb1, hcb2, (l2.below hbb l2.lt).keep hTs (by omega), (hb4.trans (hbb.mono (by omega))).trans (hTs.below (by have := hbb.size; omega) (fun b e => by omega)), fun b e => by have := hlb b e; omega⟩
            refine hK.out _ _ (show _ ∧ _ from ⟨((l0b.set_ 1 (.slice Ab (s.l.length + 1) cb)).cell 2), (l1.below hbb l1.lt).keep hTs (by omega)⟩) (fun hHeld => ?_)
            clear hK K
            try simp only [List.setIfInBounds_toArray, List.set_cons_zero, List.set_cons_succ]
            refine wpAnyH_done (by kernel_rfl) ?_ _
            go_wp2_with fail
            go_meet
            case rel => exact hfin
        · have cl23 := (l0.below hbd l0.lt).cell 1
          go_simp
          refine hK.out _ _ (show _ ∧ _ from ⟨(l0.below hbd l0.lt).cell 2, l1.below hbd l1.lt⟩) (fun hHeld => ?_)
          clear hK K hHeld
          try simp only [List.setIfInBounds_toArray, List.set_cons_zero, List.set_cons_succ]
          have hHeld := (show _ ∧ _ from ⟨(l0.below hbd l0.lt).cell 2, l1.below hbd l1.lt⟩)
          clear cl23
          refine wpAnyH_ready (rs := [0, 8]) (by kernel_rfl) (by simp) (AllReadyH.cons rfl (fun K hK => ?_) (AllReadyH.cons rfl (fun K hK => ?_) AllReadyH.nil))
          · go_simp
            have hu24 := ownK_empty wd 57 4
            have hb24 : Below w4.heap.size w4 (wd.alloc (.cells #[] 57)) := hbd.alloc hbd.size _
            have hw24 : w4.heap.size ≤ wd.heap.size := hbd.size
            have hlo24 : ∀ g, Value.ownBlock (.slice (some ⟨wd.heap.size, 0, none⟩) 0 0) = some g → w4.heap.size ≤ g := fun g e => by cases e; exact hw24
            refine hK.out _ _ (show _ ∧ _ from ⟨(l0.below hb24 l0.lt).cell 2, l1.below hb24 l1.lt⟩) (fun hHeld => ?_)
            clear hK K hHeld
            try simp only [List.setIfInBounds_toArray, List.set_cons_zero, List.set_cons_succ]
            have hHeld := (show _ ∧ _ from ⟨(l0.below hb24 l0.lt).cell 2, l1.below hb24 l1.lt⟩)
            generalize wd.alloc (.cells #[] 57) = wn24 at *
            refine wpAnyH_ready (rs := [3, 8]) (by kernel_rfl) (by simp) (AllReadyH.cons rfl (fun K hK => ?_) (AllReadyH.cons rfl (fun K hK => ?_) AllReadyH.nil))
            · refine step_append_k el26 (by rfl) rfl _ _ rfl (.slice (some ⟨wd.heap.size, 0, none⟩) 0 0) [] rfl hu24 _ _ s.l.length _ css rfl (r1.below hb24) (by simp) (by omega) ?_
              intro va25 wa25 hoa25 hga25
              have hTa25 : Turn (fun b => Value.ownBlock (.slice (some ⟨wd.heap.size, 0, none⟩) 0 0) = some b) wn24 wa25 := hga25.turn (fun g e => e)
              have hb25 : Below w4.heap.size w4 wa25 := hb24.trans (hTa25.below hb24.size hlo24)
              have hlo25 : ∀ g, va25.ownBlock = some g → w4.heap.size ≤ g := fun g e => (hga25.2 g e).elim (hlo24 g) (fun q => Nat.le_trans hb24.size q)
              have hou25 : OwnK wa25 57 4 va25 css := by simpa using hoa25
              refine hK.out _ _ (show _ ∧ _ from ⟨(l0.below hb25 l0.lt).cell 2, l1.below hb25 l1.lt⟩) (fun hHeld => ?_)
              clear hK K hHeld
              try simp only [List.setIfInBounds_toArray, List.set_cons_zero, List.set_cons_succ]
              have hHeld := (show _ ∧ _ from ⟨(l0.below hb25 l0.lt).cell 2, l1.below hb25 l1.lt⟩)
              refine wpAnyH_ready (rs := [8]) (by kernel_rfl) (by simp) (AllReadyH.cons rfl (fun K hK => ?_) AllReadyH.nil)
              go_simp
              have hi26 : Rd (wa25.alloc (.cells #[.int .i64 (s.came : Int), .int .i64 m.fr, .int .i64 m.to, .slice A3 q3 c3] 57)) (fun b => b ≠ wa25.heap.size) 4 (some ⟨wa25.heap.size, 0, none⟩) 1 [#[.int .i64 (s.came : Int), .int .i64 m.fr, .int .i64 m.to, .slice A3 q3 c3]] := rd_one wa25 57 #[.int .i64 (s.came : Int), .int .i64 m.fr, .int .i64 m.to, .slice A3 q3 c3] rfl (by simp [Value.oneCell']) (fun h => h rfl)
              have hb26 : Below w4.heap.size w4 (wa25.alloc (.cells #[.int .i64 (s.came : Int), .int .i64 m.fr, .int .i64 m.to, .slice A3 q3 c3] 57)) := hb25.alloc hb25.size _
              have hil26 : wa25.heap.size < (wa25.alloc (.cells #[.int .i64 (s.came : Int), .int .i64 m.fr, .int .i64 m.to, .slice A3 q3 c3] 57)).heap.size := by simp
              have hu26 := hou25.alloc (.cells #[.int .i64 (s.came : Int), .int .i64 m.fr, .int .i64 m.to, .slice A3 q3 c3] 57)
              have hne26 : ∀ g, Value.ownBlock va25 = some g → g ≠ wa25.heap.size := fun g e => by have := hou25.lt e; omega
              refine hK.out _ _ (show _ ∧ _ from ⟨(l0.below hb26 l0.lt).cell 2, l1.below hb26 l1.lt⟩) (fun hHeld => ?_)
              clear hK K hHeld
              try simp only [List.setIfInBounds_toArray, List.set_cons_zero, List.set_cons_succ]
              have hHeld := (show _ ∧ _ from ⟨(l0.below hb26 l0.lt).cell 2, l1.below hb26 l1.lt⟩)
              generalize wa25.alloc (.cells #[.int .i64 (s.came : Int), .int .i64 m.fr, .int .i64 m.to, .slice A3 q3 c3] 57) = wn26 at *
              refine wpAnyH_ready (rs := [9]) (by kernel_rfl) (by simp) (AllReadyH.cons rfl (fun K hK => ?_) AllReadyH.nil)
              refine step_append_k el26 (by rfl) rfl _ _ rfl va25 css rfl hu26 _ _ 1 _ [#[.int .i64 (s.came : Int), .int .i64 m.fr, .int .i64 m.to, .slice A3 q3 c3]] rfl hi26 (by rw [r2]; omega) (by omega) ?_
              intro vb wb hob hgb
              have hbb : Below w4.heap.size w4 wb := hb26.trans ((hgb.turn (S := fun b => Value.ownBlock va25 = some b) (fun g e => e)).below hb26.size hlo25)
              have hlb : ∀ g, vb.ownBlock = some g → w4.heap.size ≤ g := fun g e => (hgb.2 g e).elim (hlo25 g) (fun q => Nat.le_trans hb26.size q)
              obtain ⟨Ab, cb, hvb, hcb1, hcb2⟩ := ownK_form hob
              have hlb' : (css ++ ([#[.int .i64 (s.came : Int), .int .i64 m.fr, .int .i64 m.to, .slice A3 q3 c3]] : List (Array Value))).length = s.l.length + 1 := by rw [List.length_append, r2]; rfl
              rw [hlb'] at hvb hcb1
              subst hvb
              refine hK.out _ _ (show _ ∧ _ from ⟨(l0.below hbb l0.lt).cell 2, l1.below hbb l1.lt⟩) (fun hHeld => ?_)
              clear hK K hHeld
              try simp only [List.setIfInBounds_toArray, List.set_cons_zero, List.set_cons_succ]
              have hHeld := (show _ ∧ _ from ⟨(l0.below hbb l0.lt).cell 2, l1.below hbb l1.lt⟩)
              have l0b := l0.below hbb l0.lt
              have hcc := l0b.cell 1
              have hff := l0b.frozen 1
              refine wpAnyH_takeAt (i := 10) (d := 53) (v := ?vq8x) rfl rfl (by kernel_rfl) (by kernel_rfl) (by kernel_rfl) (fun _ _ _ h => h) (Or.inl ⟨by rfl, ?hyq8x⟩) hHeld ?_
              case hyq8x =>
                intro W hSw
                clear hSw
                (go_simp; try with_reducible rfl)
              simp only [List.setIfInBounds_toArray, List.set_cons_zero, List.set_cons_succ]
              refine wpAnyH_ready (rs := [11]) (by kernel_rfl) (by simp) (AllReadyH.cons rfl (fun K hK => ?_) AllReadyH.nil)
              go_simp
              have hTs : Turn (fun b => b = w.heap.size) wb (wb.setCell ⟨w.heap.size, 1, none⟩ (.slice Ab (s.l.length + 1) cb)) := (Turn.refl (fun b => b = w.heap.size) wb).setCell (p := ⟨w.heap.size, 1, none⟩) (fun _ => rfl) _
              have hos := hob.keep hTs (fun g e e' => by have := hlb g e; omega)
              have hr3 : ∀ (i : Nat) (p : Int × Msg) (cs : Array Value), s.l[i]? = some p → css[i]? = some cs → ItAt (wb.setCell ⟨w.heap.size, 1, none⟩ (.slice Ab (s.l.length + 1) cb)) (X8 w X) p cs := fun i p cs e1 e2 =>
                (((r3 i p cs e1 e2).keep (S := No) (Turn.of_below hbb No) (fun _ _ h => h.elim)).keep hTs (fun b _ e => .inr (by omega))).wide (fun b _ e => e.elim .inl (fun e => .inr e.1))
              have how := (ho4.below hbb).keep hTs (fun g e e' => by have := hn4 g e; omega)
              have hpt : ItAt (wb.setCell ⟨w.heap.size, 1, none⟩ (.slice Ab (s.l.length + 1) cb)) (X8 w X) ((s.came : Int), m) #[.int .i64 (s.came : Int), .int .i64 m.fr, .int .i64 m.to, .slice A3 q3 c3] := ⟨A3, q3, c3, rfl, how.bys (fun g e e' => by
                have := hn4 g e
                rcases e' with e' | e'
                · have := hX g e'; omega
                · omega)⟩
              have hfin : Grown8 w X s m (wb.setCell ⟨w.heap.size, 1, none⟩ (.slice Ab (s.l.length + 1) cb)) :=
                ⟨Ab, cb, l0b.set_ 1 _, its_snoc hos (fun g e e' => by
                  have := hlb g e
                  rcases e' with e' | e'
                  · have := hX g e'; omega
                  · omega) r2 hr3 hpt, hcb1, hcb2, (l2.below hbb l2.lt).keep hTs (by omega), (hb4.trans (hbb.mono (by omega))).trans (hTs.below (by have := hbb.size; omega) (fun b e => by omega)), fun b e => by have := hlb b e; omega⟩
              refine hK.out _ _ (show _ ∧ _ from ⟨((l0b.set_ 1 (.slice Ab (s.l.length + 1) cb)).cell 2), (l1.below hbb l1.lt).keep hTs (by omega)⟩) (fun hHeld => ?_)
              clear hK K
              try simp only [List.setIfInBounds_toArray, List.set_cons_zero, List.set_cons_succ]
              refine wpAnyH_done (by kernel_rfl) ?_ _
              go_wp2_with fail
              go_meet
              case rel => exact hfin
            · go_simp
              have hi28 : Rd (wn24.alloc (.cells #[.int .i64 (s.came : Int), .int .i64 m.fr, .int .i64 m.to, .slice A3 q3 c3] 57)) (fun b => b ≠ wn24.heap.size) 4 (some ⟨wn24.heap.size, 0, none⟩) 1 [#[.int .i64 (s.came : Int), .int .i64 m.fr, .int .i64 m.to, .slice A3 q3 c3]] := rd_one wn24 57 #[.int .i64 (s.came : Int), .int .i64 m.fr, .int .i64 m.to, .slice A3 q3 c3] rfl (by simp [Value.oneCell']) (fun h => h rfl)
              have hb28 : Below w4.heap.size w4 (wn24.alloc (.cells #[.int .i64 (s.came : Int), .int .i64 m.fr, .int .i64 m.to, .slice A3 q3 c3] 57)) := hb24.alloc hb24.size _
              have hil28 : wn24.heap.size < (wn24.alloc (.cells #[.int .i64 (s.came : Int), .int .i64 m.fr, .int .i64 m.to, .slice A3 q3 c3] 57)).heap.size := by simp
              have hu28 := hu24.alloc (.cells #[.int .i64 (s.came : Int), .int .i64 m.fr, .int .i64 m.to, .slice A3 q3 c3] 57)
              have hne28 : ∀ g, Value.ownBlock (.slice (some ⟨wd.heap.size, 0, none⟩) 0 0) = some g → g ≠ wn24.heap.size := fun g e => by have := hu24.lt e; omega
              refine hK.out _ _ (show _ ∧ _ from ⟨(l0.below hb28 l0.lt).cell 2, l1.below hb28 l1.lt⟩) (fun hHeld => ?_)
              clear hK K hHeld
              try simp only [List.setIfInBounds_toArray, List.set_cons_zero, List.set_cons_succ]
              have hHeld := (show _ ∧ _ from ⟨(l0.below hb28 l0.lt).cell 2, l1.below hb28 l1.lt⟩)
              generalize wn24.alloc (.cells #[.int .i64 (s.came : Int), .int .i64 m.fr, .int .i64 m.to, .slice A3 q3 c3] 57) = wn28 at *
              refine wpAnyH_ready (rs := [3]) (by kernel_rfl) (by simp) (AllReadyH.cons rfl (fun K hK => ?_) AllReadyH.nil)
              refine step_append_k el26 (by rfl) rfl _ _ rfl (.slice (some ⟨wd.heap.size, 0, none⟩) 0 0) [] rfl hu28 _ _ s.l.length _ css rfl (r1.below hb28) (by simp) (by omega) ?_
              intro va29 wa29 hoa29 hga29
              have hTa29 : Turn (fun b => Value.ownBlock (.slice (some ⟨wd.heap.size, 0, none⟩) 0 0) = some b) wn28 wa29 := hga29.turn (fun g e => e)
              have hb29 : Below w4.heap.size w4 wa29 := hb28.trans (hTa29.below hb28.size hlo24)
              have hlo29 : ∀ g, va29.ownBlock = some g → w4.heap.size ≤ g := fun g e => (hga29.2 g e).elim (hlo24 g) (fun q => Nat.le_trans hb28.size q)
              have hou29 : OwnK wa29 57 4 va29 css := by simpa using hoa29
              have hit29 := hi28.keep hTa29 (fun b _ e => hne28 b e)
              have hnf29 : ∀ g, va29.ownBlock = some g → g ≠ wn24.heap.size := fun g e => (hga29.2 g e).elim (hne28 g) (fun q => by have := hil28; omega)
              have hil29 : wn24.heap.size < wa29.heap.size := Nat.lt_of_lt_of_le hil28 hTa29.size
              refine hK.out _ _ (show _ ∧ _ from ⟨(l0.below hb29 l0.lt).cell 2, l1.below hb29 l1.lt⟩) (fun hHeld => ?_)
              clear hK K hHeld
              try simp only [List.setIfInBounds_toArray, List.set_cons_zero, List.set_cons_succ]
              have hHeld := (show _ ∧ _ from ⟨(l0.below hb29 l0.lt).cell 2, l1.below hb29 l1.lt⟩)
              refine wpAnyH_ready (rs := [9]) (by kernel_rfl) (by simp) (AllReadyH.cons rfl (fun K hK => ?_) AllReadyH.nil)
              refine step_append_k el26 (by rfl) rfl _ _ rfl va29 css rfl hou29 _ _ 1 _ [#[.int .i64 (s.came : Int), .int .i64 m.fr, .int .i64 m.to, .slice A3 q3 c3]] rfl hit29 (by rw [r2]; omega) (by omega) ?_
              intro vb wb hob hgb
              have hbb : Below w4.heap.size w4 wb := hb29.trans ((hgb.turn (S := fun b => Value.ownBlock va29 = some b) (fun g e => e)).below hb29.size hlo29)
              have hlb : ∀ g, vb.ownBlock = some g → w4.heap.size ≤ g := fun g e => (hgb.2 g e).elim (hlo29 g) (fun q => Nat.le_trans hb29.size q)
              obtain ⟨Ab, cb, hvb, hcb1, hcb2⟩ := ownK_form hob
              have hlb' : (css ++ ([#[.int .i64 (s.came : Int), .int .i64 m.fr, .int .i64 m.to, .slice A3 q3 c3]] : List (Array Value))).length = s.l.length + 1 := by rw [List.length_append, r2]; rfl
              rw [hlb'] at hvb hcb1
              subst hvb
              refine hK.out _ _ (show _ ∧ _ from ⟨(l0.below hbb l0.lt).cell 2, l1.below hbb l1.lt⟩) (fun hHeld => ?_)
              clear hK K hHeld
              try simp only [List.setIfInBounds_toArray, List.set_cons_zero, List.set_cons_succ]
              have hHeld := (show _ ∧ _ from ⟨(l0.below hbb l0.lt).cell 2, l1.below hbb l1.lt⟩)
              have l0b := l0.below hbb l0.lt
              have hcc := l0b.cell 1
              have hff := l0b.frozen 1
              refine wpAnyH_takeAt (i := 10) (d := 53) (v := ?vq9x) rfl rfl (by kernel_rfl) (by kernel_rfl) (by kernel_rfl) (fun _ _ _ h => h) (Or.inl ⟨by rfl, ?hyq9x⟩) hHeld ?_
              case hyq9x =>
                intro W hSw
                clear hSw
                (go_simp; try with_reducible rfl)
              simp only [List.setIfInBounds_toArray, List.set_cons_zero, List.set_cons_succ]
              refine wpAnyH_ready (rs := [11]) (by kernel_rfl) (by simp) (AllReadyH.cons rfl (fun K hK => ?_) AllReadyH.nil)
              go_simp
              have hTs : Turn (fun b => b = w.heap.size) wb (wb.setCell ⟨w.heap.size, 1, none⟩ (.slice Ab (s.l.length + 1) cb)) := (Turn.refl (fun b => b = w.heap.size) wb).setCell (p := ⟨w.heap.size, 1, none⟩) (fun _ => rfl) _
              have hos := hob.keep hTs (fun g e e' => by have := hlb g e; omega)
              have hr3 : ∀ (i : Nat) (p : Int × Msg) (cs : Array Value), s.l[i]? = some p → css[i]? = some cs → ItAt (wb.setCell ⟨w.heap.size, 1, none⟩ (.slice Ab (s.l.length + 1) cb)) (X8 w X) p cs := fun i p cs e1 e2 =>
                (((r3 i p cs e1 e2).keep (S := No) (Turn.of_below hbb No) (fun _ _ h => h.elim)).keep hTs (fun b _ e => .inr (by omega))).wide (fun b _ e => e.elim .inl (fun e => .inr e.1))
              have how := (ho4.below hbb).keep hTs (fun g e e' => by have := hn4 g e; omega)
              have hpt : ItAt (wb.setCell ⟨w.heap.size, 1, none⟩ (.slice Ab (s.l.length + 1) cb)) (X8 w X) ((s.came : Int), m) #[.int .i64 (s.came : Int), .int .i64 m.fr, .int .i64 m.to, .slice A3 q3 c3] := ⟨A3, q3, c3, rfl, how.bys (fun g e e' => by
                have := hn4 g e
                rcases e' with e' | e'
                · have := hX g e'; omega
                · omega)⟩
              have hfin : Grown8 w X s m (wb.setCell ⟨w.heap.size, 1, none⟩ (.slice Ab (s.l.length + 1) cb)) :=
                ⟨Ab, cb, l0b.set_ 1 _, its_snoc hos (fun g e e' => by
                  have := hlb g e
                  rcases e' with e' | e'
                  · have := hX g e'; omega
                  · omega) r2 hr3 hpt, hcb1, hcb2, (l2.below hbb l2.lt).keep hTs (by omega), (hb4.trans (hbb.mono (by omega))).trans (hTs.below (by have := hbb.size; omega) (fun b e => by omega)), fun b e => by have := hlb b e; omega⟩
              refine hK.out _ _ (show _ ∧ _ from ⟨((l0b.set_ 1 (.slice Ab (s.l.length + 1) cb)).cell 2), (l1.below hbb l1.lt).keep hTs (by omega)⟩) (fun hHeld => ?_)
              clear hK K
              try simp only [List.setIfInBounds_toArray, List.set_cons_zero, List.set_cons_succ]
              refine wpAnyH_done (by kernel_rfl) ?_ _
              go_wp2_with fail
              go_meet
              case rel => exact hfin
          · go_simp
            have hi31 : Rd (wd.alloc (.cells #[.int .i64 (s.came : Int), .int .i64 m.fr, .int .i64 m.to, .slice A3 q3 c3] 57)) (fun b => b ≠ wd.heap.size) 4 (some ⟨wd.heap.size, 0, none⟩) 1 [#[.int .i64 (s.came : Int), .int .i64 m.fr, .int .i64 m.to, .slice A3 q3 c3]] := rd_one wd 57 #[.int .i64 (s.came : Int), .int .i64 m.fr, .int .i64 m.to, .slice A3 q3 c3] rfl (by simp [Value.oneCell']) (fun h => h rfl)
            have hb31 : Below w4.heap.size w4 (wd.alloc (.cells #[.int .i64 (s.came : Int), .int .i64 m.fr, .int .i64 m.to, .slice A3 q3 c3] 57)) := hbd.alloc hbd.size _
            have hil31 : wd.heap.size < (wd.alloc (.cells #[.int .i64 (s.came : Int), .int .i64 m.fr, .int .i64 m.to, .slice A3 q3 c3] 57)).heap.size := by simp
            refine hK.out _ _ (show _ ∧ _ from ⟨(l0.below hb31 l0.lt).cell 2, l1.below hb31 l1.lt⟩) (fun hHeld => ?_)
            clear hK K hHeld
            try simp only [List.setIfInBounds_toArray, List.set_cons_zero, List.set_cons_succ]
            have hHeld := (show _ ∧ _ from ⟨(l0.below hb31 l0.lt).cell 2, l1.below hb31 l1.lt⟩)
            generalize wd.alloc (.cells #[.int .i64 (s.came : Int), .int .i64 m.fr, .int .i64 m.to, .slice A3 q3 c3] 57) = wn31 at *
            refine wpAnyH_ready (rs := [0]) (by kernel_rfl) (by simp) (AllReadyH.cons rfl (fun K hK => ?_) AllReadyH.nil)
            go_simp
            have hu32 := ownK_empty wn31 57 4
            have hb32 : Below w4.heap.size w4 (wn31.alloc (.cells #[] 57)) := hb31.alloc hb31.size _
            have hw32 : w4.heap.size ≤ wn31.heap.size := hb31.size
            have hit32 := hi31.alloc (.cells #[] 57)
            have hne32 : ∀ g, Value.ownBlock (.slice (some ⟨wn31.heap.size, 0, none⟩) 0 0) = some g → g ≠ wd.heap.size := fun g e => by cases e; show wn31.heap.size ≠ _; have := hil31; omega
            have hil32 : wd.heap.size < (wn31.alloc (.cells #[] 57)).heap.size := by have := hil31; simp; omega
            have hlo32 : ∀ g, Value.ownBlock (.slice (some ⟨wn31.heap.size, 0, none⟩) 0 0) = some g → w4.heap.size ≤ g := fun g e => by cases e; exact hw32
            refine hK.out _ _ (show _ ∧ _ from ⟨(l0.below hb32 l0.lt).cell 2, l1.below hb32 l1.lt⟩) (fun hHeld => ?_)
            clear hK K hHeld
            try simp only [List.setIfInBounds_toArray, List.set_cons_zero, List.set_cons_succ]
            have hHeld := (show _ ∧ _ from ⟨(l0.below hb32 l0.lt).cell 2, l1.below hb32 l1.lt⟩)
            generalize wn31.alloc (.cells #[] 57) = wn32 at *
            refine wpAnyH_ready (rs := [3]) (by kernel_rfl) (by simp) (AllReadyH.cons rfl (fun K hK => ?_) AllReadyH.nil)
            refine step_append_k el26 (by rfl) rfl _ _ rfl (.slice (some ⟨wn31.heap.size, 0, none⟩) 0 0) [] rfl hu32 _ _ s.l.length _ css rfl (r1.below hb32) (by simp) (by omega) ?_
            intro va33 wa33 hoa33 hga33
            have hTa33 : Turn (fun b => Value.ownBlock (.slice (some ⟨wn31.heap.size, 0, none⟩) 0 0) = some b) wn32 wa33 := hga33.turn (fun g e => e)
            have hb33 : Below w4.heap.size w4 wa33 := hb32.trans (hTa33.below hb32.size hlo32)
            have hlo33 : ∀ g, va33.ownBlock = some g → w4.heap.size ≤ g := fun g e => (hga33.2 g e).elim (hlo32 g) (fun q => Nat.le_trans hb32.size q)
            have hou33 : OwnK wa33 57 4 va33 css := by simpa using hoa33
            have hit33 := hit32.keep hTa33 (fun b _ e => hne32 b e)
            have hnf33 : ∀ g, va33.ownBlock = some g → g ≠ wd.heap.size := fun g e => (hga33.2 g e).elim (hne32 g) (fun q => by have := hil32; omega)
            have hil33 : wd.heap.size < wa33.heap.size := Nat.lt_of_lt_of_le hil32 hTa33.size
            refine hK.out _ _ (show _ ∧ _ from ⟨(l0.below hb33 l0.lt).cell 2, l1.below hb33 l1.lt⟩) (fun hHeld => ?_)
            clear hK K hHeld
            try simp only [List.setIfInBounds_toArray, List.set_cons_zero, List.set_cons_succ]
            have hHeld := (show _ ∧ _ from ⟨(l0.below hb33 l0.lt).cell 2, l1.below hb33 l1.lt⟩)
            refine wpAnyH_ready (rs := [9]) (by kernel_rfl) (by simp) (AllReadyH.cons rfl (fun K hK => ?_) AllReadyH.nil)
            refine step_append_k el26 (by rfl) rfl _ _ rfl va33 css rfl hou33 _ _ 1 _ [#[.int .i64 (s.came : Int), .int .i64 m.fr, .int .i64 m.to, .slice A3 q3 c3]] rfl hit33 (by rw [r2]; omega) (by omega) ?_
            intro vb wb hob hgb
            have hbb : Below w4.heap.size w4 wb := hb33.trans ((hgb.turn (S := fun b => Value.ownBlock va33 = some b) (fun g e => e)).below hb33.size hlo33)
            have hlb : ∀ g, vb.ownBlock = some g → w4.heap.size ≤ g := fun g e => (hgb.2 g e).elim (hlo33 g) (fun q => Nat.le_trans hb33.size q)
            obtain ⟨Ab, cb, hvb, hcb1, hcb2⟩ := ownK_form hob
            have hlb' : (css ++ ([#[.int .i64 (s.came : Int), .int .i64 m.fr, .int .i64 m.to, .slice A3 q3 c3]] : List (Array Value))).length = s.l.length + 1 := by rw [List.length_append, r2]; rfl
            rw [hlb'] at hvb hcb1
            subst hvb
            refine hK.out _ _ (show _ ∧ _ from ⟨(l0.below hbb l0.lt).cell 2, l1.below hbb l1.lt⟩) (fun hHeld => ?_)
            clear hK K hHeld
            try simp only [List.setIfInBounds_toArray, List.set_cons_zero, List.set_cons_succ]
            have hHeld := (show _ ∧ _ from ⟨(l0.below hbb l0.lt).cell 2, l1.below hbb l1.lt⟩)
            have l0b := l0.below hbb l0.lt
            have hcc := l0b.cell 1
            have hff := l0b.frozen 1
            refine wpAnyH_takeAt (i := 10) (d := 53) (v := ?vq10x) rfl rfl (by kernel_rfl) (by kernel_rfl) (by kernel_rfl) (fun _ _ _ h => h) (Or.inl ⟨by rfl, ?hyq10x⟩) hHeld ?_
            case hyq10x =>
              intro W hSw
              clear hSw
              (go_simp; try with_reducible rfl)
            simp only [List.setIfInBounds_toArray, List.set_cons_zero, List.set_cons_succ]
            refine wpAnyH_ready (rs := [11]) (by kernel_rfl) (by simp) (AllReadyH.cons rfl (fun K hK => ?_) AllReadyH.nil)
            go_simp
            have hTs : Turn (fun b => b = w.heap.size) wb (wb.setCell ⟨w.heap.size, 1, none⟩ (.slice Ab (s.l.length + 1) cb)) := (Turn.refl (fun b => b = w.heap.size) wb).setCell (p := ⟨w.heap.size, 1, none⟩) (fun _ => rfl) _
            have hos := hob.keep hTs (fun g e e' => by have := hlb g e; omega)
            have hr3 : ∀ (i : Nat) (p : Int × Msg) (cs : Array Value), s.l[i]? = some p → css[i]? = some cs → ItAt (wb.setCell ⟨w.heap.size, 1, none⟩ (.slice Ab (s.l.length + 1) cb)) (X8 w X) p cs := fun i p cs e1 e2 =>
              (((r3 i p cs e1 e2).keep (S := No) (Turn.of_below hbb No) (fun _ _ h => h.elim)).keep hTs (fun b _ e => .inr (by omega))).wide (fun b _ e => e.elim .inl (fun e => .inr e.1))
            have how := (ho4.below hbb).keep hTs (fun g e e' => by have := hn4 g e; omega)
            have hpt : ItAt (wb.setCell ⟨w.heap.size, 1, none⟩ (.slice Ab (s.l.length + 1) cb)) (X8 w X) ((s.came : Int), m) #[.int .i64 (s.came : Int), .int .i64 m.fr, .int .i64 m.to, .slice A3 q3 c3] := ⟨A3, q3, c3, rfl, how.bys (fun g e e' => by
              have := hn4 g e
              rcases e' with e' | e'
              · have := hX g e'; omega
              · omega)⟩
            have hfin : Grown8 w X s m (wb.setCell ⟨w.heap.size, 1, none⟩ (.slice Ab (s.l.length + 1) cb)) :=
              ⟨Ab, cb, l0b.set_ 1 _, its_snoc hos (fun g e e' => by
                have := hlb g e
                rcases e' with e' | e'
                · have := hX g e'; omega
                · omega) r2 hr3 hpt, hcb1, hcb2, (l2.below hbb l2.lt).keep hTs (by omega), (hb4.trans (hbb.mono (by omega))).trans (hTs.below (by have := hbb.size; omega) (fun b e => by omega)), fun b e => by have := hlb b e; omega⟩
            refine hK.out _ _ (show _ ∧ _ from ⟨((l0b.set_ 1 (.slice Ab (s.l.length + 1) cb)).cell 2), (l1.below hbb l1.lt).keep hTs (by omega)⟩) (fun hHeld => ?_)
            clear hK K
            try simp only [List.setIfInBounds_toArray, List.set_cons_zero, List.set_cons_succ]
            refine wpAnyH_done (by kernel_rfl) ?_ _
            go_wp2_with fail
            go_meet
            case rel => exact hfin
        · go_simp
          have hi35 : Rd (wd.alloc (.cells #[.int .i64 (s.came : Int), .int .i64 m.fr, .int .i64 m.to, .slice A3 q3 c3] 57)) (fun b => b ≠ wd.heap.size) 4 (some ⟨wd.heap.size, 0, none⟩) 1 [#[.int .i64 (s.came : Int), .int .i64 m.fr, .int .i64 m.to, .slice A3 q3 c3]] := rd_one wd 57 #[.int .i64 (s.came : Int), .int .i64 m.fr, .int .i64 m.to, .slice A3 q3 c3] rfl (by simp [Value.oneCell']) (fun h => h rfl)
          have hb35 : Below w4.heap.size w4 (wd.alloc (.cells #[.int .i64 (s.came : Int), .int .i64 m.fr, .int .i64 m.to, .slice A3 q3 c3] 57)) := hbd.alloc hbd.size _
          have hil35 : wd.heap.size < (wd.alloc (.cells #[.int .i64 (s.came : Int), .int .i64 m.fr, .int .i64 m.to, .slice A3 q3 c3] 57)).heap.size := by simp
          refine hK.out _ _ (show _ ∧ _ from ⟨(l0.below hb35 l0.lt).cell 2, l1.below hb35 l1.lt⟩) (fun hHeld => ?_)
          clear hK K hHeld
          try simp only [List.setIfInBounds_toArray, List.set_cons_zero, List.set_cons_succ]
          have hHeld := (show _ ∧ _ from ⟨(l0.below hb35 l0.lt).cell 2, l1.below hb35 l1.lt⟩)
          generalize wd.alloc (.cells #[.int .i64 (s.came : Int), .int .i64 m.fr, .int .i64 m.to, .slice A3 q3 c3] 57) = wn35 at *
          refine wpAnyH_ready (rs := [0, 2]) (by kernel_rfl) (by simp) (AllReadyH.cons rfl (fun K hK => ?_) (AllReadyH.cons rfl (fun K hK => ?_) AllReadyH.nil))
          · go_simp
            have hu36 := ownK_empty wn35 57 4
            have hb36 : Below w4.heap.size w4 (wn35.alloc (.cells #[] 57)) := hb35.alloc hb35.size _
            have hw36 : w4.heap.size ≤ wn35.heap.size := hb35.size
            have hit36 := hi35.alloc (.cells #[] 57)
            have hne36 : ∀ g, Value.ownBlock (.slice (some ⟨wn35.heap.size, 0, none⟩) 0 0) = some g → g ≠ wd.heap.size := fun g e => by cases e; show wn35.heap.size ≠ _; have := hil35; omega
            have hil36 : wd.heap.size < (wn35.alloc (.cells #[] 57)).heap.size := by have := hil35; simp; omega
            have hlo36 : ∀ g, Value.ownBlock (.slice (some ⟨wn35.heap.size, 0, none⟩) 0 0) = some g → w4.heap.size ≤ g := fun g e => by cases e; exact hw36
            refine hK.out _ _ (show _ ∧ _ from ⟨(l0.below hb36 l0.lt).cell 2, l1.below hb36 l1.lt⟩) (fun hHeld => ?_)
            clear hK K hHeld
            try simp only [List.setIfInBounds_toArray, List.set_cons_zero, List.set_cons_succ]
            have hHeld := (show _ ∧ _ from ⟨(l0.below hb36 l0.lt).cell 2, l1.below hb36 l1.lt⟩)
            generalize wn35.alloc (.cells #[] 57) = wn36 at *
            refine wpAnyH_ready (rs := [2]) (by kernel_rfl) (by simp) (AllReadyH.cons rfl (fun K hK => ?_) AllReadyH.nil)
            have cl37 := (l0.below hb36 l0.lt).cell 1
            go_simp
            refine hK.out _ _ (show _ ∧ _ from ⟨(l0.below hb36 l0.lt).cell 2, l1.below hb36 l1.lt⟩) (fun hHeld => ?_)
            clear hK K hHeld
            try simp only [List.setIfInBounds_toArray, List.set_cons_zero, List.set_cons_succ]
            have hHeld := (show _ ∧ _ from ⟨(l0.below hb36 l0.lt).cell 2, l1.below hb36 l1.lt⟩)
            clear cl37
            refine wpAnyH_ready (rs := [3]) (by kernel_rfl) (by simp) (AllReadyH.cons rfl (fun K hK => ?_) AllReadyH.nil)
            refine step_append_k el26 (by rfl) rfl _ _ rfl (.slice (some ⟨wn35.heap.size, 0, none⟩) 0 0) [] rfl hu36 _ _ s.l.length _ css rfl (r1.below hb36) (by simp) (by omega) ?_
            intro va38 wa38 hoa38 hga38
            have hTa38 : Turn (fun b => Value.ownBlock (.slice (some ⟨wn35.heap.size, 0, none⟩) 0 0) = some b) wn36 wa38 := hga38.turn (fun g e => e)
            have hb38 : Below w4.heap.size w4 wa38 := hb36.trans (hTa38.below hb36.size hlo36)
            have hlo38 : ∀ g, va38.ownBlock = some g → w4.heap.size ≤ g := fun g e => (hga38.2 g e).elim (hlo36 g) (fun q => Nat.le_trans hb36.size q)
            have hou38 : OwnK wa38 57 4 va38 css := by simpa using hoa38
            have hit38 := hit36.keep hTa38 (fun b _ e => hne36 b e)
            have hnf38 : ∀ g, va38.ownBlock = some g → g ≠ wd.heap.size := fun g e => (hga38.2 g e).elim (hne36 g) (fun q => by have := hil36; omega)
            have hil38 : wd.heap.size < wa38.heap.size := Nat.lt_of_lt_of_le hil36 hTa38.size
            refine hK.out _ _ (show _ ∧ _ from ⟨(l0.below hb38 l0.lt).cell 2, l1.below hb38 l1.lt⟩) (fun hHeld => ?_)
            clear hK K hHeld
            try simp only [List.setIfInBounds_toArray, List.set_cons_zero, List.set_cons_succ]
            have hHeld := (show _ ∧ _ from ⟨(l0.below hb38 l0.lt).cell 2, l1.below hb38 l1.lt⟩)
            refine wpAnyH_ready (rs := [9]) (by kernel_rfl) (by simp) (AllReadyH.cons rfl (fun K hK => ?_) AllReadyH.nil)
            refine step_append_k el26 (by rfl) rfl _ _ rfl va38 css rfl hou38 _ _ 1 _ [#[.int .i64 (s.came : Int), .int .i64 m.fr, .int .i64 m.to, .slice A3 q3 c3]] rfl hit38 (by rw [r2]; omega) (by omega) ?_
            intro vb wb hob hgb
            have hbb : Below w4.heap.size w4 wb := hb38.trans ((hgb.turn (S := fun b => Value.ownBlock va38 = some b) (fun g e => e)).below hb38.size hlo38)
            have hlb : ∀ g, vb.ownBlock = some g → w4.heap.size ≤ g := fun g e => (hgb.2 g e).elim (hlo38 g) (fun q => Nat.le_trans hb38.size q)
            obtain ⟨Ab, cb, hvb, hcb1, hcb2⟩ := ownK_form hob
            have hlb' : (css ++ ([#[.int .i64 (s.came : Int), .int .i64 m.fr, .int .i64 m.to, .slice A3 q3 c3]] : List (Array Value))).length = s.l.length + 1 := by rw [List.length_append, r2]; rfl
            rw [hlb'] at hvb hcb1
            subst hvb
            refine hK.out _ _ (show _ ∧ _ from ⟨(l0.below hbb l0.lt).cell 2, l1.below hbb l1.lt⟩) (fun hHeld => ?_)
            clear hK K hHeld
            try simp only [List.setIfInBounds_toArray, List.set_cons_zero, List.set_cons_succ]
            have hHeld := (show _ ∧ _ from ⟨(l0.below hbb l0.lt).cell 2, l1.below hbb l1.lt⟩)
            have l0b := l0.below hbb l0.lt
            have hcc := l0b.cell 1
            have hff := l0b.frozen 1
            refine wpAnyH_takeAt (i := 10) (d := 53) (v := ?vq11x) rfl rfl (by kernel_rfl) (by kernel_rfl) (by kernel_rfl) (fun _ _ _ h => h) (Or.inl ⟨by rfl, ?hyq11x⟩) hHeld ?_
            case hyq11x =>
              intro W hSw
              clear hSw
              (go_simp; try with_reducible rfl)
            simp only [List.setIfInBounds_toArray, List.set_cons_zero, List.set_cons_succ]
            refine wpAnyH_ready (rs := [11]) (by kernel_rfl) (by simp) (AllReadyH.cons rfl (fun K hK => ?_) AllReadyH.nil)
            go_simp
            have hTs : Turn (fun b => b = w.heap.size) wb (wb.setCell ⟨w.heap.size, 1, none⟩ (.slice Ab (s.l.length + 1) cb)) := (Turn.refl (fun b => b = w.heap.size) wb).setCell (p := ⟨w.heap.size, 1, none⟩) (fun _ => rfl) _
            have hos := hob.keep hTs (fun g e e' => by have := hlb g e; omega)
            have hr3 : ∀ (i : Nat) (p : Int × Msg) (cs : Array Value), s.l[i]? = some p → css[i]? = some cs → ItAt (wb.setCell ⟨w.heap.size, 1, none⟩ (.slice Ab (s.l.length + 1) cb)) (X8 w X) p cs := fun i p cs e1 e2 =>
              (((r3 i p cs e1 e2).keep (S := No) (Turn.of_below hbb No) (fun _ _ h => h.elim)).keep hTs (fun b _ e => .inr (by omega))).wide (fun b _ e => e.elim .inl (fun e => .inr e.1))
            have how := (ho4.below hbb).keep hTs (fun g e e' => by have := hn4 g e; omega)
            have hpt : ItAt (wb.setCell ⟨w.heap.size, 1, none⟩ (.slice Ab (s.l.length + 1) cb)) (X8 w X) ((s.came : Int), m) #[.int .i64 (s.came : Int), .int .i64 m.fr, .int .i64 m.to, .slice A3 q3 c3] := ⟨A3, q3, c3, rfl, how.bys (fun g e e' => by
              have := hn4 g e
              rcases e' with e' | e'
              · have := hX g e'; omega
              · omega)⟩
            have hfin : Grown8 w X s m (wb.setCell ⟨w.heap.size, 1, none⟩ (.slice Ab (s.l.length + 1) cb)) :=
              ⟨Ab, cb, l0b.set_ 1 _, its_snoc hos (fun g e e' => by
                have := hlb g e
                rcases e' with e' | e'
                · have := hX g e'; omega
                · omega) r2 hr3 hpt, hcb1, hcb2, (l2.below hbb l2.lt).keep hTs (by omega), (hb4.trans (hbb.mono (by omega))).trans (hTs.below (by have := hbb.size; omega) (fun b e => by omega)), fun b e => by have := hlb b e; omega⟩
            refine hK.out _ _ (show _ ∧ _ from ⟨((l0b.set_ 1 (.slice Ab (s.l.length + 1) cb)).cell 2), (l1.below hbb l1.lt).keep hTs (by omega)⟩) (fun hHeld => ?_)
            clear hK K
            try simp only [List.setIfInBounds_toArray, List.set_cons_zero, List.set_cons_succ]
            refine wpAnyH_done (by kernel_rfl) ?_ _
            go_wp2_with fail
            go_meet
            case rel => exact hfin
          · have cl40 := (l0.below hb35 l0.lt).cell 1
            go_simp
            refine hK.out _ _ (show _ ∧ _ from ⟨(l0.below hb35 l0.lt).cell 2, l1.below hb35 l1.lt⟩) (fun hHeld => ?_)
            clear hK K hHeld
            try simp only [List.setIfInBounds_toArray, List.set_cons_zero, List.set_cons_succ]
            have hHeld := (show _ ∧ _ from ⟨(l0.below hb35 l0.lt).cell 2, l1.below hb35 l1.lt⟩)
            clear cl40
            refine wpAnyH_ready (rs := [0]) (by kernel_rfl) (by simp) (AllReadyH.cons rfl (fun K hK => ?_) AllReadyH.nil)
            go_simp
            have hu41 := ownK_empty wn35 57 4
            have hb41 : Below w4.heap.size w4 (wn35.alloc (.cells #[] 57)) := hb35.alloc hb35.size _
            have hw41 : w4.heap.size ≤ wn35.heap.size := hb35.size
            have hit41 := hi35.alloc (.cells #[] 57)
            have hne41 : ∀ g, Value.ownBlock (.slice (some ⟨wn35.heap.size, 0, none⟩) 0 0) = some g → g ≠ wd.heap.size := fun g e => by cases e; show wn35.heap.size ≠ _; have := hil35; omega
            have hil41 : wd.heap.size < (wn35.alloc (.cells #[] 57)).heap.size := by have := hil35; simp; omega
            have hlo41 : ∀ g, Value.ownBlock (.slice (some ⟨wn35.heap.size, 0, none⟩) 0 0) = some g → w4.heap.size ≤ g := fun g e => by cases e; exact hw41
            refine hK.out _ _ (show _ ∧ _ from ⟨(l0.below hb41 l0.lt).cell 2, l1.below hb41 l1.lt⟩) (fun hHeld => ?_)
            clear hK K hHeld
            try simp only [List.setIfInBounds_toArray, List.set_cons_zero, List.set_cons_succ]
            have hHeld := (show _ ∧ _ from ⟨(l0.below hb41 l0.lt).cell 2, l1.below hb41 l1.lt⟩)
            generalize wn35.alloc (.cells #[] 57) = wn41 at *
            refine wpAnyH_ready (rs := [3]) (by kernel_rfl) (by simp) (AllReadyH.cons rfl (fun K hK => ?_) AllReadyH.nil)
            refine step_append_k el26 (by rfl) rfl _ _ rfl (.slice (some ⟨wn35.heap.size, 0, none⟩) 0 0) [] rfl hu41 _ _ s.l.length _ css rfl (r1.below hb41) (by simp) (by omega) ?_
            intro va42 wa42 hoa42 hga42
            have hTa42 : Turn (fun b => Value.ownBlock (.slice (some ⟨wn35.heap.size, 0, none⟩) 0 0) = some b) wn41 wa42 := hga42.turn (fun g e => e)
            have hb42 : Below w4.heap.size w4 wa42 := hb41.trans (hTa42.below hb41.size hlo41)
            have hlo42 : ∀ g, va42.ownBlock = some g → w4.heap.size ≤ g := fun g e => (hga42.2 g e).elim (hlo41 g) (fun q => Nat.le_trans hb41.size q)
            have hou42 : OwnK wa42 57 4 va42 css := by simpa using hoa42
            have hit42 := hit41.keep hTa42 (fun b _ e => hne41 b e)
            have hnf42 : ∀ g, va42.ownBlock = some g → g ≠ wd.heap.size := fun g e => (hga42.2 g e).elim (hne41 g) (fun q => by have := hil41; omega)
            have hil42 : wd.heap.size < wa42.heap.size := Nat.lt_of_lt_of_le hil41 hTa42.size
            refine hK.out _ _ (show _ ∧ _ from ⟨(l0.below hb42 l0.lt).cell 2, l1.below hb42 l1.lt⟩) (fun hHeld => ?_)
            clear hK K hHeld
            try simp only [List.setIfInBounds_toArray, List.set_cons_zero, List.set_cons_succ]
            have hHeld := (show _ ∧ _ from ⟨(l0.below hb42 l0.lt).cell 2, l1.below hb42 l1.lt⟩)
            refine wpAnyH_ready (rs := [9]) (by kernel_rfl) (by simp) (AllReadyH.cons rfl (fun K hK => ?_) AllReadyH.nil)
            refine step_append_k el26 (by rfl) rfl _ _ rfl va42 css rfl hou42 _ _ 1 _ [#[.int .i64 (s.came : Int), .int .i64 m.fr, .int .i64 m.to, .slice A3 q3 c3]] rfl hit42 (by rw [r2]; omega) (by omega) ?_
            intro vb wb hob hgb
            have hbb : Below w4.heap.size w4 wb := hb42.trans ((hgb.turn (S := fun b => Value.ownBlock va42 = some b) (fun g e => e)).below hb42.size hlo42)
            have hlb : ∀ g, vb.ownBlock = some g → w4.heap.size ≤ g := fun g e => (hgb.2 g e).elim (hlo42 g) (fun q => Nat.le_trans hb42.size q)
            obtain ⟨Ab, cb, hvb, hcb1, hcb2⟩ := ownK_form hob
            have hlb' : (css ++ ([#[.int .i64 (s.came : Int), .int .i64 m.fr, .int .i64 m.to, .slice A3 q3 c3]] : List (Array Value))).length = s.l.length + 1 := by rw [List.length_append, r2]; rfl
            rw [hlb'] at hvb hcb1
            subst hvb
            refine hK.out _ _ (show _ ∧ _ from ⟨(l0.below hbb l0.lt).cell 2, l1.below hbb l1.lt⟩) (fun hHeld => ?_)
            clear hK K hHeld
            try simp only [List.setIfInBounds_toArray, List.set_cons_zero, List.set_cons_succ]
            have hHeld := (show _ ∧ _ from ⟨(l0.below hbb l0.lt).cell 2, l1.below hbb l1.lt⟩)
            have l0b := l0.below hbb l0.lt
            have hcc := l0b.cell 1
            have hff := l0b.frozen 1
            refine wpAnyH_takeAt (i := 10) (d := 53) (v := ?vq12x) rfl rfl (by kernel_rfl) (by kernel_rfl) (by kernel_rfl) (fun _ _ _ h => h) (Or.inl ⟨by rfl, ?hyq12x⟩) hHeld ?_
            case hyq12x =>
              intro W hSw
              clear hSw
              (go_simp; try with_reducible rfl)
            simp only [List.setIfInBounds_toArray, List.set_cons_zero, List.set_cons_succ]
            refine wpAnyH_ready (rs := [11]) (by kernel_rfl) (by simp) (AllReadyH.cons rfl (fun K hK => ?_) AllReadyH.nil)
            go_simp
            have hTs : Turn (fun b => b = w.heap.size) wb (wb.setCell ⟨w.heap.size, 1, none⟩ (.slice Ab (s.l.length + 1) cb)) := (Turn.refl (fun b => b = w.heap.size) wb).setCell (p := ⟨w.heap.size, 1, none⟩) (fun _ => rfl) _
            have hos := hob.keep hTs (fun g e e' => by have := hlb g e; omega)
            have hr3 : ∀ (i : Nat) (p : Int × Msg) (cs : Array Value), s.l[i]? = some p → css[i]? = some cs → ItAt (wb.setCell ⟨w.heap.size, 1, none⟩ (.slice Ab (s.l.length + 1) cb)) (X8 w X) p cs := fun i p cs e1 e2 =>
              (((r3 i p cs e1 e2).keep (S := No) (Turn.of_below hbb No) (fun _ _ h => h.elim)).keep hTs (fun b _ e => .inr (by omega))).wide (fun b _ e => e.elim .inl (fun e => .inr e.1))
            have how := (ho4.below hbb).keep hTs (fun g e e' => by have := hn4 g e; omega)
            have hpt : ItAt (wb.setCell ⟨w.heap.size, 1, none⟩ (.slice Ab (s.l.length + 1) cb)) (X8 w X) ((s.came : Int), m) #[.int .i64 (s.came : Int), .int .i64 m.fr, .int .i64 m.to, .slice A3 q3 c3] := ⟨A3, q3, c3, rfl, how.bys (fun g e e' => by
              have := hn4 g e
              rcases e' with e' | e'
              · have := hX g e'; omega
              · omega)⟩
            have hfin : Grown8 w X s m (wb.setCell ⟨w.heap.size, 1, none⟩ (.slice Ab (s.l.length + 1) cb)) :=
              ⟨Ab, cb, l0b.set_ 1 _, its_snoc hos (fun g e e' => by
                have := hlb g e
                rcases e' with e' | e'
                · have := hX g e'; omega
                · omega) r2 hr3 hpt, hcb1, hcb2, (l2.below hbb l2.lt).keep hTs (by omega), (hb4.trans (hbb.mono (by omega))).trans (hTs.below (by have := hbb.size; omega) (fun b e => by omega)), fun b e => by have := hlb b e; omega⟩
            refine hK.out _ _ (show _ ∧ _ from ⟨((l0b.set_ 1 (.slice Ab (s.l.length + 1) cb)).cell 2), (l1.below hbb l1.lt).keep hTs (by omega)⟩) (fun hHeld => ?_)
            clear hK K
            try simp only [List.setIfInBounds_toArray, List.set_cons_zero, List.set_cons_succ]
            refine wpAnyH_done (by kernel_rfl) ?_ _
            go_wp2_with fail
            go_meet
            case rel => exact hfin
      case rest =>
        obtain ⟨Ab, cb, l0, hIb, hcb1, hcb2, l2, hbx, hlb⟩ := hcut
        clear l1 c0 c1 c2 d0 d1 d2 hb4
        obtain ⟨c0, c1, c2⟩ := l0.three
        have cf := l0.frozen 2
        have hm2 := hcb2
        unfold maxLen at hm2
        go_upto_region 10 with fail
        have hTc : Turn (fun b => b = w.heap.size) wc (wc.setCell ⟨w.heap.size, 2, none⟩ (.int .i64 ((s.came : Int) + 1))) := (Turn.refl (fun b => b = w.heap.size) wc).setCell (p := ⟨w.heap.size, 2, none⟩) (fun _ => rfl) _
        have m0 : Blk (wc.setCell ⟨w.heap.size, 2, none⟩ (.int .i64 ((s.came : Int) + 1))) w.heap.size 28 #[.int .i64 (s.most : Int), .slice Ab (s.l.length + 1) cb, .int .i64 ((s.came : Int) + 1)] := l0.set_ 2 _
        have m2 := l2.keep hTc (by omega)
        have hIc : Its (wc.setCell ⟨w.heap.size, 2, none⟩ (.int .i64 ((s.came : Int) + 1))) (X8 w X) Ab (s.l.length + 1) (s.l ++ [((s.came : Int), m)]) := hIb.keep hTc (fun b _ e => .inr (by omega))
        have hbc := hbx.trans (hTc.below hbx.size (fun b e => by omega))
        generalize wc.setCell ⟨w.heap.size, 2, none⟩ (.int .i64 ((s.came : Int) + 1)) = w9 at *
        clear hTc l0 l2 hIb hbx c0 c1 c2 cf hlb
        have hwr : IntKind.i64.wrap (s.came : Int) = (s.came : Int) := IntWalk.i64_in _ (by omega)
        refine wp_region_np ?_
        refine wp_region_held_drew (S := fun W => Blk W w.heap.size 28 #[.int .i64 (s.most : Int), .slice Ab (s.l.length + 1) cb, .int .i64 ((s.came : Int) + 1)]) (by kernel_rfl) m0.drew (fun hHeld => ?_)
        refine wpAnyH_takeAt (i := 0) (d := 58) (v := ?vq13x) rfl rfl (by kernel_rfl) (by kernel_rfl) (by kernel_rfl) (fun _ _ _ h => h) (Or.inl ⟨by rfl, ?hyq13x⟩) hHeld ?_
        case hyq13x =>
          intro W hSw
          obtain ⟨s0, s1, s2⟩ := (show Blk W w.heap.size 28 #[.int .i64 (s.most : Int), .slice Ab (s.l.length + 1) cb, .int .i64 ((s.came : Int) + 1)] from hSw).three
          (go_simp; try with_reducible rfl)
        simp only [List.setIfInBounds_toArray, List.set_cons_zero, List.set_cons_succ]
        refine wpAnyH_takeAt (i := 1) (d := 59) (v := ?vq14x) rfl rfl (by kernel_rfl) (by kernel_rfl) (by kernel_rfl) (fun _ _ _ h => h) (Or.inl ⟨by rfl, ?hyq14x⟩) hHeld ?_
        case hyq14x =>
          intro W hSw
          clear hSw
          (go_simp; try with_reducible rfl)
        simp only [List.setIfInBounds_toArray, List.set_cons_zero, List.set_cons_succ]
        refine wpAnyH_takeAt (i := 2) (d := 60) (v := ?vq15x) rfl rfl (by kernel_rfl) (by kernel_rfl) (by kernel_rfl) (fun _ _ _ h => h) (Or.inl ⟨by rfl, ?hyq15x⟩) hHeld ?_
        case hyq15x =>
          intro W hSw
          obtain ⟨s0, s1, s2⟩ := (show Blk W w.heap.size 28 #[.int .i64 (s.most : Int), .slice Ab (s.l.length + 1) cb, .int .i64 ((s.came : Int) + 1)] from hSw).three
          (go_simp; try with_reducible rfl)
        simp only [List.setIfInBounds_toArray, List.set_cons_zero, List.set_cons_succ]
        refine wpAnyH_takeAt (i := 3) (d := 61) (v := ?vq16x) rfl rfl (by kernel_rfl) (by kernel_rfl) (by kernel_rfl) (fun _ _ _ h => h) (Or.inl ⟨by rfl, ?hyq16x⟩) hHeld ?_
        case hyq16x =>
          intro W hSw
          clear hSw
          (go_simp; try with_reducible rfl)
        simp only [List.setIfInBounds_toArray, List.set_cons_zero, List.set_cons_succ]
        refine wpAnyH_ready (rs := [4]) (by kernel_rfl) (by simp) (AllReadyH.cons rfl (fun K hK => ?_) AllReadyH.nil)
        refine step_store_blk (by rfl) rfl 28 _ _ rfl (w.heap.size + 1 + 1) _ #[.int .i64 (s.most : Int), .slice Ab (s.l.length + 1) cb, .int .i64 ((s.came : Int) + 1)] rfl rfl 28 m2.drew rfl (info28 _ rfl) (by simp [Value.oneCell']) ?_
        intro wz fz gz sz
        refine hK.out _ _ (show Blk wz w.heap.size 28 #[.int .i64 (s.most : Int), .slice Ab (s.l.length + 1) cb, .int .i64 ((s.came : Int) + 1)] from (m0.drew).grown gz (by omega)) (fun hHeld => ?_)
        clear hK K
        try simp only [List.setIfInBounds_toArray, List.set_cons_zero, List.set_cons_succ]
        refine wpAnyH_takeAt (i := 5) (d := 5) (v := ?vq17x) rfl rfl (by kernel_rfl) (by kernel_rfl) (by kernel_rfl) (fun _ _ _ h => h) (Or.inl ⟨by rfl, ?hyq17x⟩) hHeld ?_
        case hyq17x =>
          intro W hSw
          clear hSw
          (go_simp; try with_reducible rfl)
        simp only [List.setIfInBounds_toArray, List.set_cons_zero, List.set_cons_succ]
        refine wpAnyH_takeAt (i := 6) (d := 6) (v := ?vq18x) rfl rfl (by kernel_rfl) (by kernel_rfl) (by kernel_rfl) (fun _ _ _ h => h) (Or.inl ⟨by rfl, ?hyq18x⟩) hHeld ?_
        case hyq18x =>
          intro W hSw
          clear hSw
          (go_simp; try with_reducible rfl)
        simp only [List.setIfInBounds_toArray, List.set_cons_zero, List.set_cons_succ]
        refine wpAnyH_done (by kernel_rfl) ?_ _
        go_wp2_with fail
        refine bodyPost_ret (v := .tuple #[.agg #[.int .i64 (s.most : Int), .slice Ab (s.l.length + 1) cb, .int .i64 ((s.came : Int) + 1)], .int .i64 (s.came : Int), .int .i64 0]) (results_ctt (by rfl) _ _ (w.heap.size + 1 + 1) 28 _ (0, 0) _ (by rfl) fz Try.underlying28 (by rfl) (info28 _ rfl) (by rfl) (by rfl)) rfl ?_
        have gz' : w9.grownBy wz (some (w.heap.size + 1 + 1)) := ⟨gz.os, gz.tape, gz.output, gz.size, gz.block⟩
        have hTz : Turn (fun b => b = w.heap.size + 1 + 1) w9 wz := Turn.of_grown gz' (fun r e => by injection e with e; exact e.symm)
        obtain ⟨e1, e2⟩ := putA_yes HP.out
        refine ⟨_, by rw [e2, HP.out], ?_, below_grown hbc gz' (Nat.le_refl _) (by omega)⟩
        rw [e1]
        exact ⟨Ab, s.l.length + 1, cb, rfl, (hIc.keep hTz (fun b _ e => .inr (by omega))).wide (fun b _ e => .inl e), hcb1, hcb2⟩
end Go.Proofs.Yticabfmjdjcfnaa
