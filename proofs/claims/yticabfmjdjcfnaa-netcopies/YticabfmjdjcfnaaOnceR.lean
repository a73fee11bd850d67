/-
  What a law keeps of the messages that were put, beside the net: a row of them, and a row of bools. Nothing is assumed but bounds.
-/
import Derived.Test.YticabfmjdjcfnaaOnce
namespace Go.Proofs.Yticabfmjdjcfnaa
open Go.RowKit
/-- The value v is a row of these messages, whose bytes do not lie in X. -/
def RowsOf (w : World) (X : Nat → Prop) (v : Value) (ms : List Msg) : Prop :=
  ∃ css, OwnK w 39 3 v css ∧ css.length = ms.length ∧ ∀ (i : Nat) (m : Msg) (cs : Array Value), ms[i]? = some m → css[i]? = some cs → MsgV w X m (.agg cs)
/-- A bool as an element. -/
def boolE (b : Bool) : Array Value := #[.bool b]
/-- What lies beside the net. -/
structure Rest (B : Nat) (S : Nat → Prop) (ms : List Msg) (gs : List Bool) (v7 v8 : Value) (w : World) : Prop where
  rows : RowsOf w (fun b => S b ∨ v7.ownBlock = some b ∨ v8.ownBlock = some b) v7 ms
  gone : OwnK w 4 1 v8 (gs.map boolE)
  low : ∀ b, S b → B ≤ b
  low7 : ∀ b, v7.ownBlock = some b → B ≤ b ∧ ¬ S b ∧ v8.ownBlock ≠ some b
  low8 : ∀ b, v8.ownBlock = some b → B ≤ b ∧ ¬ S b
  le : B ≤ w.heap.size
section
variable {B : Nat} {S S' : Nat → Prop} {ms : List Msg} {gs : List Bool} {v7 v8 : Value} {w w' : World}
theorem Rest.begin (w : World) (hS : ∀ b, S b → B ≤ b) (hle : B ≤ w.heap.size) : Rest B S [] [] (.slice none 0 0) (.slice none 0 0) w where
  rows := ⟨[], OwnK.nil w 39 3, rfl, fun i m cs e => by simp at e⟩
  gone := OwnK.nil w 4 1
  low := hS
  low7 := fun b e => by cases e
  low8 := fun b e => by cases e
  le := hle
/-- The net's own has turned, and has grown by new memory. -/
theorem Rest.turn (h : Rest B S ms gs v7 v8 w) (ht : Turn S w w') (hS : ∀ b, S' b → S b ∨ w.heap.size ≤ b) (hSS : ∀ b, S b → S' b) : Rest B S' ms gs v7 v8 w' := by
  obtain ⟨css, h1, h2, h3⟩ := h.rows
  have hlt7 : ∀ b, v7.ownBlock = some b → b < w.heap.size := fun b e => h1.lt e
  have hlt8 : ∀ b, v8.ownBlock = some b → b < w.heap.size := fun b e => h.gone.lt e
  refine ⟨⟨css, h1.keep ht (fun b e => (h.low7 b e).2.1), h2, fun i m cs e1 e2 => ?_⟩, h.gone.keep ht (fun b e => (h.low8 b e).2), fun b e => (hS b e).elim (h.low b) (fun q => Nat.le_trans h.le q), fun b e => ⟨(h.low7 b e).1, fun q => ?_, (h.low7 b e).2.2⟩, fun b e => ⟨(h.low8 b e).1, fun q => ?_⟩, Nat.le_trans h.le ht.size⟩
  · refine ((h3 i m cs e1 e2).wide (X' := fun b => S' b ∨ v7.ownBlock = some b ∨ v8.ownBlock = some b) (fun b hb q => ?_)).keep ht (fun b _ e => .inl (hSS b e))
    rcases q with q | q
    · exact (hS b q).elim .inl (fun q => by omega)
    · exact .inr q
  · have := hlt7 b e
    exact (hS b q).elim (h.low7 b e).2.1 (fun q => by omega)
  · have := hlt8 b e
    exact (hS b q).elim (h.low8 b e).2 (fun q => by omega)
theorem Rest.below (h : Rest B S ms gs v7 v8 w) (hb : Below w.heap.size w w') : Rest B S ms gs v7 v8 w' := h.turn (Turn.of_below hb S) (fun _ e => .inl e) (fun _ e => e)
/-- A message is appended. -/
theorem Rest.snoc7 (h : Rest B S ms gs v7 v8 w) {css : List (Array Value)} (hl : css.length = ms.length) (h3 : ∀ (i : Nat) (m : Msg) (cs : Array Value), ms[i]? = some m → css[i]? = some cs → MsgV w (fun b => S b ∨ v7.ownBlock = some b ∨ v8.ownBlock = some b) m (.agg cs))
    {v7' : Value} {cs : Array Value} {m : Msg} (ho : OwnK w' 39 3 v7' (css ++ [cs])) (hg : Grew v7 w v7' w') (hm : MsgV w (fun b => S b ∨ v7.ownBlock = some b ∨ v8.ownBlock = some b) m (.agg cs)) (hSl : ∀ b, S b → b < w.heap.size) : Rest B S (ms ++ [m]) gs v7' v8 w' := by
  have hT : Turn (fun b => v7.ownBlock = some b) w w' := hg.turn (fun g e => e)
  have key : ∀ {m : Msg} {cs : Array Value}, MsgV w (fun b => S b ∨ v7.ownBlock = some b ∨ v8.ownBlock = some b) m (.agg cs) → MsgV w' (fun b => S b ∨ v7'.ownBlock = some b ∨ v8.ownBlock = some b) m (.agg cs) := fun {m cs} q => by
    have q1 := q.keep hT (fun b _ e => .inr (.inl e))
    obtain ⟨A, n, c, e, hB⟩ := q
    obtain ⟨_, _, _, e', hB'⟩ := q1
    refine ⟨_, _, _, e', hB'.1, fun hn => ?_⟩
    obtain ⟨ad, e1, hb, hx, hcl⟩ := hB'.2 hn
    refine ⟨ad, e1, hb, fun hx' => ?_, hcl⟩
    rw [e] at e'
    injection e' with e'
    obtain ⟨rfl, rfl, rfl⟩ : A = _ ∧ n = _ ∧ c = _ := by simpa using e'
    obtain ⟨ad', e1', hb', _⟩ := hB.2 hn
    rw [e1] at e1'
    injection e1' with e1'
    subst e1'
    rcases hx' with hx' | hx' | hx'
    · exact hx (.inl hx')
    · rcases hg.2 _ hx' with q | q
      · exact hx (.inr (.inl q))
      · omega
    · exact hx (.inr (.inr hx'))
  refine ⟨⟨css ++ [cs], ho, by simp [hl], fun i x y e1 e2 => ?_⟩, h.gone.keep hT (fun b e e' => (h.low7 b e').2.2 e), h.low, fun b e => ?_, h.low8, Nat.le_trans h.le hT.size⟩
  · rcases Nat.lt_or_ge i ms.length with hi | hi
    · rw [List.getElem?_append_left hi] at e1
      rw [List.getElem?_append_left (by omega)] at e2
      exact key (h3 i x y e1 e2)
    · rw [List.getElem?_append_right hi] at e1
      rw [List.getElem?_append_right (by omega), hl] at e2
      rcases hd : i - ms.length with _ | q
      · rw [hd] at e1 e2
        simp at e1 e2
        subst e1 e2
        exact key hm
      · rw [hd] at e1; simp at e1
  · rcases hg.2 b e with q | q
    · exact h.low7 b q
    · refine ⟨Nat.le_trans h.le q, fun e' => ?_, fun e' => ?_⟩
      · have := hSl b e'; omega
      · have := h.gone.lt e'; omega
/-- A bool is appended. -/
theorem Rest.snoc8 (h : Rest B S ms gs v7 v8 w) {v8' : Value} {b : Bool} (ho : OwnK w' 4 1 v8' (gs.map boolE ++ [boolE b])) (hg : Grew v8 w v8' w') (hSl : ∀ b, S b → b < w.heap.size) : Rest B S ms (gs ++ [b]) v7 v8' w' := by
  have hT : Turn (fun b => v8.ownBlock = some b) w w' := hg.turn (fun g e => e)
  obtain ⟨css, h1, h2, h3⟩ := h.rows
  have key : ∀ {m : Msg} {cs : Array Value}, MsgV w (fun b => S b ∨ v7.ownBlock = some b ∨ v8.ownBlock = some b) m (.agg cs) → MsgV w' (fun b => S b ∨ v7.ownBlock = some b ∨ v8'.ownBlock = some b) m (.agg cs) := fun {m cs} q => by
    have q1 := q.keep hT (fun b _ e => .inr (.inr e))
    obtain ⟨A, n, c, e, hB⟩ := q
    obtain ⟨_, _, _, e', hB'⟩ := q1
    refine ⟨_, _, _, e', hB'.1, fun hn => ?_⟩
    obtain ⟨ad, e1, hb, hx, hcl⟩ := hB'.2 hn
    refine ⟨ad, e1, hb, fun hx' => ?_, hcl⟩
    rw [e] at e'
    injection e' with e'
    obtain ⟨rfl, rfl, rfl⟩ : A = _ ∧ n = _ ∧ c = _ := by simpa using e'
    obtain ⟨ad', e1', hb', _⟩ := hB.2 hn
    rw [e1] at e1'
    injection e1' with e1'
    subst e1'
    rcases hx' with hx' | hx' | hx'
    · exact hx (.inl hx')
    · exact hx (.inr (.inl hx'))
    · rcases hg.2 _ hx' with q | q
      · exact hx (.inr (.inr q))
      · omega
  refine ⟨⟨css, h1.keep hT (fun b e => (h.low7 b e).2.2), h2, fun i m cs e1 e2 => key (h3 i m cs e1 e2)⟩, by rw [List.map_append]; exact ho, h.low, fun b e => ⟨(h.low7 b e).1, (h.low7 b e).2.1, fun e' => ?_⟩, fun b e => ?_, Nat.le_trans h.le hT.size⟩
  · rcases hg.2 b e' with q | q
    · exact (h.low7 b e).2.2 q
    · have := h1.lt e; omega
  · rcases hg.2 b e with q | q
    · exact h.low8 b q
    · exact ⟨Nat.le_trans h.le q, fun e' => by have := hSl b e'; omega⟩
theorem flat_bools (gs : List Bool) : flatA (gs.map boolE) = gs.map Value.bool := by
  induction gs with
  | nil => rfl
  | cons g gs ih =>
    show (boolE g).toList ++ flatA (gs.map boolE) = _
    rw [ih]; rfl
theorem sized_bools (gs : List Bool) : Sized 1 (gs.map boolE) := fun c hc => by
  obtain ⟨b, _, rfl⟩ := List.mem_map.1 hc
  exact ⟨rfl, fun u hu => by simp [boolE] at hu; subst hu; rfl⟩
/-- A bool is set. -/
theorem Rest.set8 {g n c q : Nat} (h : Rest B S ms gs v7 (.slice (some ⟨g, 0, none⟩) n c) w) (u : Bool) : Rest B S ms (gs.set q u) v7 (.slice (some ⟨g, 0, none⟩) n c) (w.setCell ⟨g, q, none⟩ (.bool u)) := by
  have hl := h.gone.1
  obtain ⟨A', n', c', e, hn, _⟩ := h.gone.form
  injection e with e1 e2 e3
  subst e1 e2 e3
  rw [List.length_map] at hn
  have hl' : w.ownsRow 0 4 1 (.slice (some ⟨g, 0, none⟩) n c) n (gs.map Value.bool) := by
    rw [flat_bools, List.length_map, ← hn] at hl
    exact hl
  obtain ⟨hs, hg⟩ := hl'.stored q (.bool u)
  have hT : Turn (fun b => b = g) w (w.setCell ⟨g, q, none⟩ (.bool u)) := Turn.of_grown hg (fun r e => by injection e with e; exact e.symm)
  obtain ⟨css, h1, h2, h3⟩ := h.rows
  refine ⟨⟨css, h1.keep hT (fun b e e' => (h.low7 b e).2.2 (by rw [e']; rfl)), h2, fun i m cs e1 e2 => (h3 i m cs e1 e2).keep hT (fun b _ e => .inr (.inr (by rw [e]; rfl)))⟩, ?_, h.low, h.low7, h.low8, Nat.le_trans h.le hT.size⟩
  refine ⟨?_, sized_bools _⟩
  rw [flat_bools, List.length_map, List.length_set, ← hn, List.map_set]
  exact hs
end
end Go.Proofs.Yticabfmjdjcfnaa
