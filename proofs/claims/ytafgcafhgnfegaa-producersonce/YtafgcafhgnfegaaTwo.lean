/-
  A table beside a log of our own. Nothing is assumed.
-/
import Derived.Test.YtafgcafhgnfegaaOflog
namespace Go.Proofs.Ytafgcafhgnfegaa
open Go.RowKit Go.Maps
set_option linter.unusedVariables false
section
variable {w : World} {g : Nat} {l l' : List Ent} {v v' : Value} {W W' : World} {S : Nat → Prop} {e : Ent}
def Two (w : World) (g : Nat) (l l' : List Ent) (v : Value) (W : World) : Prop := LogV w l' v W ∧ ∃ S, Tb W S g l ∧ ∀ b, S b → w.heap.size ≤ b ∧ b < W.heap.size ∧ v.ownBlock ≠ some b
theorem Two.log (h : Two w g l l' v W) : LogV w l' v W := h.1
theorem Two.below (h : Two w g l l' v W) : Below w.heap.size w W := h.1.below
theorem Two.low (h : Two w g l l' v W) (hb : Below W.heap.size W W') : Two w g l l' v W' := by
  obtain ⟨h1, S, h2, h3⟩ := h
  exact ⟨h1.low hb, S, h2.below hb, fun b q => ⟨(h3 b q).1, Nat.lt_of_lt_of_le (h3 b q).2.1 hb.size, (h3 b q).2.2⟩⟩
theorem LogV.own_lt (h : LogV w l v W) {b : Nat} (hb : v.ownBlock = some b) : b < W.heap.size := by
  obtain ⟨A, c, -, h1, -, -⟩ := h
  exact h1.lt hb
theorem LogV.own_ge (h : LogV w l v W) {b : Nat} (hb : v.ownBlock = some b) : w.heap.size ≤ b := by
  obtain ⟨A, c, -, h1, h2, -⟩ := h
  exact h2 b hb
/-- A log, and a table that is made behind it. -/
theorem Two.made (h : LogV w l' v W) (hb : Below W.heap.size W W') (hT : Tb W' (NewB W W') g l) : Two w g l l' v W' :=
  ⟨h.low hb, _, hT, fun b q => ⟨Nat.le_trans h.below.size q.1, q.2, fun eb => by have := h.own_lt eb; have := q.1; omega⟩⟩
/-- The log has got one more. -/
theorem Two.more (h : Two w g l l' v W) (hO : OwnK W' 26 6 v' (cellsOf l' ++ [e.cells])) (hg : Grew v W v' W') : Two w g l (l' ++ [e]) v' W' := by
  obtain ⟨h1, S, h2, h3⟩ := h
  have hs := hg.1.size
  obtain ⟨A, q, c, rfl, hq, -, -⟩ := hO.form
  have hq' : q = (l' ++ [e]).length := by rw [hq]; simp [cellsOf]
  subst hq'
  refine ⟨⟨A, c, rfl, by unfold cellsOf at hO ⊢; rw [List.map_append]; exact hO, fun b eb => ?_, ?_⟩, S, h2.keep (S' := fun b => v.ownBlock = some b) (hg.turn fun b eb => eb) (fun b _ q eb => (h3 b q).2.2 eb), fun b q => ⟨(h3 b q).1, Nat.lt_of_lt_of_le (h3 b q).2.1 hs, fun eb => ?_⟩⟩
  · rcases hg.2 b eb with k | k
    · exact h1.own_ge k
    · exact Nat.le_trans h1.below.size k
  · exact below_grew h1.below hg (fun b eb => h1.own_ge eb) h1.below.size
  · rcases hg.2 b eb with k | k
    · exact (h3 b q).2.2 k
    · have := (h3 b q).2.1; omega
/-- The table has been turned. -/
theorem LogV.turned (h : LogV w l v W) (hU : Turn S W W') (hS : ∀ b, S b → w.heap.size ≤ b ∧ b < W.heap.size ∧ v.ownBlock ≠ some b) : LogV w l v W' := by
  obtain ⟨A, c, e, h1, h2, h3⟩ := h
  exact ⟨A, c, e, h1.keep hU (fun b eb q => (hS b q).2.2 eb), h2, h3.trans (hU.below h3.size (fun b q => (hS b q).1))⟩
theorem Two.turned {l2 : List Ent} (h1 : LogV w l' v W) (h3 : ∀ b, S b → w.heap.size ≤ b ∧ b < W.heap.size ∧ v.ownBlock ≠ some b) (hU : Turn S W W') (hT : Tb W' (More S W W') g l2) : Two w g l2 l' v W' := by
  refine ⟨h1.turned hU h3, _, hT, fun b q => ?_⟩
  rcases q with q | q
  · exact ⟨(h3 b q).1, Nat.lt_of_lt_of_le (h3 b q).2.1 hU.size, (h3 b q).2.2⟩
  · exact ⟨Nat.le_trans h1.below.size q.1, q.2, fun eb => by have := h1.own_lt eb; have := q.1; omega⟩
theorem LogV.own (h : LogV w l v W) : OwnK W 26 6 v (cellsOf l) := by
  obtain ⟨A, c, e, h1, -, -⟩ := h
  exact h1
theorem Two.is_ {A : Option Addr} {n c : Nat} (h : Two w g l l (.slice A n c) W) : Calls Try.prog 17 #[.pointer (some ⟨g, 0, none⟩), .slice A n c] W fun r w' => r = .returned (.bool true) ∧ Below W.heap.size W w' := by
  obtain ⟨hl, S, ht, -⟩ := h
  exact is_any ht hl.rd
theorem Two.right (h : Two w g l l' v W) : AllR l := by
  obtain ⟨-, S, ht, -⟩ := h
  exact ht.right
theorem Two.app (h : Two w g l l' v W) (e : Ent) : Calls Try.prog 22 #[.pointer (some ⟨g, 0, none⟩), e.val] W fun r w' => r = .returned (.int .i64 (appendE l e)) ∧ Two w g (keep1 l e) l' v w' := by
  obtain ⟨hl, S, ht, hS⟩ := h
  refine (append_any ht e).mono ?_
  rintro r w' ⟨rfl, hT, hU⟩
  exact ⟨rfl, Two.turned hl hS hU hT⟩
end
end Go.Proofs.Ytafgcafhgnfegaa
