/-
  A log of our own that gets one more; two tables and two logs apart. Conditions: at most 1000000 entries.
-/
import Derived.Test.YtafgcafhgnfegaaTwo2
import Derived.Test.YtafgcafhgnfegaaWipe
namespace Go.Proofs.Ytafgcafhgnfegaa
open Go.RowKit Go.Maps
set_option linter.unusedVariables false
section
variable {w w0 : World} {g z : Nat} {l K L : List Ent} {v v' : Value} {W W' : World} {e : Ent} {A B : Option Addr}
theorem LogV.more (h : LogV w l v W) (hO : OwnK W' 26 6 v' (cellsOf l ++ [e.cells])) (hg : Grew v W v' W') : LogV w (l ++ [e]) v' W' := by
  obtain ⟨A, q, c, rfl, hq, -, -⟩ := hO.form
  have hq' : q = (l ++ [e]).length := by rw [hq]; simp [cellsOf]
  subst hq'
  refine ⟨A, c, rfl, by unfold cellsOf at hO ⊢; rw [List.map_append]; exact hO, fun b eb => ?_, below_grew h.below hg (fun b eb => h.own_ge eb) h.below.size⟩
  rcases hg.2 b eb with k | k
  · exact h.own_ge k
  · exact Nat.le_trans h.below.size k
/-- The document's Append: what it answers lies where the log lay, or in new memory. -/
theorem refApp2 (h : LogV w l v W) (hl : l.length ≤ 1000000) (e : Ent) : Calls Try.prog 15 #[v, e.val] W fun r W' => ∃ v', r = .returned (.tuple #[v', .int .i64 (appendE l e)]) ∧ LogV w (keep1 l e) v' W' ∧ Below W.heap.size W W' ∧ (v' = v ∨ ∀ b, v'.ownBlock = some b → W.heap.size ≤ b) := by
  obtain ⟨A, c, rfl, h1, h2, h3⟩ := h
  by_cases hz : appendE l e = 0
  · refine (refAppend_ok (c := c) (h1.rd (X := No) (fun _ _ h => h)) hz).mono ?_
    rintro r W' ⟨hb, h⟩
    rcases h with ⟨h0, -⟩ | ⟨-, A', c', rfl, hO, hv⟩
    · exact absurd hz h0
    · rw [hz]
      unfold keep1
      rw [if_pos hz]
      exact ⟨_, rfl, ⟨A', c', by simp, hO, fun b eb => Nat.le_trans h3.size (hv b eb), h3.trans (hb.mono h3.size)⟩, hb, .inr hv⟩
  · refine (refAppend_err (c := c) (h1.rd (X := No) (fun _ _ h => h)) hl hz).mono ?_
    rintro r W' ⟨hb, h⟩
    rcases h with ⟨-, rfl⟩ | ⟨h0, -⟩
    · unfold keep1
      rw [if_neg hz]
      exact ⟨_, rfl, ⟨A, c, rfl, h1.below hb, h2, h3.trans (hb.mono h3.size)⟩, hb, .inl rfl⟩
    · exact absurd h0 hz
/-- Two tables, and a log for each. -/
structure Cop (w0 : World) (g z : Nat) (K L : List Ent) (A B : Option Addr) (W : World) : Prop where
  t : ∃ S, Tb W S g K
  c : ∃ S, Tb W S z L
  k : Rd W No 6 A K.length (cellsOf K)
  l : Rd W No 6 B L.length (cellsOf L)
  b : Below w0.heap.size w0 W
theorem Cop.low (h : Cop w0 g z K L A B W) (hb : Below W.heap.size W W') : Cop w0 g z K L A B W' :=
  ⟨h.t.elim fun S q => ⟨S, q.below hb⟩, h.c.elim fun S q => ⟨S, q.below hb⟩, h.k.below hb, h.l.below hb, h.b.trans (hb.mono h.b.size)⟩
theorem Cop.isT (h : Cop w0 g z K L A B W) (c : Nat) : Calls Try.prog 17 #[.pointer (some ⟨g, 0, none⟩), .slice A K.length c] W fun r w' => r = .returned (.bool true) ∧ Cop w0 g z K L A B w' := by
  obtain ⟨S, q⟩ := h.t
  exact (is_any q h.k).mono fun r w' ⟨h1, h2⟩ => ⟨h1, h.low h2⟩
theorem Cop.isC (h : Cop w0 g z K L A B W) (c : Nat) : Calls Try.prog 17 #[.pointer (some ⟨z, 0, none⟩), .slice B L.length c] W fun r w' => r = .returned (.bool true) ∧ Cop w0 g z K L A B w' := by
  obtain ⟨S, q⟩ := h.c
  exact (is_any q h.l).mono fun r w' ⟨h1, h2⟩ => ⟨h1, h.low h2⟩
theorem Cop.sameT (h : Cop w0 g z K L A B W) : Calls Try.prog 31 #[.pointer (some ⟨g, 0, none⟩), .pointer (some ⟨z, 0, none⟩)] W fun r w' => r = .returned (.bool (decide (K = L))) ∧ Cop w0 g z K L A B w' := by
  obtain ⟨S, q⟩ := h.t
  obtain ⟨T, p⟩ := h.c
  exact (same_any q p).mono fun r w' ⟨h1, h2⟩ => ⟨h1, h.low h2⟩
theorem Cop.sameC (h : Cop w0 g z K L A B W) : Calls Try.prog 31 #[.pointer (some ⟨z, 0, none⟩), .pointer (some ⟨g, 0, none⟩)] W fun r w' => r = .returned (.bool (decide (K = L))) ∧ Cop w0 g z K L A B w' := by
  obtain ⟨S, q⟩ := h.t
  obtain ⟨T, p⟩ := h.c
  have e : decide (K = L) = decide (L = K) := by rw [Bool.eq_iff_iff]; simp [eq_comm]
  rw [e]
  exact (same_any p q).mono fun r w' ⟨h1, h2⟩ => ⟨h1, h.low h2⟩
theorem Cop.ref (h : Cop w0 g z K L A B W) (hk : K.length ≤ 1000000) (hl : L.length ≤ 1000000) (c d : Nat) : Calls Try.prog 14 #[.slice A K.length c, .slice B L.length d] W fun r w' => r = .returned (.bool (decide (K = L))) ∧ Cop w0 g z K L A B w' :=
  (refSame_any h.k h.l hk hl).mono fun r w' ⟨h1, q, h2⟩ => ⟨h1, h.low (h2 ▸ below_drewN (Below.refl _ _) q)⟩
theorem Cop.left (h : Cop w0 g z K L A B W) : Calls Try.prog 31 #[.pointer none, .pointer (some ⟨z, 0, none⟩)] W fun r w' => r = .returned (.bool false) ∧ W = w' := by
  obtain ⟨S, q⟩ := h.c
  exact same_left q
theorem Cop.right (h : Cop w0 g z K L A B W) : Calls Try.prog 31 #[.pointer (some ⟨z, 0, none⟩), .pointer none] W fun r w' => r = .returned (.bool false) ∧ W = w' := by
  obtain ⟨S, q⟩ := h.c
  exact same_right q
end
end Go.Proofs.Ytafgcafhgnfegaa
