/-
  A log of our own that grows. Nothing is assumed.
-/
import Derived.Test.YthcphoijanebhaaDoorDocs9
import Derived.Test.YthcphoijanebhaaDoorMisc
namespace Go.Proofs.YthcphoijanebhaaDoor
open Go.RowKit Go.Maps
set_option linter.unusedVariables false
section
variable {w W W' : World} {v v' : Value} {l : List Ent} {e : Ent}
theorem LogV.own (h : LogV w l v W) : OwnK W 45 6 v (cellsOf l) := by
  obtain ⟨A, c, e, h1, -⟩ := h
  exact h1
theorem LogV.own_ge (h : LogV w l v W) {b : Nat} (hb : v.ownBlock = some b) : w.heap.size ≤ b := by
  obtain ⟨A, c, e, h1, h2, -⟩ := h
  exact h2 b hb
theorem below_grew9 (hb : Below w.heap.size w W) (hg : Grew v W v' W') (hv : ∀ g, v.ownBlock = some g → w.heap.size ≤ g) : Below w.heap.size w W' :=
  hb.trans ⟨hg.1.os, hg.1.tape, hg.1.output, hg.1.size, fun i hi => hg.1.block i (Nat.lt_of_lt_of_le hi hb.size) (fun e => by
    have := hv i e.symm
    omega)⟩
theorem LogV.more (h : LogV w l v W) (hO : OwnK W' 45 6 v' (cellsOf l ++ [e.cells])) (hg : Grew v W v' W') : LogV w (l ++ [e]) v' W' := by
  obtain ⟨A, q, c, rfl, hq, -, -⟩ := hO.form
  have hq' : q = (l ++ [e]).length := by rw [hq]; simp [cellsOf]
  subst hq'
  refine ⟨A, c, rfl, by unfold cellsOf at hO ⊢; rw [List.map_append]; exact hO, fun b eb => ?_, below_grew9 h.below hg (fun g eg => h.own_ge eg)⟩
  rcases hg.2 b eb with k | k
  · exact h.own_ge k
  · exact Nat.le_trans h.below.size k
theorem LogV.first (hO : OwnK W' 45 6 v' ([] ++ cellsOf l)) (hg : Grew (.slice (some ⟨w.heap.size, 0, none⟩) 0 0) (w.alloc (.cells #[] 45)) v' W') : LogV w l v' W' := by
  rw [List.nil_append] at hO
  obtain ⟨A, q, c, rfl, hq, -, -⟩ := hO.form
  have hq' : q = l.length := by rw [hq]; simp [cellsOf]
  subst hq'
  refine ⟨A, c, rfl, hO, fun b eb => ?_, ((Below.refl w.heap.size w).alloc (Nat.le_refl _) _).trans (made_below hg)⟩
  rcases hg.2 b eb with k | k
  · have : b = w.heap.size := by simpa [Value.ownBlock] using k.symm
    omega
  · simp at k; omega
end
end Go.Proofs.YthcphoijanebhaaDoor
