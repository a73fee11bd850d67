/-
  How a law's numbers and yes-or-nos are read. Nothing is assumed.
-/
import Derived.Test.YthcphoijanebhaaDoorOpen
import Derived.Deep.Grids
import Derived.ChangeSlices
namespace Go.Proofs.YthcphoijanebhaaDoor
set_option linter.unusedVariables false
open Go.RowKit Go.ChangeShapes Go.WideShapes
def Ints (w : World) (A : Option Addr) (n : Nat) (z : Nat → Int) : Prop :=
  0 < n → ∃ ad, A = some ad ∧ ad.block < w.heap.size ∧ ∀ j, j < n → w.cell? (ad.add j) = some (.int .i64 (z j))
section
variable {w w' : World} {A : Option Addr} {n : Nat}
theorem cell_below {a : Addr} (hb : Below w.heap.size w w') {j : Nat} (h : a.block < w.heap.size) : w'.cell? (a.add j) = w.cell? (a.add j) :=
  World.cell?_of_block (hb.block (a.add j).block (by rw [block_of_add]; exact h))
theorem Ints.below {z : Nat → Int} (h : Ints w A n z) (hb : Below w.heap.size w w') : Ints w' A n z := fun h0 => by
  obtain ⟨ad, e, hl, hc⟩ := h h0
  exact ⟨ad, e, Nat.lt_of_lt_of_le hl hb.size, fun j hj => (cell_below hb hl).trans (hc j hj)⟩
end
set_option maxRecDepth 100000 in
theorem slice_one {w : World} {r : Reach} {b t e : Nat} {v : Value} (ht : Tryd.prog.underlying t = some (.slice e)) (h : Value.okWide Tryd.prog w r b t v) : ∃ c, v.cells.toList = [c] ∧ v = c := by
  obtain ⟨a, n, k, rfl⟩ := okWide_slice ht h
  exact ⟨_, rfl, rfl⟩
theorem open_row {t e : Nat} (und : Tryd.prog.underlying t = some (.slice e)) (unde : Tryd.prog.underlying e = some (.int .i64)) (hc1 : Tryd.prog.cellsOf e = 1) {H : Type} {enc : TypeId × Value → H} {w : World} {base : Nat} {held : Bool} {v : Value} {d : DataW H} {p : List MemPlace}
    (h : DataW.Trod enc Tryd.prog w base (fun _ => true) held t v d p) (hv : ∃ c, v.cells.toList = [c] ∧ v = c) :
    ∃ A n k z, v = .slice A n k ∧ Ints w A n z ∧ n ≤ k ∧ k ≤ maxLen := by
  obtain ⟨c, hc, rfl⟩ := hv
  obtain ⟨fuel, hf⟩ := h
  rw [hc] at hf
  rcases open_ints und unde hc1 hf with ⟨hcs, _⟩ | ⟨x, l, k, zs, hcs, _, hl, hm, hz, hd, hcell, hwz⟩
  · simp at hcs
    exact ⟨none, 0, 0, fun _ => 0, hcs, fun h => by omega, Nat.le_refl _, by unfold maxLen; omega⟩
  · simp at hcs
    have hz' : zs.length = k := by simpa using hz
    refine ⟨some x, l, k, fun j => zs.getD j 0, hcs, fun h0 => ⟨x, rfl, ?_, fun j hj => hcell j (by omega)⟩, hl, hm⟩
    have := block_lt_of_cell (hcell 0 (by omega))
    rwa [block_of_add] at this
set_option maxRecDepth 100000 in
theorem open_24 {H : Type} {enc : TypeId × Value → H} {w : World} {base : Nat} {held : Bool} {v : Value} {d : DataW H} {p : List MemPlace} (h : DataW.Trod enc Tryd.prog w base (fun _ => true) held 24 v d p) (hv : ∃ c, v.cells.toList = [c] ∧ v = c) :
    ∃ A n k z, v = .slice A n k ∧ Ints w A n z ∧ n ≤ k ∧ k ≤ maxLen := open_row Tryd.underlying24 Tryd.underlying3 (by kernel_rfl) h hv
end Go.Proofs.YthcphoijanebhaaDoor
