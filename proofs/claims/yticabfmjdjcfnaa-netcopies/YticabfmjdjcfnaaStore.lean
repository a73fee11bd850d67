/-
  Loads and stores of whole structs: of a block that is known whole, or in the midst of a row. Nothing is assumed.
-/
import Derived.Test.YticabfmjdjcfnaaRowk
namespace Go.Proofs.Yticabfmjdjcfnaa
open Go.RowKit
theorem setCells_size (b : Nat) : ∀ (vs : List Value) (o : Nat) (w : World), (w.setCells b o vs).heap.size = w.heap.size
  | [], _, _ => rfl
  | v :: r, o, w => by
    show ((w.setCell ⟨b, o, none⟩ v).setCells b (o + 1) r).heap.size = _
    rw [setCells_size b r]
    simp [World.setCell]
theorem setCells_other (b : Nat) {k : Nat} (hk : k ≠ b) : ∀ (vs : List Value) (o : Nat) (w : World), (w.setCells b o vs).heap[k]? = w.heap[k]?
  | [], _, _ => rfl
  | v :: r, o, w => by
    show ((w.setCell ⟨b, o, none⟩ v).setCells b (o + 1) r).heap[k]? = _
    rw [setCells_other b hk r]
    exact Below.heap_setCell _ _ _ _ hk
theorem setCells_os (b : Nat) : ∀ (vs : List Value) (o : Nat) (w : World), (w.setCells b o vs).os = w.os ∧ (w.setCells b o vs).tape = w.tape ∧ (w.setCells b o vs).output = w.output
  | [], _, _ => ⟨rfl, rfl, rfl⟩
  | v :: r, o, w => by
    have := setCells_os b r (o + 1) (w.setCell ⟨b, o, none⟩ v)
    exact this
theorem setCells_grown (b o : Nat) (vs : List Value) (w : World) : w.grownBy (w.setCells b o vs) (some b) :=
  ⟨(setCells_os b vs o w).1, (setCells_os b vs o w).2.1, (setCells_os b vs o w).2.2, by rw [setCells_size]; exact Nat.le_refl _, fun k _ hk => setCells_other b (fun e => hk (by rw [e])) vs o w⟩
theorem setCells_blk {t : TypeId} (b : Nat) : ∀ (vs : List Value) (pre : List Value) (old : List Value) (w : World), Blk w b t (pre ++ old).toArray → old.length = vs.length → Blk (w.setCells b pre.length vs) b t (pre ++ vs).toArray
  | [], pre, old, w, h, hl => by
    have : old = [] := List.eq_nil_of_length_eq_zero hl
    subst this
    exact h
  | v :: r, pre, o :: old, w, h, hl => by
    have h1 := h.set_ pre.length v
    have e1 : (pre ++ o :: old).toArray.setIfInBounds pre.length v = ((pre ++ [v]) ++ old).toArray := by
      simp
    rw [e1] at h1
    have h2 := setCells_blk b r (pre ++ [v]) old _ h1 (by simpa using hl)
    rw [List.length_append] at h2
    have e2 : ((pre ++ [v]) ++ r).toArray = (pre ++ v :: r).toArray := by simp
    rw [e2] at h2
    exact h2
  | v :: r, pre, [], w, h, hl => by simp at hl
theorem Blk.there {w : World} {g : Nat} {t : TypeId} {cs : Array Value} (h : Blk w g t cs) : w.there g 0 cs.size := fun j hj => by
  rw [Nat.zero_add, h.cell j, h.frozen j]
  simp [hj]
theorem Blk.cells_to {w : World} {g : Nat} {t : TypeId} {cs new : Array Value} (h : Blk w g t cs) (hn : cs.size = new.size) : Blk (w.setCells g 0 new.toList) g t new := by
  have := setCells_blk (t := t) g new.toList [] cs.toList w (by simpa using h) (by simpa using hn)
  simpa using this
section
variable {ops : Array Oper} {rest : List Oper} {o : Oper} {a : Act} {w : World} {Q : Exit → Act → World → Prop}
/-- Where a store (a load) of that type comes up the walk stands still. -/
theorem at_store (ty : TypeId) {x y : Operand} (_ho : o.op = .store ty x y) (h : Stop (wpList Try.prog ops Q (o :: rest) a w)) : wpList Try.prog ops Q (o :: rest) a w := h
theorem at_load (ty : TypeId) {x : Operand} (_ho : o.op = .load ty x) (h : Stop (wpList Try.prog ops Q (o :: rest) a w)) : wpList Try.prog ops Q (o :: rest) a w := h
/-- A struct is stored into a block that is known whole. -/
theorem wpList_store_blk (hgd : o.guard = none) (hd : o.dst = none) (ty : TypeId) (x y : Operand) (ho : o.op = .store ty x y) (g : Nat) (cs new : Array Value) (hx : a.eval x = .pointer (some ⟨g, 0, none⟩)) (hy : a.eval y = .agg new)
    (t : TypeId) (hb : Blk w g t cs) (hn : cs.size = new.size) (hi : (Try.prog.info? ty).map (·.size) = some new.size) (h1 : new.all (·.oneCell') = true)
    (h : ∀ w', Blk w' g t new → w.grownBy w' (some g) → w'.heap.size = w.heap.size → wpList Try.prog ops Q rest a w') : wpList Try.prog ops Q (o :: rest) a w := by
  refine wpList_store_mid hgd ty x y ho g 0 new hx hy (by have := hb.there; rwa [hn] at this) hi h1 ?_
  rw [hd]
  exact h _ (hb.cells_to hn) (setCells_grown g 0 _ w) (setCells_size g _ 0 w)
theorem wpList_load_blk (hgd : o.guard = none) (ty : TypeId) (x : Operand) (ho : o.op = .load ty x) (g : Nat) (hx : a.eval x = .pointer (some ⟨g, 0, none⟩)) (t : TypeId) (cs : Array Value) (hb : Blk w g t cs) (d : TypeDesc)
    (hu : Try.prog.underlying ty = some d) (hdr : d.isRow = true) (hi : (Try.prog.info? ty).map (·.size) = some cs.size)
    (h : wpList Try.prog ops Q rest (a.put o.dst (.agg cs)) w) : wpList Try.prog ops Q (o :: rest) a w :=
  wpList_load_row hgd ty x ho g hx t cs (0, 0) d hb hu (by cases d <;> simp_all [TypeDesc.isRow]) hi h
end
theorem info39 (cs : Array Value) (h : cs.size = 3) : (Try.prog.info? 39).map (·.size) = some cs.size := by rw [h]; kernel_rfl
theorem info28 (cs : Array Value) (h : cs.size = 3) : (Try.prog.info? 28).map (·.size) = some cs.size := by rw [h]; kernel_rfl
theorem info57 (cs : Array Value) (h : cs.size = 4) : (Try.prog.info? 57).map (·.size) = some cs.size := by rw [h]; kernel_rfl
theorem info47 (cs : Array Value) (h : cs.size = 5) : (Try.prog.info? 47).map (·.size) = some cs.size := by rw [h]; kernel_rfl
theorem info73 (cs : Array Value) (h : cs.size = 3) : (Try.prog.info? 73).map (·.size) = some cs.size := by rw [h]; kernel_rfl
theorem Blk.grown {w w' : World} {g g' : Nat} {t : TypeId} {cs : Array Value} (h : Blk w g t cs) (hg : w.grownBy w' (some g')) (hne : g ≠ g') : Blk w' g t cs := (hg.block g h.lt (fun e => hne (by injection e))).trans h
theorem below_grown {B : Nat} {a w w' : World} {g : Nat} (h : Below B a w) (hg : w.grownBy w' (some g)) (hB : B ≤ a.heap.size) (hgB : B ≤ g) : Below B a w' :=
  h.trans ⟨hg.os, hg.tape, hg.output, hg.size, fun k hk => hg.block k (by have := h.size; omega) (fun e => by injection e with e; omega)⟩
theorem blk_new (w : World) (t : TypeId) (cs : Array Value) {g : Nat} (hg : w.heap.size = g) : Blk (w.alloc (.cells cs t)) g t cs := by subst hg; exact Blk.new w t cs
end Go.Proofs.Yticabfmjdjcfnaa
