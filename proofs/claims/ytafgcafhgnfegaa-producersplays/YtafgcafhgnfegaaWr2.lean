/-
  The open transactions' Nums; a cell that is stored as it is. Nothing is assumed.
-/
import Derived.Test.YtafgcafhgnfegaaTwo
namespace Go.Proofs.Ytafgcafhgnfegaa
open Go.RowKit Go.Maps
set_option linter.unusedVariables false
theorem opR_mem (mk : Int → Bool) (id : Int) : ∀ (l : List Ent) (p : Int × Nat), p ∈ opR mk id l → ∃ e, e ∈ l ∧ e.num = p.1
  | [], p, h => by cases h
  | e :: r, p, h => by
    unfold opR at h
    split at h
    · rcases List.mem_append.1 h with h | h
      · obtain ⟨x, hx, hp⟩ := opR_mem mk id r p h
        exact ⟨x, List.mem_cons_of_mem _ hx, hp⟩
      · rw [List.mem_singleton.1 h]
        exact ⟨e, List.mem_cons_self, rfl⟩
    · obtain ⟨x, hx, hp⟩ := opR_mem mk id r p h
      exact ⟨x, List.mem_cons_of_mem _ hx, hp⟩
theorem opens_in64 {l : List Ent} (h : AllR l) (id : Int) {p : Int × Nat} (hp : p ∈ (wr id l).opens) : In64 p.1 := by
  rw [wr_opens h] at hp
  obtain ⟨e, he, hp⟩ := opR_mem _ _ _ p hp
  rw [← hp]
  exact (right_in64 (h e (List.mem_reverse.1 he))).1
theorem setCell_same {w : World} {p : Addr} {u : Value} (h : w.cell? p = some u) : w.setCell p u = w := by
  unfold World.cell? at h
  unfold World.setCell
  have hh : w.heap.modify p.block (fun
      | .cells c elem frozen => .cells (if p.spot.isSome then c else c.setIfInBounds p.off u) elem frozen
      | o => o) = w.heap := by
    apply Array.ext_getElem?
    intro i
    rw [Array.getElem?_modify]
    split
    · rename_i hi
      subst hi
      cases hb : w.heap[p.block]? with
      | none => rfl
      | some o =>
        rw [hb] at h
        cases o with
        | cells c e f =>
          simp only at h
          split at h
          · cases h
          · rename_i hs
            simp only [Option.map_some, hs]
            congr 2
            apply Array.ext_getElem?
            intro j
            simp only [Bool.false_eq_true, if_false, Array.getElem?_setIfInBounds]
            split
            · rename_i hj
              subst hj
              rw [h]
              split
              · rfl
              · rename_i hlt
                exact absurd (Array.getElem?_eq_some_iff.1 h).1 hlt
            · rfl
        | _ => cases h
    · rfl
  exact congrArg (fun h => ({ w with heap := h } : World)) hh
end Go.Proofs.Ytafgcafhgnfegaa
