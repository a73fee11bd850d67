/-
  How the numbers of a law are read. Nothing is assumed.
-/
import Derived.Test.YtabbkghnijebpaaKnown
import Derived.Deep.Slices
import Derived.ChangeArms
import Derived.ChangeSlices
import Derived.WideShapes
import Derived.JoinedCond
namespace Go.Proofs.Ytabbkghnijebpaa
open Go.RowKit Go.ChangeShapes Go.WideShapes
theorem i64_bounds {n : Int} (h : (Lit.int .i64 n).wf = true) : -9223372036854775808 ≤ n ∧ n ≤ 9223372036854775807 := by
  have hmin : IntKind.i64.min = -9223372036854775808 := rfl
  have hmax : IntKind.i64.max = 9223372036854775807 := rfl
  simp only [Lit.wf, Bool.and_eq_true, decide_eq_true_eq] at h
  omega
theorem bulk_lits {H : Type} (k : IntKind) : ∀ (zs : List Int), Rows.uptoBulkAll (H := H) (lits k zs) = zs.length
  | [] => by simp [lits, Rows.uptoBulkAll]
  | z :: zs => by
    have := bulk_lits (H := H) k zs
    unfold lits at this ⊢
    simp only [List.map_cons, Rows.uptoBulkAll, Rows.uptoBulk, List.length_cons, this]
    omega
theorem open_row {t e : Nat} (und : Try.prog.underlying t = some (.slice e)) (unde : Try.prog.underlying e = some (.int .i64)) (hc1 : Try.prog.cellsOf e = 1) {H : Type} {enc : TypeId × Value → H} {w : World} {base : Nat} {held : Bool} {v : Value} {d : DataW H} {p : List MemPlace}
    (h : DataW.Trod enc Try.prog w base (fun _ => true) held t v d p) (hv : ∃ c, v.cells.toList = [c] ∧ v = c) :
    ∃ A n k z, v = .slice A n k ∧ Ints w A n z ∧ n ≤ k ∧ k ≤ maxLen ∧ n ≤ Rows.uptoBulk d := by
  obtain ⟨c, hc, rfl⟩ := hv
  obtain ⟨fuel, hf⟩ := h
  rw [hc] at hf
  rcases open_ints und unde hc1 hf with ⟨hcs, _⟩ | ⟨x, l, k, zs, hcs, _, hl, hm, hz, hd, hcell, hwz⟩
  · simp at hcs
    exact ⟨none, 0, 0, fun _ => 0, hcs, ⟨fun h => by omega, fun j hj => by omega⟩, Nat.le_refl _, by unfold maxLen; omega, by omega⟩
  · simp at hcs
    have hz' : zs.length = k := by simpa using hz
    injection hd with hd1 hd2
    refine ⟨some x, l, k, fun j => zs.getD j 0, hcs, ⟨fun h0 => ⟨x, rfl, ?_, fun j hj => hcell j (by omega)⟩, fun j hj => ?_⟩, hl, hm, ?_⟩
    · have := block_lt_of_cell (hcell 0 (by omega))
      rwa [block_of_add] at this
    · have hj' : j < zs.length := by omega
      have := i64_bounds (hwz (zs[j]) (List.getElem_mem hj'))
      show In64 (zs.getD j 0)
      rw [List.getD_eq_getElem?_getD, List.getElem?_eq_getElem hj']
      exact this
    · rw [hd1]
      simp only [Rows.uptoBulk, bulk_lits, List.length_take]
      omega
set_option maxRecDepth 100000 in
theorem slice_one {w : World} {r : Reach} {b t e : Nat} {v : Value} (ht : Try.prog.underlying t = some (.slice e)) (h : Value.okWide Try.prog w r b t v) : ∃ c, v.cells.toList = [c] ∧ v = c := by
  obtain ⟨a, n, k, rfl⟩ := okWide_slice ht h
  exact ⟨_, rfl, rfl⟩
theorem open_22 {H : Type} {enc : TypeId × Value → H} {w : World} {base : Nat} {held : Bool} {v : Value} {d : DataW H} {p : List MemPlace} (h : DataW.Trod enc Try.prog w base (fun _ => true) held 22 v d p) (hv : ∃ c, v.cells.toList = [c] ∧ v = c) :
    ∃ A n k z, v = .slice A n k ∧ Ints w A n z ∧ n ≤ k ∧ k ≤ maxLen ∧ n ≤ Rows.uptoBulk d := open_row Try.underlying22 Try.underlying2 (by kernel_rfl) h hv
theorem open_23 {H : Type} {enc : TypeId × Value → H} {w : World} {base : Nat} {held : Bool} {v : Value} {d : DataW H} {p : List MemPlace} (h : DataW.Trod enc Try.prog w base (fun _ => true) held 23 v d p) (hv : ∃ c, v.cells.toList = [c] ∧ v = c) :
    ∃ A n k z, v = .slice A n k ∧ Ints w A n z ∧ n ≤ k ∧ k ≤ maxLen ∧ n ≤ Rows.uptoBulk d := open_row Try.underlying23 Try.underlying3 (by kernel_rfl) h hv
end Go.Proofs.Ytabbkghnijebpaa
