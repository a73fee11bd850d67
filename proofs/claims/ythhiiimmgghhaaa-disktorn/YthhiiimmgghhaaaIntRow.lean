/-
  A law's numbers: a slice of integers that came in. Nothing is assumed.
-/
import Derived.Test.YthhiiimmgghhaaaOpen
namespace Go.Proofs.Ythhiiimmgghhaaa
open Go.RowKit Go.ChangeShapes Go.WideShapes
/-- A slice of integers. -/
def Ints (w : World) (A : Option Addr) (n : Nat) (zs : List Int) : Prop :=
  zs.length = n ∧ (0 < n → ∃ ad, A = some ad ∧ ad.block < w.heap.size ∧ ∀ j z, zs[j]? = some z → w.cell? (ad.add j) = some (.int .i64 z))
theorem Ints.below {w w' : World} {A : Option Addr} {n : Nat} {zs : List Int} (h : Ints w A n zs) (hb : Below w.heap.size w w') : Ints w' A n zs :=
  ⟨h.1, fun h0 => by
    obtain ⟨ad, e, hl, hc⟩ := h.2 h0
    exact ⟨ad, e, Nat.lt_of_lt_of_le hl hb.size, fun j z hz => (hb.cell (p := ad.add j) (by rw [block_of_add]; exact hl)).trans (hc j z hz)⟩⟩
theorem open_introw {H : Type} {enc : TypeId × Value → H} {w : World} {base : Nat} {held : Bool} {v : Value} {d : DataW H} {p : List MemPlace} (h : DataW.Trod enc Try.prog w base (fun _ => true) held 71 v d p) (hv : ∃ c, v.cells.toList = [c] ∧ v = c) :
    ∃ A n k zs, v = .slice A n k ∧ Ints w A n zs ∧ n ≤ k ∧ k ≤ maxLen := by
  obtain ⟨c, hc, rfl⟩ := hv
  obtain ⟨fuel, hf⟩ := h
  rw [hc] at hf
  rcases open_ints Try.underlying71 Try.underlying3 (by kernel_rfl) hf with ⟨hcs, _⟩ | ⟨x, l, k, zs, hcs, _, hl, hm, hz, _, hcell, hwz⟩
  · simp at hcs
    exact ⟨none, 0, 0, [], hcs, ⟨rfl, fun h => by omega⟩, Nat.le_refl _, by unfold maxLen; omega⟩
  · simp at hcs
    have hz' : zs.length = k := by simpa using hz
    refine ⟨some x, l, k, zs.take l, hcs, ⟨by simp; omega, fun h0 => ⟨x, rfl, ?_, fun j u hu => ?_⟩⟩, hl, hm⟩
    · have := block_lt_of_cell (hcell 0 (by omega))
      rwa [block_of_add] at this
    · rw [List.getElem?_take] at hu
      split at hu
      · rw [hcell j (List.getElem?_eq_some_iff.1 hu).1, List.getD_eq_getElem?_getD, hu]; rfl
      · cases hu
set_option maxRecDepth 100000 in
theorem slice_one {w : World} {r : Reach} {b t e : Nat} {v : Value} (ht : Try.prog.underlying t = some (.slice e)) (h : Value.okWide Try.prog w r b t v) : ∃ c, v.cells.toList = [c] ∧ v = c := by
  obtain ⟨a, n, k, rfl⟩ := okWide_slice ht h
  exact ⟨_, rfl, rfl⟩
theorem open_byrow {H : Type} {enc : TypeId × Value → H} {w : World} {base : Nat} {held : Bool} {v : Value} {d : DataW H} {p : List MemPlace} (h : DataW.Trod enc Try.prog w base (fun _ => true) held 32 v d p) (hv : ∃ c, v.cells.toList = [c] ∧ v = c) :
    ∃ A n k l, v = .slice A n k ∧ Bys w No A n l ∧ n ≤ k ∧ k ≤ maxLen := by
  obtain ⟨c, hc, rfl⟩ := hv
  obtain ⟨fuel, hf⟩ := h
  rw [hc] at hf
  exact trod_bys hf
set_option maxRecDepth 100000 in
theorem noughts (n : Nat) (hn : n ≤ 1000000) (w : World) : (Instr.makeSlice 32 (.int .i64 (n : Int)) (.int .i64 (n : Int))).run Try.prog w = .ok (.slice (some ⟨w.heap.size, 0, none⟩) n n) (w.alloc (.cells (List.replicate n (Value.int .u8 0)).toArray 5)) := by
  obtain ⟨i, hi, hz0, hz1, hz2⟩ := info_parts info5
  have hr := run_make (P := Try.prog) w 32 5 i (.int .u8 0) Try.underlying32 hi hz0 .i64 .i64 n n (by omega) (by omega) (by rw [hz2]; omega) (by omega)
  simp only [Int.toNat_natCast] at hr
  rw [hr]
  congr 2
  have h : (madeCells #[Value.int .u8 0] (n * i.size)).toList = List.replicate n (Value.int .u8 0) := by rw [toList_madeCells_one, hz1, Nat.mul_one]
  rw [← h]
  rfl
theorem bys_noughts (w : World) (n : Nat) : Bys (w.alloc (.cells (List.replicate n (Value.int .u8 0)).toArray 5)) No (some ⟨w.heap.size, 0, none⟩) n (List.replicate n 0) := by
  refine ⟨by simp, fun _ => ⟨_, rfl, by simp, fun h => h, fun j u hu => ?_⟩⟩
  have hadd : (⟨w.heap.size, 0, none⟩ : Addr).add j = ⟨w.heap.size, j, none⟩ := by unfold Addr.add; split <;> simp_all
  rw [hadd, (Blk.new w 5 _).cell j]
  rw [List.getElem?_replicate] at hu
  split at hu
  · rename_i hj
    injection hu with hu
    subst hu
    simp [hj, byteV]
  · cases hu
end Go.Proofs.Ythhiiimmgghhaaa
