/-
  Bytes and texts: conversions, appends. Conditions: at most 1000000000 bytes on each side.
-/
import Derived.Test.YticabfmjdjcfnaaMapn
import Derived.Lib.UnsafeStr
import Derived.Lib.BufferWrite
import Derived.Laws.MakeOwn
import Derived.Lib.Walk
import Derived.Shelf.Abstract
import Derived.OwnWalkIn
import Derived.TacticsInMore
namespace Go.Proofs.Yticabfmjdjcfnaa
open Go.RowKit Go.Shelf
attribute [local go_sem] Oper.semAt_some
theorem conv_str (w : World) (X : Nat → Prop) (A : Option Addr) (n c : Nat) (l : Bs) (hr : Bys w X A n l) : (convert 37 9 (.slice A n c)).run Try.prog w = .ok (.string (str l)) w := by
  rw [run_convert_bytes_string w 37 9 5 A n c Try.underlying37 Try.underlying5 Try.underlying9]
  rcases A with _ | ad
  · have h0 : n = 0 := by
      rcases Nat.eq_zero_or_pos n with h0 | h0
      · exact h0
      · obtain ⟨ad, h, _⟩ := hr.2 h0
        cases h
    subst h0
    have hk : l = [] := List.eq_nil_of_length_eq_zero hr.1
    subst hk
    rfl
  · have hl : (loadCells ad n).run Try.prog w = .ok ((l.map fun x => (x.toNat : Int)).map (Value.int .u8)).toArray w := by
      have := run_loadCells_list (P := Try.prog) w ad ((l.map fun x => (x.toNat : Int)).map (Value.int .u8)) (fun j v hj => by
        rw [List.map_map, List.getElem?_map] at hj
        cases hx : l[j]? with
        | none => rw [hx] at hj; cases hj
        | some x =>
          rw [hx] at hj
          injection hj with hj
          subst hj
          have hlt : j < l.length := (List.getElem?_eq_some_iff.1 hx).1
          obtain ⟨ad', h, _, _, hc⟩ := hr.2 (by have := hr.1; omega)
          injection h with h
          subst h
          exact hc j x hx)
      simpa [hr.1] using this
    rw [run_bytesToString w _ n c _ hl, foldl_push_bytes]
    congr 2
    unfold str
    congr 1
    simp [ByteArray.empty, ByteArray.emptyWithCapacity]
    show [] ++ List.map ((fun n => UInt8.ofNat n.toNat) ∘ fun x : UInt8 => (x.toNat : Int)) l = l
    rw [List.nil_append]
    conv => rhs; rw [← List.map_id l]
    apply List.map_congr_left
    intro x _
    simp
/-- A place where the walk stands still. -/
def Stop (p : Prop) : Prop := p
theorem stop {p : Prop} (h : Stop p) : p := h
theorem Stop.go {p : Prop} (h : p) : Stop p := h
section
variable (w : World) {ops : Array Oper} {rest : List Oper} {o : Oper} {a : Act} {Q : Exit → Act → World → Prop}
theorem wpList_append_bytes (hw : Region.wanted o (yielded ops a.tmps) = true) (s x : Operand)
    (ho : o.op = .call { callee := .builtin .append, args := #[s, x], argTypes := #[37, 37] })
    (v : Value) (l : Bs) (hs : a.eval s = v) (hown : Own w v l) (X : Nat → Prop) (A : Option Addr) (m c : Nat) (k : Bs) (hx : a.eval x = .slice A m c) (hr : Bys w X A m k)
    (hl : l.length ≤ 1000000000) (hm : m ≤ 1000000000)
    (h : ∀ v' w', Own w' v' (l ++ k) → Grew v w v' w' → wpList Try.prog ops Q rest (a.put o.dst v') w') : wpList Try.prog ops Q (o :: rest) a w := by
  refine BigFrame.wpList_want hw fun K hK => ?_
  obtain ⟨v', w', hrun, h2, h3⟩ := run_append_bytes w v l hown X A m c k hr o.type hl hm
  unfold Oper.wp execOp
  simp only [ho, resolve, invoke, builtin, Sem.run_bind, Sem.run_pure, Result.andThen_ok, List.map_toArray, List.map_cons, List.map_nil, hs, hx, hrun]
  exact hK _ _ (h v' w' h2 h3)
end
/-- What is known behind a call that hands a new row back. -/
def Fresh (w : World) (l : Bs) (e : Ending) (w' : World) : Prop := ∃ v, e = .returned v ∧ Own w' v l ∧ (∀ g, v.ownBlock = some g → w.heap.size ≤ g) ∧ Below w.heap.size w w'
theorem slice_to (a : Option Addr) (n c k : Nat) (i : Int) (hi : i = (k : Int)) (hk : k ≤ c) (W : World) : (Instr.slice 37 (.slice a n c) none (some (.int .i64 i)) none).run Try.prog W = .ok (.slice a k c) W := by
  subst hi
  obtain ⟨j, hj, hz0, hz1, hz2⟩ := info_parts info5
  have ha : a.map (fun x : Addr => x.add 0) = a := by cases a <;> simp [Addr.add]
  simp [Instr.slice, run_underlying Try.underlying37, Instr.sliceBounds, Instr.sliceBound, asIntOf, hk, sizeOf, typeInfo, hj, ha]
theorem ret_i64 {a b : Int} (h : a = b) : Ending.returned (.int .i64 a) = .returned (.int .i64 b) := by rw [h]
theorem ret_bool {a b : Bool} (h : a = b) : Ending.returned (.bool a) = .returned (.bool b) := by rw [h]
end Go.Proofs.Yticabfmjdjcfnaa
