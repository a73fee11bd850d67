/-
  Bytes and texts: conversions, copies, appends, a row that is shortened. Conditions: at most 1000000000 bytes on each side.
-/
import Derived.Test.YthhiiimmgghhaaaLeaf
import Derived.Shelf.Abstract
import Derived.OwnWalkIn
import Derived.TacticsInMore
namespace Go.Proofs.Ythhiiimmgghhaaa
open Go.RowKit Go.Shelf
attribute [local go_sem] Oper.semAt_some
theorem conv_str (w : World) (X : Nat → Prop) (A : Option Addr) (n c : Nat) (l : Bs) (hr : Bys w X A n l) : (convert 32 9 (.slice A n c)).run Try.prog w = .ok (.string (str l)) w := by
  rw [run_convert_bytes_string w 32 9 5 A n c Try.underlying32 Try.underlying5 Try.underlying9]
  rcases A with _ | ad
  · have h0 : n = 0 := by
      rcases Nat.eq_zero_or_pos n with h0 | h0
      · exact h0
      · obtain ⟨ad, h, _⟩ := hr.2 h0
        cases h
    subst h0
    have hk : l = [] := List.eq_nil_of_length_eq_zero hr.1
    subst hk
    rfl
  · have hl : (loadCells ad n).run Try.prog w = .ok ((l.map fun x => (x.toNat : Int)).map (Value.int .u8)).toArray w := by
      have := run_loadCells_list (P := Try.prog) w ad ((l.map fun x => (x.toNat : Int)).map (Value.int .u8)) (fun j v hj => by
        rw [List.map_map, List.getElem?_map] at hj
        cases hx : l[j]? with
        | none => rw [hx] at hj; cases hj
        | some x =>
          rw [hx] at hj
          injection hj with hj
          subst hj
          have hlt : j < l.length := (List.getElem?_eq_some_iff.1 hx).1
          obtain ⟨ad', h, _, _, hc⟩ := hr.2 (by have := hr.1; omega)
          injection h with h
          subst h
          exact hc j x hx)
      simpa [hr.1] using this
    rw [run_bytesToString w _ n c _ hl, foldl_push_bytes]
    congr 2
    unfold str
    congr 1
    simp [ByteArray.empty, ByteArray.emptyWithCapacity]
    show [] ++ List.map ((fun n => UInt8.ofNat n.toNat) ∘ fun x : UInt8 => (x.toNat : Int)) l = l
    rw [List.nil_append]
    conv => rhs; rw [← List.map_id l]
    apply List.map_congr_left
    intro x _
    simp
/-- A place where the walk stands still. -/
def Stop (p : Prop) : Prop := p
theorem stop {p : Prop} (h : Stop p) : p := h
theorem Stop.go {p : Prop} (h : p) : Stop p := h
section
variable (w : World) {ops : Array Oper} {rest : List Oper} {o : Oper} {a : Act} {Q : Exit → Act → World → Prop}
theorem wpList_append_bytes (hw : Region.wanted o (yielded ops a.tmps) = true) (s x : Operand)
    (ho : o.op = .call { callee := .builtin .append, args := #[s, x], argTypes := #[32, 32] })
    (v : Value) (l : Bs) (hs : a.eval s = v) (hown : Own w v l) (X : Nat → Prop) (A : Option Addr) (m c : Nat) (k : Bs) (hx : a.eval x = .slice A m c) (hr : Bys w X A m k)
    (hl : l.length ≤ 1000000000) (hm : m ≤ 1000000000)
    (h : ∀ v' w', Own w' v' (l ++ k) → Grew v w v' w' → wpList Try.prog ops Q rest (a.put o.dst v') w') : wpList Try.prog ops Q (o :: rest) a w := by
  refine BigFrame.wpList_want hw fun K hK => ?_
  obtain ⟨v', w', hrun, h2, h3⟩ := run_append_bytes w v l hown X A m c k hr o.type hl hm
  unfold Oper.wp execOp
  simp only [ho, resolve, invoke, builtin, Sem.run_bind, Sem.run_pure, Result.andThen_ok, List.map_toArray, List.map_cons, List.map_nil, hs, hx, hrun]
  exact hK _ _ (h v' w' h2 h3)
end
/-- What is known behind a call that hands a new row back. -/
def Fresh (w : World) (l : Bs) (e : Ending) (w' : World) : Prop := ∃ v, e = .returned v ∧ Own w' v l ∧ (∀ g, v.ownBlock = some g → w.heap.size ≤ g) ∧ Below w.heap.size w w'
theorem q32 (w : World) (a : Option Addr) (n c n' c' : Nat) : (binOp .eql 32 (.slice a n c) (.slice none n' c')).run Try.prog w = .ok (.bool a.isNone) w := Lib.run_eql_slice_nil w _ _ a n c n' c' Try.underlying32
set_option maxHeartbeats 400000 in
theorem clone_any (A : Option Addr) (n c : Nat) (l : Bs) (X : Nat → Prop) (w : World) (hr : Bys w X A n l) (hn : n ≤ 1000000000) : Calls Try.prog 65 #[.slice A n c] w (Fresh w l) := by
  have q := q32
  rcases A with _ | ad
  · have h0 : n = 0 := by
      rcases Nat.eq_zero_or_pos n with h0 | h0
      · exact h0
      · obtain ⟨ad, h, _⟩ := hr.2 h0
        cases h
    subst h0
    have hk : l = [] := List.eq_nil_of_length_eq_zero hr.1
    subst hk
    go_enter Try.func65, Try.ntmps65
    go_wp2_with fail
    go_ret
    exact ⟨_, rfl, Own.nil _, fun g e => (by cases e), Below.refl _ _⟩
  · go_enter Try.func65, Try.ntmps65
    go_wp2_with (at_builtin; refine wpList_append_bytes _ (by rfl) _ _ (by rfl) _ [] (by rfl) (own_empty w) X _ n _ l (by rfl) (hr.alloc _) (by simp) (by omega) ?_; intro v' w' ho' hg')
    go_ret
    have hg := (Grew.alloc (v := .slice (some ⟨w.heap.size, 0, none⟩) 0 0) (w := w) (.cells #[] 5)).trans hg'
    exact ⟨_, rfl, ho', fun g e => (hg.2 g e).elim (fun q => (by cases q; exact Nat.le_refl _)) id, hg.low (fun g e => (by cases e; exact Nat.le_refl _))⟩
set_option maxHeartbeats 400000 in
theorem equal_any (A : Option Addr) (n c : Nat) (l : Bs) (A' : Option Addr) (n' c' : Nat) (l' : Bs) (X X' : Nat → Prop) (w : World) (hr : Bys w X A n l) (hr' : Bys w X' A' n' l') :
    Calls Try.prog 78 #[.slice A n c, .slice A' n' c'] w fun e w' => e = .returned (.bool (l == l')) ∧ w = w' := by
  have h1 := conv_str w X A n c l hr
  have h2 := conv_str w X' A' n' c' l' hr'
  go_enter Try.func78, Try.ntmps78
  go_wp2
  go_ret
  exact ⟨by rw [str_toList, str_toList]; rfl, rfl⟩
theorem slice_to (a : Option Addr) (n c k : Nat) (i : Int) (hi : i = (k : Int)) (hk : k ≤ c) (W : World) : (Instr.slice 32 (.slice a n c) none (some (.int .i64 i)) none).run Try.prog W = .ok (.slice a k c) W := by
  subst hi
  obtain ⟨j, hj, hz0, hz1, hz2⟩ := info_parts info5
  have ha : a.map (fun x : Addr => x.add 0) = a := by cases a <;> simp [Addr.add]
  simp [Instr.slice, run_underlying Try.underlying32, Instr.sliceBounds, Instr.sliceBound, asIntOf, hk, sizeOf, typeInfo, hj, ha]
set_option maxHeartbeats 1000000 in
/-- disk.shortened: the first k bytes, in the row or in a new one. -/
theorem short_any (A : Option Addr) (n c : Nat) (l : Bs) (k : Nat) (w : World) (ho : Own w (.slice A n c) l) (hn : n ≤ 1000000000) (hk : k ≤ n) :
    Calls Try.prog 80 #[.slice A n c, .int .i64 (k : Int)] w fun e w' => ∃ v', e = .returned v' ∧ Own w' v' (l.take k) ∧ Grew (.slice A n c) w v' w' := by
  obtain ⟨A', q, c', e, hq, hc, hm⟩ := ho.form
  injection e with e1 e2 e3
  subst e1 e2 e3
  have HO := Lib.hid (ho.cut hk)
  have HB := Lib.hid ((ho.bys (X := No) (fun _ _ h => h.elim)).first hk)
  have hs := slice_to A n c k (k : Int) rfl (by omega)
  unfold maxLen at hm
  clear hq
  by_cases hlt : (k : Int) < (c : Int) / 2
  · go_enter Try.func80, Try.ntmps80
    go_wp2_with (at_builtin; refine wpList_append_bytes _ (by rfl) _ _ (by rfl) _ [] (by rfl) (Own.nil w) No _ k _ (l.take k) (by rfl) HB.out (by simp) (by omega) ?_; intro v' w' ho' hg')
    go_ret
    refine ⟨_, rfl, ho', ?_⟩
    exact ⟨grown_of_low (hg'.low (fun g e => (by cases e))) _, fun g e => .inr ((hg'.2 g e).elim (fun q => (by cases q)) id)⟩
  · go_enter Try.func80, Try.ntmps80
    go_wp2_with fail
    go_ret
    refine ⟨.slice A k c, rfl, HO.out, Grew.refl.1, fun g e => .inl ?_⟩
    cases A <;> exact e
end Go.Proofs.Ythhiiimmgghhaaa
