/-
  Rows of entries of the call's own, and appending to them. Conditions: fewer than 1000000 entries on each side.
-/
import Derived.Test.YtickdpgfiianjaaWorks
import Derived.Shelf.Abstract
import Derived.OwnWalkIn
import Derived.TacticsInMore
namespace Go.Proofs.Ytickdpgfiianjaa
open Go.RowKit Go.Shelf
attribute [local go_sem] Oper.semAt_some
def zero6 : Value := .agg #[.int .i64 0, .int .i64 0, .int .i64 0, .int .i64 0, .int .i64 0, .int .i64 0]
theorem info38 : (Try.prog.info? 38).map (fun i => (i.zero, i.size, i.bytes)) = some (some zero6, 6, 48) := by kernel_rfl
def flat (es : List Ent) : List Value := es.flatMap (fun e => e.cells.toList)
theorem length_flat : ∀ es : List Ent, (flat es).length = es.length * 6
  | [] => rfl
  | e :: es => by
    show (e.cells.toList ++ flat es).length = (es.length + 1) * 6
    rw [List.length_append, length_flat es]
    show 6 + es.length * 6 = _
    omega
theorem flat_append (a b : List Ent) : flat (a ++ b) = flat a ++ flat b := by unfold flat; rw [List.flatMap_append]
/-- The value v is a row of the call's own (at or above block base) that holds the entries es. -/
def OwnE (w : World) (base : Nat) (v : Value) (es : List Ent) : Prop := w.ownsRow base 38 6 v es.length (flat es)
theorem OwnE.nil (w : World) (base : Nat) : OwnE w base (.slice none 0 0) [] := World.ownsRow_nil w base 38 6
theorem OwnE.lt {w : World} {base : Nat} {v : Value} {es : List Ent} (h : OwnE w base v es) {g : Nat} (e : v.ownBlock = some g) : base ≤ g ∧ g < w.heap.size := World.ownsRow.lt h g e
theorem OwnE.keep {w w' : World} {base : Nat} {v : Value} {es : List Ent} (h : OwnE w base v es) (hk : ∀ g, v.ownBlock = some g → w'.heap[g]? = w.heap[g]?) : OwnE w' base v es := by
  refine ⟨h.1, ?_⟩
  rcases h.2 with h | ⟨g, cap, cur, h1, h2, h3, h4⟩
  · exact .inl h
  · exact .inr ⟨g, cap, cur, h1, h2, (hk g (by rw [h1]; rfl)).trans h3, h4⟩
theorem OwnE.below {w w' : World} {base B : Nat} {v : Value} {es : List Ent} (h : OwnE w base v es) (hb : Below B w w') (hB : w.heap.size ≤ B) : OwnE w' base v es :=
  h.keep fun g e => hb.block g (by have := (h.lt e).2; omega)
theorem OwnE.mono {w : World} {base base' : Nat} {v : Value} {es : List Ent} (h : OwnE w base v es) (hb : base' ≤ base) : OwnE w base' v es := by
  refine ⟨h.1, ?_⟩
  rcases h.2 with h | ⟨g, cap, cur, h1, h2, h3⟩
  · exact .inl h
  · exact .inr ⟨g, cap, cur, h1, by omega, h3⟩
theorem OwnE.form {w : World} {base : Nat} {v : Value} {es : List Ent} (h : OwnE w base v es) : ∃ A q c, v = .slice A q c ∧ q = es.length ∧ q ≤ c ∧ c ≤ maxLen := by
  rcases h.2 with ⟨rfl, h0⟩ | ⟨g, cap, cur, rfl, _, _, h1, h2, _⟩
  · exact ⟨none, 0, 0, rfl, by rw [h0], Nat.le_refl _, by unfold maxLen; omega⟩
  · exact ⟨_, _, _, rfl, rfl, h1, h2⟩
theorem OwnE.cells {w : World} {base : Nat} {A : Option Addr} {q c : Nat} {es : List Ent} (h : OwnE w base (.slice A q c) es) (h0 : 0 < q) : ∃ g, A = some ⟨g, 0, none⟩ ∧ base ≤ g ∧ g < w.heap.size ∧ ∀ (j : Nat) (u : Value), (flat es)[j]? = some u → w.cell? ⟨g, j, none⟩ = some u := by
  rcases h.2 with ⟨e, _⟩ | ⟨g, cap, cur, e, hg, hh, h1, h2, h3, h4⟩
  · injection e with _ e2 e3; omega
  · injection e with e1 e2 e3
    subst e1 e2 e3
    have hlt : g < w.heap.size := by
      rcases Nat.lt_or_ge g w.heap.size with hl | hge
      · exact hl
      · rw [Array.getElem?_eq_none hge] at hh; cases hh
    refine ⟨g, rfl, hg, hlt, fun j u hu => ?_⟩
    rw [cell_of_row w g j cur 38 (0, 0) hh]
    have h5 := congrArg (fun z => z[j]?) h4
    simp only [hu] at h5
    rw [List.getElem?_take] at h5
    split at h5
    · rw [Array.getElem?_toList] at h5; exact h5
    · cases h5
theorem flat_at : ∀ (es : List Ent) (i : Nat) (e : Ent), es[i]? = some e → ∀ (j : Nat) (u : Value), e.cells[j]? = some u → (flat es)[i * 6 + j]? = some u
  | [], i, e, h, j, u, hu => by simp at h
  | x :: es, 0, e, h, j, u, hu => by
    simp at h
    subst h
    show (x.cells.toList ++ flat es)[0 * 6 + j]? = some u
    have hj : j < 6 := by
      rcases Nat.lt_or_ge j 6 with h | h
      · exact h
      · rw [Array.getElem?_eq_none (by show 6 ≤ j; exact h)] at hu; cases hu
    rw [Nat.zero_mul, Nat.zero_add, List.getElem?_append_left (by show j < 6; exact hj), Array.getElem?_toList]
    exact hu
  | x :: es, i + 1, e, h, j, u, hu => by
    rw [List.getElem?_cons_succ] at h
    show (x.cells.toList ++ flat es)[(i + 1) * 6 + j]? = some u
    rw [List.getElem?_append_right (by show 6 ≤ _; omega)]
    show (flat es)[(i + 1) * 6 + j - 6]? = some u
    rw [show (i + 1) * 6 + j - 6 = i * 6 + j from by omega]
    exact flat_at es i e h j u hu
theorem at_of_flat {w : World} {p : Addr} {e : Ent} (h : ∀ (j : Nat) (u : Value), e.cells[j]? = some u → w.cell? (p.add j) = some u) : At w p e := by
  have f : ∀ j, p.add (j + 1) = ⟨p.block, p.off + (j + 1), none⟩ := fun j => by simp [Addr.add]
  refine ⟨?_, ?_, ?_, ?_, ?_, ?_⟩
  · have := h 0 (.int .i64 e.epoch) rfl; simpa [Addr.add] using this
  · have := h 1 _ rfl; rw [f] at this; exact this
  · have := h 2 _ rfl; rw [f] at this; exact this
  · have := h 3 _ rfl; rw [f] at this; exact this
  · have := h 4 _ rfl; rw [f] at this; exact this
  · have := h 5 _ rfl; rw [f] at this; exact this
theorem flat_of_at {w : World} {p : Addr} {e : Ent} (h : At w p e) : ∀ (j : Nat) (u : Value), e.cells[j]? = some u → w.cell? (p.add j) = some u := by
  have f : ∀ j, p.add (j + 1) = ⟨p.block, p.off + (j + 1), none⟩ := fun j => by simp [Addr.add]
  obtain ⟨h0, h1, h2, h3, h4, h5⟩ := h
  intro j u hu
  match j, hu with
  | 0, hu =>
    injection hu with hu
    subst hu
    have h6 : w.cell? (p.add 0) = some (.int .i64 e.epoch) := by simpa [Addr.add] using h0
    exact h6
  | 1, hu => injection hu with hu; subst hu; rw [f]; exact h1
  | 2, hu => injection hu with hu; subst hu; rw [f]; exact h2
  | 3, hu => injection hu with hu; subst hu; rw [f]; exact h3
  | 4, hu => injection hu with hu; subst hu; rw [f]; exact h4
  | 5, hu => injection hu with hu; subst hu; rw [f]; exact h5
  | j + 6, hu => rw [Array.getElem?_eq_none (by show 6 ≤ j + 6; omega)] at hu; cases hu
theorem OwnE.ents {w : World} {base : Nat} {A : Option Addr} {q c : Nat} {es : List Ent} (h : OwnE w base (.slice A q c) es) : Ents w w.heap.size A q es := by
  obtain ⟨A', q', c', e, hq, _⟩ := h.form
  injection e with e1 e2 e3
  subst e1 e2 e3
  refine ⟨hq.symm, fun h0 => ?_⟩
  obtain ⟨g, rfl, _, hlt, hc⟩ := h.cells h0
  refine ⟨_, rfl, hlt, fun i e he => at_of_flat fun j u hu => ?_⟩
  rw [add_of_add]
  have := hc _ u (flat_at es i e he j u hu)
  unfold Addr.add
  split
  · rename_i hz; rw [hz] at this; exact this
  · simpa using this
theorem flat_get : ∀ (es : List Ent) (j : Nat) (u : Value), (flat es)[j]? = some u → ∃ i e k, j = i * 6 + k ∧ es[i]? = some e ∧ e.cells[k]? = some u
  | [], j, u, h => by simp [flat] at h
  | x :: es, j, u, h => by
    have h' : (x.cells.toList ++ flat es)[j]? = some u := h
    rcases Nat.lt_or_ge j 6 with hj | hj
    · rw [List.getElem?_append_left (by show j < 6; exact hj), Array.getElem?_toList] at h'
      exact ⟨0, x, j, by omega, rfl, h'⟩
    · rw [List.getElem?_append_right (by show 6 ≤ j; exact hj)] at h'
      have h2 : (flat es)[j - 6]? = some u := h'
      obtain ⟨i, e, k, e1, e2, e3⟩ := flat_get es (j - 6) u h2
      exact ⟨i + 1, e, k, by omega, by simpa using e2, e3⟩
theorem Ents.flat {w : World} {B n : Nat} {ad : Addr} {es : List Ent} (h : Ents w B (some ad) n es) : ∀ (j : Nat) (u : Value), (flat es)[j]? = some u → w.cell? (ad.add j) = some u := by
  intro j u hu
  obtain ⟨i, e, k, rfl, he, hk⟩ := flat_get es j u hu
  have hi : i < es.length := (List.getElem?_eq_some_iff.1 he).1
  obtain ⟨ad', e1, _, hc⟩ := h.2 (by have := h.1; omega)
  injection e1 with e1
  subst e1
  have := flat_of_at (hc i e he) k u hk
  rwa [add_of_add] at this
theorem cells_one (e : Ent) : ∀ u ∈ e.cells.toList, u.oneCell' = true := by
  intro u hu
  have : u ∈ [Value.int .i64 e.epoch, .int .i64 e.id, .int .i64 e.num, .int .i64 e.seq, .int .i64 e.kind, .int .i64 e.value] := hu
  simp at this
  rcases this with rfl | rfl | rfl | rfl | rfl | rfl <;> rfl
set_option maxRecDepth 100000 in
theorem run_append_ents (w : World) (base : Nat) (v : Value) (es : List Ent) (hown : OwnE w base v es) (B : Nat) (A : Option Addr) (m c : Nat) (ks : List Ent) (hr : Ents w B A m ks) (ty : TypeId)
    (hl : es.length < 1000000) (hm : m < 1000000) (hbase : base ≤ w.heap.size) :
    ∃ v' w', (Builtin.append_ #[43, 43] ty #[v, .slice A m c]).run Try.prog w = .ok v' w' ∧ OwnE w' base v' (es ++ ks) ∧ Grew v w v' w' := by
  obtain ⟨i, hi, hz0, hz1, hz2⟩ := info_parts info38
  rcases A with _ | ad
  · have h0 : m = 0 := by
      rcases Nat.eq_zero_or_pos m with h0 | h0
      · exact h0
      · obtain ⟨ad, h, _⟩ := hr.2 h0
        cases h
    subst h0
    have hk : ks = [] := List.eq_nil_of_length_eq_zero hr.1
    subst hk
    refine ⟨v, w, ?_, by simpa using hown, Grew.refl⟩
    rcases hown.2 with ⟨rfl, _⟩ | ⟨g, cap, cur, rfl, _, _, hnc, _⟩
    · simp [Builtin.append_, run_underlying Try.underlying43, sizeOf, typeInfo, hi, Builtin.lenOf, Builtin.firstCells]
    · simp [Builtin.append_, run_underlying Try.underlying43, sizeOf, typeInfo, hi, Builtin.lenOf, Builtin.firstCells, hnc, storeCells]
  · obtain ⟨v', w', hrun, h2, h3, _, h5⟩ := run_append_own_at (P := Try.prog) w base 43 ty 38 i zero6 6 48 Try.underlying43 hi hz0 hz1 hz2 rfl (by omega) v es.length (flat es) hown ad m c (flat ks) (by rw [length_flat, hr.1]) hr.flat
      (fun u hu => by
        obtain ⟨e, _, he⟩ := List.mem_flatMap.1 hu
        exact cells_one e u he) (by unfold maxLen; omega) (by omega) hbase
    refine ⟨v', w', hrun, ?_, h3, fun g e => ?_⟩
    · unfold OwnE
      rw [List.length_append, flat_append, hr.1]
      exact h2
    · rcases h5 with h | h
      · exact .inl (h.symm.trans e)
      · rw [h] at e; injection e with e; exact .inr (by omega)
set_option maxRecDepth 100000 in
theorem wpList_append_ents (w : World) {ops : Array Oper} {rest : List Oper} {o : Oper} {a : Act} {Q : Exit → Act → World → Prop} (hw : Region.wanted o (yielded ops a.tmps) = true) (s x : Operand)
    (ho : o.op = .call { callee := .builtin .append, args := #[s, x], argTypes := #[43, 43] })
    (base : Nat) (v : Value) (es : List Ent) (hs : a.eval s = v) (hown : OwnE w base v es) (B : Nat) (A : Option Addr) (m c : Nat) (ks : List Ent) (hx : a.eval x = .slice A m c) (hr : Ents w B A m ks)
    (hl : es.length < 1000000) (hm : m < 1000000) (hbase : base ≤ w.heap.size)
    (h : ∀ v' w', OwnE w' base v' (es ++ ks) → Grew v w v' w' → wpList Try.prog ops Q rest (a.put o.dst v') w') : wpList Try.prog ops Q (o :: rest) a w := by
  refine BigFrame.wpList_want hw fun K hK => ?_
  obtain ⟨v', w', hrun, h2, h3⟩ := run_append_ents w base v es hown B A m c ks hr o.type hl hm hbase
  unfold Oper.wp execOp
  simp only [ho, resolve, invoke, builtin, Sem.run_bind, Sem.run_pure, Result.andThen_ok, List.map_toArray, List.map_cons, List.map_nil, hs, hx, hrun]
  exact hK _ _ (h v' w' h2 h3)
set_option maxRecDepth 100000 in
theorem wpListIn_append_ents {F : Fence} {n : Nat} (w : World) {ops : Array Oper} {rest : List Oper} {o : Oper} {a : Act} {Q : Exit → Act → World → Prop} (hw : Region.wanted o (yielded ops a.tmps) = true) (s x : Operand)
    (ho : o.op = .call { callee := .builtin .append, args := #[s, x], argTypes := #[43, 43] })
    (base : Nat) (v : Value) (es : List Ent) (hs : a.eval s = v) (hown : OwnE w base v es) (B : Nat) (A : Option Addr) (m c : Nat) (ks : List Ent) (hx : a.eval x = .slice A m c) (hr : Ents w B A m ks)
    (hl : es.length < 1000000) (hm : m < 1000000) (hbase : base ≤ w.heap.size)
    (h : ∀ v' w', OwnE w' base v' (es ++ ks) → Grew v w v' w' → wpListIn F n Try.prog ops Q rest (a.put o.dst v') w') : wpListIn F n Try.prog ops Q (o :: rest) a w := by
  refine BigFrame.wpListIn_want hw fun K hK => ?_
  obtain ⟨v', w', hrun, h2, h3⟩ := run_append_ents w base v es hown B A m c ks hr o.type hl hm hbase
  unfold Oper.wpIn
  refine ⟨?_, ?_⟩
  · simp [Oper.about, ho, resolve, Target.leads, Sem.run_pure]
  · rw [Oper.semAt_plain F _ _ (by rw [ho]; intro c hc'; cases hc')]
    simp [execOp, ho, resolve, invoke, builtin, hs, hx, hrun, Result.andThen]
    exact hK _ _ (h v' w' h2 h3)
end Go.Proofs.Ytickdpgfiianjaa
