/-
  A map by numbers in memory, and one of messages: what a look, a store and a delete leave. Nothing is assumed.
-/
import Derived.Test.YticabfmjdjcfnaaMem
import Derived.Lib.SlKeysI
namespace Go.Proofs.Yticabfmjdjcfnaa
open Go.RowKit Go.Maps
/-- An element of a map is told by itself. -/
def hv : Value → Option (DataW Value × List MemPlace) := fun v => some (.held v, [])
theorem keyed3 : Keyed Try.prog 3 := int_keyed Try.underlying3
/-- A number that a map takes. -/
def KeyN (k : Int) : Prop := -9223372036854775808 ≤ k ∧ k ≤ 9223372036854775807
theorem key_int {k : Int} (h : KeyN k) : keyOf Try.prog 3 (.int .i64 k) = some (.int .i64 k) := keyOf_int_mk Try.underlying3 (by
  unfold KeyN at h
  simp [Lit.wf, IntKind.min, IntKind.max, IntKind.signed, IntKind.bits]
  omega)
/-- The message that is none. -/
def zMsg : Value := .agg #[.int .i64 0, .int .i64 0, .slice none 0 0]
theorem zero39 (w : World) : (zeroValue 39).run Try.prog w = .ok zMsg w := by kernel_rfl
/-- The map in block m reads, number by number, as f. -/
def MapIs (w : World) (m : Nat) (f : Int → Option Value) : Prop :=
  ∃ D, w.ownsMap Try.prog 3 hv m (Maps.size D) D ∧ ∀ k, Maps.has D (.int .i64 k) = (f k).isSome ∧ ∀ v, f k = some v → ∀ z, D.atKey (.int .i64 k) z = .held v
theorem exact_size {w : World} {m n : Nat} {D : DataW Value} (h : w.ownsMap Try.prog 3 hv m n D) : w.ownsMap Try.prog 3 hv m (Maps.size D) D := by
  obtain ⟨es, clock, hb, F, _, rfl⟩ := h
  exact ⟨es, clock, hb, F, by simp [Maps.size, length_sorted], rfl⟩
section
variable {w w' : World} {m : Nat} {f g : Int → Option Value} {S : Nat → Prop}
theorem MapIs.lt (h : MapIs w m f) : m < w.heap.size := by obtain ⟨D, h, _⟩ := h; exact h.lt
theorem MapIs.keepB (h : MapIs w m f) (hk : w'.heap[m]? = w.heap[m]?) : MapIs w' m f := by
  obtain ⟨D, ⟨es, clock, hb, F, hs, hD⟩, h2⟩ := h
  exact ⟨D, ⟨es, clock, hk.trans hb, F, hs, hD⟩, h2⟩
theorem MapIs.keep (h : MapIs w m f) (ht : Turn S w w') (hn : ¬ S m) : MapIs w' m f := h.keepB (ht.block m h.lt hn)
theorem MapIs.made (w : World) : MapIs (w.alloc (.map #[] 0)) w.heap.size (fun _ => none) :=
  ⟨.map [], World.ownsMap_made w _ _ _, fun k => ⟨rfl, fun v h => by cases h⟩⟩
set_option maxRecDepth 100000 in
theorem MapIs.look (h : MapIs w m f) {n : Int} (hn : KeyN n) : (Instr.lookup 69 (.map (some m)) (.int .i64 n) false).run Try.prog w = .ok ((f n).getD zMsg) w := by
  obtain ⟨D, hown, hag⟩ := h
  obtain ⟨v, ps, hrun, hv'⟩ := hown.lookup keyed3 Try.underlying69 (zero39 w) (zd := .held zMsg) rfl (key_int hn)
  have e : DataW.held v = D.atKey (.int .i64 n) (.held zMsg) := by unfold hv at hv'; injection hv' with e; injection e
  rw [hrun]
  congr 1
  cases hf : f n with
  | none =>
    have := (hag n).1
    rw [hf] at this
    rw [atKey_of_not_has this] at e
    injection e
  | some u =>
    rw [(hag n).2 u hf] at e
    injection e
theorem int_ne {a b : Int} (h : a ≠ b) : (Lit.int .i64 a) ≠ .int .i64 b := fun e => h (by injection e)
/-- A store. -/
theorem MapIs.store (h : MapIs w m f) {n : Int} (hn : KeyN n) (v : Value) (hs : ∀ D, w.ownsMap Try.prog 3 hv m (Maps.size D) D → Maps.size D < maxLen) :
    ∃ w', (Instr.mapUpdate 69 (.map (some m)) (.int .i64 n) v).run Try.prog w = .ok () w' ∧ MapIs w' m (fun k => if k = n then some v else f k) ∧ w.grownBy w' (some m) := by
  obtain ⟨D, hown, hag⟩ := h
  obtain ⟨w', hrun, hown', hg⟩ := hown.update keyed3 Try.underlying69 (hs D hown) (key_int hn) (val := v) (d := .held v) (ps := []) rfl
  refine ⟨w', hrun, ⟨_, exact_size hown', fun k => ?_⟩, hg⟩
  by_cases e : k = n
  · subst e
    have e1 : (if k = k then some v else f k) = some v := if_pos rfl
    show _ = (if k = k then some v else f k).isSome ∧ ∀ u, (if k = k then some v else f k) = some u → _
    rw [e1]
    exact ⟨by rw [has_put_same hown.isMap (k := .int .i64 k) trivial]; rfl, fun u hu z => by cases hu; exact atKey_put_same hown.isMap (k := .int .i64 k) trivial _ _⟩
  · simp only [if_neg e]
    exact ⟨by rw [has_put_other (int_ne e)]; exact (hag k).1, fun u hu z => by rw [atKey_put_other (int_ne e)]; exact (hag k).2 u hu z⟩
/-- A delete. -/
theorem MapIs.drop (h : MapIs w m f) {n : Int} (hn : KeyN n) (ty : TypeId) :
    ∃ w', (Builtin.delete_ #[69, 3] ty #[.map (some m), .int .i64 n]).run Try.prog w = .ok (.tuple #[]) w' ∧ MapIs w' m (fun k => if k = n then none else f k) ∧ w.grownBy w' (some m) := by
  obtain ⟨D, hown, hag⟩ := h
  obtain ⟨w', hrun, hown', hg⟩ := hown.drop keyed3 Try.underlying69 (key_int hn) ty
  refine ⟨w', hrun, ⟨_, exact_size hown', fun k => ?_⟩, hg.grown⟩
  by_cases e : k = n
  · subst e
    have e1 : (if k = k then none else f k) = none := if_pos rfl
    show _ = (if k = k then none else f k).isSome ∧ ∀ u, (if k = k then none else f k) = some u → _
    rw [e1]
    exact ⟨by rw [has_del_same]; rfl, fun u hu => by cases hu⟩
  · simp only [if_neg e]
    exact ⟨by rw [has_del_other (int_ne e)]; exact (hag k).1, fun u hu z => by rw [atKey_del_other (int_ne e)]; exact (hag k).2 u hu z⟩
/-- The keys of the datum are those of a rising list that has the same numbers. -/
theorem keys_perm_of {D : DataW Value} {n : Nat} {l : Row} (hown : w.ownsMap Try.prog 3 hv m n D) (hr : Rises l) (hag : ∀ k, Maps.has D (.int .i64 k) = (find l k).isSome) : (l.map (·.1)).Perm (intKeys D) := by
  obtain ⟨es, rfl, hap, _⟩ := hown.entries keyed3
  obtain ⟨es', e, hk⟩ := hown.keysOf
  injection e with e
  subst e
  refine perm_intKeys hap (fun p hp => ?_) ?_ (fun x => ?_)
  · obtain ⟨v, hv⟩ := hk p hp
    obtain ⟨x, _, hx, _⟩ := Maps.keyOf_i64 Try.underlying3 hv
    exact ⟨x, hx⟩
  · exact List.pairwise_map.2 (hr.imp fun {a b} h e => by omega)
  · rw [hag x]; exact find_isSome.symm
theorem size_of_keys {D : DataW Value} {n : Nat} {l : Row} (hown : w.ownsMap Try.prog 3 hv m n D) (hr : Rises l) (hag : ∀ k, Maps.has D (.int .i64 k) = (find l k).isSome) : Maps.size D = l.length := by
  have h := (keys_perm_of hown hr hag).length_eq
  obtain ⟨es, rfl⟩ := hown.isMap
  simp [intKeys, Maps.size] at h ⊢
  exact h.symm
end
/-- The value v is the message m, whose bytes do not lie in X. -/
def MsgV (w : World) (X : Nat → Prop) (m : Msg) (v : Value) : Prop := ∃ A n c, v = .agg #[.int .i64 m.fr, .int .i64 m.to, .slice A n c] ∧ Bys w X A n m.b
section
variable {w w' : World} {X X' S : Nat → Prop} {m : Msg} {v : Value}
theorem MsgV.keep (h : MsgV w X m v) (ht : Turn S w w') (hS : ∀ b, b < w.heap.size → S b → X b) : MsgV w' X m v := by
  obtain ⟨A, n, c, e, h⟩ := h
  exact ⟨A, n, c, e, h.keep ht hS⟩
theorem MsgV.below (h : MsgV w X m v) (hb : Below w.heap.size w w') : MsgV w' X m v := h.keep (S := No) (Turn.of_below hb No) (fun _ _ h => h.elim)
theorem MsgV.wide (h : MsgV w X m v) (hX : ∀ b, b < w.heap.size → X' b → X b) : MsgV w X' m v := by
  obtain ⟨A, n, c, e, h⟩ := h
  exact ⟨A, n, c, e, h.wide hX⟩
theorem msgV_z (w : World) (X : Nat → Prop) : MsgV w X ⟨0, 0, []⟩ zMsg := ⟨none, 0, 0, rfl, Bys.none_⟩
end
/-- The map in block m holds the messages l; their bytes do not lie in X. -/
def NM (w : World) (X : Nat → Prop) (m : Nat) (l : Row) : Prop :=
  ∃ vs : Int → Value, MapIs w m (fun k => (find l k).map fun _ => vs k) ∧ Rises l ∧ l.length ≤ 1000000 ∧ (∀ p ∈ l, KeyN p.1) ∧ ∀ k msg, find l k = some msg → MsgV w X msg (vs k)
section
variable {w w' : World} {X X' S : Nat → Prop} {m : Nat} {l : Row}
theorem NM.lt (h : NM w X m l) : m < w.heap.size := by obtain ⟨vs, h, _⟩ := h; exact h.lt
theorem NM.rises (h : NM w X m l) : Rises l := by obtain ⟨vs, h, h2, _⟩ := h; exact h2
theorem NM.len (h : NM w X m l) : l.length ≤ 1000000 := by obtain ⟨vs, h, h2, h3, _⟩ := h; exact h3
theorem NM.keep (h : NM w X m l) (ht : Turn S w w') (hS : ∀ b, b < w.heap.size → S b → X b) (hm : ¬ S m) : NM w' X m l := by
  obtain ⟨vs, h1, h2, h3, h4, h5⟩ := h
  exact ⟨vs, h1.keep ht hm, h2, h3, h4, fun k msg e => (h5 k msg e).keep ht hS⟩
theorem NM.below (h : NM w X m l) (hb : Below w.heap.size w w') : NM w' X m l := h.keep (S := No) (Turn.of_below hb No) (fun _ _ h => h.elim) (fun h => h.elim)
theorem NM.wide (h : NM w X m l) (hX : ∀ b, b < w.heap.size → X' b → X b) : NM w X' m l := by
  obtain ⟨vs, h1, h2, h3, h4, h5⟩ := h
  exact ⟨vs, h1, h2, h3, h4, fun k msg e => (h5 k msg e).wide hX⟩
theorem NM.made (w : World) (X : Nat → Prop) : NM (w.alloc (.map #[] 0)) X w.heap.size [] := by
  refine ⟨fun _ => zMsg, ?_, List.Pairwise.nil, by simp, fun p hp => (by cases hp), fun k msg e => (by cases e)⟩
  have := MapIs.made w
  simpa [find] using this
theorem NM.look (h : NM w X m l) {k : Int} {msg : Msg} (hf : find l k = some msg) : ∃ v, (Instr.lookup 69 (.map (some m)) (.int .i64 k) false).run Try.prog w = .ok v w ∧ MsgV w X msg v := by
  obtain ⟨vs, h1, h2, h3, h4, h5⟩ := h
  refine ⟨_, h1.look (h4 (k, msg) (find_mem hf)), ?_⟩
  show MsgV w X msg (((find l k).map fun _ => vs k).getD zMsg)
  rw [hf]
  exact h5 k msg hf
theorem NM.size (h : NM w X m l) : ∃ D, w.ownsMap Try.prog 3 hv m (Maps.size D) D ∧ Maps.size D = l.length ∧ (l.map (·.1)).Perm (intKeys D) := by
  obtain ⟨vs, ⟨D, hown, hag⟩, h2, h3, h4, h5⟩ := h
  have hag' : ∀ k, Maps.has D (.int .i64 k) = (find l k).isSome := fun k => (hag k).1.trans (by simp)
  exact ⟨D, hown, size_of_keys hown h2 hag', keys_perm_of hown h2 hag'⟩
theorem NM.len_ (h : NM w X m l) (ty : TypeId) : (Builtin.len_ #[69] ty #[.map (some m)]).run Try.prog w = .ok (.int .i64 (l.length : Int)) w := by
  obtain ⟨D, hown, hs, _⟩ := h.size
  rw [hown.len Try.underlying69 ty, hs]
set_option maxRecDepth 100000 in
/-- A store at a number that is greater than all. -/
theorem NM.store (h : NM w X m l) {c : Int} (hc : KeyN c) (hlt : ∀ p ∈ l, p.1 < c) {msg : Msg} {v : Value} (hv' : MsgV w X msg v) (hl : l.length < 1000000) (hX : X m) :
    ∃ w', (Instr.mapUpdate 69 (.map (some m)) (.int .i64 c) v).run Try.prog w = .ok () w' ∧ NM w' X m (l ++ [(c, msg)]) ∧ w.grownBy w' (some m) := by
  obtain ⟨D0, hown0, hs0, _⟩ := h.size
  obtain ⟨vs, h1, h2, h3, h4, h5⟩ := h
  obtain ⟨w', hrun, hM', hg'⟩ := h1.store hc v (fun D hD => by
    have e : D = D0 := by
      obtain ⟨es, clock, hb, F, _, rfl⟩ := hD
      obtain ⟨es', clock', hb', F', _, rfl⟩ := hown0
      rw [hb] at hb'
      injection hb' with hb'
      injection hb' with e1 e2
      rw [e1]
    subst e
    rw [hs0]
    unfold maxLen; omega)
  have hT : Turn (fun r => r = m) w w' := Turn.of_grown hg' (fun r e => by injection e with e; exact e.symm)
  have hne : ∀ p ∈ l, p.1 ≠ c := fun p hp => by have := hlt p hp; omega
  refine ⟨w', hrun, ⟨fun k => if k = c then v else vs k, ?_, rises_append h2 hlt, by simp; omega, fun p hp => ?_, fun k msg' e => ?_⟩, hg'⟩
  · have e : (fun k => (find (l ++ [(c, msg)]) k).map fun _ => if k = c then v else vs k) = fun k => if k = c then some v else (find l k).map fun _ => vs k := by
      funext k
      rw [find_append hne]
      by_cases e : k = c
      · rw [if_pos e, if_pos e, if_pos e]; rfl
      · rw [if_neg e, if_neg e, if_neg e]
    rw [e]; exact hM'
  · rcases List.mem_append.1 hp with q | q
    · exact h4 p q
    · obtain rfl : p = (c, msg) := by simpa using q
      exact hc
  · rw [find_append hne] at e
    dsimp only
    by_cases e' : k = c
    · rw [if_pos e'] at e ⊢
      injection e with e
      subst e
      exact hv'.keep hT (fun b _ q => by subst q; exact hX)
    · rw [if_neg e'] at e ⊢
      exact (h5 k msg' e).keep hT (fun b _ q => by subst q; exact hX)
set_option maxRecDepth 100000 in
/-- A delete of the one at a place. -/
theorem NM.drop (h : NM w X m l) {i : Nat} (hi : i < l.length) (hX : X m) (ty : TypeId) :
    ∃ w', (Builtin.delete_ #[69, 3] ty #[.map (some m), .int .i64 l[i].1]).run Try.prog w = .ok (.tuple #[]) w' ∧ NM w' X m (l.eraseIdx i) ∧ w.grownBy w' (some m) := by
  obtain ⟨vs, h1, h2, h3, h4, h5⟩ := h
  obtain ⟨w', hrun, hM', hg⟩ := h1.drop (h4 _ (List.getElem_mem hi)) ty
  have hT : Turn (fun r => r = m) w w' := Turn.of_grown hg (fun r e => by injection e with e; exact e.symm)
  refine ⟨w', hrun, ⟨vs, ?_, rises_erase h2 i, Nat.le_trans (List.length_eraseIdx_le _ _) h3, fun p hp => h4 p (List.mem_of_mem_eraseIdx hp), fun k msg e => ?_⟩, hg⟩
  · have e : (fun k => (find (l.eraseIdx i) k).map fun _ => vs k) = fun k => if k = l[i].1 then none else (find l k).map fun _ => vs k := by
      funext k
      rw [find_erase h2 hi k]
      by_cases e : k = l[i].1
      · rw [if_pos e, if_pos e]; rfl
      · rw [if_neg e, if_neg e]
    rw [e]; exact hM'
  · rw [find_erase h2 hi k] at e
    by_cases e' : k = l[i].1
    · rw [if_pos e'] at e; cases e
    · rw [if_neg e'] at e
      exact (h5 k msg e).keep hT (fun b _ q => by subst q; exact hX)
end
end Go.Proofs.Yticabfmjdjcfnaa
