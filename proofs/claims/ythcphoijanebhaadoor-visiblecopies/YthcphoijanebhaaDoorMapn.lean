/-
  Maps by numbers in memory: one of open transactions, one of ended ones; what a look, a store and a delete leave. Nothing is assumed.
-/
import Derived.Test.YthcphoijanebhaaDoorSpec
import Derived.Lib.SlKeysI
namespace Go.Proofs.YthcphoijanebhaaDoor
open Go.RowKit Go.Maps
/-- An element of a map is told by itself. -/
def hv : Value → Option (DataW Value × List MemPlace) := fun v => some (.held v, [])
theorem keyed2 : Keyed Tryd.prog 2 := int_keyed Tryd.underlying2
theorem key_int {k : Int} (h : In64 k) : keyOf Tryd.prog 2 (.int .i64 k) = some (.int .i64 k) := keyOf_int_mk Tryd.underlying2 (by
  unfold In64 at h
  simp [Lit.wf, IntKind.min, IntKind.max, IntKind.signed, IntKind.bits]
  omega)
theorem zero3 (w : World) : (zeroValue 3).run Tryd.prog w = .ok (.int .i64 0) w := by kernel_rfl
theorem zero120 (w : World) : (zeroValue 133).run Tryd.prog w = .ok (.agg #[]) w := by kernel_rfl
/-- The map in block m has at most n keys and reads, number by number, as f. -/
def MapIs (w : World) (m n : Nat) (f : Int → Option Value) : Prop :=
  ∃ D, w.ownsMap Tryd.prog 2 hv m n D ∧ ∀ k, Maps.has D (.int .i64 k) = (f k).isSome ∧ ∀ v, f k = some v → ∀ z, D.atKey (.int .i64 k) z = .held v
theorem exact_size {w : World} {m n : Nat} {D : DataW Value} (h : w.ownsMap Tryd.prog 2 hv m n D) : w.ownsMap Tryd.prog 2 hv m (Maps.size D) D := by
  obtain ⟨es, clock, hb, F, _, rfl⟩ := h
  exact ⟨es, clock, hb, F, by simp [Maps.size, length_sorted], rfl⟩
theorem int_ne {a b : Int} (h : a ≠ b) : (Lit.int .i64 a) ≠ .int .i64 b := fun e => h (by injection e)
section
variable {w w' : World} {m n : Nat} {f g : Int → Option Value} {S : Nat → Prop}
theorem MapIs.lt (h : MapIs w m n f) : m < w.heap.size := by obtain ⟨D, h, _⟩ := h; exact h.lt
theorem MapIs.obj (h : MapIs w m n f) : ∃ es c, w.heap[m]? = some (.map es c) := by obtain ⟨D, ⟨es, clock, hb, _⟩, _⟩ := h; exact ⟨es, clock, hb⟩
theorem MapIs.keepB (h : MapIs w m n f) (hk : w'.heap[m]? = w.heap[m]?) : MapIs w' m n f := by
  obtain ⟨D, ⟨es, clock, hb, F, hs, hD⟩, h2⟩ := h
  exact ⟨D, ⟨es, clock, hk.trans hb, F, hs, hD⟩, h2⟩
theorem MapIs.made (w : World) : MapIs (w.alloc (.map #[] 0)) w.heap.size 0 (fun _ => none) :=
  ⟨.map [], World.ownsMap_made w _ _ _, fun k => ⟨rfl, fun v h => by cases h⟩⟩
set_option maxRecDepth 100000 in
theorem MapIs.look {t e : Nat} {z : Value} (ht : Tryd.prog.underlying t = some (.map 2 e)) (hz : ∀ w, (zeroValue e).run Tryd.prog w = .ok z w) (h : MapIs w m n f) {k : Int} (hk : In64 k) :
    (Instr.lookup t (.map (some m)) (.int .i64 k) false).run Tryd.prog w = .ok ((f k).getD z) w := by
  obtain ⟨D, hown, hag⟩ := h
  obtain ⟨v, ps, hrun, hv'⟩ := hown.lookup keyed2 ht (hz w) (zd := .held z) rfl (key_int hk)
  have e : DataW.held v = D.atKey (.int .i64 k) (.held z) := by unfold hv at hv'; injection hv' with e; injection e
  rw [hrun]
  congr 1
  cases hf : f k with
  | none =>
    have := (hag k).1
    rw [hf] at this
    rw [atKey_of_not_has this] at e
    injection e
  | some u =>
    rw [(hag k).2 u hf] at e
    injection e
set_option maxRecDepth 100000 in
theorem MapIs.look_ok {t e : Nat} {z : Value} (ht : Tryd.prog.underlying t = some (.map 2 e)) (hz : ∀ w, (zeroValue e).run Tryd.prog w = .ok z w) (h : MapIs w m n f) {k : Int} (hk : In64 k) :
    (Instr.lookup t (.map (some m)) (.int .i64 k) true).run Tryd.prog w = .ok (.tuple #[(f k).getD z, .bool (f k).isSome]) w := by
  obtain ⟨D, hown, hag⟩ := h
  obtain ⟨v, ps, hrun, hv'⟩ := hown.look_ok keyed2 ht (hz w) (zd := .held z) rfl (key_int hk)
  have e : DataW.held v = D.atKey (.int .i64 k) (.held z) := by unfold hv at hv'; injection hv' with e; injection e
  rw [hrun, (hag k).1]
  congr 4
  cases hf : f k with
  | none =>
    have := (hag k).1
    rw [hf] at this
    rw [atKey_of_not_has this] at e
    injection e
  | some u =>
    rw [(hag k).2 u hf] at e
    injection e
set_option maxRecDepth 100000 in
theorem MapIs.store {t e : Nat} (ht : Tryd.prog.underlying t = some (.map 2 e)) (h : MapIs w m n f) {k : Int} (hk : In64 k) (v : Value) (hn : n < maxLen) :
    ∃ w', (Instr.mapUpdate t (.map (some m)) (.int .i64 k) v).run Tryd.prog w = .ok () w' ∧ MapIs w' m (n + 1) (fun j => if j = k then some v else f j) ∧ w.grownBy w' (some m) := by
  obtain ⟨D, hown, hag⟩ := h
  obtain ⟨w', hrun, hown', hg⟩ := hown.update keyed2 ht hn (key_int hk) (val := v) (d := .held v) (ps := []) rfl
  refine ⟨w', hrun, ⟨_, hown', fun j => ?_⟩, hg⟩
  by_cases e : j = k
  · subst e
    have e1 : (if j = j then some v else f j) = some v := if_pos rfl
    show _ = (if j = j then some v else f j).isSome ∧ ∀ u, (if j = j then some v else f j) = some u → _
    rw [e1]
    exact ⟨by rw [has_put_same hown.isMap (k := .int .i64 j) trivial]; rfl, fun u hu z => by cases hu; exact atKey_put_same hown.isMap (k := .int .i64 j) trivial _ _⟩
  · simp only [if_neg e]
    exact ⟨by rw [has_put_other (int_ne e)]; exact (hag j).1, fun u hu z => by rw [atKey_put_other (int_ne e)]; exact (hag j).2 u hu z⟩
set_option maxRecDepth 100000 in
theorem MapIs.drop {t e : Nat} (ht : Tryd.prog.underlying t = some (.map 2 e)) (h : MapIs w m n f) {k : Int} (hk : In64 k) (ty : TypeId) :
    ∃ w', (Builtin.delete_ #[t, 2] ty #[.map (some m), .int .i64 k]).run Tryd.prog w = .ok (.tuple #[]) w' ∧ MapIs w' m n (fun j => if j = k then none else f j) ∧ w.grownBy w' (some m) := by
  obtain ⟨D, hown, hag⟩ := h
  obtain ⟨w', hrun, hown', hg⟩ := hown.drop keyed2 ht (key_int hk) ty
  refine ⟨w', hrun, ⟨_, hown', fun j => ?_⟩, hg.grown⟩
  by_cases e : j = k
  · subst e
    have e1 : (if j = j then none else f j) = none := if_pos rfl
    show _ = (if j = j then none else f j).isSome ∧ ∀ u, (if j = j then none else f j) = some u → _
    rw [e1]
    exact ⟨by rw [has_del_same]; rfl, fun u hu => by cases hu⟩
  · simp only [if_neg e]
    exact ⟨by rw [has_del_other (int_ne e)]; exact (hag j).1, fun u hu z => by rw [atKey_del_other (int_ne e)]; exact (hag j).2 u hu z⟩
end
/-- A place, as a value. -/
def iv (i : Nat) : Value := .int .i64 (i : Int)
/-- Where the first data of a transaction stand. -/
def find : List (Int × Nat) → Int → Option Nat
  | [], _ => none
  | p :: l, k => if p.1 = k then some p.2 else find l k
theorem find_some {k : Int} : ∀ {l : List (Int × Nat)}, (find l k).isSome = decide (k ∈ keys l)
  | [] => by simp [find, keys]
  | p :: l => by
    have := find_some (k := k) (l := l)
    unfold find
    by_cases h : p.1 = k
    · rw [if_pos h]; simp [keys, h]
    · rw [if_neg h, this]
      have h' : ¬ k = p.1 := fun e => h e.symm
      have e : (k ∈ keys l) ↔ (k ∈ keys (p :: l)) := by simp only [keys, List.map_cons, List.mem_cons, h', false_or]
      exact decide_eq_decide.2 e
theorem find_snoc {k j : Int} {i : Nat} : ∀ {l : List (Int × Nat)}, j ∉ keys l → find (l ++ [(j, i)]) k = if k = j then some i else find l k
  | [], _ => by
    show (if j = k then some i else none) = _
    by_cases h : k = j
    · rw [if_pos h, if_pos h.symm]
    · rw [if_neg h, if_neg (fun e => h e.symm)]; rfl
  | p :: l, hj => by
    have hj' : j ∉ keys l := fun e => hj (by simp [keys] at e ⊢; exact .inr e)
    have hp : p.1 ≠ j := fun e => hj (by simp [keys, e])
    show (if p.1 = k then some p.2 else find (l ++ [(j, i)]) k) = _
    rw [find_snoc hj']
    by_cases h : p.1 = k
    · rw [if_pos h, if_neg (fun e => hp (h.trans e))]
      unfold find
      rw [if_pos h]
    · rw [if_neg h]
      conv => rhs; unfold find
      rw [if_neg h]
theorem find_filter {k j : Int} : ∀ {l : List (Int × Nat)}, find (l.filter fun p => decide (p.1 ≠ j)) k = if k = j then none else find l k
  | [] => by simp [find]
  | p :: l => by
    have ih := find_filter (k := k) (j := j) (l := l)
    by_cases h : p.1 = j
    · rw [List.filter_cons, if_neg (by simpa using h), ih]
      by_cases e : k = j
      · rw [if_pos e, if_pos e]
      · rw [if_neg e, if_neg e]
        conv => rhs; unfold find
        rw [if_neg (fun q => e (q.symm.trans h))]
    · rw [List.filter_cons, if_pos (by simpa using h)]
      show (if p.1 = k then some p.2 else find (l.filter fun p => decide (p.1 ≠ j)) k) = _
      rw [ih]
      by_cases e : p.1 = k
      · rw [if_pos e, if_neg (fun q => h (e.trans q))]
        unfold find
        rw [if_pos e]
      · rw [if_neg e]
        conv => rhs; unfold find
        rw [if_neg e]
theorem find_mem {k : Int} {i : Nat} : ∀ {l : List (Int × Nat)}, find l k = some i → (k, i) ∈ l
  | [], h => by cases h
  | p :: l, h => by
    unfold find at h
    split at h
    · rename_i e
      injection h with h
      subst h e
      simp
    · exact List.mem_cons_of_mem _ (find_mem h)
theorem find_of_mem {k : Int} {i n : Nat} {l : List (Int × Nat)} (ho : Ordered l n) (h : (k, i) ∈ l) : find l k = some i := by
  have hp := ho.1
  clear ho
  induction l with
  | nil => cases h
  | cons p l ih =>
    rw [List.pairwise_cons] at hp
    unfold find
    rcases List.mem_cons.1 h with q | q
    · subst q; rw [if_pos rfl]
    · rw [if_neg (hp.1 _ q).2]
      exact ih q hp.2
/-- The map in block m holds these open transactions. -/
def OM (w : World) (m : Nat) (l : List (Int × Nat)) : Prop :=
  MapIs w m l.length (fun k => (find l k).map iv) ∧ l.Pairwise (fun a b => a.1 ≠ b.1) ∧ l.length ≤ 5000 ∧ ∀ p ∈ l, In64 p.1
/-- The map in block m holds these ended transactions. -/
def EM (w : World) (m : Nat) (l : List Int) : Prop := MapIs w m l.length (fun k => if k ∈ l then some (.agg #[]) else none) ∧ l.length ≤ 5000
section
variable {w w' : World} {m : Nat} {l : List (Int × Nat)} {q : List Int}
theorem keys_perm_of {D : DataW Value} {n : Nat} (hown : w.ownsMap Tryd.prog 2 hv m n D) (hr : l.Pairwise (fun a b => a.1 ≠ b.1)) (hag : ∀ k, Maps.has D (.int .i64 k) = (find l k).isSome) : (keys l).Perm (intKeys D) := by
  obtain ⟨es, rfl, hap, _⟩ := hown.entries keyed2
  obtain ⟨es', e, hk⟩ := hown.keysOf
  injection e with e
  subst e
  refine perm_intKeys hap (fun p hp => ?_) ?_ (fun x => ?_)
  · obtain ⟨v, hv⟩ := hk p hp
    obtain ⟨x, _, hx, _⟩ := Maps.keyOf_i64 Tryd.underlying2 hv
    exact ⟨x, hx⟩
  · exact List.pairwise_map.2 hr
  · rw [hag x, find_some, decide_eq_true_iff]
theorem OM.size (h : OM w m l) : ∃ D, w.ownsMap Tryd.prog 2 hv m (Maps.size D) D ∧ Maps.size D = l.length ∧ (keys l).Perm (intKeys D) ∧ ∀ k i, find l k = some i → ∀ z, D.atKey (.int .i64 k) z = .held (.int .i64 (i : Int)) := by
  obtain ⟨⟨D, hown, hag⟩, h2, h3, h4⟩ := h
  have hag' : ∀ k, Maps.has D (.int .i64 k) = (find l k).isSome := fun k => (hag k).1.trans (by simp)
  have hp := keys_perm_of hown h2 hag'
  refine ⟨D, exact_size hown, ?_, hp, fun k i e z => (hag k).2 _ (by show (find l k).map iv = _; rw [e]; rfl) z⟩
  have hl := hp.length_eq
  obtain ⟨es, rfl⟩ := hown.isMap
  simp [keys, intKeys, Maps.size] at hl ⊢
  exact hl.symm
theorem OM.lt (h : OM w m l) : m < w.heap.size := h.1.lt
theorem EM.lt (h : EM w m q) : m < w.heap.size := h.1.lt
theorem OM.keepB (h : OM w m l) (hk : w'.heap[m]? = w.heap[m]?) : OM w' m l := ⟨h.1.keepB hk, h.2⟩
theorem EM.keepB (h : EM w m q) (hk : w'.heap[m]? = w.heap[m]?) : EM w' m q := ⟨h.1.keepB hk, h.2⟩
theorem OM.made (w : World) : OM (w.alloc (.map #[] 0)) w.heap.size [] := ⟨MapIs.made w, List.Pairwise.nil, by simp, fun p hp => by cases hp⟩
theorem EM.made (w : World) : EM (w.alloc (.map #[] 0)) w.heap.size [] := by
  refine ⟨?_, by simp⟩
  have := MapIs.made w
  simpa using this
theorem OM.len_ (h : OM w m l) (ty : TypeId) : (Builtin.len_ #[102] ty #[.map (some m)]).run Tryd.prog w = .ok (.int .i64 (l.length : Int)) w := by
  obtain ⟨D, hown, hs, _⟩ := h.size
  rw [hown.len Tryd.underlying102 ty, hs]
theorem OM.look (h : OM w m l) {k : Int} (hk : In64 k) : (Instr.lookup 102 (.map (some m)) (.int .i64 k) false).run Tryd.prog w = .ok (.int .i64 (((find l k).getD 0 : Nat) : Int)) w := by
  rw [h.1.look Tryd.underlying102 zero3 hk]
  cases find l k <;> rfl
theorem OM.look_ok (h : OM w m l) {k : Int} (hk : In64 k) : (Instr.lookup 102 (.map (some m)) (.int .i64 k) true).run Tryd.prog w = .ok (.tuple #[.int .i64 (((find l k).getD 0 : Nat) : Int), .bool (decide (k ∈ keys l))]) w := by
  rw [h.1.look_ok Tryd.underlying102 zero3 hk]
  have e : ((find l k).map iv).isSome = decide (k ∈ keys l) := by rw [Option.isSome_map, find_some]
  rw [e]
  cases find l k <;> rfl
theorem EM.look_ok (h : EM w m q) {k : Int} (hk : In64 k) : (Instr.lookup 103 (.map (some m)) (.int .i64 k) true).run Tryd.prog w = .ok (.tuple #[.agg #[], .bool (decide (k ∈ q))]) w := by
  rw [h.1.look_ok Tryd.underlying103 zero120 hk]
  by_cases e : k ∈ q <;> simp [e]
theorem OM.store (h : OM w m l) {k : Int} (hk : In64 k) (hne : k ∉ keys l) (i : Nat) (hl : l.length < 5000) :
    ∃ w', (Instr.mapUpdate 102 (.map (some m)) (.int .i64 k) (.int .i64 (i : Int))).run Tryd.prog w = .ok () w' ∧ OM w' m (l ++ [(k, i)]) ∧ w.grownBy w' (some m) := by
  obtain ⟨w', hrun, hM, hg⟩ := h.1.store Tryd.underlying102 hk (.int .i64 (i : Int)) (by unfold maxLen; omega)
  refine ⟨w', hrun, ⟨?_, ?_, by simp; omega, ?_⟩, hg⟩
  · have e : (fun j => (find (l ++ [(k, i)]) j).map iv) = fun j => if j = k then some (.int .i64 (i : Int)) else (find l j).map iv := by
      funext j
      rw [find_snoc hne]
      by_cases e : j = k
      · rw [if_pos e, if_pos e]; rfl
      · rw [if_neg e, if_neg e]
    rw [e]
    simpa using hM
  · refine List.pairwise_append.2 ⟨h.2.1, List.pairwise_singleton _ _, fun a ha b hb => ?_⟩
    simp at hb
    subst hb
    exact fun e => hne (List.mem_map.2 ⟨a, ha, e⟩)
  · intro p hp
    rcases List.mem_append.1 hp with z | z
    · exact h.2.2.2 p z
    · simp at z; subst z; exact hk
theorem OM.drop (h : OM w m l) {k : Int} (hk : In64 k) (ty : TypeId) :
    ∃ w', (Builtin.delete_ #[102, 2] ty #[.map (some m), .int .i64 k]).run Tryd.prog w = .ok (.tuple #[]) w' ∧ OM w' m (l.filter fun p => decide (p.1 ≠ k)) ∧ w.grownBy w' (some m) := by
  obtain ⟨w', hrun, ⟨D, hown, hag⟩, hg⟩ := h.1.drop Tryd.underlying102 hk ty
  have e : ∀ j, (if j = k then none else (find l j).map iv) = (find (l.filter fun p => decide (p.1 ≠ k)) j).map iv := fun j => by
    rw [find_filter]
    by_cases e : j = k
    · rw [if_pos e, if_pos e]; rfl
    · rw [if_neg e, if_neg e]
  have hp : (l.filter fun p => decide (p.1 ≠ k)).Pairwise (fun a b => a.1 ≠ b.1) := h.2.1.filter _
  have hag' : ∀ j, Maps.has D (.int .i64 j) = (find (l.filter fun p => decide (p.1 ≠ k)) j).isSome := fun j => by
    have := (hag j).1
    dsimp only at this
    rw [this, e j]
    simp
  have hperm := keys_perm_of hown hp hag'
  have hs : Maps.size D = (l.filter fun p => decide (p.1 ≠ k)).length := by
    have hl := hperm.length_eq
    obtain ⟨es, rfl⟩ := hown.isMap
    simp [keys, intKeys, Maps.size] at hl ⊢
    exact hl.symm
  refine ⟨w', hrun, ⟨⟨D, ?_, fun j => ?_⟩, hp, Nat.le_trans (List.length_filter_le _ _) h.2.2.1, fun p hp => h.2.2.2 p (List.mem_filter.1 hp).1⟩, hg⟩
  · rw [← hs]; exact exact_size hown
  · have := hag j
    dsimp only at this
    rw [e j] at this
    exact this
theorem EM.store (h : EM w m q) {k : Int} (hk : In64 k) (hl : q.length < 5000) :
    ∃ w', (Instr.mapUpdate 103 (.map (some m)) (.int .i64 k) (.agg #[])).run Tryd.prog w = .ok () w' ∧ EM w' m (k :: q) ∧ w.grownBy w' (some m) := by
  obtain ⟨w', hrun, hM, hg⟩ := h.1.store Tryd.underlying103 hk (.agg #[]) (by unfold maxLen; omega)
  refine ⟨w', hrun, ⟨?_, by simp; omega⟩, hg⟩
  have e : (fun j => if j ∈ k :: q then some (Value.agg #[]) else none) = fun j => if j = k then some (.agg #[]) else if j ∈ q then some (.agg #[]) else none := by
    funext j
    by_cases e : j = k <;> simp [e]
  rw [e]
  exact hM
end
end Go.Proofs.YthcphoijanebhaaDoor
