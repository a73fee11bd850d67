/-
  A map of files in memory: names to rows of bytes, each with its block for itself; what a look, a store and a delete leave. Nothing is assumed.
-/
import Derived.Test.YthhiiimmgghhaaaMem
namespace Go.Proofs.Ythhiiimmgghhaaa
open Go.RowKit Go.Maps
/-- An element of a map is told by itself. -/
def hv : Value → Option (DataW Value × List MemPlace) := fun v => some (.held v, [])
theorem keyed9 : Keyed Try.prog 9 := string_keyed Try.underlying9
theorem key_str {n : Bs} (h : n.length ≤ maxLen) : keyOf Try.prog 9 (.string (str n)) = some (.string n) := WideMaps.keyOf_string_mk Try.underlying9 (by rw [str_size]; exact h)
theorem zero32 (w : World) : (zeroValue 32).run Try.prog w = .ok (.slice none 0 0) w := by kernel_rfl
/-- The map in block m reads, name by name, as f. -/
def MapIs (w : World) (m : Nat) (f : Bs → Option Value) : Prop :=
  ∃ D, w.ownsMap Try.prog 9 hv m (Maps.size D) D ∧ ∀ k, Maps.has D (.string k) = (f k).isSome ∧ ∀ v, f k = some v → ∀ z, D.atKey (.string k) z = .held v
theorem exact_size {w : World} {m n : Nat} {D : DataW Value} (h : w.ownsMap Try.prog 9 hv m n D) : w.ownsMap Try.prog 9 hv m (Maps.size D) D := by
  obtain ⟨es, clock, hb, F, _, rfl⟩ := h
  exact ⟨es, clock, hb, F, by simp [Maps.size, length_sorted], rfl⟩
section
variable {w w' : World} {m : Nat} {f g : Bs → Option Value} {S : Nat → Prop}
theorem MapIs.lt (h : MapIs w m f) : m < w.heap.size := by obtain ⟨D, h, _⟩ := h; exact h.lt
theorem MapIs.keepB (h : MapIs w m f) (hk : w'.heap[m]? = w.heap[m]?) : MapIs w' m f := by
  obtain ⟨D, ⟨es, clock, hb, F, hs, hD⟩, h2⟩ := h
  exact ⟨D, ⟨es, clock, hk.trans hb, F, hs, hD⟩, h2⟩
theorem MapIs.keep (h : MapIs w m f) (ht : Turn S w w') (hn : ¬ S m) : MapIs w' m f := h.keepB (ht.block m h.lt hn)
theorem MapIs.made (w : World) : MapIs (w.alloc (.map #[] 0)) w.heap.size (fun _ => none) :=
  ⟨.map [], World.ownsMap_made w _ _ _, fun k => ⟨rfl, fun v h => by cases h⟩⟩
set_option maxRecDepth 100000 in
theorem MapIs.look (h : MapIs w m f) {n : Bs} (hn : n.length ≤ maxLen) : (Instr.lookup 76 (.map (some m)) (.string (str n)) false).run Try.prog w = .ok ((f n).getD (.slice none 0 0)) w := by
  obtain ⟨D, hown, hag⟩ := h
  obtain ⟨v, ps, hrun, hv'⟩ := hown.lookup keyed9 Try.underlying76 (zero32 w) (zd := .held (.slice none 0 0)) rfl (key_str hn)
  have e : DataW.held v = D.atKey (.string n) (.held (.slice none 0 0)) := by unfold hv at hv'; injection hv' with e; injection e
  rw [hrun]
  congr 1
  cases hf : f n with
  | none =>
    have := (hag n).1
    rw [hf] at this
    rw [atKey_of_not_has this] at e
    injection e
  | some u =>
    rw [(hag n).2 u hf] at e
    injection e
set_option maxRecDepth 100000 in
theorem MapIs.look_ok (h : MapIs w m f) {n : Bs} (hn : n.length ≤ maxLen) : (Instr.lookup 76 (.map (some m)) (.string (str n)) true).run Try.prog w = .ok (.tuple #[(f n).getD (.slice none 0 0), .bool (f n).isSome]) w := by
  obtain ⟨D, hown, hag⟩ := h
  obtain ⟨v, ps, hrun, hv'⟩ := hown.look_ok keyed9 Try.underlying76 (zero32 w) (zd := .held (.slice none 0 0)) rfl (key_str hn)
  have e : DataW.held v = D.atKey (.string n) (.held (.slice none 0 0)) := by unfold hv at hv'; injection hv' with e; injection e
  rw [hrun, (hag n).1]
  congr 4
  cases hf : f n with
  | none =>
    have := (hag n).1
    rw [hf] at this
    rw [atKey_of_not_has this] at e
    injection e
  | some u =>
    rw [(hag n).2 u hf] at e
    injection e
theorem str_ne {a b : Bs} (h : a ≠ b) : (Lit.string a) ≠ .string b := fun e => h (by injection e)
/-- A store. -/
theorem MapIs.store (h : MapIs w m f) {n : Bs} (hn : n.length ≤ maxLen) (v : Value) (hs : ∀ D, w.ownsMap Try.prog 9 hv m (Maps.size D) D → Maps.size D < maxLen) :
    ∃ w', (Instr.mapUpdate 76 (.map (some m)) (.string (str n)) v).run Try.prog w = .ok () w' ∧ MapIs w' m (fun k => if k = n then some v else f k) ∧ w.grownBy w' (some m) := by
  obtain ⟨D, hown, hag⟩ := h
  obtain ⟨w', hrun, hown', hg⟩ := hown.update keyed9 Try.underlying76 (hs D hown) (key_str hn) (val := v) (d := .held v) (ps := []) rfl
  refine ⟨w', hrun, ⟨_, exact_size hown', fun k => ?_⟩, hg⟩
  by_cases e : k = n
  · subst e
    have e1 : (if k = k then some v else f k) = some v := if_pos rfl
    show _ = (if k = k then some v else f k).isSome ∧ ∀ u, (if k = k then some v else f k) = some u → _
    rw [e1]
    exact ⟨by rw [has_put_same hown.isMap (k := .string k) trivial]; rfl, fun u hu z => by cases hu; exact atKey_put_same hown.isMap (k := .string k) trivial _ _⟩
  · simp only [if_neg e]
    exact ⟨by rw [has_put_other (str_ne e)]; exact (hag k).1, fun u hu z => by rw [atKey_put_other (str_ne e)]; exact (hag k).2 u hu z⟩
/-- A delete. -/
theorem MapIs.drop (h : MapIs w m f) {n : Bs} (hn : n.length ≤ maxLen) (ty : TypeId) :
    ∃ w', (Builtin.delete_ #[76, 9] ty #[.map (some m), .string (str n)]).run Try.prog w = .ok (.tuple #[]) w' ∧ MapIs w' m (fun k => if k = n then none else f k) ∧ w.grownBy w' (some m) := by
  obtain ⟨D, hown, hag⟩ := h
  obtain ⟨w', hrun, hown', hg⟩ := hown.drop keyed9 Try.underlying76 (key_str hn) ty
  refine ⟨w', hrun, ⟨_, exact_size hown', fun k => ?_⟩, hg.grown⟩
  by_cases e : k = n
  · subst e
    have e1 : (if k = k then none else f k) = none := if_pos rfl
    show _ = (if k = k then none else f k).isSome ∧ ∀ u, (if k = k then none else f k) = some u → _
    rw [e1]
    exact ⟨by rw [has_del_same]; rfl, fun u hu => by cases hu⟩
  · simp only [if_neg e]
    exact ⟨by rw [has_del_other (str_ne e)]; exact (hag k).1, fun u hu z => by rw [atKey_del_other (str_ne e)]; exact (hag k).2 u hu z⟩
/-- The keys of the datum are those of a rising list that has the same names. -/
theorem keys_perm_of {D : DataW Value} {n : Nat} {l : FL} (hown : w.ownsMap Try.prog 9 hv m n D) (hr : Rises l) (hag : ∀ k, Maps.has D (.string k) = (find l k).isSome) : (l.map (·.1)).Perm (strKeys D) := by
  obtain ⟨es, rfl, hap, _⟩ := hown.entries keyed9
  obtain ⟨es', e, hk⟩ := hown.keysOf
  injection e with e
  subst e
  refine perm_strKeys hap (fun p hp => ?_) ?_ (fun x => ?_)
  · obtain ⟨v, hv⟩ := hk p hp
    obtain ⟨x, _, hx, _⟩ := Maps.keyOf_str Try.underlying9 hv
    exact ⟨x, hx⟩
  · exact ((rises_iff l).1 hr).imp fun {a b} h e => by subst e; exact lt_irrefl' _ h
  · rw [hag x]; exact find_isSome.symm
theorem size_of_keys {D : DataW Value} {n : Nat} {l : FL} (hown : w.ownsMap Try.prog 9 hv m n D) (hr : Rises l) (hag : ∀ k, Maps.has D (.string k) = (find l k).isSome) : Maps.size D = l.length := by
  have h := (keys_perm_of hown hr hag).length_eq
  obtain ⟨es, rfl⟩ := hown.isMap
  simp [strKeys, Maps.size] at h ⊢
  exact h.symm
end
/-- The map in block m holds the files l; each row lies in a block of its own, in S, as m does. -/
def FM (w : World) (S : Nat → Prop) (m : Nat) (l : FL) : Prop :=
  ∃ vs : Bs → Value, MapIs w m (fun k => (find l k).map fun _ => vs k) ∧ Rises l ∧ S m ∧ (∀ b, S b → b < w.heap.size) ∧ l.length ≤ 1000000 ∧
    (∀ k b, find l k = some b → k.length ≤ 24 ∧ Own w (vs k) b ∧ ∀ r, (vs k).ownBlock = some r → S r ∧ r ≠ m) ∧
    ∀ k k' r, (find l k).isSome = true → (find l k').isSome = true → k ≠ k' → (vs k).ownBlock = some r → (vs k').ownBlock ≠ some r
section
variable {w w' : World} {m : Nat} {l : FL} {S S' T : Nat → Prop}
theorem FM.keep (h : FM w S m l) (ht : Turn T w w') (hd : ∀ b, S b → ¬ T b) : FM w' S m l := by
  obtain ⟨vs, h1, h2, h3, h4, h5, h6, h7⟩ := h
  exact ⟨vs, h1.keep ht (hd m h3), h2, h3, fun b hb => Nat.lt_of_lt_of_le (h4 b hb) ht.size, h5, fun k b hf => ⟨(h6 k b hf).1, (h6 k b hf).2.1.keep ht (fun r e => hd r ((h6 k b hf).2.2 r e).1), (h6 k b hf).2.2⟩, h7⟩
theorem FM.below (h : FM w S m l) (hb : Below w.heap.size w w') : FM w' S m l := h.keep (T := No) (Turn.of_below hb No) (fun _ _ h => h.elim)
theorem FM.wide (h : FM w S m l) (hS : ∀ b, S b → S' b) (hl : ∀ b, S' b → b < w.heap.size) : FM w S' m l := by
  obtain ⟨vs, h1, h2, h3, h4, h5, h6, h7⟩ := h
  exact ⟨vs, h1, h2, hS m h3, hl, h5, fun k b hf => ⟨(h6 k b hf).1, (h6 k b hf).2.1, fun r e => ⟨hS r ((h6 k b hf).2.2 r e).1, ((h6 k b hf).2.2 r e).2⟩⟩, h7⟩
theorem FM.rises (h : FM w S m l) : Rises l := by obtain ⟨vs, h1, h2, _⟩ := h; exact h2
theorem FM.len (h : FM w S m l) : l.length ≤ 1000000 := by obtain ⟨vs, h1, h2, h3, h4, h5, _⟩ := h; exact h5
theorem FM.lt (h : FM w S m l) {b : Nat} (hb : S b) : b < w.heap.size := by obtain ⟨vs, h1, h2, h3, h4, _⟩ := h; exact h4 b hb
theorem FM.mem (h : FM w S m l) : S m := by obtain ⟨vs, h1, h2, h3, h4, _⟩ := h; exact h3
theorem FM.made (w : World) : FM (w.alloc (.map #[] 0)) (fun b => b = w.heap.size) w.heap.size [] := by
  refine ⟨fun _ => .slice none 0 0, ?_, List.Pairwise.nil, rfl, fun b hb => by subst hb; simp, by simp, (fun k b h => by cases h), (fun k k' r h => by cases h)⟩
  have := MapIs.made w
  simpa [find] using this
/-- What a look-up tells. -/
theorem FM.look (h : FM w S m l) {n : Bs} (hn : n.length ≤ maxLen) : ∃ v, (Instr.lookup 76 (.map (some m)) (.string (str n)) false).run Try.prog w = .ok v w ∧ Own w v ((find l n).getD []) ∧ (∀ r, v.ownBlock = some r → S r ∧ r ≠ m) := by
  obtain ⟨vs, h1, h2, h3, h4, h5, h6, h7⟩ := h
  refine ⟨_, h1.look hn, ?_⟩
  cases hf : find l n with
  | none => exact ⟨Own.nil w, fun r e => by cases e⟩
  | some b => exact (h6 n b hf).2
theorem FM.look_ok (h : FM w S m l) {n : Bs} (hn : n.length ≤ maxLen) : ∃ v, (Instr.lookup 76 (.map (some m)) (.string (str n)) true).run Try.prog w = .ok (.tuple #[v, .bool (find l n).isSome]) w := by
  obtain ⟨vs, h1, h2, h3, h4, h5, h6, h7⟩ := h
  refine ⟨((find l n).map fun _ => vs n).getD (.slice none 0 0), ?_⟩
  have := h1.look_ok hn
  rw [this]
  cases hf : find l n <;> rfl
set_option maxRecDepth 100000 in
/-- A store of a row that holds what the file is to hold: the world meanwhile has turned at the file's own row and at new memory alone. -/
theorem FM.store {w1 : World} (h : FM w S m l) {n : Bs} (hn : n.length ≤ 24) {v v' : Value} (hlook : (Instr.lookup 76 (.map (some m)) (.string (str n)) false).run Try.prog w = .ok v w) {b' : Bs} {l' : FL}
    (hg : Grew v w v' w1) (hown : Own w1 v' b') (hl' : Rises l') (hlen : l'.length ≤ 1000000) (hsame : find l' n = some b') (hother : ∀ k, k ≠ n → find l' k = find l k) :
    ∃ w', (Instr.mapUpdate 76 (.map (some m)) (.string (str n)) v').run Try.prog w1 = .ok () w' ∧ FM w' (More S w w') m l' ∧ Turn S w w' ∧ w1.grownBy w' (some m) := by
  obtain ⟨vs, h1, h2, h3, h4, h5, h6, h7⟩ := h
  have hmx : (24 : Nat) ≤ maxLen := by unfold maxLen; omega
  have hv : v = (((find l n).map fun _ => vs n)).getD (.slice none 0 0) := by
    have := h1.look (n := n) (by omega)
    rw [hlook] at this
    injection this
  have hvS : ∀ r, v.ownBlock = some r → S r ∧ r ≠ m ∧ (find l n).isSome = true ∧ (vs n).ownBlock = some r := fun r e => by
    cases hf : find l n with
    | none => rw [hf] at hv; subst hv; cases e
    | some b => rw [hf] at hv; subst hv; exact ⟨((h6 n b hf).2.2 r e).1, ((h6 n b hf).2.2 r e).2, rfl, e⟩
  have hT1 : Turn (fun r => v.ownBlock = some r) w w1 := hg.turn (fun g e => e)
  have hM1 : MapIs w1 m (fun k => (find l k).map fun _ => vs k) := h1.keep hT1 (fun e => (hvS m e).2.1 rfl)
  obtain ⟨w', hrun, hM', hg'⟩ := hM1.store (n := n) (by omega) v' (fun D hD => by
    obtain ⟨D1, hown1, hag1⟩ := hM1
    have e : D = D1 := by
      obtain ⟨es, clock, hb, F, _, rfl⟩ := hD
      obtain ⟨es', clock', hb', F', _, rfl⟩ := hown1
      rw [hb] at hb'
      injection hb' with hb'
      injection hb' with e1 e2
      rw [e1]
    subst e
    rw [size_of_keys hown1 h2 (fun k => (hag1 k).1.trans (by simp))]
    unfold maxLen; omega)
  have hw1 := hg.1.size
  have hw' := hg'.size
  have hT : Turn S w w' := (hT1.mono (fun b _ e => (hvS b e).1)).trans (Turn.of_grown (S := fun r => r = m) hg' (fun r e => by injection e with e; exact e.symm)) (fun b _ e => by subst e; exact h3)
  refine ⟨w', hrun, ⟨fun k => if k = n then v' else vs k, ?_, hl', .inl h3, ?_, hlen, ?_, ?_⟩, hT, hg'⟩
  · have e : (fun k => (find l' k).map fun _ => if k = n then v' else vs k) = fun k => if k = n then some v' else (find l k).map fun _ => vs k := by
      funext k
      by_cases e : k = n
      · subst e; rw [if_pos rfl, if_pos rfl, hsame]; rfl
      · rw [if_neg e, if_neg e, hother k e]
    rw [e]; exact hM'
  · rintro b (hb | ⟨_, hb⟩)
    · have := h4 b hb; omega
    · exact hb
  · intro k b hf
    by_cases e : k = n
    · subst e
      rw [hsame] at hf
      injection hf with hf
      subst hf
      dsimp only
      rw [show (if k = k then v' else vs k) = v' from if_pos rfl]
      refine ⟨hn, hown.keepB (fun g e => hg'.block g (hown.lt e) (fun e' => ?_)), fun r e => ?_⟩
      · injection e' with e'
        subst e'
        rcases hg.2 g e with q | q
        · exact (hvS g q).2.1 rfl
        · have := h4 g h3; omega
      · have hlt := hown.lt e
        rcases hg.2 r e with q | q
        · exact ⟨.inl (hvS r q).1, (hvS r q).2.1⟩
        · exact ⟨.inr ⟨q, by omega⟩, fun e' => by subst e'; have := h4 r h3; omega⟩
    · rw [hother k e] at hf
      simp only [if_neg e]
      obtain ⟨q1, q2, q3⟩ := h6 k b hf
      refine ⟨q1, (q2.keepB (fun g e' => (hg'.block g (by have := q2.lt e'; omega) (fun e'' => by injection e'' with e''; exact (q3 g e').2 e'')).trans (hg.1.block g (q2.lt e') (fun e'' => ?_)))), fun r e' => ⟨.inl (q3 r e').1, (q3 r e').2⟩⟩
      obtain ⟨_, _, q4, q5⟩ := hvS g e''.symm
      exact h7 k n g (by rw [hf]; rfl) q4 e e' q5
  · intro k k' r hk hk' hne e
    by_cases e1 : k = n
    · subst e1
      dsimp only at e
      rw [show (if k = k then v' else vs k) = v' from if_pos rfl] at e
      simp only [if_neg (Ne.symm hne)]
      rw [hother k' (Ne.symm hne)] at hk'
      intro e2
      rcases hg.2 r e with q | q
      · obtain ⟨_, _, q4, q5⟩ := hvS r q
        exact h7 k k' r q4 hk' hne q5 e2
      · obtain ⟨b, hb⟩ := Option.isSome_iff_exists.1 hk'
        have := (h6 k' b hb).2.1.lt e2
        omega
    · simp only [if_neg e1] at e
      rw [hother k e1] at hk
      by_cases e2 : k' = n
      · subst e2
        dsimp only
        rw [show (if k' = k' then v' else vs k') = v' from if_pos rfl]
        intro e3
        rcases hg.2 r e3 with q | q
        · obtain ⟨_, _, q4, q5⟩ := hvS r q
          exact h7 k k' r hk q4 hne e q5
        · obtain ⟨b, hb⟩ := Option.isSome_iff_exists.1 hk
          have := (h6 k b hb).2.1.lt e
          omega
      · simp only [if_neg e2]
        rw [hother k' e2] at hk'
        exact h7 k k' r hk hk' hne e
/-- A delete. -/
theorem FM.drop (h : FM w S m l) {n : Bs} (hn : n.length ≤ maxLen) (ty : TypeId) :
    ∃ w', (Builtin.delete_ #[76, 9] ty #[.map (some m), .string (str n)]).run Try.prog w = .ok (.tuple #[]) w' ∧ FM w' S m (remF n l) ∧ Turn S w w' ∧ w.grownBy w' (some m) := by
  obtain ⟨vs, h1, h2, h3, h4, h5, h6, h7⟩ := h
  obtain ⟨w', hrun, hM', hg⟩ := h1.drop hn ty
  have hfr := find_rem l n
  refine ⟨w', hrun, ⟨vs, ?_, rises_rem h2 n, h3, fun b hb => Nat.lt_of_lt_of_le (h4 b hb) hg.size, Nat.le_trans (length_rem l n) h5, ?_, ?_⟩, Turn.of_grown hg (fun r e => by injection e with e; subst e; exact h3), hg⟩
  · have e : (fun k => (find (remF n l) k).map fun _ => vs k) = fun k => if k = n then none else (find l k).map fun _ => vs k := by
      funext k
      rw [hfr k]
      by_cases e : k = n
      · rw [if_pos e, if_pos e]; rfl
      · rw [if_neg e, if_neg e]
    rw [e]; exact hM'
  · intro k b hf
    rw [hfr k] at hf
    by_cases e : k = n
    · rw [if_pos e] at hf; cases hf
    · rw [if_neg e] at hf
      obtain ⟨q1, q2, q3⟩ := h6 k b hf
      exact ⟨q1, q2.keepB (fun g e' => hg.block g (q2.lt e') (fun e'' => by injection e'' with e''; exact (q3 g e').2 e'')), q3⟩
  · intro k k' r hk hk'
    rw [hfr k] at hk
    rw [hfr k'] at hk'
    by_cases e : k = n
    · rw [if_pos e] at hk; cases hk
    · by_cases e' : k' = n
      · rw [if_pos e'] at hk'; cases hk'
      · rw [if_neg e] at hk; rw [if_neg e'] at hk'; exact h7 k k' r hk hk'
end
end Go.Proofs.Ythhiiimmgghhaaa
