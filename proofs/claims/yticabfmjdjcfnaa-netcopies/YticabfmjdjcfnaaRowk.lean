/-
  Rows of elements of k cells each: read, owned, appended to. Conditions: at most 1000000000 elements on each side, of at most 64 bytes.
-/
import Derived.Test.YticabfmjdjcfnaaByte
namespace Go.Proofs.Yticabfmjdjcfnaa
open Go.RowKit Go.Shelf
attribute [local go_sem] Oper.semAt_some
def flatA (css : List (Array Value)) : List Value := css.flatMap Array.toList
/-- Each has k cells. -/
def Sized (k : Nat) (css : List (Array Value)) : Prop := ∀ c ∈ css, c.size = k ∧ ∀ u ∈ c.toList, u.oneCell' = true
theorem Sized.cons {k : Nat} {c : Array Value} {css : List (Array Value)} (h : Sized k (c :: css)) : c.size = k ∧ Sized k css := ⟨(h c (by simp)).1, fun x hx => h x (by simp [hx])⟩
theorem Sized.app {k : Nat} {a b : List (Array Value)} (h : Sized k a) (h' : Sized k b) : Sized k (a ++ b) := fun c hc => by
  rcases List.mem_append.1 hc with q | q
  · exact h c q
  · exact h' c q
theorem Sized.take {k : Nat} {a : List (Array Value)} (h : Sized k a) (n : Nat) : Sized k (a.take n) := fun c hc => h c (List.mem_of_mem_take hc)
theorem Sized.nil (k : Nat) : Sized k [] := fun c hc => by cases hc
theorem length_flatA {k : Nat} : ∀ {css : List (Array Value)}, Sized k css → (flatA css).length = css.length * k
  | [], _ => by simp [flatA]
  | c :: css, h => by
    show (c.toList ++ flatA css).length = (css.length + 1) * k
    rw [List.length_append, length_flatA h.cons.2, Array.length_toList, h.cons.1, Nat.succ_mul]
    omega
theorem flatA_append (a b : List (Array Value)) : flatA (a ++ b) = flatA a ++ flatA b := by unfold flatA; rw [List.flatMap_append]
theorem flatA_at {k : Nat} : ∀ {css : List (Array Value)}, Sized k css → ∀ {i : Nat} {c : Array Value}, css[i]? = some c → ∀ {j : Nat} {u : Value}, c[j]? = some u → (flatA css)[i * k + j]? = some u
  | [], _, i, c, h, j, u, hu => by simp at h
  | x :: css, hs, 0, c, h, j, u, hu => by
    simp at h
    subst h
    have hj : j < x.toList.length := by rw [Array.length_toList]; exact (Array.getElem?_eq_some_iff.1 hu).1
    show (x.toList ++ flatA css)[0 * k + j]? = some u
    rw [Nat.zero_mul, Nat.zero_add, List.getElem?_append_left hj, Array.getElem?_toList]
    exact hu
  | x :: css, hs, i + 1, c, h, j, u, hu => by
    rw [List.getElem?_cons_succ] at h
    have hx : x.toList.length = k := by rw [Array.length_toList]; exact hs.cons.1
    show (x.toList ++ flatA css)[(i + 1) * k + j]? = some u
    have e : (i + 1) * k + j = k + (i * k + j) := by rw [Nat.succ_mul]; omega
    rw [e, List.getElem?_append_right (by omega), hx, Nat.add_sub_cancel_left]
    exact flatA_at hs.cons.2 h hu
theorem flatA_get {k : Nat} : ∀ {css : List (Array Value)}, Sized k css → ∀ {j : Nat} {u : Value}, (flatA css)[j]? = some u → ∃ i c q, j = i * k + q ∧ css[i]? = some c ∧ c[q]? = some u
  | [], _, j, u, h => by simp [flatA] at h
  | x :: css, hs, j, u, h => by
    have h' : (x.toList ++ flatA css)[j]? = some u := h
    have hx : x.toList.length = k := by rw [Array.length_toList]; exact hs.cons.1
    rcases Nat.lt_or_ge j k with hj | hj
    · rw [List.getElem?_append_left (by omega), Array.getElem?_toList] at h'
      exact ⟨0, x, j, by omega, rfl, h'⟩
    · rw [List.getElem?_append_right (by omega), hx] at h'
      obtain ⟨i, c, q, e1, e2, e3⟩ := flatA_get hs.cons.2 h'
      exact ⟨i + 1, c, q, by rw [Nat.succ_mul]; omega, by simpa using e2, e3⟩
/-- The slice value '.slice A n c' holds these elements, at a block that is there and is not in X. -/
def Rd (w : World) (X : Nat → Prop) (k : Nat) (A : Option Addr) (n : Nat) (css : List (Array Value)) : Prop :=
  css.length = n ∧ Sized k css ∧ (0 < n → ∃ ad, A = some ad ∧ ad.block < w.heap.size ∧ ¬ X ad.block ∧ ∀ j u, (flatA css)[j]? = some u → w.cell? (ad.add j) = some u)
/-- The value v is a row that holds these elements (of type e), with its block for itself. -/
def OwnK (w : World) (e k : Nat) (v : Value) (css : List (Array Value)) : Prop := w.ownsRow 0 e k v css.length (flatA css) ∧ Sized k css
section
variable {w w' : World} {X X' S : Nat → Prop} {e k n c : Nat} {A : Option Addr} {v v' : Value} {css kss : List (Array Value)}
theorem Rd.none_ : Rd w X k A 0 [] := ⟨by simp, Sized.nil k, fun h => absurd h (by omega)⟩
theorem Rd.keep (h : Rd w X k A n css) (ht : Turn S w w') (hS : ∀ b, b < w.heap.size → S b → X b) : Rd w' X k A n css :=
  ⟨h.1, h.2.1, fun hn => by
    obtain ⟨ad, e, hb, hx, hc⟩ := h.2.2 hn
    exact ⟨ad, e, Nat.lt_of_lt_of_le hb ht.size, hx, fun j u hu => (ht.cell (p := ad.add j) (by rw [block_of_add]; exact hb) (by rw [block_of_add]; exact fun e => hx (hS _ hb e))).trans (hc j u hu)⟩⟩
theorem Rd.below (h : Rd w X k A n css) (hb : Below w.heap.size w w') : Rd w' X k A n css := h.keep (S := No) (Turn.of_below hb No) (fun _ _ h => h.elim)
theorem Rd.wide (h : Rd w X k A n css) (hX : ∀ b, b < w.heap.size → X' b → X b) : Rd w X' k A n css :=
  ⟨h.1, h.2.1, fun hn => by
    obtain ⟨ad, e, hb, hx, hc⟩ := h.2.2 hn
    exact ⟨ad, e, hb, fun e => hx (hX _ hb e), hc⟩⟩
theorem Rd.alloc (h : Rd w X k A n css) (o : Obj) : Rd (w.alloc o) X k A n css := h.below ((Below.refl _ _).alloc (Nat.le_refl _) _)
theorem Rd.first (h : Rd w X k A n css) {q : Nat} (hq : q ≤ n) : Rd w X k A q (css.take q) := by
  refine ⟨by rw [List.length_take, h.1]; omega, h.2.1.take q, fun h0 => ?_⟩
  obtain ⟨ad, e, hb, hx, hc⟩ := h.2.2 (by omega)
  refine ⟨ad, e, hb, hx, fun j u hu => hc j u ?_⟩
  have e2 : flatA css = flatA (css.take q) ++ flatA (css.drop q) := by rw [← flatA_append, List.take_append_drop]
  rw [e2, List.getElem?_append_left (List.getElem?_eq_some_iff.1 hu).1]
  exact hu
theorem Rd.at_ (h : Rd w X k A n css) {i : Nat} {cs : Array Value} (hi : css[i]? = some cs) : ∃ ad, A = some ad ∧ ad.block < w.heap.size ∧ ¬ X ad.block ∧ ∀ j u, cs[j]? = some u → w.cell? (ad.add (i * k + j)) = some u := by
  have hlt := (List.getElem?_eq_some_iff.1 hi).1
  obtain ⟨ad, e, hb, hx, hc⟩ := h.2.2 (by have := h.1; omega)
  exact ⟨ad, e, hb, hx, fun j u hu => hc _ u (flatA_at h.2.1 hi hu)⟩
theorem OwnK.form (h : OwnK w e k v css) : ∃ A q c, v = .slice A q c ∧ q = css.length ∧ q ≤ c ∧ c ≤ maxLen := by
  rcases h.1.2 with ⟨rfl, h0⟩ | ⟨g, cap, cur, rfl, _, _, h1, h2, _⟩
  · exact ⟨none, 0, 0, rfl, by rw [h0], by omega, by unfold maxLen; omega⟩
  · exact ⟨_, _, _, rfl, rfl, h1, h2⟩
theorem OwnK.lt (h : OwnK w e k v css) {g : Nat} (he : v.ownBlock = some g) : g < w.heap.size := (World.ownsRow.lt h.1 g he).2
theorem OwnK.keepB (h : OwnK w e k v css) (hk : ∀ g, v.ownBlock = some g → w'.heap[g]? = w.heap[g]?) : OwnK w' e k v css := by
  refine ⟨⟨h.1.1, ?_⟩, h.2⟩
  rcases h.1.2 with h | ⟨g, cap, cur, h1, h2, h3, h4⟩
  · exact .inl h
  · exact .inr ⟨g, cap, cur, h1, h2, (hk g (by rw [h1]; rfl)).trans h3, h4⟩
theorem OwnK.keep (h : OwnK w e k v css) (ht : Turn S w w') (hS : ∀ g, v.ownBlock = some g → ¬ S g) : OwnK w' e k v css := h.keepB fun g he => ht.block g (h.lt he) (hS g he)
theorem OwnK.below (h : OwnK w e k v css) (hb : Below w.heap.size w w') : OwnK w' e k v css := h.keepB fun g he => hb.block g (h.lt he)
theorem OwnK.alloc (h : OwnK w e k v css) (o : Obj) : OwnK (w.alloc o) e k v css := h.below ((Below.refl _ _).alloc (Nat.le_refl _) _)
theorem OwnK.nil (w : World) (e k : Nat) : OwnK w e k (.slice none 0 0) [] := ⟨World.ownsRow_nil w 0 e k, Sized.nil k⟩
theorem OwnK.rd (h : OwnK w e k (.slice A n c) css) (hX : ∀ g, Value.ownBlock (.slice A n c) = some g → ¬ X g) : Rd w X k A n css := by
  obtain ⟨A', q, c', he, hq, _⟩ := h.form
  injection he with e1 e2 e3
  subst e1 e2 e3
  refine ⟨hq.symm, h.2, fun hn => ?_⟩
  rcases h.1.2 with ⟨he, h0⟩ | ⟨g, cap, cur, he, hg, hh, h1, h2, h3, h4⟩
  · omega
  · injection he with e1 e2 e3
    subst e1 e2 e3
    refine ⟨⟨g, 0, none⟩, rfl, lt_of_heap hh, hX g rfl, fun j u hu => ?_⟩
    have hadd : (⟨g, 0, none⟩ : Addr).add j = ⟨g, j, none⟩ := by unfold Addr.add; split <;> simp_all
    rw [hadd, cell_of_row w g j cur e (0, 0) hh]
    have h5 := congrArg (fun z => z[j]?) h4
    simp only [hu] at h5
    rw [List.getElem?_take] at h5
    split at h5
    · rw [Array.getElem?_toList] at h5; exact h5
    · cases h5
theorem ownK_empty (w : World) (e k : Nat) : OwnK (w.alloc (.cells #[] e)) e k (.slice (some ⟨w.heap.size, 0, none⟩) 0 0) [] :=
  ⟨⟨by simp [flatA], .inr ⟨w.heap.size, 0, #[], rfl, Nat.zero_le _, heap_alloc_new w _, Nat.le_refl _, Nat.zero_le _, by simp, by simp [flatA]⟩⟩, Sized.nil k⟩
theorem rd_one (w : World) (t : TypeId) (cs : Array Value) (hk : cs.size = k) (h1 : ∀ u ∈ cs.toList, u.oneCell' = true) (hX : ¬ X w.heap.size) : Rd (w.alloc (.cells cs t)) X k (some ⟨w.heap.size, 0, none⟩) 1 [cs] := by
  refine ⟨rfl, fun c hc => by simp at hc; subst hc; exact ⟨hk, h1⟩, fun _ => ⟨_, rfl, by simp, hX, fun j u hu => ?_⟩⟩
  have hadd : (⟨w.heap.size, 0, none⟩ : Addr).add j = ⟨w.heap.size, j, none⟩ := by unfold Addr.add; split <;> simp_all
  rw [hadd, (Blk.new w t cs).cell j]
  simpa [flatA] using hu
end
/-- An element type's facts, for an append to a slice of type t. -/
structure El (t e k : Nat) (z : Value) (by_ : Nat) : Prop where
  und : Try.prog.underlying t = some (.slice e)
  info : (Try.prog.info? e).map (fun i => (i.zero, i.size, i.bytes)) = some (some z, k, by_)
  zc : z.cells.size = k
  pos : 0 < k
  by64 : by_ ≤ 64
def z57 : Value := .agg #[.int .i64 0, .int .i64 0, .int .i64 0, .slice none 0 0]
theorem el26 : El 26 57 4 z57 48 := ⟨Try.underlying26, by kernel_rfl, rfl, by omega, by omega⟩
theorem el60 : El 60 39 3 zMsg 40 := ⟨Try.underlying60, by kernel_rfl, rfl, by omega, by omega⟩
theorem el66 : El 66 4 1 (.bool false) 1 := ⟨Try.underlying66, by kernel_rfl, rfl, by omega, by omega⟩
theorem el84 : El 84 3 1 (.int .i64 0) 8 := ⟨Try.underlying84, by kernel_rfl, rfl, by omega, by omega⟩
section
variable {t e k by_ : Nat} {z : Value} (E : El t e k z by_) (w : World)
include E
set_option maxRecDepth 100000 in
theorem run_append_k (v : Value) (css : List (Array Value)) (hown : OwnK w e k v css) (X : Nat → Prop) (A : Option Addr) (m c : Nat) (kss : List (Array Value)) (hr : Rd w X k A m kss) (ty : TypeId)
    (hl : css.length ≤ 1000000000) (hm : m ≤ 1000000000) :
    ∃ v' w', (Builtin.append_ #[t, t] ty #[v, .slice A m c]).run Try.prog w = .ok v' w' ∧ OwnK w' e k v' (css ++ kss) ∧ Grew v w v' w' := by
  obtain ⟨i, hi, hz0, hz1, hz2⟩ := info_parts E.info
  rcases A with _ | ad
  · have h0 : m = 0 := by
      rcases Nat.eq_zero_or_pos m with h0 | h0
      · exact h0
      · obtain ⟨ad, h, _⟩ := hr.2.2 h0
        cases h
    subst h0
    have hk : kss = [] := List.eq_nil_of_length_eq_zero hr.1
    subst hk
    refine ⟨v, w, ?_, by simpa using hown, Grew.refl⟩
    rcases hown.1.2 with ⟨rfl, _⟩ | ⟨g, cap, cur, rfl, _, _, hnc, _⟩
    · simp [Builtin.append_, run_underlying E.und, sizeOf, typeInfo, hi, Builtin.lenOf, Builtin.firstCells]
    · simp [Builtin.append_, run_underlying E.und, sizeOf, typeInfo, hi, Builtin.lenOf, Builtin.firstCells, hnc, storeCells]
  · have hcells : ∀ j u, (flatA kss)[j]? = some u → w.cell? (ad.add j) = some u := by
      intro j u hu
      rcases Nat.eq_zero_or_pos m with h0 | h0
      · subst h0
        have hn : kss = [] := List.eq_nil_of_length_eq_zero hr.1
        subst hn
        simp [flatA] at hu
      · obtain ⟨ad', h, _, _, hc⟩ := hr.2.2 h0
        injection h with h
        subst h
        exact hc j u hu
    have hby : (css.length + m) * by_ ≤ 140737488355328 := Nat.le_trans (Nat.mul_le_mul_left _ E.by64) (by omega)
    obtain ⟨v', w', hrun, h2, h3, _, h5⟩ := run_append_own_at (P := Try.prog) w 0 t ty e i z k by_ E.und hi hz0 hz1 hz2 E.zc E.pos v css.length (flatA css) hown.1 ad m c (flatA kss) (by rw [length_flatA hr.2.1, hr.1]) hcells
      (fun u hu => by
        obtain ⟨x, hx, he⟩ := List.mem_flatMap.1 hu
        exact (hr.2.1 x hx).2 u he) (by unfold maxLen; omega) hby (Nat.zero_le _)
    refine ⟨v', w', hrun, ⟨?_, hown.2.app hr.2.1⟩, h3, fun g e => ?_⟩
    · rw [List.length_append, flatA_append, hr.1]
      exact h2
    · rcases h5 with h | h
      · exact .inl (h.symm.trans e)
      · rw [h] at e; injection e with e; exact .inr (by omega)
variable {ops : Array Oper} {rest : List Oper} {o : Oper} {a : Act} {Q : Exit → Act → World → Prop}
set_option maxRecDepth 100000 in
theorem wpList_append_k (hw : Region.wanted o (yielded ops a.tmps) = true) (s x : Operand)
    (ho : o.op = .call { callee := .builtin .append, args := #[s, x], argTypes := #[t, t] })
    (v : Value) (css : List (Array Value)) (hs : a.eval s = v) (hown : OwnK w e k v css) (X : Nat → Prop) (A : Option Addr) (m c : Nat) (kss : List (Array Value)) (hx : a.eval x = .slice A m c) (hr : Rd w X k A m kss)
    (hl : css.length ≤ 1000000000) (hm : m ≤ 1000000000)
    (h : ∀ v' w', OwnK w' e k v' (css ++ kss) → Grew v w v' w' → wpList Try.prog ops Q rest (a.put o.dst v') w') : wpList Try.prog ops Q (o :: rest) a w := by
  refine BigFrame.wpList_want hw fun K hK => ?_
  obtain ⟨v', w', hrun, h2, h3⟩ := run_append_k E w v css hown X A m c kss hr o.type hl hm
  unfold Oper.wp execOp
  simp only [ho, resolve, invoke, builtin, Sem.run_bind, Sem.run_pure, Result.andThen_ok, List.map_toArray, List.map_cons, List.map_nil, hs, hx, hrun]
  exact hK _ _ (h v' w' h2 h3)
end
end Go.Proofs.Yticabfmjdjcfnaa
