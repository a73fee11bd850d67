/-
  What layer 8 (producers) answers, as functions over lists of entries: what a log has of an ID, by notes entry by entry and out of all entries; what is refused. Nothing is assumed.
-/
import Derived.Test.YthcphoijanebhaaDoorMem
namespace Go.Proofs.YthcphoijanebhaaDoor
open Go.RowKit
/-- An entry. -/
structure Ent where
  epoch : Int
  id : Int
  num : Int
  seq : Int
  kind : Int
  value : Int
deriving DecidableEq
def Ent.cells (e : Ent) : Array Value := #[.int .i64 e.epoch, .int .i64 e.id, .int .i64 e.num, .int .i64 e.seq, .int .i64 e.kind, .int .i64 e.value]
def Ent.val (e : Ent) : Value := .agg e.cells
def Ent.none_ : Ent := ⟨0, 0, 0, 0, 0, 0⟩
/-- An entry may be. -/
def Right (e : Ent) : Prop := (1 ≤ e.epoch ∧ e.epoch ≤ 2147483647) ∧
  ((e.kind = 1 ∧ (-2147483648 ≤ e.value ∧ e.value ≤ 2147483647) ∧ ((e.id = -1 ∧ e.num = 0 ∧ e.seq = 0) ∨ (0 ≤ e.id ∧ e.id ≤ 3 ∧ 1 ≤ e.num ∧ e.num ≤ 2147483647 ∧ 0 ≤ e.seq ∧ e.seq ≤ 2147483647))) ∨
   ((e.kind = 2 ∨ e.kind = 3) ∧ 0 ≤ e.id ∧ e.id ≤ 3 ∧ 1 ≤ e.num ∧ e.num ≤ 2147483647 ∧ e.seq = 0 ∧ e.value = 0))
instance (e : Ent) : Decidable (Right e) := by unfold Right; infer_instance
/-- What a log has of an ID. -/
structure Wr where
  high : Int
  next : Int
  marked : Int
  opens : List (Int × Nat)
  ended : List Int
deriving DecidableEq
def Wr.none_ : Wr := ⟨0, 0, 0, [], []⟩
/-- The Nums of transactions. -/
def keys (l : List (Int × Nat)) : List Int := l.map (·.1)
/-- A Num, above all so far or not. -/
def Wr.up (x : Wr) (e : Ent) : Wr := if x.high < e.num then { x with high := e.num, next := 0 } else x
/-- The ID has data at a place. -/
def Wr.data (x : Wr) (p : Nat) (e : Ent) : Wr :=
  { x with next := if e.num = x.high then max x.next (e.seq + 1) else x.next
           opens := if e.num ∈ x.ended ∨ e.num ∈ keys x.opens then x.opens else x.opens ++ [(e.num, p)] }
/-- The ID has a marker. -/
def Wr.mark (x : Wr) (e : Ent) : Wr := { x with marked := max x.marked e.num, opens := x.opens.filter fun p => decide (p.1 ≠ e.num), ended := e.num :: x.ended }
def Wr.note (x : Wr) (p : Nat) (e : Ent) : Wr := if e.kind = 1 then (x.up e).data p e else (x.up e).mark e
/-- What a log (its last entry first) has of an ID. -/
def wrR (id : Int) : List Ent → Wr
  | [] => .none_
  | e :: r => if e.id = id then (wrR id r).note r.length e else wrR id r
def wr (id : Int) (l : List Ent) : Wr := wrR id l.reverse
theorem wr_nil (id : Int) : wr id [] = .none_ := rfl
theorem wr_snoc (id : Int) (l : List Ent) (e : Ent) : wr id (l ++ [e]) = if e.id = id then (wr id l).note l.length e else wr id l := by
  unfold wr
  rw [List.reverse_append]
  show (if e.id = id then (wrR id l.reverse).note l.reverse.length e else _) = _
  rw [List.length_reverse]
  rfl
/-- Is there a marker of a transaction? -/
def isMk (l : List Ent) (id num : Int) : Bool := l.any fun e => decide (e.id = id ∧ e.num = num ∧ 1 < e.kind)
def opR (mk : Int → Bool) (id : Int) : List Ent → List (Int × Nat)
  | [] => []
  | e :: r => if e.id = id ∧ e.kind = 1 ∧ mk e.num = false ∧ e.num ∉ keys (opR mk id r) then opR mk id r ++ [(e.num, r.length)] else opR mk id r
/-- The open transactions of an ID, out of entries, told which are marked. -/
def op (mk : Int → Bool) (id : Int) (l : List Ent) : List (Int × Nat) := opR mk id l.reverse
theorem op_snoc (mk : Int → Bool) (id : Int) (l : List Ent) (e : Ent) : op mk id (l ++ [e]) = if e.id = id ∧ e.kind = 1 ∧ mk e.num = false ∧ e.num ∉ keys (op mk id l) then op mk id l ++ [(e.num, l.length)] else op mk id l := by
  unfold op
  rw [List.reverse_append]
  show (if e.id = id ∧ e.kind = 1 ∧ mk e.num = false ∧ e.num ∉ keys (opR mk id l.reverse) then opR mk id l.reverse ++ [(e.num, l.reverse.length)] else _) = _
  rw [List.length_reverse]
  rfl
def opens (l : List Ent) (id : Int) : List (Int × Nat) := op (isMk l id) id l
/-- The greatest of some. -/
def top (p : Ent → Prop) [DecidablePred p] (v : Ent → Int) (l : List Ent) : Int := l.foldl (fun a e => if p e then max a (v e) else a) 0
theorem top_snoc (p : Ent → Prop) [DecidablePred p] (v : Ent → Int) (l : List Ent) (e : Ent) : top p v (l ++ [e]) = if p e then max (top p v l) (v e) else top p v l := by
  unfold top
  rw [List.foldl_append]
  rfl
def high (l : List Ent) (id : Int) : Int := top (fun e => e.id = id) (·.num) l
def markedTo (l : List Ent) (id : Int) : Int := top (fun e => e.id = id ∧ 1 < e.kind) (·.num) l
def nextTo (l : List Ent) (id h : Int) : Int := top (fun e => e.id = id ∧ e.num = h ∧ e.kind = 1) (fun e => e.seq + 1) l
/-- Entries that may be, all. -/
def AllR (l : List Ent) : Prop := ∀ e ∈ l, Right e
theorem right_kind {e : Ent} (h : Right e) : e.kind = 1 ∨ e.kind = 2 ∨ e.kind = 3 := by unfold Right at h; omega
theorem AllR.snoc {l : List Ent} {e : Ent} (h : AllR l) (he : Right e) : AllR (l ++ [e]) := fun x hx => by
  rcases List.mem_append.1 hx with q | q
  · exact h x q
  · simp at q; subst q; exact he
theorem AllR.take {l : List Ent} (h : AllR l) (n : Nat) : AllR (l.take n) := fun x hx => h x (List.mem_of_mem_take hx)
theorem AllR.front {l : List Ent} {e : Ent} (h : AllR (l ++ [e])) : AllR l ∧ Right e := ⟨fun x hx => h x (by simp [hx]), h e (by simp)⟩
theorem snoc_induction {α : Type} {P : List α → Prop} (h0 : P []) (h1 : ∀ l a, P l → P (l ++ [a])) (l : List α) : P l := by
  have : P l.reverse.reverse := by
    induction l.reverse with
    | nil => exact h0
    | cons a r ih => rw [List.reverse_cons]; exact h1 _ _ ih
  rwa [List.reverse_reverse] at this
theorem isMk_snoc (l : List Ent) (e : Ent) (id num : Int) : isMk (l ++ [e]) id num = (isMk l id num || decide (e.id = id ∧ e.num = num ∧ 1 < e.kind)) := by
  unfold isMk
  rw [List.any_append]
  simp
theorem wr_ended {l : List Ent} (h : AllR l) (id k : Int) : k ∈ (wr id l).ended ↔ isMk l id k = true := by
  induction l using snoc_induction with
  | h0 => simp [wr_nil, Wr.none_, isMk]
  | h1 l e ih =>
    have ih := ih h.front.1
    have hk := right_kind h.front.2
    rw [wr_snoc, isMk_snoc, Bool.or_eq_true, ← ih]
    by_cases hid : e.id = id
    · rw [if_pos hid]
      unfold Wr.note
      by_cases h1 : e.kind = 1
      · rw [if_pos h1]
        unfold Wr.data Wr.up
        have : ¬ (1 < e.kind) := by omega
        split <;> simp [this]
      · rw [if_neg h1]
        have h2 : 1 < e.kind := by omega
        unfold Wr.mark Wr.up
        split <;> simp [h2, hid] <;> exact ⟨fun q => q.elim (fun a => .inr a.symm) .inl, fun q => q.elim .inr (fun a => .inl a.symm)⟩
    · rw [if_neg hid]
      simp [hid]
theorem keys_filter (l : List (Int × Nat)) (a k : Int) : k ∈ keys (l.filter fun p => decide (p.1 ≠ a)) ↔ k ∈ keys l ∧ k ≠ a := by
  unfold keys
  simp only [List.mem_map, List.mem_filter, decide_eq_true_eq]
  constructor
  · rintro ⟨p, ⟨h1, h2⟩, rfl⟩; exact ⟨⟨p, h1, rfl⟩, h2⟩
  · rintro ⟨⟨p, h1, rfl⟩, h2⟩; exact ⟨p, ⟨h1, h2⟩, rfl⟩
theorem op_congr {mk mk' : Int → Bool} (id : Int) (h : ∀ k, mk k = mk' k) (l : List Ent) : op mk id l = op mk' id l := by
  have : mk = mk' := funext h
  rw [this]
theorem op_mark (mk : Int → Bool) (id a : Int) (l : List Ent) : op (fun k => mk k || decide (a = k)) id l = (op mk id l).filter fun p => decide (p.1 ≠ a) := by
  induction l using snoc_induction with
  | h0 => rfl
  | h1 l e ih =>
    rw [op_snoc, op_snoc, ih]
    simp only [keys_filter]
    by_cases h1 : e.id = id ∧ e.kind = 1
    · by_cases h2 : a = e.num
      · have c1 : ¬ (e.id = id ∧ e.kind = 1 ∧ (mk e.num || decide (a = e.num)) = false ∧ ¬ (e.num ∈ keys (op mk id l) ∧ e.num ≠ a)) := by simp [h2]
        rw [if_neg c1]
        split
        · rw [List.filter_append]; simp [h2]
        · rfl
      · have hne : e.num ≠ a := fun q => h2 q.symm
        have hd : decide (a = e.num) = false := by simp [h2]
        rw [hd, Bool.or_false]
        by_cases c : e.id = id ∧ e.kind = 1 ∧ mk e.num = false ∧ e.num ∉ keys (op mk id l)
        · rw [if_pos c, if_pos ⟨c.1, c.2.1, c.2.2.1, fun q => c.2.2.2 q.1⟩, List.filter_append]
          simp [hne]
        · rw [if_neg c, if_neg (fun q => c ⟨q.1, q.2.1, q.2.2.1, fun z => q.2.2.2 ⟨z, hne⟩⟩)]
    · rw [if_neg (fun q => h1 ⟨q.1, q.2.1⟩), if_neg (fun q => h1 ⟨q.1, q.2.1⟩)]
theorem up_opens (x : Wr) (e : Ent) : (x.up e).opens = x.opens ∧ (x.up e).ended = x.ended ∧ (x.up e).marked = x.marked ∧ (x.up e).high = max x.high e.num := by
  unfold Wr.up
  split
  · exact ⟨rfl, rfl, rfl, by simp; omega⟩
  · exact ⟨rfl, rfl, rfl, by omega⟩
theorem wr_opens {l : List Ent} (h : AllR l) (id : Int) : (wr id l).opens = opens l id := by
  induction l using snoc_induction with
  | h0 => rfl
  | h1 l e ih =>
    have ih := ih h.front.1
    have hk := right_kind h.front.2
    have hend := wr_ended h.front.1 id
    rw [wr_snoc]
    unfold opens
    rw [op_snoc]
    by_cases hid : e.id = id
    · rw [if_pos hid]
      unfold Wr.note
      by_cases h1 : e.kind = 1
      · have hmk : ∀ k, isMk (l ++ [e]) id k = isMk l id k := fun k => by rw [isMk_snoc]; simp; omega
        rw [if_pos h1, op_congr id hmk]
        show (if e.num ∈ ((wr id l).up e).ended ∨ e.num ∈ keys ((wr id l).up e).opens then ((wr id l).up e).opens else ((wr id l).up e).opens ++ [(e.num, l.length)]) = _
        rw [(up_opens _ e).1, (up_opens _ e).2.1, ih, hmk]
        unfold opens
        by_cases c : e.num ∈ (wr id l).ended ∨ e.num ∈ keys (op (isMk l id) id l)
        · rw [if_pos c, if_neg]
          rintro ⟨_, _, q1, q2⟩
          rcases c with c | c
          · rw [hend] at c; rw [c] at q1; cases q1
          · exact q2 c
        · rw [if_neg c, if_pos]
          refine ⟨hid, h1, ?_, fun q => c (.inr q)⟩
          rw [← Bool.not_eq_true]
          exact fun q => c (.inl ((hend _).2 q))
      · have h2 : 1 < e.kind := by omega
        have hmk : ∀ k, isMk (l ++ [e]) id k = (isMk l id k || decide (e.num = k)) := fun k => by rw [isMk_snoc]; simp [hid, h2]
        rw [if_neg h1, op_congr id hmk, op_mark]
        have c : ¬ (e.id = id ∧ e.kind = 1 ∧ isMk (l ++ [e]) id e.num = false ∧ e.num ∉ keys ((op (isMk l id) id l).filter fun p => decide (p.1 ≠ e.num))) := fun q => h1 q.2.1
        rw [if_neg c]
        show ((wr id l).up e).opens.filter _ = _
        rw [(up_opens _ e).1, ih]
        rfl
    · rw [if_neg hid, if_neg (fun q => hid q.1), ih]
      refine op_congr id (fun k => ?_) l
      rw [isMk_snoc]
      simp [hid]
theorem high_snoc (l : List Ent) (e : Ent) (id : Int) : high (l ++ [e]) id = if e.id = id then max (high l id) e.num else high l id := top_snoc _ _ l e
theorem wr_high (l : List Ent) (id : Int) : (wr id l).high = high l id := by
  induction l using snoc_induction with
  | h0 => rfl
  | h1 l e ih =>
    rw [wr_snoc, high_snoc]
    by_cases hid : e.id = id
    · rw [if_pos hid, if_pos hid]
      unfold Wr.note
      split
      · show ((wr id l).up e).high = _; rw [(up_opens _ e).2.2.2, ih]
      · show ((wr id l).up e).high = _; rw [(up_opens _ e).2.2.2, ih]
    · rw [if_neg hid, if_neg hid, ih]
theorem wr_marked {l : List Ent} (h : AllR l) (id : Int) : (wr id l).marked = markedTo l id := by
  induction l using snoc_induction with
  | h0 => rfl
  | h1 l e ih =>
    have ih := ih h.front.1
    have hk := right_kind h.front.2
    rw [wr_snoc]
    unfold markedTo at ih ⊢
    rw [top_snoc]
    by_cases hid : e.id = id
    · rw [if_pos hid]
      unfold Wr.note
      by_cases h1 : e.kind = 1
      · rw [if_pos h1, if_neg (by omega)]
        show ((wr id l).up e).marked = _
        rw [(up_opens _ e).2.2.1, ih]
      · rw [if_neg h1, if_pos (by omega)]
        show max ((wr id l).up e).marked e.num = _
        rw [(up_opens _ e).2.2.1, ih]
    · rw [if_neg hid, if_neg (fun q => hid q.1), ih]
theorem high_le {l : List Ent} {id : Int} : ∀ {e : Ent}, e ∈ l → e.id = id → e.num ≤ high l id := by
  induction l using snoc_induction with
  | h0 => intro e he; cases he
  | h1 l x ih =>
    intro e he hid
    rw [high_snoc]
    rcases List.mem_append.1 he with q | q
    · have := ih q hid
      split <;> omega
    · simp at q; subst q
      rw [if_pos hid]; omega
theorem high_nonneg (l : List Ent) (id : Int) : 0 ≤ high l id := by
  induction l using snoc_induction with
  | h0 => exact Int.le_refl _
  | h1 l x ih => rw [high_snoc]; split <;> omega
theorem top_none {p : Ent → Prop} [DecidablePred p] {v : Ent → Int} {l : List Ent} (h : ∀ e ∈ l, ¬ p e) : top p v l = 0 := by
  induction l using snoc_induction with
  | h0 => rfl
  | h1 l x ih => rw [top_snoc, if_neg (h x (by simp))]; exact ih (fun e he => h e (by simp [he]))
theorem up_next (x : Wr) (e : Ent) : (x.up e).next = if x.high < e.num then 0 else x.next := by
  unfold Wr.up
  split <;> rfl
theorem wr_next {l : List Ent} (h : AllR l) (id : Int) : (wr id l).next = nextTo l id (high l id) := by
  induction l using snoc_induction with
  | h0 => rfl
  | h1 l e ih =>
    have ih := ih h.front.1
    have hk := right_kind h.front.2
    have hh := wr_high l id
    rw [wr_snoc, high_snoc]
    by_cases hid : e.id = id
    · rw [if_pos hid, if_pos hid]
      have hup := up_next (wr id l) e
      have hmx := (up_opens (wr id l) e).2.2.2
      rw [hh] at hup hmx
      have e0 : ((wr id l).up e).next = nextTo l id (max (high l id) e.num) := by
        rw [hup]
        split
        · rename_i c
          rw [show max (high l id) e.num = e.num by omega]
          symm
          refine top_none fun x hx q => ?_
          have := high_le (id := id) hx q.1
          omega
        · rename_i c
          rw [ih, show max (high l id) e.num = high l id by omega]
      unfold Wr.note
      unfold nextTo at e0 ⊢
      rw [top_snoc]
      by_cases h1 : e.kind = 1
      · rw [if_pos h1]
        show (if e.num = ((wr id l).up e).high then max ((wr id l).up e).next (e.seq + 1) else ((wr id l).up e).next) = _
        rw [hmx, e0]
        by_cases c : e.num = max (high l id) e.num
        · rw [if_pos c, if_pos ⟨hid, c, h1⟩]
        · rw [if_neg c, if_neg (fun q => c q.2.1)]
      · rw [if_neg h1, if_neg (fun q => h1 q.2.2)]
        exact e0
    · rw [if_neg hid, if_neg hid, ih]
      unfold nextTo
      rw [top_snoc, if_neg (fun q => hid q.1)]
/-- The firsts rise, all ahead of the end; no Num twice. -/
def Ordered (l : List (Int × Nat)) (n : Nat) : Prop := l.Pairwise (fun a b => a.2 < b.2 ∧ a.1 ≠ b.1) ∧ ∀ p ∈ l, p.2 < n
theorem Ordered.more {l : List (Int × Nat)} {n m : Nat} (h : Ordered l n) (hm : n ≤ m) : Ordered l m := ⟨h.1, fun p hp => Nat.lt_of_lt_of_le (h.2 p hp) hm⟩
theorem Ordered.snoc {l : List (Int × Nat)} {n : Nat} (h : Ordered l n) {k : Int} (hk : k ∉ keys l) : Ordered (l ++ [(k, n)]) (n + 1) := by
  refine ⟨List.pairwise_append.2 ⟨h.1, List.pairwise_singleton _ _, fun a ha b hb => ?_⟩, fun p hp => ?_⟩
  · simp at hb; subst hb
    exact ⟨h.2 a ha, fun e => hk (List.mem_map.2 ⟨a, ha, e⟩)⟩
  · rcases List.mem_append.1 hp with q | q
    · have := h.2 p q; omega
    · simp at q; subst q; simp
theorem Ordered.filter {l : List (Int × Nat)} {n : Nat} (h : Ordered l n) (q : Int × Nat → Bool) : Ordered (l.filter q) n := ⟨h.1.filter q, fun p hp => h.2 p (List.mem_filter.1 hp).1⟩
theorem wr_ordered (id : Int) (l : List Ent) : Ordered (wr id l).opens l.length := by
  induction l using snoc_induction with
  | h0 => exact ⟨List.Pairwise.nil, fun p hp => by cases hp⟩
  | h1 l e ih =>
    rw [wr_snoc, List.length_append]
    show Ordered _ (l.length + 1)
    split
    · unfold Wr.note
      split
      · show Ordered (if e.num ∈ ((wr id l).up e).ended ∨ e.num ∈ keys ((wr id l).up e).opens then ((wr id l).up e).opens else ((wr id l).up e).opens ++ [(e.num, l.length)]) _
        rw [(up_opens _ e).1]
        split
        · exact ih.more (by omega)
        · rename_i c
          exact ih.snoc (fun q => c (.inr q))
      · show Ordered (((wr id l).up e).opens.filter _) _
        rw [(up_opens _ e).1]
        exact (ih.filter _).more (by omega)
    · exact ih.more (by omega)
/-- Numbers of what a log has are in bounds. -/
theorem wr_bounds {l : List Ent} (h : AllR l) (id : Int) : 0 ≤ (wr id l).high ∧ (wr id l).high ≤ 2147483647 ∧ 0 ≤ (wr id l).next ∧ (wr id l).next ≤ 2147483648 ∧ 0 ≤ (wr id l).marked ∧ (wr id l).marked ≤ 2147483647 := by
  have tb : ∀ (p : Ent → Prop) [DecidablePred p] (v : Ent → Int) (b : Int), 0 ≤ b → (∀ e ∈ l, v e ≤ b) → 0 ≤ top p v l ∧ top p v l ≤ b := by
    intro p _ v b hb hv
    clear h
    induction l using snoc_induction with
    | h0 => exact ⟨Int.le_refl _, hb⟩
    | h1 l x ih =>
      have := ih (fun e he => hv e (by simp [he]))
      have hx := hv x (by simp)
      rw [top_snoc]
      split <;> omega
  have n1 : ∀ e ∈ l, e.num ≤ 2147483647 := fun e he => by have := h e he; unfold Right at this; omega
  have n2 : ∀ e ∈ l, e.seq + 1 ≤ 2147483648 := fun e he => by have := h e he; unfold Right at this; omega
  rw [wr_high, wr_next h, wr_marked h]
  have a := tb (fun e => e.id = id) (·.num) _ (by omega) n1
  have b := tb (fun e => e.id = id ∧ 1 < e.kind) (·.num) _ (by omega) n1
  have c := tb (fun e => e.id = id ∧ e.num = high l id ∧ e.kind = 1) (fun e => e.seq + 1) _ (by omega) n2
  exact ⟨a.1, a.2, c.1, c.2, b.1, b.2⟩
end Go.Proofs.YthcphoijanebhaaDoor
