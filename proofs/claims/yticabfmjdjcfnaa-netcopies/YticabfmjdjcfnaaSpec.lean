/-
  A net by its document: messages with their numbers, rising; what is put, what a pick picks, what is left. Nothing is assumed.
-/
namespace Go.Proofs.Yticabfmjdjcfnaa
abbrev Bs := List UInt8
/-- A message. -/
structure Msg where
  fr : Int
  to : Int
  b : Bs
theorem Msg.eq {a c : Msg} (h1 : a.fr = c.fr) (h2 : a.to = c.to) (h3 : a.b = c.b) : a = c := by cases a; cases c; simp_all
/-- Messages with their numbers. -/
abbrev Row := List (Int × Msg)
/-- The message of a number. -/
def find : Row → Int → Option Msg
  | [], _ => none
  | p :: r, k => if p.1 = k then some p.2 else find r k
theorem find_cons (p : Int × Msg) (r : Row) (k : Int) : find (p :: r) k = if p.1 = k then some p.2 else find r k := rfl
/-- Numbers rise. -/
def Rises (l : Row) : Prop := l.Pairwise (fun a b => a.1 < b.1)
theorem find_isSome : ∀ {l : Row} {k : Int}, (find l k).isSome = true ↔ k ∈ l.map (·.1)
  | [], k => by simp [find]
  | p :: r, k => by
    unfold find
    by_cases h : p.1 = k
    · simp [h]
    · simp [h, find_isSome (l := r) (k := k), Ne.symm h, eq_comm]
theorem find_none {l : Row} {k : Int} (h : ∀ p ∈ l, p.1 ≠ k) : find l k = none := by
  rw [← Option.not_isSome_iff_eq_none, find_isSome]
  intro hm
  obtain ⟨p, hp, e⟩ := List.mem_map.1 hm
  exact h p hp e
theorem find_mem : ∀ {l : Row} {k : Int} {m : Msg}, find l k = some m → (k, m) ∈ l
  | [], k, m, h => by cases h
  | p :: r, k, m, h => by
    unfold find at h
    by_cases e : p.1 = k
    · rw [if_pos e] at h
      injection h with h
      subst h e
      simp
    · rw [if_neg e] at h
      exact List.mem_cons_of_mem _ (find_mem h)
theorem find_of_mem : ∀ {l : Row} {p : Int × Msg}, Rises l → p ∈ l → find l p.1 = some p.2
  | [], p, _, h => by cases h
  | q :: r, p, hr, h => by
    unfold find
    rcases List.mem_cons.1 h with rfl | h
    · rw [if_pos rfl]
    · have := (List.pairwise_cons.1 hr).1 p h
      rw [if_neg (by omega)]
      exact find_of_mem (List.pairwise_cons.1 hr).2 h
theorem find_at {l : Row} (hr : Rises l) {i : Nat} (hi : i < l.length) : find l l[i].1 = some l[i].2 := find_of_mem hr (List.getElem_mem hi)
theorem find_append : ∀ {l : Row} {c : Int} {m : Msg} {k : Int}, (∀ p ∈ l, p.1 ≠ c) → find (l ++ [(c, m)]) k = if k = c then some m else find l k
  | [], c, m, k, _ => by
    show (if c = k then some m else none) = _
    by_cases h : k = c
    · simp [h]
    · rw [if_neg (fun e => h e.symm), if_neg h]; rfl
  | p :: r, c, m, k, h => by
    show (if p.1 = k then some p.2 else find (r ++ [(c, m)]) k) = _
    rw [find_append (fun q hq => h q (List.mem_cons_of_mem _ hq)), find_cons]
    have hp := h p (by simp)
    by_cases e : p.1 = k
    · rw [if_pos e, if_pos e, if_neg (fun e' => hp (e.trans e'))]
    · rw [if_neg e, if_neg e]
theorem rises_append {l : Row} {c : Int} {m : Msg} (hr : Rises l) (h : ∀ p ∈ l, p.1 < c) : Rises (l ++ [(c, m)]) := by
  refine List.pairwise_append.2 ⟨hr, by simp, fun a ha b hb => ?_⟩
  obtain rfl : b = (c, m) := by simpa using hb
  exact h a ha
theorem rises_erase {l : Row} (hr : Rises l) (i : Nat) : Rises (l.eraseIdx i) := hr.sublist (List.eraseIdx_sublist _ _)
theorem find_erase : ∀ {l : Row} (_ : Rises l) {i : Nat} (hi : i < l.length) (k : Int), find (l.eraseIdx i) k = if k = l[i].1 then none else find l k
  | [], _, i, hi, k => by simp at hi
  | p :: r, hr, 0, hi, k => by
    have h1 := (List.pairwise_cons.1 hr).1
    show find r k = if k = p.1 then none else if p.1 = k then some p.2 else find r k
    by_cases e : k = p.1
    · rw [if_pos e]
      exact find_none (fun q hq => by have := h1 q hq; omega)
    · rw [if_neg e, if_neg (fun e' => e e'.symm)]
  | p :: r, hr, i + 1, hi, k => by
    have hi' : i < r.length := by simpa using hi
    have h1 := (List.pairwise_cons.1 hr).1 r[i] (List.getElem_mem hi')
    show (if p.1 = k then some p.2 else find (r.eraseIdx i) k) = if k = r[i].1 then none else if p.1 = k then some p.2 else find r k
    rw [find_erase (List.pairwise_cons.1 hr).2 hi' k]
    by_cases e : p.1 = k
    · rw [if_pos e, if_pos e, if_neg (by omega)]
    · rw [if_neg e, if_neg e]
/-- A net: its bound, messages on their way, how many numbers were given. -/
structure St where
  most : Nat
  l : Row
  came : Nat
/-- What holds of every net. -/
structure St.ok (s : St) : Prop where
  lo : 1 ≤ s.most
  hi : s.most ≤ 4096
  len : s.l.length ≤ s.most
  rises : Rises s.l
  nums : ∀ p ∈ s.l, 0 ≤ p.1 ∧ p.1 < (s.came : Int)
  short : ∀ p ∈ s.l, p.2.b.length ≤ 4096
  place : ∀ p ∈ s.l, 0 ≤ p.2.fr ∧ p.2.fr < 64 ∧ 0 ≤ p.2.to ∧ p.2.to < 64
/-- With another message on its way. -/
def St.put (s : St) (m : Msg) : St := ⟨s.most, s.l ++ [((s.came : Int), m)], s.came + 1⟩
/-- Without the one at a place. -/
def St.cut (s : St) (i : Nat) : St := ⟨s.most, s.l.eraseIdx i, s.came⟩
/-- A place that may be. -/
def isPl (p : Int) : Bool := decide (0 ≤ p) && decide (p < 64)
/-- Why a message is not taken. -/
def putC (s : St) (m : Msg) : Int := if isPl m.fr = false ∨ isPl m.to = false then 2 else if 4096 < m.b.length then 3 else if s.most ≤ s.l.length then 150 else 0
/-- What is picked of n. -/
def pick (k : Int) (n : Nat) : Nat := (k % (n : Int)).toNat
theorem pick_lt (k : Int) {n : Nat} (hn : 0 < n) : pick k n < n := by
  unfold pick
  have h1 := Int.emod_nonneg k (show (n : Int) ≠ 0 by omega)
  have h2 := Int.emod_lt_of_pos k (show (0 : Int) < n by omega)
  omega
theorem pick_cast (k : Int) {n : Nat} (hn : 0 < n) : ((pick k n : Nat) : Int) = k % (n : Int) := by
  unfold pick
  have h1 := Int.emod_nonneg k (show (n : Int) ≠ 0 by omega)
  omega
theorem ok_new {n : Nat} (h1 : 1 ≤ n) (h2 : n ≤ 4096) : St.ok ⟨n, [], 0⟩ := ⟨h1, h2, Nat.zero_le _, List.Pairwise.nil, fun p hp => (by cases hp), fun p hp => (by cases hp), fun p hp => (by cases hp)⟩
theorem putC_zero {s : St} {m : Msg} (h : putC s m = 0) : (isPl m.fr = true ∧ isPl m.to = true) ∧ m.b.length ≤ 4096 ∧ s.l.length < s.most := by
  unfold putC at h
  split at h
  · omega
  · split at h
    · omega
    · split at h
      · omega
      · rename_i h1 h2 h3
        refine ⟨⟨?_, ?_⟩, by omega, by omega⟩
        · cases e : isPl m.fr
          · exact absurd (.inl e) h1
          · rfl
        · cases e : isPl m.to
          · exact absurd (.inr e) h1
          · rfl
theorem isPl_iff {p : Int} : isPl p = true ↔ 0 ≤ p ∧ p < 64 := by unfold isPl; simp
theorem ok_put' {s : St} {m : Msg} (h : s.ok) (h1 : s.l.length < s.most) (h2 : m.b.length ≤ 4096) (h3 : 0 ≤ m.fr ∧ m.fr < 64 ∧ 0 ≤ m.to ∧ m.to < 64) : (s.put m).ok where
  lo := h.lo
  hi := h.hi
  len := by simp [St.put]; omega
  rises := rises_append h.rises (fun p hp => (h.nums p hp).2)
  nums := fun p hp => by
    rcases List.mem_append.1 hp with q | q
    · have := h.nums p q
      simp only [St.put]
      omega
    · obtain rfl : p = ((s.came : Int), m) := by simpa using q
      simp only [St.put]
      omega
  short := fun p hp => by
    rcases List.mem_append.1 hp with q | q
    · exact h.short p q
    · obtain rfl : p = ((s.came : Int), m) := by simpa using q
      exact h2
  place := fun p hp => by
    rcases List.mem_append.1 hp with q | q
    · exact h.place p q
    · obtain rfl : p = ((s.came : Int), m) := by simpa using q
      exact h3
theorem ok_put {s : St} {m : Msg} (h : s.ok) (hc : putC s m = 0) : (s.put m).ok := by
  obtain ⟨⟨h1, h2⟩, h3, h4⟩ := putC_zero hc
  rw [isPl_iff] at h1 h2
  exact ok_put' h h4 h3 ⟨h1.1, h1.2, h2.1, h2.2⟩
theorem ok_cut {s : St} (h : s.ok) (i : Nat) : (s.cut i).ok where
  lo := h.lo
  hi := h.hi
  len := Nat.le_trans (List.length_eraseIdx_le _ _) h.len
  rises := rises_erase h.rises i
  nums := fun p hp => h.nums p (List.mem_of_mem_eraseIdx hp)
  short := fun p hp => h.short p (List.mem_of_mem_eraseIdx hp)
  place := fun p hp => h.place p (List.mem_of_mem_eraseIdx hp)
theorem nums_ne {s : St} (h : s.ok) : ∀ p ∈ s.l, p.1 ≠ (s.came : Int) := fun p hp => by have := (h.nums p hp).2; omega
end Go.Proofs.Yticabfmjdjcfnaa
