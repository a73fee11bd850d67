/-
  What the laws of this layer speak of: logs as functions of places, their epochs alone. Nothing is assumed.
-/
import Derived.Test.YtabbkghnijebpaaMem
namespace Go.Proofs.Ytabbkghnijebpaa
open Go.RowKit
/-- The first n epochs may be a log's. -/
def Good (E : Nat → Int) (n : Nat) : Prop := ∀ i, i < n → 1 ≤ E i ∧ E i ≤ 2147483647 ∧ (0 < i → E (i - 1) ≤ E i)
instance (E : Nat → Int) (n : Nat) : Decidable (Good E n) := by unfold Good; infer_instance
/-- A log may be. -/
def May (E : Nat → Int) (n : Nat) : Prop := n ≤ 4096 ∧ Good E n
instance (E : Nat → Int) (n : Nat) : Decidable (May E n) := by unfold May; infer_instance
/-- The epoch of the last of n entries, 0 of none. -/
def lastTo (E : Nat → Int) (n : Nat) : Int := if n = 0 then 0 else E (n - 1)
/-- The place behind the last of n entries whose epoch is not above e. -/
def nab (E : Nat → Int) (e : Int) : Nat → Nat
  | 0 => 0
  | n + 1 => if E n ≤ e then n + 1 else nab E e n
/-- A log of n entries fits at m, with an epoch. -/
def Fits (E : Nat → Int) (n m : Nat) (ep : Int) : Prop := m ≤ n ∧ lastTo E m = ep
instance (E : Nat → Int) (n m : Nat) (ep : Int) : Decidable (Fits E n m ep) := by unfold Fits; infer_instance
/-- How many are kept by coming nearer once. -/
def nearer (L : Nat → Int) (nl : Nat) (E : Nat → Int) (n : Nat) : Nat :=
  min (min (nab E (lastTo L (nab L (lastTo E n) nl)) n) (nab L (lastTo E n) nl)) (n - 1)
def meetF (L : Nat → Int) (nl : Nat) (E : Nat → Int) : Nat → Nat → Nat → Nat × Nat
  | 0, n, t => (n, t)
  | f + 1, n, t => if Fits L nl n (lastTo E n) then (n, t) else meetF L nl E f (nearer L nl E n) (t + 1)
/-- How many are kept till it fits, and how often it came nearer (t so far). -/
def meet (L : Nat → Int) (nl : Nat) (E : Nat → Int) (n t : Nat) : Nat × Nat := meetF L nl E n n t
/-- Where epochs begin. -/
def starts (E : Nat → Int) (n : Nat) : List Nat := (List.range n).filter fun i => decide (i = 0 ∨ E i ≠ E (i - 1))
section
variable {E L : Nat → Int} {n nl m k : Nat} {e : Int}
theorem Good.less (h : Good E n) (hk : k ≤ n) : Good E k := fun i hi => h i (by omega)
theorem May.less (h : May E n) (hk : k ≤ n) : May E k := ⟨by have := h.1; omega, h.2.less hk⟩
theorem Good.le (h : Good E n) : ∀ {i j : Nat}, i ≤ j → j < n → E i ≤ E j := by
  intro i j hij
  induction hij with
  | refl => intro _; exact Int.le_refl _
  | step hij ih =>
    intro hj
    have h1 := ih (by omega)
    have h2 := (h _ hj).2.2 (Nat.succ_pos _)
    exact Int.le_trans h1 h2
theorem nab_le (E : Nat → Int) (e : Int) : ∀ n, nab E e n ≤ n
  | 0 => Nat.le_refl _
  | n + 1 => by
    unfold nab
    split
    · exact Nat.le_refl _
    · have := nab_le E e n; omega
/-- Behind it each epoch is above. -/
theorem nab_above : ∀ {n i : Nat}, nab E e n ≤ i → i < n → e < E i
  | 0, i, _, h => absurd h (by omega)
  | n + 1, i, h1, h2 => by
    unfold nab at h1
    split at h1
    · omega
    · rename_i hn
      rcases Nat.lt_or_ge i n with hi | hi
      · exact nab_above h1 hi
      · obtain rfl : i = n := by omega
        omega
/-- The last one ahead of it is not above. -/
theorem nab_last : ∀ {n : Nat}, 0 < nab E e n → E (nab E e n - 1) ≤ e
  | 0, h => absurd h (by simp [nab])
  | n + 1, h => by
    unfold nab at h ⊢
    split
    · rename_i hn; simpa using hn
    · rename_i hn
      rw [if_neg hn] at h
      exact nab_last h
theorem nab_below (hg : Good E n) {i : Nat} (hi : i < nab E e n) : E i ≤ e := by
  have h1 := nab_last (E := E) (e := e) (n := n) (by omega)
  have h2 := nab_le E e n
  have h3 := hg.le (i := i) (j := nab E e n - 1) (by omega) (by omega)
  omega
/-- It is the only such place. -/
theorem nab_of (hk : k ≤ n) (h1 : ∀ i, i < k → E i ≤ e) (h2 : ∀ i, k ≤ i → i < n → e < E i) : nab E e n = k := by
  have a := nab_le E e n
  rcases Nat.lt_trichotomy (nab E e n) k with h | h | h
  · have b := nab_above (E := E) (e := e) (n := n) (i := nab E e n) (Nat.le_refl _) (by omega)
    have c := h1 _ h
    omega
  · exact h
  · have b := nab_last (E := E) (e := e) (n := n) (by omega)
    have c := h2 (nab E e n - 1) (by omega) (by omega)
    omega
theorem nab_min (hg : Good E n) : nab E e (min n m) = min (nab E e n) m := by
  have a := nab_le E e n
  refine nab_of (by omega) (fun i hi => nab_below hg (by omega)) (fun i h1 h2 => nab_above (n := n) (by omega) (by omega))
theorem lastTo_zero : lastTo E 0 = 0 := rfl
theorem fits_zero : Fits L nl 0 (lastTo E 0) := ⟨Nat.zero_le _, rfl⟩
theorem nearer_lt (hn : 0 < n) : nearer L nl E n < n := by unfold nearer; omega
theorem meetF_more : ∀ {f n t : Nat}, n ≤ f → meetF L nl E f n t = meetF L nl E n n t := by
  intro f
  induction f using Nat.strongRecOn with
  | _ f ih =>
    intro n t hf
    cases f with
    | zero => obtain rfl : n = 0 := by omega
              rfl
    | succ f =>
      cases n with
      | zero =>
        unfold meetF
        rw [if_pos fits_zero]
      | succ n =>
        conv => lhs; unfold meetF
        conv => rhs; unfold meetF
        by_cases h : Fits L nl (n + 1) (lastTo E (n + 1))
        · rw [if_pos h, if_pos h]
        · rw [if_neg h, if_neg h]
          have hlt := nearer_lt (L := L) (nl := nl) (E := E) (n := n + 1) (by omega)
          rw [ih f (by omega) (by omega), ih n (by omega) (by omega)]
theorem meet_fits {t : Nat} (h : Fits L nl n (lastTo E n)) : meet L nl E n t = (n, t) := by
  unfold meet
  cases n with
  | zero => rfl
  | succ n => unfold meetF; rw [if_pos h]
theorem meet_not {t : Nat} (h : ¬ Fits L nl n (lastTo E n)) : meet L nl E n t = meet L nl E (nearer L nl E n) (t + 1) := by
  unfold meet
  cases n with
  | zero => exact absurd fits_zero h
  | succ n =>
    have hlt := nearer_lt (L := L) (nl := nl) (E := E) (n := n + 1) (by omega)
    conv => lhs; unfold meetF
    rw [if_neg h, meetF_more (f := n) (by omega)]
/-- What is kept fits; coming nearer takes one at least. -/
theorem meet_ok : ∀ {n t : Nat}, Fits L nl (meet L nl E n t).1 (lastTo E (meet L nl E n t).1) ∧ (meet L nl E n t).1 ≤ n ∧ (meet L nl E n t).2 + (meet L nl E n t).1 ≤ n + t ∧ t ≤ (meet L nl E n t).2 := by
  intro n
  induction n using Nat.strongRecOn with
  | _ n ih =>
    intro t
    by_cases h : Fits L nl n (lastTo E n)
    · rw [meet_fits h]
      exact ⟨h, Nat.le_refl _, by simp; omega, Nat.le_refl _⟩
    · rw [meet_not h]
      have hn : 0 < n := by
        rcases Nat.eq_zero_or_pos n with h0 | h0
        · subst h0; exact absurd fits_zero h
        · exact h0
      have hlt := nearer_lt (L := L) (nl := nl) (E := E) hn
      obtain ⟨h1, h2, h3, h4⟩ := ih _ hlt (t := t + 1)
      exact ⟨h1, by omega, by omega, by omega⟩
theorem starts_succ : starts E (n + 1) = starts E n ++ (if n = 0 ∨ E n ≠ E (n - 1) then [n] else []) := by
  unfold starts
  rw [List.range_succ, List.filter_append]
  congr 1
  by_cases h : n = 0 ∨ E n ≠ E (n - 1)
  · rw [if_pos h]; simp only [List.filter_cons, decide_eq_true_eq, h, if_true, List.filter_nil]
  · rw [if_neg h]; simp only [List.filter_cons, decide_eq_true_eq, h, if_false, List.filter_nil]
theorem starts_len (E : Nat → Int) (n : Nat) : (starts E n).length ≤ n := by
  unfold starts
  exact Nat.le_trans (List.length_filter_le _ _) (by simp)
end
/-- An entry: its epoch, its value. -/
def entA (p : Int × Int) : Array Value := #[.int .i64 p.1, .int .i64 (-1), .int .i64 0, .int .i64 0, .int .i64 1, .int .i64 p.2]
/-- The slice holds the first n entries of a log. -/
def Lg (w : World) (X : Nat → Prop) (A : Option Addr) (n : Nat) (f : Nat → Int × Int) : Prop := Rd w X 6 A n ((List.range n).map fun i => entA (f i))
/-- The row of one's own holds the first n entries of a log. -/
def OwnL (w : World) (v : Value) (n : Nat) (f : Nat → Int × Int) : Prop := OwnK w 59 6 v ((List.range n).map fun i => entA (f i))
/-- A start. -/
def stA (E : Nat → Int) (i : Nat) : Array Value := #[.int .i64 (E i), .int .i64 (i : Int)]
/-- The slice holds these starts. -/
def Sts (w : World) (X : Nat → Prop) (A : Option Addr) (n : Nat) (E : Nat → Int) (l : List Nat) : Prop := Rd w X 2 A n (l.map (stA E))
def OwnS (w : World) (v : Value) (E : Nat → Int) (l : List Nat) : Prop := OwnK w 63 2 v (l.map (stA E))
/-- The slice holds these integers. -/
def Ints (w : World) (A : Option Addr) (n : Nat) (z : Nat → Int) : Prop :=
  (0 < n → ∃ ad, A = some ad ∧ ad.block < w.heap.size ∧ ∀ j, j < n → w.cell? (ad.add j) = some (.int .i64 (z j))) ∧ ∀ j, j < n → In64 (z j)
section
variable {w w' : World} {X X' S : Nat → Prop} {A : Option Addr} {n k : Nat} {f : Nat → Int × Int} {z : Nat → Int}
theorem Ints.below (h : Ints w A n z) (hb : Below w.heap.size w w') : Ints w' A n z :=
  ⟨fun h0 => by
    obtain ⟨ad, e, hl, hc⟩ := h.1 h0
    exact ⟨ad, e, Nat.lt_of_lt_of_le hl hb.size, fun j hj => (hb.cell (p := ad.add j) (by rw [block_of_add]; exact hl)).trans (hc j hj)⟩, h.2⟩
theorem Ints.at_ (h : Ints w A n z) (hk : k < n) : ∃ ad, A = some ad ∧ ad.block < w.heap.size ∧ w.cell? (ad.add k) = some (.int .i64 (z k)) := by
  obtain ⟨ad, e, hl, hc⟩ := h.1 (by omega)
  exact ⟨ad, e, hl, hc k hk⟩
theorem Lg.keep (h : Lg w X A n f) (ht : Turn S w w') (hS : ∀ b, b < w.heap.size → S b → X b) : Lg w' X A n f := Rd.keep h ht hS
theorem Lg.below (h : Lg w X A n f) (hb : Below w.heap.size w w') : Lg w' X A n f := Rd.below h hb
theorem Lg.wide (h : Lg w X A n f) (hX : ∀ b, b < w.heap.size → X' b → X b) : Lg w X' A n f := Rd.wide h hX
theorem Lg.alloc (h : Lg w X A n f) (o : Obj) : Lg (w.alloc o) X A n f := Rd.alloc h o
theorem Lg.first (h : Lg w X A n f) (hk : k ≤ n) : Lg w X A k f := by
  have := Rd.first h hk
  rwa [← List.map_take, List.take_range, Nat.min_eq_left hk] at this
theorem Lg.congr {g : Nat → Int × Int} (h : Lg w X A n f) (hg : ∀ i, i < n → f i = g i) : Lg w X A n g := by
  unfold Lg
  have : ((List.range n).map fun i => entA (g i)) = (List.range n).map fun i => entA (f i) := by
    apply List.map_congr_left
    intro i hi
    rw [hg i (List.mem_range.1 hi)]
  rw [this]
  exact h
/-- The cells of an entry, in the form in which a load asks for them. -/
theorem Lg.at_ (h : Lg w X A n f) (hk : k < n) : ∃ ad, A = some ad ∧ ad.block < w.heap.size ∧ ¬ X ad.block ∧
    w.cell? (ad.add (k * 6)) = some (.int .i64 (f k).1) ∧ w.cell? ⟨(ad.add (k * 6)).block, (ad.add (k * 6)).off + 1, none⟩ = some (.int .i64 (-1)) ∧ w.cell? ⟨(ad.add (k * 6)).block, (ad.add (k * 6)).off + 2, none⟩ = some (.int .i64 0) ∧
    w.cell? ⟨(ad.add (k * 6)).block, (ad.add (k * 6)).off + 3, none⟩ = some (.int .i64 0) ∧ w.cell? ⟨(ad.add (k * 6)).block, (ad.add (k * 6)).off + 4, none⟩ = some (.int .i64 1) ∧ w.cell? ⟨(ad.add (k * 6)).block, (ad.add (k * 6)).off + 5, none⟩ = some (.int .i64 (f k).2) := by
  obtain ⟨ad, h1, h2, h3, h4, h5⟩ := Rd.load h (i := k) (cs := entA (f k)) (by simp [hk])
  exact ⟨ad, h1, h2, h3, h4 _ rfl, h5 0 _ rfl, h5 1 _ rfl, h5 2 _ rfl, h5 3 _ rfl, h5 4 _ rfl⟩
theorem OwnL.lg {c : Nat} (h : OwnL w (.slice A n c) k f) (hX : ∀ g, Value.ownBlock (.slice A n c) = some g → ¬ X g) : Lg w X A n f := by
  obtain ⟨A', q, c', e, hq, _⟩ := OwnK.form h
  injection e with e1 e2 e3
  simp at hq
  have h' := OwnK.rd h hX
  unfold Lg
  obtain rfl : n = k := by omega
  exact h'
end
end Go.Proofs.Ytabbkghnijebpaa
