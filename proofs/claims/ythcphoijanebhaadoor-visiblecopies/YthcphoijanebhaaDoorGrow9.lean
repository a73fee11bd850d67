/-
  What of a good log is visible grows; what is told further is what was not told yet. Nothing is assumed of the machine.
-/
import Derived.Test.YthcphoijanebhaaDoorWhole9
namespace Go.Proofs.YthcphoijanebhaaDoor
open Go.RowKit Go.Maps
set_option linter.unusedVariables false
/-- No entry stands behind a marker of its transaction. -/
def Fine9 (l : List Ent) : Prop := ∀ j e, l[j]? = some e → endd (l.take j) e = false
theorem GoodL.fine {l : List Ent} (h : GoodL l) : Fine9 l := fun j e he => (push_zero (h j e he)).1
theorem anyK_ex {q : Ent → Bool} {l : List Ent} {n : Nat} {p : Int × Int} : anyK q l n p = true ↔ ∃ j x, j < n ∧ l[j]? = some x ∧ x.key = p ∧ q x = true := by
  unfold anyK
  rw [List.any_eq_true]
  constructor
  · rintro ⟨x, hx, h⟩
    obtain ⟨j, hj⟩ := List.mem_iff_getElem?.1 hx
    rw [List.getElem?_take] at hj
    split at hj
    · next q1 =>
      simp only [Bool.and_eq_true, decide_eq_true_eq] at h
      exact ⟨j, x, q1, hj, h.1, h.2⟩
    · cases hj
  · rintro ⟨j, x, h1, h2, h3, h4⟩
    refine ⟨x, List.mem_iff_getElem?.2 ⟨j, by rw [List.getElem?_take, if_pos h1]; exact h2⟩, ?_⟩
    simp [h3, h4]
theorem anyK_mono {q : Ent → Bool} {l : List Ent} {n m : Nat} {p : Int × Int} (h : n ≤ m) (ha : anyK q l n p = true) : anyK q l m p = true := by
  obtain ⟨j, x, h1, h2, h3⟩ := anyK_ex.1 ha
  exact anyK_ex.2 ⟨j, x, by omega, h2, h3⟩
theorem opn_mono {l : List Ent} {n m : Nat} {e : Ent} (h : n ≤ m) (ho : opn l n e = false) : opn l m e = false := by
  unfold opn at ho ⊢
  cases hk : decide (e.key = nob) with
  | true => simp
  | false =>
    rw [hk] at ho
    have ha : anyK mkE l n e.key = true := by simpa using ho
    rw [anyK_mono h ha]
    rfl
theorem cm_mk {x : Ent} (h : cmE x = true) : mkE x = true := by
  unfold cmE at h
  unfold mkE
  simp only [decide_eq_true_eq] at h ⊢
  omega
/-- Of a good log what is stable is seen by more as by fewer. -/
theorem see_same {l : List Ent} {k m : Nat} {e : Ent} (hf : Fine9 l) (hkm : k ≤ m) (ho : opn l k e = false) : see l k e = see l m e := by
  unfold see
  cases hk : decide (e.key = nob) with
  | true => simp
  | false =>
    unfold opn at ho
    rw [hk] at ho
    have ha : anyK mkE l k e.key = true := by simpa using ho
    have hc : anyK cmE l k e.key = anyK cmE l m e.key := by
      rw [Bool.eq_iff_iff]
      refine ⟨anyK_mono hkm, fun h => ?_⟩
      obtain ⟨j, x, h1, h2, h3, h4⟩ := anyK_ex.1 h
      by_cases hj : j < k
      · exact anyK_ex.2 ⟨j, x, hj, h2, h3, h4⟩
      · obtain ⟨j0, x0, q1, q2, q3, q4⟩ := anyK_ex.1 ha
        have hb := hf j x h2
        have ht : endd (l.take j) x = true := by
          unfold endd
          refine anyK_ex.2 ⟨j0, x0, ?_, by rw [List.getElem?_take, if_pos (by omega)]; exact q2, by rw [q3, h3], q4⟩
          rw [List.length_take]
          have := (List.getElem?_eq_some_iff.1 h2).1
          omega
        rw [ht] at hb; cases hb
    rw [hc]
theorem vl_split (l : List Ent) (n fr a : Nat) : ∀ b, vl l n fr (a + b) = vl l n fr a ++ vl l n (fr + a) b
  | 0 => by simp [vl]
  | b + 1 => by
    have ih := vl_split l n fr a b
    show (if see l n (l.getD (fr + (a + b)) .none_) = true then vl l n fr (a + b) ++ [fr + (a + b)] else vl l n fr (a + b)) = vl l n fr a ++ (if see l n (l.getD (fr + a + b) .none_) = true then vl l n (fr + a) b ++ [fr + a + b] else vl l n (fr + a) b)
    rw [ih, show fr + a + b = fr + (a + b) by omega]
    split
    · rw [List.append_assoc]
    · rfl
theorem vl_congr {l : List Ent} {k m : Nat} : ∀ {N : Nat}, (∀ i, i < N → see l k (l.getD i .none_) = see l m (l.getD i .none_)) → vl l k 0 N = vl l m 0 N
  | 0, _ => rfl
  | N + 1, h => by
    have ih := vl_congr (N := N) (fun i hi => h i (by omega))
    have hN := h N (by omega)
    show (if see l k (l.getD (0 + N) .none_) = true then vl l k 0 N ++ [0 + N] else vl l k 0 N) = (if see l m (l.getD (0 + N) .none_) = true then vl l m 0 N ++ [0 + N] else vl l m 0 N)
    rw [Nat.zero_add, hN, ih]
/-- Behind the last one that is told nothing is, up to as many as there are. -/
theorem next_vl (l : List Ent) (m : Nat) : ∀ N, ∃ d, N = nextV (vl l m 0 N) + d ∧ vl l m (nextV (vl l m 0 N)) d = []
  | 0 => ⟨0, rfl, rfl⟩
  | N + 1 => by
    obtain ⟨d, h1, h2⟩ := next_vl l m N
    show ∃ d, N + 1 = nextV (if see l m (l.getD (0 + N) .none_) = true then vl l m 0 N ++ [0 + N] else vl l m 0 N) + d ∧ vl l m (nextV (if see l m (l.getD (0 + N) .none_) = true then vl l m 0 N ++ [0 + N] else vl l m 0 N)) d = []
    split
    · refine ⟨0, ?_, rfl⟩
      unfold nextV
      simp
    · next q =>
      refine ⟨d + 1, by omega, ?_⟩
      have hs : nextV (vl l m 0 N) + d = 0 + N := by omega
      show (if see l m (l.getD (nextV (vl l m 0 N) + d) .none_) = true then vl l m (nextV (vl l m 0 N)) d ++ [nextV (vl l m 0 N) + d] else vl l m (nextV (vl l m 0 N)) d) = []
      rw [hs, if_neg q, h2]
theorem stN_shift {l : List Ent} {n N fr M : Nat} (h0 : StN l n 0 N) (hf : fr ≤ N) (h : StN l n fr M) : fr + M = N := by
  rcases Nat.lt_trichotomy (fr + M) N with q | q | q
  · obtain ⟨e, h1, h2⟩ := h.no (by have := h0.le; omega)
    obtain ⟨f, k1, k2⟩ := h0.yes (fr + M) q
    rw [Nat.zero_add, h1] at k1; injection k1 with k1; subst k1; rw [h2] at k2; cases k2
  · exact q
  · obtain ⟨e, h1, h2⟩ := h0.no (by have := h.le; omega)
    obtain ⟨f, k1, k2⟩ := h.yes (N - fr) (by omega)
    rw [show fr + (N - fr) = 0 + N by omega, h1] at k1; injection k1 with k1; subst k1; rw [h2] at k2; cases k2
theorem stN_mono {l : List Ent} {k m Nk Nm : Nat} (hkm : k ≤ m) (h1 : StN l k 0 Nk) (h2 : StN l m 0 Nm) : Nk ≤ Nm := by
  rcases Nat.lt_or_ge Nm Nk with q | q
  · obtain ⟨e, a1, a2⟩ := h2.no (by have := h1.le; omega)
    obtain ⟨f, b1, b2⟩ := h1.yes Nm q
    rw [a1] at b1; injection b1 with b1; subst b1
    rw [opn_mono hkm b2] at a2; cases a2
  · exact q
/-- What is visible of fewer is a beginning of what is of more. -/
theorem vl_grows {l : List Ent} {k m Nk Nm : Nat} (hf : Fine9 l) (hkm : k ≤ m) (h1 : StN l k 0 Nk) (h2 : StN l m 0 Nm) : vl l m 0 Nm = vl l k 0 Nk ++ vl l m Nk (Nm - Nk) := by
  have hle := stN_mono hkm h1 h2
  have hc : vl l k 0 Nk = vl l m 0 Nk := vl_congr (fun i hi => by
    obtain ⟨e, a1, a2⟩ := h1.yes i hi
    rw [Nat.zero_add] at a1
    rw [List.getD_eq_getElem?_getD, a1]
    exact see_same hf hkm a2)
  have hs := vl_split l m 0 Nk (Nm - Nk)
  rw [show Nk + (Nm - Nk) = Nm by omega, Nat.zero_add] at hs
  rw [hs, hc]
/-- What To tells is what is visible and was not told. -/
theorem vl_told {l : List Ent} {k m Nk Nm M : Nat} (hf : Fine9 l) (hkm : k ≤ m) (h1 : StN l k 0 Nk) (h2 : StN l m 0 Nm) (h3 : StN l m (nextV (vl l k 0 Nk)) M) : vl l m (nextV (vl l k 0 Nk)) M = vl l m Nk (Nm - Nk) := by
  have hle := stN_mono hkm h1 h2
  have hc : vl l k 0 Nk = vl l m 0 Nk := vl_congr (fun i hi => by
    obtain ⟨e, a1, a2⟩ := h1.yes i hi
    rw [Nat.zero_add] at a1
    rw [List.getD_eq_getElem?_getD, a1]
    exact see_same hf hkm a2)
  rw [hc] at h3 ⊢
  obtain ⟨d, a1, a2⟩ := next_vl l m Nk
  have hM := stN_shift h2 (fr := nextV (vl l m 0 Nk)) (by omega) h3
  have hs := vl_split l m (nextV (vl l m 0 Nk)) d (Nm - Nk)
  rw [a2, List.nil_append] at hs
  rw [show M = d + (Nm - Nk) by omega, hs, ← a1]
theorem vl_all {l : List Ent} {k m Nk Nm M : Nat} (hf : Fine9 l) (hkm : k ≤ m) (h1 : StN l k 0 Nk) (h2 : StN l m 0 Nm) (h3 : StN l m (nextV (vl l k 0 Nk)) M) : vl l k 0 Nk ++ vl l m (nextV (vl l k 0 Nk)) M = vl l m 0 Nm := by
  rw [vl_told hf hkm h1 h2 h3, ← vl_grows hf hkm h1 h2]
theorem mem_vl {l : List Ent} {n fr x : Nat} : ∀ {N : Nat}, x ∈ vl l n fr N ↔ fr ≤ x ∧ x < fr + N ∧ see l n (l.getD x .none_) = true
  | 0 => by simp [vl]; omega
  | N + 1 => by
    have ih := mem_vl (l := l) (n := n) (fr := fr) (x := x) (N := N)
    show x ∈ (if see l n (l.getD (fr + N) .none_) = true then vl l n fr N ++ [fr + N] else vl l n fr N) ↔ _
    split
    · next q =>
      rw [List.mem_append, ih, List.mem_singleton]
      constructor
      · rintro (h | rfl)
        · exact ⟨h.1, by omega, h.2.2⟩
        · exact ⟨by omega, by omega, q⟩
      · rintro ⟨h1, h2, h3⟩
        by_cases hx : x = fr + N
        · exact .inr hx
        · exact .inl ⟨h1, by omega, h3⟩
    · next q =>
      rw [ih]
      constructor
      · rintro h; exact ⟨h.1, by omega, h.2.2⟩
      · rintro ⟨h1, h2, h3⟩
        by_cases hx : x = fr + N
        · rw [hx] at h3; exact absurd h3 q
        · exact ⟨h1, by omega, h3⟩
/-- What is told behind others is not among them. -/
theorem vl_lt {l : List Ent} {n N x : Nat} (h : x ∈ vl l n 0 N) : x < N := by
  have := (mem_vl.1 h).2.1; omega
theorem vl_ge {l : List Ent} {n fr N x : Nat} (h : x ∈ vl l n fr N) : fr ≤ x := (mem_vl.1 h).1
/-- A transaction is seen whole or not at all. -/
theorem see_whole {l : List Ent} {n N a b : Nat} {x y : Ent} (ha : a < N) (hb : b < N) (hx : l[a]? = some x) (hy : l[b]? = some y) (hk : x.key = y.key) (hkx : x.kind = 1) (hky : y.kind = 1) : a ∈ vl l n 0 N ↔ b ∈ vl l n 0 N := by
  rw [mem_vl, mem_vl, List.getD_eq_getElem?_getD, List.getD_eq_getElem?_getD, hx, hy]
  have hs : see l n x = see l n y := by unfold see; rw [hk, hkx, hky]
  show (0 ≤ a ∧ a < 0 + N ∧ see l n x = true) ↔ (0 ≤ b ∧ b < 0 + N ∧ see l n y = true)
  rw [hs]
  constructor
  · rintro ⟨-, -, h⟩; exact ⟨by omega, by omega, h⟩
  · rintro ⟨-, -, h⟩; exact ⟨by omega, by omega, h⟩
end Go.Proofs.YthcphoijanebhaaDoor
