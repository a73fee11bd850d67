/-
  The document's done, round by round, as mathematics: it is what the thing does. Nothing is assumed.
-/
import Derived.Test.YthhiiimmgghhaaaFilesOf
import Derived.Test.YthhiiimmgghhaaaSameF
namespace Go.Proofs.Ythhiiimmgghhaaa
open Go.RowKit
/-- One round of done. -/
def stepD (t : RT) (s : FL × Bool) (p : Bs × Bs) : FL × Bool :=
  let s1 := if s.2 = false ∧ t.what = 0 ∧ t.name < p.1 then (s.1 ++ [(t.name, t.bytes)], true) else s
  if p.1 = t.name then (if t.what = 0 then (s1.1 ++ [(p.1, p.2 ++ t.bytes)], true) else if t.what = 1 then (s1.1 ++ [(p.1, p.2.take t.n.toNat)], true) else (s1.1, true))
  else (s1.1 ++ [p], s1.2)
def foldD (t : RT) (l : FL) : FL × Bool := l.foldl (stepD t) ([], false)
theorem foldD_snoc (t : RT) (l : FL) {k : Nat} (h : k < l.length) : foldD t (l.take (k + 1)) = stepD t (foldD t (l.take k)) l[k] := by
  unfold foldD
  rw [take_snoc l h, List.foldl_append]; rfl
def RT.th (t : RT) : Th := if t.what = 0 then .put t.name t.bytes else if t.what = 1 then .cut t.name t.n.toNat else .rem t.name
def doneR (t : RT) (l : FL) : FL := if (foldD t l).2 = false ∧ t.what = 0 then (foldD t l).1 ++ [(t.name, t.bytes)] else (foldD t l).1
theorem put_app {n b : Bs} : ∀ {l r : FL}, (∀ p ∈ l, p.1 < n) → putF n b (l ++ r) = l ++ putF n b r
  | [], r, _ => rfl
  | (m, c) :: l, r, h => by
    have hm : m < n := h (m, c) (by simp)
    show putF n b ((m, c) :: (l ++ r)) = (m, c) :: (l ++ putF n b r)
    rw [← put_app (fun p hp => h p (by simp [hp]))]
    conv => lhs; unfold putF
    rw [if_neg (lt_asymm' hm), if_neg (fun e => by subst e; exact lt_irrefl' _ hm)]
theorem foldl_there {t : RT} (h0 : t.what = 0) : ∀ (r : FL) (o : FL), (∀ p ∈ r, t.name < p.1) → r.foldl (stepD t) (o, true) = (o ++ r, true)
  | [], o, _ => by simp
  | p :: r, o, h => by
    have hp := h p (by simp)
    rw [List.foldl_cons]
    have e : stepD t (o, true) p = (o ++ [p], true) := by
      unfold stepD
      simp only [Bool.true_eq_false, false_and, if_false]
      rw [if_neg (fun e => by rw [e] at hp; exact lt_irrefl' _ hp)]
    rw [e, foldl_there h0 r _ (fun q hq => h q (by simp [hq]))]
    simp
theorem fold_put {t : RT} (h0 : t.what = 0) : ∀ (r o : FL), Rises (o ++ r) → (∀ p ∈ o, p.1 < t.name) → (let s := r.foldl (stepD t) (o, false); if s.2 = false then s.1 ++ [(t.name, t.bytes)] else s.1) = o ++ putF t.name t.bytes r
  | [], o, _, _ => by simp [putF]
  | (m, c) :: r, o, hr, ho => by
    have hr2 : Rises ((m, c) :: r) := (List.pairwise_append.1 hr).2.1
    obtain ⟨hm, hr3⟩ := hr2.cons
    rw [List.foldl_cons]
    unfold putF
    rcases lt_tri t.name m with g | g | g
    · have e : stepD t (o, false) (m, c) = (o ++ [(t.name, t.bytes)] ++ [(m, c)], true) := by
        unfold stepD
        simp only [h0, g, and_self, if_true]
        rw [if_neg (fun e => by rw [e] at g; exact lt_irrefl' _ g)]
      rw [e, foldl_there h0 r _ (fun p hp => lt_trans' g (hm p hp)), if_pos g]
      simp
    · have e : stepD t (o, false) (m, c) = (o ++ [(m, c ++ t.bytes)], true) := by
        unfold stepD
        have : ¬ t.name < m := by rw [g]; exact lt_irrefl' _
        simp only [this, and_false, if_false]
        rw [if_pos g.symm, if_pos h0]
      have hnl : ¬ t.name < m := by rw [g]; exact lt_irrefl' _
      rw [e, foldl_there h0 r _ (fun p hp => by rw [g]; exact hm p hp), if_neg hnl, if_pos g.symm]
      simp
    · have e : stepD t (o, false) (m, c) = (o ++ [(m, c)], false) := by
        unfold stepD
        have : ¬ t.name < m := lt_asymm' g
        simp only [this, and_false, if_false]
        rw [if_neg (fun e => by rw [e] at g; exact lt_irrefl' _ g)]
      rw [e]
      have ih := fold_put h0 r (o ++ [(m, c)]) (by simpa using hr) (fun p hp => by
        rcases List.mem_append.1 hp with hp | hp
        · exact ho p hp
        · simp at hp; subst hp; exact g)
      rw [ih, if_neg (lt_asymm' g), if_neg (fun e => by rw [e] at g; exact lt_irrefl' _ g)]
      simp
theorem fold_other {t : RT} (h0 : t.what ≠ 0) : ∀ (r o : FL) (b : Bool), (r.foldl (stepD t) (o, b)).1 = o ++ (if t.what = 1 then cutF t.name t.n.toNat r else remF t.name r)
  | [], o, b => by simp [cutF, remF]
  | (m, c) :: r, o, b => by
    rw [List.foldl_cons]
    have e1 : (if (o, b).2 = false ∧ t.what = 0 ∧ t.name < (m, c).1 then ((o, b).1 ++ [(t.name, t.bytes)], true) else (o, b)) = (o, b) := if_neg (fun h => h0 h.2.1)
    by_cases e : m = t.name
    · by_cases h1 : t.what = 1
      · have es : stepD t (o, b) (m, c) = (o ++ [(m, c.take t.n.toNat)], true) := by unfold stepD; simp only [e1]; rw [if_pos e, if_neg h0, if_pos h1]
        rw [es, fold_other h0 r, if_pos h1, if_pos h1]
        simp [cutF, e]
      · have es : stepD t (o, b) (m, c) = (o, true) := by unfold stepD; simp only [e1]; rw [if_pos e, if_neg h0, if_neg h1]
        rw [es, fold_other h0 r, if_neg h1, if_neg h1]
        simp [remF, e]
    · have es : stepD t (o, b) (m, c) = (o ++ [(m, c)], b) := by unfold stepD; simp only [e1]; rw [if_neg e]
      rw [es, fold_other h0 r]
      by_cases h1 : t.what = 1
      · rw [if_pos h1, if_pos h1]; simp [cutF, e]
      · rw [if_neg h1, if_neg h1]; simp [remF, e]
theorem doneR_on {t : RT} {l : FL} (hr : Rises l) : doneR t l = t.th.on l := by
  unfold doneR RT.th foldD
  by_cases h0 : t.what = 0
  · have := fold_put h0 l [] (by simpa using hr) (by simp)
    simp only [List.nil_append] at this
    rw [if_pos h0]
    simp only [h0, and_true]
    exact this
  · rw [if_neg (fun h => h0 h.2), fold_other h0, if_neg h0]
    by_cases h1 : t.what = 1
    · rw [if_pos h1, if_pos h1]; rfl
    · rw [if_neg h1, if_neg h1]; rfl
end Go.Proofs.Ythhiiimmgghhaaa
