/-
  Rows of messages: one that holds all of another one's, and no more, is that one. Nothing is assumed.
-/
import Derived.Test.YticabfmjdjcfnaaEqB
namespace Go.Proofs.Yticabfmjdjcfnaa
open Go.RowKit
theorem find_tail {p : Int × Msg} {l : Row} (hr : Rises (p :: l)) {k : Int} {m : Msg} (h : find l k = some m) : p.1 < k ∧ find (p :: l) k = some m := by
  have h1 := (List.pairwise_cons.1 hr).1 _ (find_mem h)
  refine ⟨h1, ?_⟩
  rw [find_cons, if_neg (by have : p.1 < k := h1; omega)]
  exact h
theorem find_ge {p : Int × Msg} {l : Row} (hr : Rises (p :: l)) {k : Int} {m : Msg} (h : find (p :: l) k = some m) : p.1 ≤ k := by
  rw [find_cons] at h
  split at h
  · omega
  · have := (find_tail hr h).1; omega
theorem find_off {p : Int × Msg} {l : Row} {k : Int} {m : Msg} (h : find (p :: l) k = some m) (hn : p.1 < k) : find l k = some m := by
  rw [find_cons, if_neg (by omega)] at h
  exact h
theorem held_le : ∀ {l' l : Row}, Rises l → Rises l' → (∀ k m, find l k = some m → find l' k = some m) → l.length ≤ l'.length
  | _, [], _, _, _ => Nat.zero_le _
  | [], p :: l, hr, _, h => by
    have := h p.1 p.2 (by rw [find_cons, if_pos rfl])
    cases this
  | q :: l', p :: l, hr, hr', h => by
    have hp := h p.1 p.2 (by rw [find_cons, if_pos rfl])
    have hqp := find_ge hr' hp
    by_cases e : q.1 < p.1
    · have := held_le hr (List.pairwise_cons.1 hr').2 (fun k m hk => find_off (h k m hk) (by have := find_ge hr hk; omega))
      simp only [List.length_cons] at this ⊢
      omega
    · have := held_le (List.pairwise_cons.1 hr).2 (List.pairwise_cons.1 hr').2 (fun k m hk => find_off (h k m (find_tail hr hk).2) (by have := (find_tail hr hk).1; omega))
      simp only [List.length_cons]
      omega
theorem held_eq : ∀ {l l' : Row}, Rises l → Rises l' → l.length = l'.length → (∀ k m, find l k = some m → find l' k = some m) → l = l'
  | [], [], _, _, _, _ => rfl
  | [], q :: l', _, _, h, _ => by simp at h
  | p :: l, [], _, _, h, _ => by simp at h
  | p :: l, q :: l', hr, hr', hl, h => by
    have hp := h p.1 p.2 (by rw [find_cons, if_pos rfl])
    have hqp := find_ge hr' hp
    have e : ¬ q.1 < p.1 := fun e => by
      have := held_le hr (List.pairwise_cons.1 hr').2 (fun k m hk => find_off (h k m hk) (by have := find_ge hr hk; omega))
      simp only [List.length_cons] at this hl
      omega
    have e1 : q.1 = p.1 := by omega
    have e2 : p.2 = q.2 := by
      rw [find_cons, if_pos e1] at hp
      injection hp with hp
      exact hp.symm
    have := held_eq (List.pairwise_cons.1 hr).2 (List.pairwise_cons.1 hr').2 (by simpa using hl) (fun k m hk => find_off (h k m (find_tail hr hk).2) (by have := (find_tail hr hk).1; omega))
    rw [this, show p = q from Prod.ext e1.symm e2]
end Go.Proofs.Yticabfmjdjcfnaa
