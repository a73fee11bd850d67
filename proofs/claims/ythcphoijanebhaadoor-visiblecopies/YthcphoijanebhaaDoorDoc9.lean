/-
  What may be pushed behind a log, by the document as by the program; a good log stays one. Nothing is assumed of the machine.
-/
import Derived.Test.YthcphoijanebhaaDoorGrow9
namespace Go.Proofs.YthcphoijanebhaaDoor
open Go.RowKit Go.Maps
set_option linter.unusedVariables false
theorem first_ge {r : Nat → Int} : ∀ {L : List Nat}, (∀ f ∈ L, r f = 0 ∨ 181 ≤ r f) → first r L = 0 ∨ 181 ≤ first r L
  | [], _ => .inl rfl
  | f :: L, h => by
    show (if r f = 0 then first r L else r f) = 0 ∨ 181 ≤ (if r f = 0 then first r L else r f)
    split
    · exact first_ge fun g hg => h g (List.mem_cons_of_mem _ hg)
    · next q => exact .inr ((h f List.mem_cons_self).resolve_left q)
theorem byW_ge (l : List Ent) (e : Ent) : first (why l e) (byW e) = 0 ∨ 181 ≤ first (why l e) (byW e) := by
  refine first_ge fun f hf => ?_
  have hf' : f = 83 ∨ f = 84 ∨ f = 85 ∨ f = 86 ∨ f = 87 ∨ f = 88 := by
    unfold byW at hf
    split at hf
    · cases hf
    · split at hf
      · simp at hf; omega
      · simp at hf; omega
  rcases hf' with rfl | rfl | rfl | rfl | rfl | rfl
  · show elderD _ _ = 0 ∨ 181 ≤ elderD _ _
    unfold elderD; split <;> omega
  · show besideO _ _ = 0 ∨ 181 ≤ besideO _ _
    unfold besideO; split <;> omega
  · show doubleD _ _ _ = 0 ∨ 181 ≤ doubleD _ _ _
    unfold doubleD; split <;> omega
  · show notNext _ _ _ = 0 ∨ 181 ≤ notNext _ _ _
    unfold notNext; split <;> omega
  · show doubleM _ _ = 0 ∨ 181 ≤ doubleM _ _
    unfold doubleM; split <;> omega
  · show elderM _ _ = 0 ∨ 181 ≤ elderM _ _
    unfold elderM; split <;> omega
theorem append_is (l : List Ent) (e : Ent) : appendE l e = 0 ∨ appendE l e = 2 ∨ appendE l e = 3 ∨ appendE l e = 180 := by
  unfold appendE fallsE
  split
  · split
    · omega
    · split <;> omega
  · omega
/-- What the document's Push answers. -/
def rpushE (l : List Ent) (e : Ent) : Int := if appendE l e = 0 then (if behE l e = true then 190 else 0) else appendE l e
theorem push_doc {l : List Ent} {e : Ent} (hl : AllR l) : pushE l e = rpushE l e := by
  unfold rpushE
  by_cases ha : appendE l e = 0
  · rw [if_pos ha]
    have hr := right_of_append ha
    unfold pushE
    rw [endd_beh hl hr]
    split
    · unfold whyE
      have hc : checkE l e = first (why l e) (byW e) := by rw [checkE_eq, if_pos ha]
      have := byW_ge l e
      rw [hc, if_neg (by omega)]
    · exact ha
  · rw [if_neg ha]
    unfold pushE
    split
    · have hc : checkE l e = appendE l e := by rw [checkE_eq, if_neg ha]
      have := append_is l e
      unfold whyE
      rw [hc, if_pos (by omega)]
    · rfl
theorem push1_is (l : List Ent) (e : Ent) : push1 l e = if pushE l e = 0 then l ++ [e] else l := by
  unfold push1 pushE
  by_cases h : endd l e = true
  · rw [if_pos h, if_pos h, if_neg (whyE_ne l e)]
  · rw [if_neg h, if_neg h]
    rfl
theorem GoodL.nil : GoodL [] := fun j e h => by simp at h
theorem GoodL.push {l : List Ent} {e : Ent} (h : GoodL l) : GoodL (push1 l e) := by
  rw [push1_is]
  split
  · next hz =>
    intro j x hx
    rcases Nat.lt_trichotomy j l.length with q | q | q
    · rw [List.getElem?_append_left q] at hx
      rw [List.take_append_of_le_length (by omega)]
      exact h j x hx
    · subst q
      rw [List.getElem?_append_right (by omega), Nat.sub_self] at hx
      injection hx with hx
      subst hx
      rw [List.take_left]
      exact hz
    · rw [List.getElem?_eq_none (by simp; omega)] at hx
      cases hx
  · exact h
theorem GoodL.allE {l : List Ent} (h : GoodL l) : allE [] l = 0 := ((good_same l).1 h).1
theorem GoodL.allR {l : List Ent} (h : GoodL l) : AllR l := allR_of h.allE
theorem push1_len (l : List Ent) (e : Ent) : l.length ≤ (push1 l e).length ∧ (push1 l e).length ≤ l.length + 1 := by
  rw [push1_is]
  split
  · simp
  · omega
theorem anyK_push {q : Ent → Bool} {l : List Ent} {e : Ent} {k : Nat} {p : Int × Int} (hk : k ≤ l.length) : anyK q (push1 l e) k p = anyK q l k p := by
  unfold anyK
  rw [push1_is]
  split
  · rw [List.take_append_of_le_length hk]
  · rfl
theorem push1_at {l : List Ent} {e x : Ent} {i : Nat} (hi : l[i]? = some x) : (push1 l e)[i]? = some x := by
  rw [push1_is]
  split
  · rw [List.getElem?_append_left (List.getElem?_eq_some_iff.1 hi).1]; exact hi
  · exact hi
/-- What is stable and visible of the first is so whatever is behind. -/
theorem stN_push {l : List Ent} {e : Ent} {k N : Nat} (hk : k ≤ l.length) (h : StN l k 0 N) : StN (push1 l e) k 0 N := by
  have ho : ∀ x, opn (push1 l e) k x = opn l k x := fun x => by unfold opn; rw [anyK_push hk]
  refine ⟨h.le, fun i hi => ?_, fun hi => ?_⟩
  · obtain ⟨x, h1, h2⟩ := h.yes i hi
    exact ⟨x, push1_at h1, by rw [ho]; exact h2⟩
  · obtain ⟨x, h1, h2⟩ := h.no hi
    exact ⟨x, push1_at h1, by rw [ho]; exact h2⟩
theorem vl_push {l : List Ent} {e : Ent} {k : Nat} (hk : k ≤ l.length) : ∀ {N : Nat}, N ≤ k → vl (push1 l e) k 0 N = vl l k 0 N
  | 0, _ => rfl
  | N + 1, hN => by
    have ih := vl_push (e := e) hk (N := N) (by omega)
    obtain ⟨x, hx⟩ : ∃ x, l[0 + N]? = some x := ⟨_, List.getElem?_eq_getElem (by omega)⟩
    have h1 : l.getD (0 + N) .none_ = x := by rw [List.getD_eq_getElem?_getD, hx]; rfl
    have h2 : (push1 l e).getD (0 + N) .none_ = x := by rw [List.getD_eq_getElem?_getD, push1_at hx]; rfl
    have hs : see (push1 l e) k x = see l k x := by unfold see; rw [anyK_push hk]
    show (if see (push1 l e) k ((push1 l e).getD (0 + N) .none_) = true then vl (push1 l e) k 0 N ++ [0 + N] else vl (push1 l e) k 0 N) = (if see l k (l.getD (0 + N) .none_) = true then vl l k 0 N ++ [0 + N] else vl l k 0 N)
    rw [h1, h2, hs, ih]
/-- What was told is the View of how far it looked. -/
def ToldIs (l : List Ent) (k : Nat) (V : List Nat) : Prop := k ≤ l.length ∧ ∃ N, StN l k 0 N ∧ V = vl l k 0 N
theorem ToldIs.nil_ : ToldIs [] 0 [] := ⟨Nat.le_refl _, 0, ⟨Nat.le_refl _, fun i hi => by omega, fun h => by omega⟩, rfl⟩
theorem ToldIs.push {l : List Ent} {e : Ent} {k : Nat} {V : List Nat} (h : ToldIs l k V) : ToldIs (push1 l e) k V := by
  obtain ⟨h1, N, h2, rfl⟩ := h
  exact ⟨by have := (push1_len l e).1; omega, N, stN_push h1 h2, (vl_push h1 (by have := h2.le; omega)).symm⟩
theorem ToldIs.lt {l : List Ent} {k : Nat} {V : List Nat} (h : ToldIs l k V) : ∀ x ∈ V, x < k := by
  obtain ⟨h1, N, h2, rfl⟩ := h
  intro x hx
  have := vl_lt hx
  have := h2.le
  omega
theorem ToldIs.len {l : List Ent} {k : Nat} {V : List Nat} (h : ToldIs l k V) : V.length ≤ l.length := by
  obtain ⟨h1, N, h2, rfl⟩ := h
  have := vl_len l k 0 N
  have := h2.le
  omega
theorem ToldIs.to {l : List Ent} {k m M : Nat} {V : List Nat} (h : ToldIs l k V) (hf : Fine9 l) (hkm : k ≤ m) (hm : m ≤ l.length) (hM : StN l m (nextV V) M) : ToldIs l m (V ++ vl l m (nextV V) M) := by
  obtain ⟨h1, N, h2, rfl⟩ := h
  obtain ⟨Nm, h3⟩ := stN_ex l m hm m 0 (by omega)
  exact ⟨hm, Nm, h3, vl_all hf hkm h2 h3 hM⟩
/-- What is visible and was not told is what is told. -/
theorem ToldIs.fresh {l : List Ent} {k m M Nm : Nat} {V : List Nat} (h : ToldIs l k V) (hf : Fine9 l) (hkm : k ≤ m) (h3 : StN l m 0 Nm) (hM : StN l m (nextV V) M) : (vl l m 0 Nm).filter (fun x => !V.contains x) = vl l m (nextV V) M := by
  obtain ⟨h1, N, h2, rfl⟩ := h
  rw [← vl_all hf hkm h2 h3 hM, List.filter_append]
  have e1 : (vl l k 0 N).filter (fun x => !(vl l k 0 N).contains x) = [] := by
    rw [List.filter_eq_nil_iff]
    intro x hx
    simp [hx]
  have e2 : (vl l m (nextV (vl l k 0 N)) M).filter (fun x => !(vl l k 0 N).contains x) = vl l m (nextV (vl l k 0 N)) M := by
    rw [List.filter_eq_self]
    intro x hx
    rw [vl_told hf hkm h2 h3 hM] at hx
    have := vl_ge hx
    simp only [Bool.not_eq_eq_eq_not, Bool.not_true, List.contains_eq_mem, decide_eq_false_iff_not]
    intro hx2
    have := vl_lt hx2
    omega
  rw [e1, e2, List.nil_append]
end Go.Proofs.YthcphoijanebhaaDoor
