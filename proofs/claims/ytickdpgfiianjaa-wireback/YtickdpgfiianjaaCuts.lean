/-
  What is read of frames, with whatever stands behind, and of frames that are cut off. Condition: the entries may be.
-/
import Derived.Test.YtickdpgfiianjaaAll
namespace Go.Proofs.Ytickdpgfiianjaa
theorem framed_get4 (b : List UInt8) : (framed b)[4]? = some (UInt8.ofNat b.length) := by
  unfold framed
  rw [List.append_assoc, List.getElem?_append_right (Nat.le_of_eq (length_les _ _))]
  simp [length_les]
theorem rd_part (e : Ent) (h : Right e) (k : Nat) (hk : k < (frame e).length) : rd ((frame e).take k) = .err 120 := by
  have hl := length_body e h
  have hfl : (frame e).length = 5 + (body e).length := length_framed _
  have hlen : ((frame e).take k).length = k := by rw [List.length_take]; omega
  by_cases h5 : k < 5
  · exact rd_short (by omega)
  · have hu : ((frame e).take k)[4]? = some (UInt8.ofNat (body e).length) := by
      rw [List.getElem?_take_of_lt (by omega)]
      exact framed_get4 (body e)
    have hn : (UInt8.ofNat (body e).length).toNat = (body e).length := toNat_ofNat_lt (by omega)
    exact rd_cut (by omega) hu (by rw [hn]; omega) (by rw [hn]; omega)
theorem scan_cut : ∀ (es : List Ent), AllRight es → ∀ f k j : Nat, ((frames es).take j).length ≤ f → (scanF f k ((frames es).take j)).2 = 0 ∨ (scanF f k ((frames es).take j)).2 = 120
  | [], _, f, k, j, _ => by left; show (scanF f k (([] : List UInt8).take j)).2 = 0; rw [List.take_nil, scanF_end]
  | e :: es, h, f, k, j, hf => by
    have he := h e (by simp)
    have hl := length_frame he
    have hes : AllRight es := fun x hx => h x (by simp [hx])
    have e9 : frames (e :: es) = frame e ++ frames es := rfl
    rw [e9] at hf ⊢
    have hf' := hf
    clear hf
    rcases Nat.eq_zero_or_pos j with h0 | h0
    · subst h0; left; rw [List.take_zero, scanF_end]
    · have hne : (frame e ++ frames es).take j ≠ [] := by
        intro hh
        have := congrArg List.length hh
        rw [List.length_take, List.length_append] at this
        simp only [List.length_nil] at this
        omega
      rcases f with _ | f
      · exact absurd (List.eq_nil_of_length_eq_zero (Nat.le_zero.1 hf')) hne
      · rcases Nat.lt_or_ge j (frame e).length with hj | hj
        · have e1 : (frame e ++ frames es).take j = (frame e).take j := List.take_append_of_le_length (by omega)
          rw [e1] at hne ⊢
          rw [scanF_err hne (rd_part e he j hj)]
          right; rfl
        · have e1 : (frame e ++ frames es).take j = frame e ++ (frames es).take (j - (frame e).length) := by rw [List.take_append, List.take_of_length_le hj]
          rw [e1] at hne hf' ⊢
          rw [scanF_ok hne (rd_frame e he _), drop_len]
          rw [List.length_append] at hf'
          exact scan_cut es hes f (k + (frame e).length) (j - (frame e).length) (by omega)
def marks : Nat → List Ent → List (Ent × Nat)
  | _, [] => []
  | k, e :: es => (e, k + (frame e).length) :: marks (k + (frame e).length) es
theorem marks_fst : ∀ (k : Nat) (es : List Ent), (marks k es).map (·.1) = es
  | _, [] => rfl
  | k, e :: es => by show e :: (marks _ es).map (·.1) = _; rw [marks_fst]
theorem scan_frames : ∀ (es : List Ent), AllRight es → ∀ (f k : Nat) (r : List UInt8), (frames es ++ r).length ≤ f → ∃ f', r.length ≤ f' ∧ scanF f k (frames es ++ r) = (marks k es ++ (scanF f' (k + (frames es).length) r).1, (scanF f' (k + (frames es).length) r).2)
  | [], _, f, k, r, hf => ⟨f, by simpa [frames] using hf, by simp [frames, marks]⟩
  | e :: es, h, f, k, r, hf => by
    have he := h e (by simp)
    have hl := length_frame he
    have hes : AllRight es := fun x hx => h x (by simp [hx])
    have e0 : frames (e :: es) ++ r = frame e ++ (frames es ++ r) := by show (frame e ++ frames es) ++ r = _; rw [List.append_assoc]
    have eL : (frames (e :: es)).length = (frame e).length + (frames es).length := by show (frame e ++ frames es).length = _; rw [List.length_append]
    rw [e0] at hf ⊢
    rw [List.length_append] at hf
    rcases f with _ | f
    · omega
    · have hne : frame e ++ (frames es ++ r) ≠ [] := by
        intro hh
        have := congrArg List.length hh
        rw [List.length_append] at this
        simp only [List.length_nil] at this
        omega
      obtain ⟨f', h1, h2⟩ := scan_frames es hes f (k + (frame e).length) r (by omega)
      refine ⟨f', h1, ?_⟩
      rw [scanF_ok hne (rd_frame e he _), drop_len, h2, eL]
      simp only [marks, List.cons_append, Nat.add_assoc]
theorem goodOf_marks : ∀ (k : Nat) (es : List Ent), es ≠ [] → goodOf (marks k es) = k + (frames es).length
  | k, [], h => absurd rfl h
  | k, [e], _ => by show k + (frame e).length = k + (frame e ++ []).length; rw [List.append_nil]
  | k, e :: x :: es, _ => by
    have := goodOf_marks (k + (frame e).length) (x :: es) (by simp)
    have e1 : goodOf (marks k (e :: x :: es)) = goodOf (marks (k + (frame e).length) (x :: es)) := by
      unfold goodOf
      simp [marks]
    rw [e1, this]
    show _ = k + (frame e ++ frames (x :: es)).length
    rw [List.length_append]; omega
theorem scan_ends : ∀ (f k : Nat) (b : List UInt8), ∀ x ∈ (scanF f k b).1, k ≤ x.2
  | 0, k, b, x, hx => by simp [scanF] at hx
  | f + 1, k, b, x, hx => by
    by_cases h0 : b = []
    · subst h0; rw [scanF_end] at hx; simp at hx
    · rcases hr : rd b with ⟨c⟩ | ⟨e, n⟩
      · rw [scanF_err h0 hr] at hx; simp at hx
      · rw [scanF_ok h0 hr] at hx
        rcases List.mem_cons.1 hx with rfl | hx
        · show k ≤ k + n; omega
        · have := scan_ends f (k + n) (b.drop n) x hx
          omega
/-- All of frames. -/
theorem scan_all (es : List Ent) (h : AllRight es) : scan (frames es) = (marks 0 es, 0) ∧ goodOf (marks 0 es) = (frames es).length := by
  constructor
  · obtain ⟨f', _, h2⟩ := scan_frames es h (frames es).length 0 [] (by simp)
    rw [List.append_nil] at h2
    unfold scan
    rw [h2, scanF_end]
    simp
  · rcases es with _ | ⟨e, es⟩
    · rfl
    · rw [goodOf_marks 0 _ (by simp)]; omega
/-- All of frames and of whatever stands behind. -/
theorem scan_more (es : List Ent) (h : AllRight es) (r : List UInt8) : es.length ≤ (scan (frames es ++ r)).1.length ∧ ((scan (frames es ++ r)).1.map (·.1)).take es.length = es ∧ (frames es).length ≤ goodOf (scan (frames es ++ r)).1 := by
  obtain ⟨f', _, h2⟩ := scan_frames es h (frames es ++ r).length 0 r (Nat.le_refl _)
  have hm := marks_fst 0 es
  have hml : (marks 0 es).length = es.length := by have := congrArg List.length hm; rw [List.length_map] at this; exact this
  unfold scan
  rw [h2]
  refine ⟨by simp [hml], ?_, ?_⟩
  · rw [List.map_append, hm]; simp
  · rcases hs : (scanF f' (0 + (frames es).length) r).1.getLast? with _ | x
    · have h0 : (scanF f' (0 + (frames es).length) r).1 = [] := by simpa using hs
      rw [h0, List.append_nil]
      exact Nat.le_of_eq (scan_all es h).2.symm
    · have hx := scan_ends f' (0 + (frames es).length) r x (List.mem_of_getLast? hs)
      have : goodOf (marks 0 es ++ (scanF f' (0 + (frames es).length) r).1) = x.2 := by
        unfold goodOf
        rw [List.getLast?_append, hs]
        rfl
      simp only
      rw [this]
      omega
end Go.Proofs.Ytickdpgfiianjaa
