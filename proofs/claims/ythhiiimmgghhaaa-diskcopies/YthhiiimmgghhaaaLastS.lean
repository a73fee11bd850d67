/-
  What a disk keeps: names of files and things; what a crash that keeps nothing, all, or something leaves. Nothing is assumed.
-/
import Derived.Test.YthhiiimmgghhaaaRow2
import Derived.Test.YthhiiimmgghhaaaCrash
namespace Go.Proofs.Ythhiiimmgghhaaa
open Go.RowKit
/-- All names are names. -/
def Nmd (s : St) : Prop := (∀ p ∈ s.lasts, isNm p.1 = true) ∧ ∀ t ∈ s.waits, isNm t.name = true
theorem mem_on {t : Th} {l : FL} {p : Bs × Bs} (h : p ∈ t.on l) : p.1 = t.name ∨ ∃ q ∈ l, q.1 = p.1 := by
  cases t with
  | put n b =>
    rcases mem_put l n b p h with h | h
    · exact .inl h
    · exact .inr ⟨p, h, rfl⟩
  | cut n k =>
    obtain ⟨q, hq, e⟩ := List.mem_map.1 h
    refine .inr ⟨q, hq, ?_⟩
    rw [← e]
    split <;> rfl
  | rem n => exact .inr ⟨p, (List.mem_filter.1 h).1, rfl⟩
theorem nmd_after : ∀ {ts : List Th} {l : FL}, (∀ p ∈ l, isNm p.1 = true) → (∀ t ∈ ts, isNm t.name = true) → ∀ p ∈ after l ts, isNm p.1 = true
  | [], _, h, _ => h
  | t :: ts, l, h, ht => nmd_after (ts := ts) (l := t.on l) (fun p hp => by
      rcases mem_on hp with e | ⟨q, hq, e⟩
      · rw [e]; exact ht t (by simp)
      · rw [← e]; exact h q hq) (fun u hu => ht u (by simp [hu]))
theorem Nmd.files {s : St} (h : Nmd s) : ∀ p ∈ s.files, isNm p.1 = true := nmd_after h.1 h.2
theorem Nmd.flush {s : St} (h : Nmd s) : Nmd s.flush := ⟨h.files, fun t ht => by cases ht⟩
theorem Nmd.done {s : St} (h : Nmd s) {t : Th} (ht : isNm t.name = true) : Nmd (s.done t) := ⟨h.1, fun u hu => by
  rcases List.mem_append.1 (show u ∈ s.waits ++ [t] from hu) with hu | hu
  · exact h.2 u hu
  · simp at hu; subst hu; exact ht⟩
theorem left_nmd {s : St} (h : Nmd s) (kp tn : Int) : ∀ p ∈ left s kp tn, isNm p.1 = true := by
  have h1 : ∀ p ∈ after s.lasts (s.waits.take (pick kp s.waits.length)), isNm p.1 = true := nmd_after h.1 (fun t ht => h.2 t (List.mem_of_mem_take ht))
  unfold left
  simp only
  split
  · exact h1
  · rename_i t ht
    unfold torn
    split
    · intro p hp
      rcases mem_put _ _ _ p hp with e | e
      · rw [e]; exact h.2 t (List.mem_of_getElem? ht)
      · exact h1 p e
    · exact h1
theorem Nmd.crash {s : St} (h : Nmd s) (kp tn : Int) : Nmd (s.crash kp tn) := ⟨left_nmd h kp tn, fun t ht => by cases ht⟩
theorem crash_files (s : St) (kp tn : Int) : (s.crash kp tn).files = left s kp tn := rfl
theorem pick_zero (n : Nat) : pick 0 n = 0 := by unfold pick; simp
theorem left_zero (s : St) : left s 0 0 = s.lasts := by
  unfold left
  simp only [pick_zero, List.take_zero]
  split
  · rfl
  · unfold torn
    rw [if_neg (by rw [pick_zero]; omega)]
    rfl
theorem pick_self (n : Nat) : pick (n : Int) n = n := by
  unfold pick
  rw [Int.emod_eq_of_lt (by omega) (by omega)]
  rfl
theorem left_all (s : St) : left s (s.waits.length : Int) 0 = s.files := left_none (pick_self _)
theorem left_find {s : St} {k : Bs} (h : ∀ t ∈ s.waits, t.name ≠ k) (kp tn : Int) : find (left s kp tn) k = find s.lasts k := by
  have h1 : find (after s.lasts (s.waits.take (pick kp s.waits.length))) k = find s.lasts k := find_after_other _ _ (fun t ht e => h t (List.mem_of_mem_take ht) e.symm)
  unfold left
  simp only
  split
  · exact h1
  · rename_i t ht
    unfold torn
    split
    · rw [find_put_other _ _ _ _ (fun e => h t (List.mem_of_getElem? ht) e.symm)]; exact h1
    · exact h1
theorem nmd_new (r : Nat) : Nmd ⟨r, [], []⟩ := ⟨fun p hp => (by cases hp), fun t ht => (by cases ht)⟩
/-- How a disk stands behind a thing that was done or refused. -/
structure Next (s s' : St) (nm : Bs) : Prop where
  lasts : s'.lasts = s.lasts
  room : s'.room = s.room
  size : s'.size ≤ s.size + 1
  nmd : Nmd s → Nmd s'
  names : ∀ t ∈ s'.waits, t ∈ s.waits ∨ t.name = nm
theorem next_of {s : St} {c : Int} {t : Th} (hn : c = 0 → isNm t.name = true) : Next s (if c = 0 then s.done t else s) t.name := by
  by_cases h : c = 0
  · rw [if_pos h]
    exact ⟨rfl, rfl, by rw [St.size_done]; omega, fun h' => h'.done (hn h), fun u hu => by
      rcases List.mem_append.1 (show u ∈ s.waits ++ [t] from hu) with hu | hu
      · exact .inl hu
      · simp at hu; subst hu; exact .inr rfl⟩
  · rw [if_neg h]
    exact ⟨rfl, rfl, by omega, id, fun u hu => .inl hu⟩
theorem putC_nm {s : St} {n b : Bs} (h : putC s n b = 0) : isNm n = true := by
  unfold putC at h
  split at h
  · assumption
  · omega
theorem cutC_nm {s : St} {n : Bs} {k : Int} (h : cutC s n k = 0) : isNm n = true := by
  unfold cutC at h
  split at h
  · rename_i h0
    exact (missC_zero h0).1
  · rename_i h0; exact absurd h h0
/-- What Put, Cut, Remove leave. -/
def Went (w : World) (S : Nat → Prop) (g : Nat) (s : St) (nm : Bs) (w' : World) : Prop := ∃ S' s', Moved w S w' S' ∧ Dk w' S' S' g s' ∧ Next s s' nm
theorem went_of {w w' : World} {S : Nat → Prop} {g : Nat} {s : St} {c : Int} {t : Th} {e : Ending} (hn : c = 0 → isNm t.name = true) (h : Acted w S S g s c t e w') : e = .returned (.int .i64 c) ∧ Went w S g s t.name w' := by
  obtain ⟨e1, hw⟩ := h
  obtain ⟨S', hm, hd⟩ := hw.moved
  exact ⟨e1, S', _, hm, hd, next_of hn⟩
end Go.Proofs.Ythhiiimmgghhaaa
