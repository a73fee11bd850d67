/-
  What is asked of files: whether one is missing, its size, its bytes. Condition: a name of at most 1000000000 bytes.
-/
import Derived.Test.YthhiiimmgghhaaaDisk
namespace Go.Proofs.Ythhiiimmgghhaaa
open Go.RowKit
/-- Why there is no file of that name, or 0. -/
def missC (l : FL) (n : Bs) : Int := if isNm n = true then (if (find l n).isSome = true then 0 else 5) else 130
theorem missC_zero {l : FL} {n : Bs} (h : missC l n = 0) : isNm n = true ∧ ∃ b, find l n = some b := by
  unfold missC at h
  split at h
  · rename_i h1
    split at h
    · rename_i h2; exact ⟨h1, Option.isSome_iff_exists.1 h2⟩
    · omega
  · omega
set_option maxHeartbeats 1000000 in
theorem missing_any {w : World} {S : Nat → Prop} {m : Nat} {l : FL} (h : FM w S m l) (g o : Nat) (hc : w.cell? ⟨g, o, none⟩ = some (.map (some m))) (n : Bs) (hn : n.length ≤ 1000000000) :
    Calls Try.prog 64 #[.pointer (some ⟨g, o, none⟩), .string (str n)] w fun e w' => e = .returned (.int .i64 (missC l n)) ∧ w = w' := by
  obtain ⟨v, hl⟩ := h.look_ok (n := n) (by unfold maxLen; omega)
  clear h
  by_cases h1 : isNm n = true
  · by_cases h2 : (find l n).isSome = true
    · have HM : Hid (missC l n = 0) := Lib.hid (by unfold missC; rw [if_pos h1, if_pos h2])
      rw [h2] at hl
      go_enter Try.func64, Try.ntmps64
      go_wp2_with (go_at_call 48; refine (isName_any _ _ hn).mono ?_; rintro e w' ⟨rfl, rfl⟩)
      go_ret
      exact ⟨ret_i64 HM.out.symm, rfl⟩
    · have HM : Hid (missC l n = 5) := Lib.hid (by unfold missC; rw [if_pos h1, if_neg h2])
      rw [Bool.not_eq_true] at h2
      rw [h2] at hl
      go_enter Try.func64, Try.ntmps64
      go_wp2_with (go_at_call 48; refine (isName_any _ _ hn).mono ?_; rintro e w' ⟨rfl, rfl⟩)
      go_ret
      exact ⟨ret_i64 HM.out.symm, rfl⟩
  · have HM : Hid (missC l n = 130) := Lib.hid (by unfold missC; rw [if_neg h1])
    rw [Bool.not_eq_true] at h1
    clear hl
    go_enter Try.func64, Try.ntmps64
    go_wp2_with (go_at_call 48; refine (isName_any _ _ hn).mono ?_; rintro e w' ⟨rfl, rfl⟩)
    go_ret
    exact ⟨ret_i64 HM.out.symm, rfl⟩
set_option maxHeartbeats 1000000 in
theorem size_any {w : World} {S : Nat → Prop} {m : Nat} {l : FL} (h : FM w S m l) (g o : Nat) (hc : w.cell? ⟨g, o, none⟩ = some (.map (some m))) (n : Bs) (hn : n.length ≤ 1000000000) :
    Calls Try.prog 52 #[.pointer (some ⟨g, o, none⟩), .string (str n)] w fun e w' => e = .returned (.int .i64 (sizeF l n : Int)) ∧ w = w' := by
  obtain ⟨v, hl, ho, _⟩ := h.look (n := n) (by unfold maxLen; omega)
  obtain ⟨A, q, c, rfl, hq, _⟩ := ho.form
  have HQ : Hid (q = sizeF l n) := Lib.hid hq
  clear h ho hq
  go_enter Try.func52, Try.ntmps52
  go_wp2
  go_ret
  exact ⟨ret_i64 (by rw [HQ.out]), rfl⟩
/-- What Read and Lasts tell of files l: the bytes, in new memory, and 0, or nothing and why. -/
def Told (w : World) (l : FL) (n : Bs) (e : Ending) (w' : World) : Prop :=
  ∃ v, e = .returned (.tuple #[v, .int .i64 (missC l n)]) ∧ Own w' v (if missC l n = 0 then (find l n).getD [] else []) ∧ (∀ g, v.ownBlock = some g → w.heap.size ≤ g) ∧ Below w.heap.size w w'
set_option maxHeartbeats 1000000 in
theorem read_any {w : World} {S : Nat → Prop} {m : Nat} {l : FL} (h : FM w S m l) (g o : Nat) (hc : w.cell? ⟨g, o, none⟩ = some (.map (some m))) (n : Bs) (hn : n.length ≤ 1000000000) (hb : total l ≤ 1000000000) :
    Calls Try.prog 42 #[.pointer (some ⟨g, o, none⟩), .string (str n)] w (Told w l n) := by
  obtain ⟨v, hl, ho, _⟩ := h.look (n := n) (by unfold maxLen; omega)
  obtain ⟨A, q, c, rfl, hq, _⟩ := ho.form
  have HB : Hid (q ≤ 1000000000) := Lib.hid (by
    rw [hq]
    cases hf : find l n with
    | none => simp
    | some b => have := find_le_total l n b hf; simp; omega)
  have HM := missing_any h g o hc n hn
  by_cases h0 : missC l n = 0
  · have H0 := Lib.hid h0
    rw [h0] at HM
    clear h0 hq
    go_enter Try.func42, Try.ntmps42
    go_wp2_with (first
      | (go_at_call 64; refine HM.mono ?_; rintro e w' ⟨rfl, rfl⟩)
      | (go_at_call 65; refine (clone_any A q c _ No _ (ho.bys (fun _ _ h => h.elim)) HB.out).mono ?_; rintro e w' ⟨v, rfl, ho', hg', hb'⟩))
    go_ret2
    refine ⟨v, by rw [H0.out]; rfl, ?_, hg', hb'⟩
    rw [if_pos H0.out]
    exact ho'
  · have hne : (missC l n != 0) = true := by simpa using h0
    have H0 := Lib.hid h0
    clear h0 hq
    go_enter Try.func42, Try.ntmps42
    go_wp2_with (first
      | (go_at_call 64; refine HM.mono ?_; rintro e w' ⟨rfl, rfl⟩))
    go_ret2
    refine ⟨.slice none 0 0, rfl, ?_, fun g e => (by cases e), Below.refl _ _⟩
    rw [if_neg H0.out]
    exact Own.nil _
/-- disk.(*Disk).refused. -/
def refC (s : St) (n : Bs) : Int := missC s.files n
set_option maxHeartbeats 1000000 in
theorem refused_any {w : World} {S X : Nat → Prop} {g : Nat} {s : St} (h : Dk w S X g s) (n : Bs) (hn : n.length ≤ 1000000000) :
    Calls Try.prog 51 #[.pointer (some ⟨g, 0, none⟩), .string (str n)] w fun e w' => e = .returned (.int .i64 (missC s.files n)) ∧ w = w' := by
  obtain ⟨m1, m2, S1, S2, wv, h⟩ := h
  have hM := made_yes g s.room w (h.blk.cell 5) h.ok.1
  have hm := missing_any h.f1 g 0 (h.blk.cell 0) n hn
  go_enter Try.func51, Try.ntmps51
  go_wp2_with (first
    | (go_at_call 41; refine hM.mono ?_; rintro e w' ⟨rfl, rfl⟩)
    | (go_at_call 64; refine hm.mono ?_; rintro e w' ⟨rfl, rfl⟩))
  go_ret
  exact ⟨rfl, rfl⟩
theorem total_small {s : St} (h : s.ok) : total s.files ≤ 1000000000 ∧ total s.lasts ≤ 1000000000 := by
  have h1 := h.total_le
  have h2 := h.2.2.2.head
  have h3 := h.2.1
  omega
set_option maxHeartbeats 1000000 in
theorem diskRead_any {w : World} {S X : Nat → Prop} {g : Nat} {s : St} (h : Dk w S X g s) (n : Bs) (hn : n.length ≤ 1000000000) :
    Calls Try.prog 14 #[.pointer (some ⟨g, 0, none⟩), .string (str n)] w (Told w s.files n) := by
  obtain ⟨m1, m2, S1, S2, wv, h⟩ := h
  have hM := made_yes g s.room w (h.blk.cell 5) h.ok.1
  have hm := read_any h.f1 g 0 (h.blk.cell 0) n hn (total_small h.ok).1
  go_enter Try.func14, Try.ntmps14
  go_wp2_with (first
    | (go_at_call 41; refine hM.mono ?_; rintro e w' ⟨rfl, rfl⟩)
    | (go_at_call 42; refine hm.mono ?_; rintro e w' ⟨v, rfl, ho', hg', hb'⟩))
  go_ret2
  exact ⟨v, rfl, ho', hg', hb'⟩
set_option maxHeartbeats 1000000 in
theorem diskLasts_any {w : World} {S X : Nat → Prop} {g : Nat} {s : St} (h : Dk w S X g s) (n : Bs) (hn : n.length ≤ 1000000000) :
    Calls Try.prog 15 #[.pointer (some ⟨g, 0, none⟩), .string (str n)] w (Told w s.lasts n) := by
  obtain ⟨m1, m2, S1, S2, wv, h⟩ := h
  have hM := made_yes g s.room w (h.blk.cell 5) h.ok.1
  have hm := read_any h.f2 g 2 (h.blk.cell 2) n hn (total_small h.ok).2
  go_enter Try.func15, Try.ntmps15
  go_wp2_with (first
    | (go_at_call 41; refine hM.mono ?_; rintro e w' ⟨rfl, rfl⟩)
    | (go_at_call 42; refine hm.mono ?_; rintro e w' ⟨v, rfl, ho', hg', hb'⟩))
  go_ret2
  exact ⟨v, rfl, ho', hg', hb'⟩
set_option maxHeartbeats 1000000 in
theorem waits_any {w : World} {S X : Nat → Prop} {g : Nat} {s : St} (h : Dk w S X g s) :
    Calls Try.prog 22 #[.pointer (some ⟨g, 0, none⟩)] w fun e w' => e = .returned (.int .i64 (s.waits.length : Int)) ∧ w = w' := by
  obtain ⟨m1, m2, S1, S2, wv, h⟩ := h
  have hM := made_yes g s.room w (h.blk.cell 5) h.ok.1
  obtain ⟨A, q, c, rfl, hq, _⟩ := h.ts.form
  have HQ := Lib.hid hq
  have hw := h.blk.cell 4
  simp at hw
  clear hq h
  go_enter Try.func22, Try.ntmps22
  go_wp2_with (go_at_call 41; refine hM.mono ?_; rintro e w' ⟨rfl, rfl⟩)
  go_ret
  exact ⟨ret_i64 (by rw [HQ.out]), rfl⟩
set_option maxHeartbeats 1000000 in
theorem used_any {w : World} {S X : Nat → Prop} {g : Nat} {s : St} (h : Dk w S X g s) :
    Calls Try.prog 23 #[.pointer (some ⟨g, 0, none⟩)] w fun e w' => e = .returned (.int .i64 (total s.files : Int)) ∧ w = w' := by
  obtain ⟨m1, m2, S1, S2, wv, h⟩ := h
  have hM := made_yes g s.room w (h.blk.cell 5) h.ok.1
  have hw := h.blk.cell 1
  simp at hw
  clear h
  go_enter Try.func23, Try.ntmps23
  go_wp2_with (go_at_call 41; refine hM.mono ?_; rintro e w' ⟨rfl, rfl⟩)
  go_ret
  exact ⟨rfl, rfl⟩
set_option maxHeartbeats 1000000 in
theorem diskNames_any {w : World} {S X : Nat → Prop} {g : Nat} {s : St} (h : Dk w S X g s) :
    Calls Try.prog 24 #[.pointer (some ⟨g, 0, none⟩)] w fun e w' => ∃ v, e = .returned v ∧ OwnS w' v (s.files.map (·.1)) ∧ (∀ r, v.ownBlock = some r → w.heap.size ≤ r) ∧ Below w.heap.size w w' := by
  obtain ⟨m1, m2, S1, S2, wv, h⟩ := h
  have hM := made_yes g s.room w (h.blk.cell 5) h.ok.1
  have hm := names_any h.f1 g 0 (h.blk.cell 0)
  go_enter Try.func24, Try.ntmps24
  go_wp2_with (first
    | (go_at_call 41; refine hM.mono ?_; rintro e w' ⟨rfl, rfl⟩)
    | (go_at_call 55; refine hm.mono ?_; rintro e w' ⟨v, rfl, ho', hg', hb'⟩))
  go_ret
  exact ⟨v, rfl, ho', hg', hb'⟩
end Go.Proofs.Ythhiiimmgghhaaa
