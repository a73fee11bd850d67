/-
  How long a table is, its log, a copy. Nothing is assumed.
-/
import Derived.Test.YthcphoijanebhaaDoorOf
namespace Go.Proofs.YthcphoijanebhaaDoor
open Go.RowKit Go.Maps
set_option linter.unusedVariables false
section
variable {w w' : World} {g : Nat} {l : List Ent} {S : Nat → Prop} {e : Ent}
theorem len_nil (w : World) : Calls Tryd.prog 61 #[.pointer none] w fun r w' => r = .returned (.int .i64 0) ∧ w = w' := by
  go_enter Tryd.func61, Tryd.ntmps61
  go_wp2_with fail
  refine (there_no _).mono ?_
  rintro r w1 ⟨rfl, rfl⟩
  go_wp2_with fail
  go_ret
  exact ⟨rfl, rfl⟩
theorem len_any (h : Tb w S g l) : Calls Tryd.prog 61 #[.pointer (some ⟨g, 0, none⟩)] w fun r w' => r = .returned (.int .i64 (l.length : Int)) ∧ w = w' := by
  obtain ⟨⟨v, mp, h1, h2, h4, h3⟩, hr, hl⟩ := h
  obtain ⟨A, q, c, rfl, hq, hc, hm⟩ := h2.form
  have hq' : q = l.length := by rw [hq]; simp [cellsOf]
  subst hq'
  obtain ⟨c0, c21⟩ := h1.cellv
  clear h1 h2 h4 h3 hq hc hm
  go_enter Tryd.func61, Tryd.ntmps61
  go_wp2_with fail
  refine (there_yes c21).mono ?_
  rintro r w1 ⟨rfl, rfl⟩
  go_wp2_with fail
  go_ret
  exact ⟨rfl, rfl⟩
theorem q66 (w : World) (a : Option Addr) (n c n' c' : Nat) : (binOp .eql 100 (.slice a n c) (.slice none n' c')).run Tryd.prog w = .ok (.bool a.isNone) w :=
  Lib.run_eql_slice_nil w 100 45 a n c n' c' Tryd.underlying100
theorem OwnK.made (w : World) : OwnK (w.alloc (.cells #[] 45)) 45 6 (.slice (some ⟨w.heap.size, 0, none⟩) 0 0) [] := ⟨World.ownsRow_made w #[] 0 (Nat.zero_le _) (by unfold maxLen; omega) rfl, Sized.nil _⟩
theorem made_below {o : Obj} {v : Value} (h : Grew (.slice (some ⟨w.heap.size, 0, none⟩) 0 0) (w.alloc o) v w') : Below w.heap.size (w.alloc o) w' :=
  ⟨h.1.os, h.1.tape, h.1.output, h.1.size, fun k hk => h.1.block k (by simp; omega) (fun e => by
    have h' : k = w.heap.size := by simpa [Value.ownBlock] using e
    omega)⟩
/-- A new slice of the entries. -/
def NewL (w : World) (l : List Ent) (r : Ending) (w' : World) : Prop := ∃ v, r = .returned v ∧ OwnK w' 45 6 v (cellsOf l) ∧ (∀ b, v.ownBlock = some b → w.heap.size ≤ b) ∧ Below w.heap.size w w'
set_option maxHeartbeats 1000000 in
set_option maxRecDepth 100000 in
theorem clone_any {v : Value} (h : OwnK w 45 6 v (cellsOf l)) (hl : l.length ≤ 1000000) : Calls Tryd.prog 69 #[v] w (NewL w l) := by
  obtain ⟨A, q, c, rfl, hq, hc, hm⟩ := h.form
  have hq' : q = l.length := by rw [hq]; simp [cellsOf]
  subst hq'
  rcases A with _ | ad
  · have h0 : l = [] ∧ c = 0 := by
      rcases h.1.2 with ⟨e, h0⟩ | ⟨g, cap, cur, e, _⟩
      · injection e with _ _ e
        exact ⟨List.eq_nil_of_length_eq_zero (by simpa [cellsOf] using h0), e⟩
      · cases e
    obtain ⟨rfl, rfl⟩ := h0
    clear h hq hc hm
    have hq := q66
    show Calls Tryd.prog 69 #[.slice none 0 0] w _
    go_enter Tryd.func69, Tryd.ntmps69
    go_wp2_with fail
    go_ret
    exact ⟨_, rfl, OwnK.nil _ _ _, fun b e => (by cases e), Below.refl _ _⟩
  · have HR := Lib.hid (h.rd (X := No) (fun _ _ h => h))
    clear h
    have hq66 := q66
    go_enter Tryd.func69, Tryd.ntmps69
    go_wp2_with (at_builtin; refine stop ?_)
    refine Stop.go (wpList_append_k el66 _ (by rfl) _ _ (by rfl) _ [] (by rfl) (OwnK.made w) No (some ad) l.length c (cellsOf l) (by rfl) (HR.out.alloc _) (by simp) (by omega) ?_)
    intro v9 w9 ho9 hg9
    rw [List.nil_append] at ho9
    have HO := Lib.hid ho9
    have HV : Hid (∀ b, v9.ownBlock = some b → w.heap.size ≤ b) := Lib.hid (fun b eb => by
      rcases hg9.2 b eb with h | h
      · have h' : w.heap.size = b := by simpa [Value.ownBlock] using h
        omega
      · simp at h; omega)
    have HB : Hid (Below w.heap.size w w9) := Lib.hid (((Below.refl _ _).alloc (Nat.le_refl _) (.cells #[] 45)).trans (made_below hg9))
    clear ho9 hg9
    go_wp2_with fail
    go_ret
    exact ⟨_, rfl, HO.out, HV.out, HB.out⟩
theorem log_nil (w : World) : Calls Tryd.prog 55 #[.pointer none] w fun r w' => r = .returned (.slice none 0 0) ∧ w = w' := by
  go_enter Tryd.func55, Tryd.ntmps55
  go_wp2_with fail
  refine (there_no _).mono ?_
  rintro r w1 ⟨rfl, rfl⟩
  go_wp2_with fail
  go_ret
  exact ⟨rfl, rfl⟩
theorem log_any (h : Tb w S g l) : Calls Tryd.prog 55 #[.pointer (some ⟨g, 0, none⟩)] w (NewL w l) := by
  obtain ⟨⟨v, mp, h1, h2, h4, h3⟩, hr, hl⟩ := h
  obtain ⟨c0, c21⟩ := h1.cellv
  have hcall := clone_any h2 (by omega)
  obtain ⟨A, q, c, rfl, hq, hc, hm⟩ := h2.form
  clear h1 h4 h3 hq hc hm h2
  go_enter Tryd.func55, Tryd.ntmps55
  go_wp2_with fail
  refine (there_yes c21).mono ?_
  rintro r w1 ⟨rfl, rfl⟩
  go_wp2_with fail
  refine hcall.mono ?_
  rintro r w1 ⟨v, rfl, ho, hv, hb⟩
  have HF := Lib.hid (And.intro ho (And.intro hv hb))
  clear ho hv hb c0 c21 hcall
  go_wp2_with fail
  go_ret
  exact ⟨_, rfl, HF.out⟩
theorem copy_nil (w : World) : Calls Tryd.prog 65 #[.pointer none] w fun r w' => r = .returned (.pointer none) ∧ w = w' := by
  go_enter Tryd.func65, Tryd.ntmps65
  go_wp2_with fail
  refine (there_no _).mono ?_
  rintro r w1 ⟨rfl, rfl⟩
  go_wp2_with fail
  go_ret
  exact ⟨rfl, rfl⟩
theorem copy_any (h : Tb w S g l) : Calls Tryd.prog 65 #[.pointer (some ⟨g, 0, none⟩)] w fun r w' => ∃ z, r = .returned (.pointer (some ⟨z, 0, none⟩)) ∧ Tb w' (NewB w w') z l ∧ Below w.heap.size w w' := by
  obtain ⟨⟨v, mp, h1, h2, h4, h3⟩, hr, hl⟩ := h
  obtain ⟨c0, c21⟩ := h1.cellv
  have hcall := clone_any h2 (by omega)
  obtain ⟨A, q, c, rfl, hq, hc, hm⟩ := h2.form
  have HR := Lib.hid hr
  clear h1 h4 h3 hq hc hm h2 hr
  go_enter Tryd.func65, Tryd.ntmps65
  go_wp2_with fail
  refine (there_yes c21).mono ?_
  rintro r w1 ⟨rfl, rfl⟩
  go_wp2_with fail
  refine hcall.mono ?_
  rintro r w1 ⟨v, rfl, ho, hv, hb⟩
  obtain ⟨A1, q1, c1, rfl, hq, hc, hm⟩ := ho.form
  have hq' : q1 = l.length := by rw [hq]; simp [cellsOf]
  subst hq'
  have hcall2 := tableOf_any (c := c1) (ho.rd (X := No) (fun _ _ h => h)) HR.out hl
  have HF := Lib.hid (And.intro ho (And.intro hv hb))
  clear ho hv hb c0 c21 hcall hq hc hm
  go_wp2_with fail
  refine hcall2.mono ?_
  rintro r w2 ⟨z, mp2, rfl, hX, hg, hb2⟩
  have HG : Hid (Tb w2 (NewB w w2) z l ∧ Below w.heap.size w w2) := Lib.hid ⟨(tb_new hX hg hb2 HF.out.1 HR.out hl).wide (fun b hb h => ⟨by
    have := HF.out.2.2.size
    rcases h with h | h
    · exact Nat.le_trans this h.1
    · exact HF.out.2.1 b h, hb⟩), HF.out.2.2.trans (hb2.mono HF.out.2.2.size)⟩
  clear hX hg hb2 hcall2
  go_wp2_with fail
  go_ret
  exact ⟨z, rfl, HG.out⟩
end
end Go.Proofs.YthcphoijanebhaaDoor
