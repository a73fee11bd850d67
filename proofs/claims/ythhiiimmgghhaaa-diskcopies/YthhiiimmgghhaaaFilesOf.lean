/-
  The files of a disk as waystationlaw03.files reads them; whether two lists of files are the same; whether things are few. Conditions: within bounds.
-/
import Derived.Test.YthhiiimmgghhaaaRow2
import Derived.Test.YthhiiimmgghhaaaAsk
namespace Go.Proofs.Ythhiiimmgghhaaa
open Go.RowKit
/-- A slice of files in new memory. -/
def NewFs (w : World) (l : FL) (e : Ending) (w' : World) : Prop := ∃ A n c, e = .returned (.slice A n c) ∧ RFs w' (fun b => b < w.heap.size) A n l ∧ n ≤ c ∧ c ≤ maxLen ∧ Below w.heap.size w w'
theorem take_snoc (l : FL) {k : Nat} (h : k < l.length) : l.take (k + 1) = l.take k ++ [l[k]] := List.take_succ_eq_append_getElem h
set_option maxRecDepth 100000 in
set_option maxHeartbeats 4000000 in
theorem files_any {w : World} {S X : Nat → Prop} {g : Nat} {s : St} (h : Dk w S X g s) (hn : ∀ p ∈ s.files, isNm p.1 = true) (hsz : s.size < 900000) : Calls Try.prog 38 #[.pointer (some ⟨g, 0, none⟩)] w (NewFs w s.files) := by
  have hr := h.ok.rises
  have hfl := s.files_len
  have hts := total_small h.ok
  go_enter Try.func38, Try.ntmps38
  go_wp2_with fail
  refine (diskNames_any h).mono ?_
  rintro e w1 ⟨v1, rfl, ho1, hv1, hb1⟩
  obtain ⟨A1, q1, c1, rfl, hq1, hqc1, -⟩ := ho1.form
  rw [List.length_map] at hq1
  subst hq1
  have HD := Lib.hid h
  have HN := Lib.hid hn
  have HR := Lib.hid hr
  have HT := Lib.hid hts
  have HZ1 : Hid (w.heap.size ≤ w1.heap.size) := Lib.hid hb1.size
  have HN1 : Hid (∀ r, Value.ownBlock (.slice A1 s.files.length c1) = some r → r < w1.heap.size) := Lib.hid (fun r e => ho1.lt e)
  clear h hn hr hts
  go_wp2_with fail
  go_loopw [3, 5] (fun o i wr => ∃ k : Nat, k ≤ s.files.length ∧ i = .int .i64 k ∧ FRow (fun b => b < w.heap.size) wr o (s.files.take k) ∧ Below w.heap.size w wr ∧ OwnS wr (.slice A1 s.files.length c1) (s.files.map (·.1)) ∧ w1.heap.size ≤ wr.heap.size ∧ (∀ g, o.ownBlock = some g → w1.heap.size ≤ g)) (fun _ i _ => s.files.length - (intOf i).toNat)
  case atStart => exact ⟨0, by omega, rfl, by simpa using FRow.nil w1 _, hb1, ho1, Nat.le_refl _, fun g e => by cases e⟩
  case round =>
    obtain ⟨k, hk, rfl, hF, hb, ho, hz, hgo⟩ := hrel
    have HF := Lib.hid hF
    have HB := Lib.hid hb
    have HO := Lib.hid ho
    obtain ⟨Ao, qo, co, rfl, hqo, hqco, hcm⟩ := hF.form
    clear hF hb ho ho1 hb1
    by_cases hlt : k < s.files.length
    case neg =>
      have hd1 : decide (k < s.files.length) = false := by simpa using hlt
      clear hqo
      go_wp2_with fail
      go_ret
      refine ⟨Ao, qo, co, rfl, ?_, hqco, hcm, HB.out⟩
      have := HF.out.rfs
      rwa [List.take_of_length_le (by omega)] at this
    case pos =>
    obtain ⟨gn, rfl, hgl, hcell⟩ := HO.out.at_ (i := k) (by simpa using hlt)
    have hcell' : wr.cell? ⟨gn, k, none⟩ = some (.string (str s.files[k].1)) := by simpa using hcell
    have hnm := HN.out s.files[k] (List.getElem_mem hlt)
    have hfd : find s.files s.files[k].1 = some s.files[k].2 := find_of_mem HR.out (List.getElem_mem hlt)
    have hm0 : missC s.files s.files[k].1 = 0 := by unfold missC; rw [hnm, hfd]; rfl
    have hrd := diskRead_any (HD.out.below HB.out) s.files[k].1 (by have := isNm_len hnm; omega)
    clear hcell hqo
    go_wp2_with fail
    refine hrd.mono ?_
    rintro e w2 ⟨v2, rfl, ho2, hv2, hb2⟩
    rw [hm0] at ho2 ⊢
    rw [if_pos rfl, hfd, Option.getD_some] at ho2
    obtain ⟨A2, q2, c2, rfl, hq2, hqc2, hcm2⟩ := ho2.form
    have hcell2 : w2.cell? ⟨gn, k, none⟩ = some (.string (str s.files[k].1)) := (hb2.cell (p := ⟨gn, k, none⟩) hgl).trans hcell'
    have hz2 := hb2.size
    have HQ2 := Lib.hid hq2
    clear hq2 hrd hcell'
    go_wp2_with (first
      | (go_at_call 17; refine (num_any _ _).mono ?_; rintro e w' ⟨rfl, rfl⟩)
      | (at_builtin; refine stop ?_))
    have hb3 : Below wr.heap.size wr (w2.alloc (.cells #[.string (str s.files[k].1), .slice A2 q2 c2] 59)) := hb2.alloc hz2 _
    have hF3 := HF.out.below hb3
    obtain ⟨css, hcss, hcl, -⟩ := hF3
    have hF3' := HF.out.below hb3
    have hbr := HB.out.size
    have hby : Bys (w2.alloc (.cells #[.string (str s.files[k].1), .slice A2 q2 c2] 59)) (fun b => b < w.heap.size ∨ Value.ownBlock (.slice Ao qo co) = some b) A2 q2 s.files[k].2 := (ho2.alloc _).bys (fun r e hx => by
      have h1 := hv2 r e
      rcases hx with hx | hx
      · omega
      · have := HF.out.lt hx; omega)
    refine Stop.go (wpList_append_k el26 _ (by rfl) _ _ (by rfl) _ css (by rfl) hcss No _ 1 1 [#[.string (str s.files[k].1), .slice A2 q2 c2]] (by rfl) (rd_one w2 59 _ rfl (fun u hu => by simp at hu; rcases hu with rfl | rfl <;> rfl) (fun h => h)) (by rw [hcl, List.length_take]; omega) (by omega) ?_)
    intro v4 w4 ho4 hg4
    have HF4 : Hid (FRow (fun b => b < w.heap.size) w4 v4 (s.files.take (k + 1))) := Lib.hid (by rw [take_snoc _ hlt]; exact hF3'.snoc (p := s.files[k]) hby hqc2 hcm2 hcss ho4 hg4 (fun b hb => by have := hb3.size; omega))
    have hlow : Below w1.heap.size (w2.alloc (.cells #[.string (str s.files[k].1), .slice A2 q2 c2] 59)) w4 := ⟨hg4.1.os, hg4.1.tape, hg4.1.output, hg4.1.size, fun i hi => hg4.1.block i (by have := hb3.size; omega) (fun e => by have := hgo i e.symm; omega)⟩
    have hz1w : w.heap.size ≤ w1.heap.size := HZ1.out
    have HB4 := Lib.hid ((HB.out.trans (hb3.mono hbr)).trans (hlow.mono hz1w))
    have HO4 : Hid (OwnS w4 (.slice (some ⟨gn, 0, none⟩) s.files.length c1) (s.files.map (·.1))) := Lib.hid (HO.out.keepB fun r e => by
      have hr1 : r < w1.heap.size := HN1.out r e
      exact (hlow.block r hr1).trans (hb3.block r (by omega)))
    have HZ4 : Hid (w1.heap.size ≤ w4.heap.size) := Lib.hid (by have := hb3.size; have := hg4.1.size; omega)
    have HG4 : Hid (∀ g, v4.ownBlock = some g → w1.heap.size ≤ g) := Lib.hid (fun g e => by
      rcases hg4.2 g e with e | e
      · exact hgo g e
      · have := hb3.size; omega)
    clear hcell2 hF3' hby hcss ho4 hg4 hlow hb3 hb2 ho2 hv2
    go_wp2_with fail
    go_roundw
    case rel => exact ⟨k + 1, by omega, by go_num, HF4.out, HB4.out, HO4.out, HZ4.out, HG4.out⟩
    case measure => simp [intOf]; omega
end Go.Proofs.Ythhiiimmgghhaaa
