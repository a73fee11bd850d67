/-
  lasting: what lasts on a disk is told just so.
-/
import Derived.Test.YthhiiimmgghhaaaRefN
namespace Go.Proofs.Ythhiiimmgghhaaa
open Go.RowKit
theorem refFind_quiet {w : World} {X : Nat → Prop} {A : Option Addr} {n c : Nat} {l : FL} (h : RFs w X A n l) (m : Bs) (hc : n ≤ 1000000000) :
    Calls Try.prog 32 #[.slice A n c, .string (str m)] w fun e w' => e = .returned (.int .i64 (atI m l)) ∧ w' = w := (refFind_any h m hc).mono (fun _ _ h => ⟨h.1, h.2.symm⟩)
set_option maxRecDepth 100000 in
set_option maxHeartbeats 4000000 in
theorem lasting_any {w : World} {S X Y : Nat → Prop} {g : Nat} {s : St} (h : Dk w S X g s) {A : Option Addr} {n c : Nat} (hl : RFs w Y A n s.lasts) (hn1 : ∀ p ∈ s.lasts, isNm p.1 = true) (hn2 : ∀ p ∈ s.files, isNm p.1 = true) (hsz : s.size < 900000) :
    Calls Try.prog 59 #[.pointer (some ⟨g, 0, none⟩), .slice A n c] w fun e w' => e = .returned (.bool true) ∧ Below w.heap.size w w' := by
  have hlen := hl.len
  have hris : Rises s.lasts := h.ok.2.2.1
  have hfl := s.files_len
  have HSZ : Hid (n < 900000 ∧ s.files.length < 1000000) := Lib.hid (by unfold St.size at hsz hfl; omega)
  have HD := Lib.hid h
  have HL := Lib.hid hl
  have HN1 := Lib.hid hn1
  have HN2 := Lib.hid hn2
  have HLN := Lib.hid hlen
  have HRI := Lib.hid hris
  have hnb := HSZ.out.1
  have hfb := HSZ.out.2
  clear h hl hn1 hn2 hlen hris hfl hsz
  go_enter Try.func59, Try.ntmps59
  go_wp2_with fail
  go_loopw [5] (fun i wr => ∃ k : Nat, k ≤ n ∧ i = .int .i64 k ∧ Below w.heap.size w wr) (fun i _ => n - (intOf i).toNat)
  case atStart => exact ⟨0, by omega, rfl, Below.refl _ _⟩
  case round =>
    obtain ⟨k, hk, rfl, hb⟩ := hrel
    have HB := Lib.hid hb
    clear hb
    by_cases hlt : k < n
    case pos =>
      have hk1 : k < s.lasts.length := by have := HLN.out; omega
      have hbw : Below w.heap.size w wr := HB.out
      obtain ⟨ad, B1, q1, c1, rfl, ha1, -, s0, s1, hy1, hq1, hc1⟩ := (HL.out.below hbw).at_ hk1
      have hnm := HN1.out s.lasts[k] (List.getElem_mem hk1)
      have hfd : find s.lasts s.lasts[k].1 = some s.lasts[k].2 := find_of_mem HRI.out (List.getElem_mem hk1)
      have hm0 : missC s.lasts s.lasts[k].1 = 0 := by unfold missC; rw [hnm, hfd]; rfl
      have hrd := diskLasts_any (HD.out.below HB.out) s.lasts[k].1 (by have := isNm_len hnm; omega)
      have HY1 := Lib.hid hy1
      clear hy1
      go_wp2_with fail
      refine hrd.mono ?_
      rintro e w2 ⟨v2, rfl, ho2, hv2, hb2⟩
      rw [hm0] at ho2 ⊢
      rw [if_pos rfl, hfd, Option.getD_some] at ho2
      obtain ⟨A2, q2, c2, rfl, hq2, hqc2, hcm2⟩ := ho2.form
      have x1 : w2.cell? ⟨(ad.add (k * 2)).block, (ad.add (k * 2)).off + 1, none⟩ = some (.slice B1 q1 c1) := (hb2.cell (p := ⟨(ad.add (k * 2)).block, (ad.add (k * 2)).off + 1, none⟩) (by show (ad.add (k * 2)).block < _; rw [block_of_add]; exact ha1)).trans s1
      have cv1 : ∀ m, (convert 32 9 (.slice A2 q2 c2)).run Try.prog (w2.drewN m) = .ok (.string (str s.lasts[k].2)) (w2.drewN m) := fun m => conv_str (w2.drewN m) No A2 q2 c2 _ ((ho2.bys (fun _ _ h => h.elim)).drewN m)
      have cv2 : ∀ m, (convert 32 9 (.slice B1 q1 c1)).run Try.prog (w2.drewN m) = .ok (.string (str s.lasts[k].2)) (w2.drewN m) := fun m => conv_str (w2.drewN m) Y B1 q1 c1 _ ((HY1.out.below hb2).drewN m)
      have HB2 := Lib.hid (HB.out.trans (hb2.mono HB.out.size))
      have hbe : (!(str s.lasts[k].2).toList == (str s.lasts[k].2).toList) = false := by simp
      clear hrd ho2 hv2 hb2 hnm hfd hm0 hq2
      go_wp2_with fail
      go_quiet ((go_at_call 17; exact Calls.quiet_of_same (num_quiet _ _)))
      go_wp2_with fail
      refine ⟨⟨k + 1, by omega, by go_num, below_drewN HB2.out nq⟩, by simp [intOf]; omega⟩
    case neg =>
    have hd1 : decide (k < n) = false := by simpa using hlt
    clear hlt
    go_wp2_with fail
    refine (diskNames_any (HD.out.below HB.out)).mono ?_
    rintro e w1 ⟨v1, rfl, ho1, hv1, hb1⟩
    obtain ⟨A1, q1, c1, rfl, hq1, hqc1, -⟩ := ho1.form
    rw [List.length_map] at hq1
    subst hq1
    have HB1 := Lib.hid (HB.out.trans (hb1.mono HB.out.size))
    clear hb1
    go_wp2_with fail
    go_loopw [9] (fun i ws => ∃ j : Nat, j ≤ s.files.length ∧ i = .int .i64 j ∧ Below w.heap.size w ws ∧ OwnS ws (.slice A1 s.files.length c1) (s.files.map (·.1))) (fun i _ => s.files.length - (intOf i).toNat)
    case atStart => exact ⟨0, by omega, rfl, HB1.out, ho1⟩
    case round =>
      obtain ⟨j, hj, rfl, hbs, hos⟩ := hrel
      have HBS := Lib.hid hbs
      have HOS := Lib.hid hos
      clear hbs hos ho1
      by_cases hjt : j < s.files.length
      case neg =>
        have hd1 : decide (j < s.files.length) = false := by simpa using hjt
        go_wp2_with fail
        go_ret
        exact ⟨rfl, HBS.out⟩
      case pos =>
      obtain ⟨gn, rfl, hgl, hcell⟩ := HOS.out.at_ (i := j) (by simpa using hjt)
      have hcell' : wr.cell? ⟨gn, j, none⟩ = some (.string (str s.files[j].1)) := by simpa using hcell
      have hnm := HN2.out s.files[j] (List.getElem_mem hjt)
      have hrd := diskLasts_any (HD.out.below HBS.out) s.files[j].1 (by have := isNm_len hnm; omega)
      have hcase : (missC s.lasts s.files[j].1 = 0 ∧ 0 ≤ atI s.files[j].1 s.lasts) ∨ (missC s.lasts s.files[j].1 = 5 ∧ atI s.files[j].1 s.lasts = -1) := by
        have ha := atF_find s.files[j].1 s.lasts
        unfold missC atI
        rw [if_pos hnm]
        cases hq : atF s.files[j].1 s.lasts with
        | none => right; rw [ha.2 hq]; exact ⟨rfl, rfl⟩
        | some i => left; obtain ⟨_, _, h3⟩ := ha.1 i hq; rw [h3]; exact ⟨rfl, Int.natCast_nonneg _⟩
      have hub : atI s.files[j].1 s.lasts ≤ 1000000 := by
        unfold atI
        cases hq : atF s.files[j].1 s.lasts with
        | none => simp
        | some i => have := atF_lt hq; have := HLN.out; simp; omega
      clear hcell
      go_wp2_with fail
      refine hrd.mono ?_
      rintro e w2 ⟨v2, rfl, -, -, hb2⟩
      have x1 : w2.cell? ⟨gn, j, none⟩ = some (.string (str s.files[j].1)) := (hb2.cell (p := ⟨gn, j, none⟩) hgl).trans hcell'
      have HB2 := Lib.hid (HBS.out.trans (hb2.mono HBS.out.size))
      have HO2 : Hid (OwnS w2 (.slice (some ⟨gn, 0, none⟩) s.files.length c1) (s.files.map (·.1))) := Lib.hid (HOS.out.keepB (fun r e => hb2.block r (HOS.out.lt e)))
      have HL2 := Lib.hid (HL.out.below HB2.out)
      clear hrd hcell' hnm hb2
      generalize hAT : atI s.files[j].1 s.lasts = at0 at *
      have HAT := Lib.hid hAT
      clear hAT
      rcases hcase with ⟨hm, ha⟩ | ⟨hm, ha⟩
      · rw [hm]
        have hq0 : ∀ m, Calls Try.prog 32 #[.slice A n c, .string (str s.files[j].1)] (w2.drewN m) fun e w' => e = .returned (.int .i64 at0) ∧ w' = w2.drewN m := fun m => HAT.out ▸ refFind_quiet (HL2.out.below (below_drewN (Below.refl _ _) m)) _ (by omega)
        have hdd : decide (0 ≤ at0) = true := by simpa using ha
        go_wp2_with fail
        go_quiet (first
          | (go_at_call 17; exact Calls.quiet_of_same (num_quiet _ _))
          | (go_at_call 32; exact Calls.quiet_of_same (hq0 _)))
        go_wp2_with fail
        refine ⟨⟨j + 1, by omega, by go_num, below_drewN HB2.out nq, HO2.out.keepB (fun _ _ => rfl)⟩, by simp [intOf]; omega⟩
      · rw [hm]
        subst ha
        have hq0 : ∀ m, Calls Try.prog 32 #[.slice A n c, .string (str s.files[j].1)] (w2.drewN m) fun e w' => e = .returned (.int .i64 (-1)) ∧ w' = w2.drewN m := fun m => HAT.out ▸ refFind_quiet (HL2.out.below (below_drewN (Below.refl _ _) m)) _ (by omega)
        go_wp2_with fail
        go_quiet (first
          | (go_at_call 17; exact Calls.quiet_of_same (num_quiet _ _))
          | (go_at_call 32; exact Calls.quiet_of_same (hq0 _)))
        go_wp2_with fail
        refine ⟨⟨j + 1, by omega, by go_num, below_drewN HB2.out nq, HO2.out.keepB (fun _ _ => rfl)⟩, by simp [intOf]; omega⟩
end Go.Proofs.Ythhiiimmgghhaaa
