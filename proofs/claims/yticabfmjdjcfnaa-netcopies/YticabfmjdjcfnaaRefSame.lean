/-
  Whether two nets are the same; the document's Same. Nothing is assumed but bounds.
-/
import Derived.Test.YticabfmjdjcfnaaPlayed
namespace Go.Proofs.Yticabfmjdjcfnaa
open Go.RowKit
def sameL : Row → Row → Bool
  | [], [] => true
  | p :: l, q :: l' => p.1 == q.1 && sameM p.2 q.2 && sameL l l'
  | _, _ => false
theorem sameL_iff : ∀ {l l' : Row}, sameL l l' = true ↔ l = l'
  | [], [] => by simp [sameL]
  | [], q :: l' => by simp [sameL]
  | p :: l, [] => by simp [sameL]
  | p :: l, q :: l' => by
    obtain ⟨p1, p2⟩ := p
    obtain ⟨q1, q2⟩ := q
    simp only [sameL, Bool.and_eq_true, beq_iff_eq, sameM_iff, sameL_iff, List.cons.injEq, Prod.mk.injEq]
/-- Are two nets the same? -/
def sameS (s s' : St) : Bool := s.most == s'.most && s.came == s'.came && sameL s.l s'.l
theorem sameS_iff {s s' : St} : sameS s s' = true ↔ s = s' := by
  obtain ⟨a, l, b⟩ := s
  obtain ⟨a', l', b'⟩ := s'
  simp only [sameS, Bool.and_eq_true, beq_iff_eq, sameL_iff, St.mk.injEq]
  constructor
  · rintro ⟨⟨h1, h2⟩, h3⟩; exact ⟨h1, h3, h2⟩
  · rintro ⟨h1, h3, h2⟩; exact ⟨⟨h1, h2⟩, h3⟩
theorem sameS_refl (s : St) : sameS s s = true := sameS_iff.2 rfl
theorem sameS_no {s s' : St} (h : s ≠ s') : sameS s s' = false := by
  cases e : sameS s s' with
  | false => rfl
  | true => exact absurd (sameS_iff.1 e) h
set_option maxRecDepth 100000 in
set_option maxHeartbeats 8000000 in
theorem refSame_any {w : World} {X X' : Nat → Prop} {s s' : St} {cs cs' : Array Value} (h : RAt w X s cs) (h' : RAt w X' s' cs') : Calls Try.prog 22 #[.agg cs, .agg cs'] w fun e w' => e = .returned (.bool (sameS s s')) ∧ Below w.heap.size w w' := by
  obtain ⟨A, n, c, rfl, hI, hnc, hcm⟩ := h
  obtain ⟨A', n', c', rfl, hI', hnc', hcm'⟩ := h'
  obtain ⟨mo, l, ca⟩ := s
  obtain ⟨mo', l', ca'⟩ := s'
  replace hI : Its w X A n l := hI
  replace hI' : Its w X' A' n' l' := hI'
  have HL := Lib.hid hI.len
  have HL' := Lib.hid hI'.len
  have HI := Lib.hid hI
  have HI' := Lib.hid hI'
  unfold maxLen at hcm hcm'
  clear hI hI'
  dsimp only
  have a1 : Blk ((w.alloc (.cells #[.int .i64 (mo : Int), .slice A n c, .int .i64 (ca : Int)] 28)).alloc (.cells #[.int .i64 (mo' : Int), .slice A' n' c', .int .i64 (ca' : Int)] 28)) w.heap.size 28 #[.int .i64 (mo : Int), .slice A n c, .int .i64 (ca : Int)] := (Blk.new _ _ _).alloc _
  have b1 : Blk ((w.alloc (.cells #[.int .i64 (mo : Int), .slice A n c, .int .i64 (ca : Int)] 28)).alloc (.cells #[.int .i64 (mo' : Int), .slice A' n' c', .int .i64 (ca' : Int)] 28)) (w.heap.size + 1) 28 #[.int .i64 (mo' : Int), .slice A' n' c', .int .i64 (ca' : Int)] := blk_new _ 28 _ (by simp)
  have hb1 : Below w.heap.size w ((w.alloc (.cells #[.int .i64 (mo : Int), .slice A n c, .int .i64 (ca : Int)] 28)).alloc (.cells #[.int .i64 (mo' : Int), .slice A' n' c', .int .i64 (ca' : Int)] 28)) := ((Below.refl _ _).alloc (Nat.le_refl _) _).alloc (by simp) _
  have HB1 := Lib.hid hb1
  obtain ⟨x0, x1, x2⟩ := a1.three
  obtain ⟨y0, y1, y2⟩ := b1.three
  have HA1 := Lib.hid a1
  have HBB := Lib.hid b1
  clear hb1 a1 b1
  by_cases hmo : mo = mo'
  case neg =>
    have HR := Lib.hid (sameS_no (s := ⟨mo, l, ca⟩) (s' := ⟨mo', l', ca'⟩) (fun e => by injection e with e; exact hmo e))
    have hm1 : (!((mo : Int) == (mo' : Int))) = true := by simp; omega
    have hm2 : ¬ (mo : Int) = (mo' : Int) := by omega
    clear hmo HA1 HBB HL HL' HI HI'
    go_enter Try.func22, Try.ntmps22
    go_wp2_with fail
    go_ret
    exact ⟨ret_bool HR.out.symm, HB1.out⟩
  case pos =>
  subst hmo
  by_cases hca : ca = ca'
  case neg =>
    have HR := Lib.hid (sameS_no (s := ⟨mo, l, ca⟩) (s' := ⟨mo, l', ca'⟩) (fun e => by injection e with e1 e2 e3; exact hca e3))
    have hm1 : (!((ca : Int) == (ca' : Int))) = true := by simp; omega
    have hm2 : ¬ (ca : Int) = (ca' : Int) := by omega
    clear hca HA1 HBB HL HL' HI HI'
    go_enter Try.func22, Try.ntmps22
    go_wp2_with fail
    go_ret
    exact ⟨ret_bool HR.out.symm, HB1.out⟩
  case pos =>
  subst hca
  by_cases hnn : n = n'
  case neg =>
    have HR := Lib.hid (sameS_no (s := ⟨mo, l, ca⟩) (s' := ⟨mo, l', ca⟩) (fun e => by injection e with e1 e2 e3; have h1 := HL.out; have h2 := HL'.out; rw [e2] at h1; omega))
    have hm1 : (!((n : Int) == (n' : Int))) = true := by simp; omega
    have hm2 : ¬ (n : Int) = (n' : Int) := by omega
    clear hnn HA1 HBB HL HL' HI HI'
    go_enter Try.func22, Try.ntmps22
    go_wp2_with fail
    go_ret
    exact ⟨ret_bool HR.out.symm, HB1.out⟩
  case pos =>
  subst hnn
  go_enter Try.func22, Try.ntmps22
  go_wp2_with fail
  generalize ((w.alloc (.cells #[.int .i64 (mo : Int), .slice A n c, .int .i64 (ca : Int)] 28)).alloc (.cells #[.int .i64 (mo : Int), .slice A' n c', .int .i64 (ca : Int)] 28)) = w1 at *
  clear x0 x1 x2 y0 y1 y2
  go_loopw [5] (fun i wr => ∃ k : Nat, k ≤ n ∧ i = .int .i64 k ∧ (∀ j, j < k → l[j]? = l'[j]?) ∧ Below w1.heap.size w1 wr) (fun i _ => n - (intOf i).toNat)
  case atStart => exact ⟨0, by omega, rfl, fun j hj => by omega, Below.refl _ _⟩
  case round =>
    obtain ⟨k, hk, rfl, hsame, hbl⟩ := hrel
    have HSM := Lib.hid hsame
    have HBL := Lib.hid hbl
    have hfin : ∀ W, Below w1.heap.size w1 W → Below w.heap.size w W := fun W hW => HB1.out.trans (hW.mono HB1.out.size)
    have HFIN := Lib.hid hfin
    obtain ⟨x0, x1, x2⟩ := (HA1.out.below hbl HA1.out.lt).three
    obtain ⟨y0, y1, y2⟩ := (HBB.out.below hbl HBB.out.lt).three
    clear hsame hbl hfin
    by_cases hlt : k < n
    case neg =>
      have hd1 : decide (k < n) = false := by simpa using hlt
      have HR : Hid (sameS ⟨mo, l, ca⟩ ⟨mo, l', ca⟩ = true) := Lib.hid (by
        have : l = l' := List.ext_getElem? (fun j => by
          by_cases hj : j < k
          · exact HSM.out j hj
          · have h1 := HL.out
            have h2 := HL'.out
            rw [List.getElem?_eq_none (by omega), List.getElem?_eq_none (by omega)])
        rw [this]; exact sameS_refl _)
      go_wp2_with fail
      go_ret
      exact ⟨ret_bool HR.out.symm, HFIN.out _ HBL.out⟩
    case pos =>
    have hkl : k < l.length := by have := HL.out; omega
    have hkl' : k < l'.length := by have := HL'.out; omega
    have hki : ((k : Nat) : Int) < ((n : Nat) : Int) := by omega
    have HZ := Lib.hid HB1.out.size
    obtain ⟨ad, Am, q, cm, rfl, hadl, -, hby, p0, p1, p2, p3⟩ := (HI.out.below HB1.out).at_ hkl
    obtain ⟨ae, Bm, r, dm, rfl, hael, -, hby', r0, r1, r2, r3⟩ := (HI'.out.below HB1.out).at_ hkl'
    have HP := Lib.hid (List.getElem?_eq_getElem hkl)
    have HQ := Lib.hid (List.getElem?_eq_getElem hkl')
    generalize l[k] = p at *
    generalize l'[k] = t at *
    have ha' : (ad.add (k * 4)).block < w1.heap.size := by rw [block_of_add]; exact hadl
    have he' : (ae.add (k * 4)).block < w1.heap.size := by rw [block_of_add]; exact hael
    have HC1 : Hid (∀ W, Below w1.heap.size w1 W → W.cell? (ad.add (k * 4)) = some (.int .i64 p.1) ∧ W.cell? ⟨(ad.add (k * 4)).block, (ad.add (k * 4)).off + 1, none⟩ = some (.int .i64 p.2.fr) ∧ W.cell? ⟨(ad.add (k * 4)).block, (ad.add (k * 4)).off + 2, none⟩ = some (.int .i64 p.2.to) ∧ W.cell? ⟨(ad.add (k * 4)).block, (ad.add (k * 4)).off + 3, none⟩ = some (.slice Am q cm)) := Lib.hid (fun W hW => ⟨(hW.cell (p := (ad.add (k * 4))) ha').trans p0, (hW.cell (p := ⟨(ad.add (k * 4)).block, (ad.add (k * 4)).off + 1, none⟩) ha').trans p1, (hW.cell (p := ⟨(ad.add (k * 4)).block, (ad.add (k * 4)).off + 2, none⟩) ha').trans p2, (hW.cell (p := ⟨(ad.add (k * 4)).block, (ad.add (k * 4)).off + 3, none⟩) ha').trans p3⟩)
    have HC2 : Hid (∀ W, Below w1.heap.size w1 W → W.cell? (ae.add (k * 4)) = some (.int .i64 t.1) ∧ W.cell? ⟨(ae.add (k * 4)).block, (ae.add (k * 4)).off + 1, none⟩ = some (.int .i64 t.2.fr) ∧ W.cell? ⟨(ae.add (k * 4)).block, (ae.add (k * 4)).off + 2, none⟩ = some (.int .i64 t.2.to) ∧ W.cell? ⟨(ae.add (k * 4)).block, (ae.add (k * 4)).off + 3, none⟩ = some (.slice Bm r dm)) := Lib.hid (fun W hW => ⟨(hW.cell (p := (ae.add (k * 4))) he').trans r0, (hW.cell (p := ⟨(ae.add (k * 4)).block, (ae.add (k * 4)).off + 1, none⟩) he').trans r1, (hW.cell (p := ⟨(ae.add (k * 4)).block, (ae.add (k * 4)).off + 2, none⟩) he').trans r2, (hW.cell (p := ⟨(ae.add (k * 4)).block, (ae.add (k * 4)).off + 3, none⟩) he').trans r3⟩)
    have HM1 : Hid (∀ W, Below w1.heap.size w1 W → MsgV W X p.2 (.agg #[.int .i64 p.2.fr, .int .i64 p.2.to, .slice Am q cm])) := Lib.hid (fun W hW => ⟨_, _, _, rfl, hby.below hW⟩)
    have HM2 : Hid (∀ W, Below w1.heap.size w1 W → MsgV W X' t.2 (.agg #[.int .i64 t.2.fr, .int .i64 t.2.to, .slice Bm r dm])) := Lib.hid (fun W hW => ⟨_, _, _, rfl, hby'.below hW⟩)
    clear p0 p1 p2 p3 r0 r1 r2 r3 hby hby' ha' he' hadl hael
    go_wp2_with fail
    clear x0 x1 x2 y0 y1 y2
    cases hnum : (p.1 == t.1) with
    | false =>
      have HR : Hid (sameS ⟨mo, l, ca⟩ ⟨mo, l', ca⟩ = false) := Lib.hid (sameS_no (fun e => by
        injection e with e1 e2 e3
        have h1 := HP.out
        rw [e2, HQ.out] at h1
        injection h1 with h1
        rw [h1] at hnum
        simp at hnum))
      refine wp_region_np ?_
      refine wp_region_held_drew (S := fun W => Below w1.heap.size w1 W) (by kernel_rfl) HBL.out.drew (fun hHeld => ?_)
      refine wpAnyH_takeAt (i := 0) (d := 34) (v := ?vq0x) rfl rfl (by kernel_rfl) (by kernel_rfl) (by kernel_rfl) (fun _ _ _ h => h) (Or.inl ⟨by rfl, ?hyq0x⟩) hHeld ?_
      case hyq0x =>
        intro W hSw
        clear hSw
        (go_simp; try with_reducible rfl)
      simp only [List.setIfInBounds_toArray, List.set_cons_zero, List.set_cons_succ]
      refine wpAnyH_takeAt (i := 1) (d := 35) (v := ?vq1x) rfl rfl (by kernel_rfl) (by kernel_rfl) (by kernel_rfl) (fun _ _ _ h => h) (Or.inl ⟨by rfl, ?hyq1x⟩) hHeld ?_
      case hyq1x =>
        intro W hSw
        obtain ⟨e0, e1, e2⟩ := Blk.three (HA1.out.below (show Below w1.heap.size w1 W from hSw) HA1.out.lt)
        (go_simp; try with_reducible rfl)
      simp only [List.setIfInBounds_toArray, List.set_cons_zero, List.set_cons_succ]
      refine wpAnyH_takeAt (i := 2) (d := 36) (v := ?vq2x) rfl rfl (by kernel_rfl) (by kernel_rfl) (by kernel_rfl) (fun _ _ _ h => h) (Or.inl ⟨by rfl, ?hyq2x⟩) hHeld ?_
      case hyq2x =>
        intro W hSw
        clear hSw
        (go_simp; try with_reducible rfl)
      simp only [List.setIfInBounds_toArray, List.set_cons_zero, List.set_cons_succ]
      refine wpAnyH_takeAt (i := 3) (d := 37) (v := ?vq3x) rfl rfl (by kernel_rfl) (by kernel_rfl) (by kernel_rfl) (fun _ _ _ h => h) (Or.inl ⟨by rfl, ?hyq3x⟩) hHeld ?_
      case hyq3x =>
        intro W hSw
        clear hSw
        (go_simp; try with_reducible rfl)
      simp only [List.setIfInBounds_toArray, List.set_cons_zero, List.set_cons_succ]
      refine wpAnyH_takeAt (i := 4) (d := 38) (v := ?vq4x) rfl rfl (by kernel_rfl) (by kernel_rfl) (by kernel_rfl) (fun _ _ _ h => h) (Or.inl ⟨by rfl, ?hyq4x⟩) hHeld ?_
      case hyq4x =>
        intro W hSw
        clear hSw
        (go_simp; try with_reducible rfl)
      simp only [List.setIfInBounds_toArray, List.set_cons_zero, List.set_cons_succ]
      refine wpAnyH_takeAt (i := 5) (d := 39) (v := ?vq5x) rfl rfl (by kernel_rfl) (by kernel_rfl) (by kernel_rfl) (fun _ _ _ h => h) (Or.inl ⟨by rfl, ?hyq5x⟩) hHeld ?_
      case hyq5x =>
        intro W hSw
        obtain ⟨e0, e1, e2, e3⟩ := HC1.out W hSw
        (go_simp; try with_reducible rfl)
      simp only [List.setIfInBounds_toArray, List.set_cons_zero, List.set_cons_succ]
      refine wpAnyH_takeAt (i := 6) (d := 40) (v := ?vq6x) rfl rfl (by kernel_rfl) (by kernel_rfl) (by kernel_rfl) (fun _ _ _ h => h) (Or.inl ⟨by rfl, ?hyq6x⟩) hHeld ?_
      case hyq6x =>
        intro W hSw
        clear hSw
        (go_simp; try with_reducible rfl)
      simp only [List.setIfInBounds_toArray, List.set_cons_zero, List.set_cons_succ]
      refine wpAnyH_takeAt (i := 7) (d := 41) (v := ?vq7x) rfl rfl (by kernel_rfl) (by kernel_rfl) (by kernel_rfl) (fun _ _ _ h => h) (Or.inl ⟨by rfl, ?hyq7x⟩) hHeld ?_
      case hyq7x =>
        intro W hSw
        obtain ⟨e0, e1, e2⟩ := Blk.three (HBB.out.below (show Below w1.heap.size w1 W from hSw) HBB.out.lt)
        (go_simp; try with_reducible rfl)
      simp only [List.setIfInBounds_toArray, List.set_cons_zero, List.set_cons_succ]
      refine wpAnyH_takeAt (i := 8) (d := 42) (v := ?vq8x) rfl rfl (by kernel_rfl) (by kernel_rfl) (by kernel_rfl) (fun _ _ _ h => h) (Or.inl ⟨by rfl, ?hyq8x⟩) hHeld ?_
      case hyq8x =>
        intro W hSw
        clear hSw
        (go_simp; try with_reducible rfl)
      simp only [List.setIfInBounds_toArray, List.set_cons_zero, List.set_cons_succ]
      refine wpAnyH_takeAt (i := 9) (d := 43) (v := ?vq9x) rfl rfl (by kernel_rfl) (by kernel_rfl) (by kernel_rfl) (fun _ _ _ h => h) (Or.inl ⟨by rfl, ?hyq9x⟩) hHeld ?_
      case hyq9x =>
        intro W hSw
        clear hSw
        (go_simp; try with_reducible rfl)
      simp only [List.setIfInBounds_toArray, List.set_cons_zero, List.set_cons_succ]
      refine wpAnyH_takeAt (i := 10) (d := 44) (v := ?vq10x) rfl rfl (by kernel_rfl) (by kernel_rfl) (by kernel_rfl) (fun _ _ _ h => h) (Or.inl ⟨by rfl, ?hyq10x⟩) hHeld ?_
      case hyq10x =>
        intro W hSw
        clear hSw
        (go_simp; try with_reducible rfl)
      simp only [List.setIfInBounds_toArray, List.set_cons_zero, List.set_cons_succ]
      refine wpAnyH_takeAt (i := 11) (d := 45) (v := ?vq11x) rfl rfl (by kernel_rfl) (by kernel_rfl) (by kernel_rfl) (fun _ _ _ h => h) (Or.inl ⟨by rfl, ?hyq11x⟩) hHeld ?_
      case hyq11x =>
        intro W hSw
        obtain ⟨e0, e1, e2, e3⟩ := HC2.out W hSw
        (go_simp; try with_reducible rfl)
      simp only [List.setIfInBounds_toArray, List.set_cons_zero, List.set_cons_succ]
      refine wpAnyH_takeAt (i := 12) (d := 46) (v := .bool true) rfl rfl (by kernel_rfl) (by kernel_rfl) (by kernel_rfl) (fun _ _ _ h => h) (Or.inl ⟨by rfl, ?hyq12x⟩) hHeld ?_
      case hyq12x =>
        intro W hSw
        clear hSw
        go_simp
        all_goals (first | with_reducible rfl | (simp [hnum]; done) | (simp at hnum ⊢; exact hnum))
      simp only [List.setIfInBounds_toArray, List.set_cons_zero, List.set_cons_succ]
      refine wpAnyH_takeAt (i := 13) (d := 47) (v := .bool true) rfl rfl (by kernel_rfl) (by kernel_rfl) (by kernel_rfl) (fun _ _ _ h => h) (Or.inl ⟨by rfl, ?hyq13x⟩) hHeld ?_
      case hyq13x =>
        intro W hSw
        clear hSw
        go_simp
        all_goals (first | with_reducible rfl | (simp; done) | (simp; omega))
      simp only [List.setIfInBounds_toArray, List.set_cons_zero, List.set_cons_succ]
      refine wpAnyH_takeAt (i := 14) (d := 48) (v := undef) rfl rfl (by kernel_rfl) (by kernel_rfl) (by kernel_rfl) (fun _ _ _ h => h) (Or.inr ⟨by rfl, rfl⟩) hHeld ?_
      simp only [List.setIfInBounds_toArray, List.set_cons_zero, List.set_cons_succ]
      refine wpAnyH_takeAt (i := 15) (d := 49) (v := undef) rfl rfl (by kernel_rfl) (by kernel_rfl) (by kernel_rfl) (fun _ _ _ h => h) (Or.inr ⟨by rfl, rfl⟩) hHeld ?_
      simp only [List.setIfInBounds_toArray, List.set_cons_zero, List.set_cons_succ]
      refine wpAnyH_takeAt (i := 16) (d := 50) (v := undef) rfl rfl (by kernel_rfl) (by kernel_rfl) (by kernel_rfl) (fun _ _ _ h => h) (Or.inr ⟨by rfl, rfl⟩) hHeld ?_
      simp only [List.setIfInBounds_toArray, List.set_cons_zero, List.set_cons_succ]
      refine wpAnyH_takeAt (i := 17) (d := 51) (v := undef) rfl rfl (by kernel_rfl) (by kernel_rfl) (by kernel_rfl) (fun _ _ _ h => h) (Or.inr ⟨by rfl, rfl⟩) hHeld ?_
      simp only [List.setIfInBounds_toArray, List.set_cons_zero, List.set_cons_succ]
      refine wpAnyH_takeAt (i := 18) (d := 52) (v := undef) rfl rfl (by kernel_rfl) (by kernel_rfl) (by kernel_rfl) (fun _ _ _ h => h) (Or.inr ⟨by rfl, rfl⟩) hHeld ?_
      simp only [List.setIfInBounds_toArray, List.set_cons_zero, List.set_cons_succ]
      refine wpAnyH_takeAt (i := 19) (d := 53) (v := undef) rfl rfl (by kernel_rfl) (by kernel_rfl) (by kernel_rfl) (fun _ _ _ h => h) (Or.inr ⟨by rfl, rfl⟩) hHeld ?_
      simp only [List.setIfInBounds_toArray, List.set_cons_zero, List.set_cons_succ]
      refine wpAnyH_takeAt (i := 20) (d := 54) (v := undef) rfl rfl (by kernel_rfl) (by kernel_rfl) (by kernel_rfl) (fun _ _ _ h => h) (Or.inr ⟨by rfl, rfl⟩) hHeld ?_
      simp only [List.setIfInBounds_toArray, List.set_cons_zero, List.set_cons_succ]
      refine wpAnyH_takeAt (i := 21) (d := 55) (v := undef) rfl rfl (by kernel_rfl) (by kernel_rfl) (by kernel_rfl) (fun _ _ _ h => h) (Or.inr ⟨by rfl, rfl⟩) hHeld ?_
      simp only [List.setIfInBounds_toArray, List.set_cons_zero, List.set_cons_succ]
      refine wpAnyH_takeAt (i := 22) (d := 56) (v := undef) rfl rfl (by kernel_rfl) (by kernel_rfl) (by kernel_rfl) (fun _ _ _ h => h) (Or.inr ⟨by rfl, rfl⟩) hHeld ?_
      simp only [List.setIfInBounds_toArray, List.set_cons_zero, List.set_cons_succ]
      refine wpAnyH_takeAt (i := 23) (d := 57) (v := undef) rfl rfl (by kernel_rfl) (by kernel_rfl) (by kernel_rfl) (fun _ _ _ h => h) (Or.inr ⟨by rfl, rfl⟩) hHeld ?_
      simp only [List.setIfInBounds_toArray, List.set_cons_zero, List.set_cons_succ]
      refine wpAnyH_takeAt (i := 24) (d := 58) (v := undef) rfl rfl (by kernel_rfl) (by kernel_rfl) (by kernel_rfl) (fun _ _ _ h => h) (Or.inr ⟨by rfl, rfl⟩) hHeld ?_
      simp only [List.setIfInBounds_toArray, List.set_cons_zero, List.set_cons_succ]
      refine wpAnyH_takeAt (i := 25) (d := 59) (v := undef) rfl rfl (by kernel_rfl) (by kernel_rfl) (by kernel_rfl) (fun _ _ _ h => h) (Or.inr ⟨by rfl, rfl⟩) hHeld ?_
      simp only [List.setIfInBounds_toArray, List.set_cons_zero, List.set_cons_succ]
      refine wpAnyH_takeAt (i := 26) (d := 60) (v := undef) rfl rfl (by kernel_rfl) (by kernel_rfl) (by kernel_rfl) (fun _ _ _ h => h) (Or.inr ⟨by rfl, rfl⟩) hHeld ?_
      simp only [List.setIfInBounds_toArray, List.set_cons_zero, List.set_cons_succ]
      refine wpAnyH_takeAt (i := 27) (d := 61) (v := undef) rfl rfl (by kernel_rfl) (by kernel_rfl) (by kernel_rfl) (fun _ _ _ h => h) (Or.inr ⟨by rfl, rfl⟩) hHeld ?_
      simp only [List.setIfInBounds_toArray, List.set_cons_zero, List.set_cons_succ]
      refine wpAnyH_takeAt (i := 28) (d := 62) (v := ?vq14x) rfl rfl (by kernel_rfl) (by kernel_rfl) (by kernel_rfl) (fun _ _ _ h => h) (Or.inl ⟨by rfl, ?hyq14x⟩) hHeld ?_
      case hyq14x =>
        intro W hSw
        clear hSw
        (go_simp; try with_reducible rfl)
      simp only [List.setIfInBounds_toArray, List.set_cons_zero, List.set_cons_succ]
      refine wpAnyH_done (by kernel_rfl) ?_ _
      go_wp2_with fail
      go_ret
      exact ⟨ret_bool HR.out.symm, HFIN.out _ hHeld⟩
    | true =>
      have HE : Hid (p.1 = t.1) := Lib.hid (by simpa using hnum)
      refine wp_region_np ?_
      refine wp_region_held_drew (S := fun W => Below w1.heap.size w1 W) (by kernel_rfl) HBL.out.drew (fun hHeld => ?_)
      refine wpAnyH_takeAt (i := 0) (d := 34) (v := ?vq15x) rfl rfl (by kernel_rfl) (by kernel_rfl) (by kernel_rfl) (fun _ _ _ h => h) (Or.inl ⟨by rfl, ?hyq15x⟩) hHeld ?_
      case hyq15x =>
        intro W hSw
        clear hSw
        (go_simp; try with_reducible rfl)
      simp only [List.setIfInBounds_toArray, List.set_cons_zero, List.set_cons_succ]
      refine wpAnyH_takeAt (i := 1) (d := 35) (v := ?vq16x) rfl rfl (by kernel_rfl) (by kernel_rfl) (by kernel_rfl) (fun _ _ _ h => h) (Or.inl ⟨by rfl, ?hyq16x⟩) hHeld ?_
      case hyq16x =>
        intro W hSw
        obtain ⟨e0, e1, e2⟩ := Blk.three (HA1.out.below (show Below w1.heap.size w1 W from hSw) HA1.out.lt)
        (go_simp; try with_reducible rfl)
      simp only [List.setIfInBounds_toArray, List.set_cons_zero, List.set_cons_succ]
      refine wpAnyH_takeAt (i := 2) (d := 36) (v := ?vq17x) rfl rfl (by kernel_rfl) (by kernel_rfl) (by kernel_rfl) (fun _ _ _ h => h) (Or.inl ⟨by rfl, ?hyq17x⟩) hHeld ?_
      case hyq17x =>
        intro W hSw
        clear hSw
        (go_simp; try with_reducible rfl)
      simp only [List.setIfInBounds_toArray, List.set_cons_zero, List.set_cons_succ]
      refine wpAnyH_takeAt (i := 3) (d := 37) (v := ?vq18x) rfl rfl (by kernel_rfl) (by kernel_rfl) (by kernel_rfl) (fun _ _ _ h => h) (Or.inl ⟨by rfl, ?hyq18x⟩) hHeld ?_
      case hyq18x =>
        intro W hSw
        clear hSw
        (go_simp; try with_reducible rfl)
      simp only [List.setIfInBounds_toArray, List.set_cons_zero, List.set_cons_succ]
      refine wpAnyH_takeAt (i := 4) (d := 38) (v := ?vq19x) rfl rfl (by kernel_rfl) (by kernel_rfl) (by kernel_rfl) (fun _ _ _ h => h) (Or.inl ⟨by rfl, ?hyq19x⟩) hHeld ?_
      case hyq19x =>
        intro W hSw
        clear hSw
        (go_simp; try with_reducible rfl)
      simp only [List.setIfInBounds_toArray, List.set_cons_zero, List.set_cons_succ]
      refine wpAnyH_takeAt (i := 5) (d := 39) (v := ?vq20x) rfl rfl (by kernel_rfl) (by kernel_rfl) (by kernel_rfl) (fun _ _ _ h => h) (Or.inl ⟨by rfl, ?hyq20x⟩) hHeld ?_
      case hyq20x =>
        intro W hSw
        obtain ⟨e0, e1, e2, e3⟩ := HC1.out W hSw
        (go_simp; try with_reducible rfl)
      simp only [List.setIfInBounds_toArray, List.set_cons_zero, List.set_cons_succ]
      refine wpAnyH_takeAt (i := 6) (d := 40) (v := ?vq21x) rfl rfl (by kernel_rfl) (by kernel_rfl) (by kernel_rfl) (fun _ _ _ h => h) (Or.inl ⟨by rfl, ?hyq21x⟩) hHeld ?_
      case hyq21x =>
        intro W hSw
        clear hSw
        (go_simp; try with_reducible rfl)
      simp only [List.setIfInBounds_toArray, List.set_cons_zero, List.set_cons_succ]
      refine wpAnyH_takeAt (i := 7) (d := 41) (v := ?vq22x) rfl rfl (by kernel_rfl) (by kernel_rfl) (by kernel_rfl) (fun _ _ _ h => h) (Or.inl ⟨by rfl, ?hyq22x⟩) hHeld ?_
      case hyq22x =>
        intro W hSw
        obtain ⟨e0, e1, e2⟩ := Blk.three (HBB.out.below (show Below w1.heap.size w1 W from hSw) HBB.out.lt)
        (go_simp; try with_reducible rfl)
      simp only [List.setIfInBounds_toArray, List.set_cons_zero, List.set_cons_succ]
      refine wpAnyH_takeAt (i := 8) (d := 42) (v := ?vq23x) rfl rfl (by kernel_rfl) (by kernel_rfl) (by kernel_rfl) (fun _ _ _ h => h) (Or.inl ⟨by rfl, ?hyq23x⟩) hHeld ?_
      case hyq23x =>
        intro W hSw
        clear hSw
        (go_simp; try with_reducible rfl)
      simp only [List.setIfInBounds_toArray, List.set_cons_zero, List.set_cons_succ]
      refine wpAnyH_takeAt (i := 9) (d := 43) (v := ?vq24x) rfl rfl (by kernel_rfl) (by kernel_rfl) (by kernel_rfl) (fun _ _ _ h => h) (Or.inl ⟨by rfl, ?hyq24x⟩) hHeld ?_
      case hyq24x =>
        intro W hSw
        clear hSw
        (go_simp; try with_reducible rfl)
      simp only [List.setIfInBounds_toArray, List.set_cons_zero, List.set_cons_succ]
      refine wpAnyH_takeAt (i := 10) (d := 44) (v := ?vq25x) rfl rfl (by kernel_rfl) (by kernel_rfl) (by kernel_rfl) (fun _ _ _ h => h) (Or.inl ⟨by rfl, ?hyq25x⟩) hHeld ?_
      case hyq25x =>
        intro W hSw
        clear hSw
        (go_simp; try with_reducible rfl)
      simp only [List.setIfInBounds_toArray, List.set_cons_zero, List.set_cons_succ]
      refine wpAnyH_takeAt (i := 11) (d := 45) (v := ?vq26x) rfl rfl (by kernel_rfl) (by kernel_rfl) (by kernel_rfl) (fun _ _ _ h => h) (Or.inl ⟨by rfl, ?hyq26x⟩) hHeld ?_
      case hyq26x =>
        intro W hSw
        obtain ⟨e0, e1, e2, e3⟩ := HC2.out W hSw
        (go_simp; try with_reducible rfl)
      simp only [List.setIfInBounds_toArray, List.set_cons_zero, List.set_cons_succ]
      refine wpAnyH_takeAt (i := 12) (d := 46) (v := .bool false) rfl rfl (by kernel_rfl) (by kernel_rfl) (by kernel_rfl) (fun _ _ _ h => h) (Or.inl ⟨by rfl, ?hyq27x⟩) hHeld ?_
      case hyq27x =>
        intro W hSw
        clear hSw
        go_simp
        all_goals (first | with_reducible rfl | (simp [hnum]; done) | (simp [HE.out]; done))
      simp only [List.setIfInBounds_toArray, List.set_cons_zero, List.set_cons_succ]
      refine wpAnyH_takeAt (i := 13) (d := 47) (v := .bool false) rfl rfl (by kernel_rfl) (by kernel_rfl) (by kernel_rfl) (fun _ _ _ h => h) (Or.inl ⟨by rfl, ?hyq28x⟩) hHeld ?_
      case hyq28x =>
        intro W hSw
        clear hSw
        go_simp
        all_goals (first | with_reducible rfl | (simp; done) | (simp; omega))
      simp only [List.setIfInBounds_toArray, List.set_cons_zero, List.set_cons_succ]
      refine wpAnyH_takeAt (i := 14) (d := 48) (v := ?vq29x) rfl rfl (by kernel_rfl) (by kernel_rfl) (by kernel_rfl) (fun _ _ _ h => h) (Or.inl ⟨by rfl, ?hyq29x⟩) hHeld ?_
      case hyq29x =>
        intro W hSw
        clear hSw
        (go_simp; try with_reducible rfl)
      simp only [List.setIfInBounds_toArray, List.set_cons_zero, List.set_cons_succ]
      refine wpAnyH_takeAt (i := 15) (d := 49) (v := ?vq30x) rfl rfl (by kernel_rfl) (by kernel_rfl) (by kernel_rfl) (fun _ _ _ h => h) (Or.inl ⟨by rfl, ?hyq30x⟩) hHeld ?_
      case hyq30x =>
        intro W hSw
        obtain ⟨e0, e1, e2⟩ := Blk.three (HA1.out.below (show Below w1.heap.size w1 W from hSw) HA1.out.lt)
        (go_simp; try with_reducible rfl)
      simp only [List.setIfInBounds_toArray, List.set_cons_zero, List.set_cons_succ]
      refine wpAnyH_takeAt (i := 16) (d := 50) (v := ?vq31x) rfl rfl (by kernel_rfl) (by kernel_rfl) (by kernel_rfl) (fun _ _ _ h => h) (Or.inl ⟨by rfl, ?hyq31x⟩) hHeld ?_
      case hyq31x =>
        intro W hSw
        clear hSw
        (go_simp; try with_reducible rfl)
      simp only [List.setIfInBounds_toArray, List.set_cons_zero, List.set_cons_succ]
      refine wpAnyH_takeAt (i := 17) (d := 51) (v := ?vq32x) rfl rfl (by kernel_rfl) (by kernel_rfl) (by kernel_rfl) (fun _ _ _ h => h) (Or.inl ⟨by rfl, ?hyq32x⟩) hHeld ?_
      case hyq32x =>
        intro W hSw
        clear hSw
        (go_simp; try with_reducible rfl)
      simp only [List.setIfInBounds_toArray, List.set_cons_zero, List.set_cons_succ]
      refine wpAnyH_takeAt (i := 18) (d := 52) (v := ?vq33x) rfl rfl (by kernel_rfl) (by kernel_rfl) (by kernel_rfl) (fun _ _ _ h => h) (Or.inl ⟨by rfl, ?hyq33x⟩) hHeld ?_
      case hyq33x =>
        intro W hSw
        clear hSw
        (go_simp; try with_reducible rfl)
      simp only [List.setIfInBounds_toArray, List.set_cons_zero, List.set_cons_succ]
      refine wpAnyH_takeAt (i := 19) (d := 53) (v := ?vq34x) rfl rfl (by kernel_rfl) (by kernel_rfl) (by kernel_rfl) (fun _ _ _ h => h) (Or.inl ⟨by rfl, ?hyq34x⟩) hHeld ?_
      case hyq34x =>
        intro W hSw
        obtain ⟨e0, e1, e2, e3⟩ := HC1.out W hSw
        (go_simp; try with_reducible rfl)
      simp only [List.setIfInBounds_toArray, List.set_cons_zero, List.set_cons_succ]
      refine wpAnyH_takeAt (i := 20) (d := 54) (v := ?vq35x) rfl rfl (by kernel_rfl) (by kernel_rfl) (by kernel_rfl) (fun _ _ _ h => h) (Or.inl ⟨by rfl, ?hyq35x⟩) hHeld ?_
      case hyq35x =>
        intro W hSw
        clear hSw
        (go_simp; try with_reducible rfl)
      simp only [List.setIfInBounds_toArray, List.set_cons_zero, List.set_cons_succ]
      refine wpAnyH_takeAt (i := 21) (d := 55) (v := ?vq36x) rfl rfl (by kernel_rfl) (by kernel_rfl) (by kernel_rfl) (fun _ _ _ h => h) (Or.inl ⟨by rfl, ?hyq36x⟩) hHeld ?_
      case hyq36x =>
        intro W hSw
        obtain ⟨e0, e1, e2⟩ := Blk.three (HBB.out.below (show Below w1.heap.size w1 W from hSw) HBB.out.lt)
        (go_simp; try with_reducible rfl)
      simp only [List.setIfInBounds_toArray, List.set_cons_zero, List.set_cons_succ]
      refine wpAnyH_takeAt (i := 22) (d := 56) (v := ?vq37x) rfl rfl (by kernel_rfl) (by kernel_rfl) (by kernel_rfl) (fun _ _ _ h => h) (Or.inl ⟨by rfl, ?hyq37x⟩) hHeld ?_
      case hyq37x =>
        intro W hSw
        clear hSw
        (go_simp; try with_reducible rfl)
      simp only [List.setIfInBounds_toArray, List.set_cons_zero, List.set_cons_succ]
      refine wpAnyH_takeAt (i := 23) (d := 57) (v := ?vq38x) rfl rfl (by kernel_rfl) (by kernel_rfl) (by kernel_rfl) (fun _ _ _ h => h) (Or.inl ⟨by rfl, ?hyq38x⟩) hHeld ?_
      case hyq38x =>
        intro W hSw
        clear hSw
        (go_simp; try with_reducible rfl)
      simp only [List.setIfInBounds_toArray, List.set_cons_zero, List.set_cons_succ]
      refine wpAnyH_takeAt (i := 24) (d := 58) (v := ?vq39x) rfl rfl (by kernel_rfl) (by kernel_rfl) (by kernel_rfl) (fun _ _ _ h => h) (Or.inl ⟨by rfl, ?hyq39x⟩) hHeld ?_
      case hyq39x =>
        intro W hSw
        clear hSw
        (go_simp; try with_reducible rfl)
      simp only [List.setIfInBounds_toArray, List.set_cons_zero, List.set_cons_succ]
      refine wpAnyH_takeAt (i := 25) (d := 59) (v := ?vq40x) rfl rfl (by kernel_rfl) (by kernel_rfl) (by kernel_rfl) (fun _ _ _ h => h) (Or.inl ⟨by rfl, ?hyq40x⟩) hHeld ?_
      case hyq40x =>
        intro W hSw
        obtain ⟨e0, e1, e2, e3⟩ := HC2.out W hSw
        (go_simp; try with_reducible rfl)
      simp only [List.setIfInBounds_toArray, List.set_cons_zero, List.set_cons_succ]
      refine wpAnyH_ready (rs := [26]) (by kernel_rfl) (by simp) (AllReadyH.cons rfl (fun K hK => ?_) AllReadyH.nil)
      go_simp
      refine (sameMsg_any (HM1.out _ hHeld) (HM2.out _ hHeld)).mono ?_
      rintro e w5 ⟨rfl, hb5⟩
      have hH : Below w1.heap.size w1 wr.drew := hHeld
      refine hK.out _ _ (hH.trans (hb5.mono hH.size)) (fun hHeld => ?_)
      clear hK K
      try simp only [List.setIfInBounds_toArray, List.set_cons_zero, List.set_cons_succ]
      refine wpAnyH_takeAt (i := 27) (d := 61) (v := ?vq41x) rfl rfl (by kernel_rfl) (by kernel_rfl) (by kernel_rfl) (fun _ _ _ h => h) (Or.inl ⟨by rfl, ?hyq41x⟩) hHeld ?_
      case hyq41x =>
        intro W hSw
        clear hSw
        (go_simp; try with_reducible rfl)
      simp only [List.setIfInBounds_toArray, List.set_cons_zero, List.set_cons_succ]
      refine wpAnyH_takeAt (i := 28) (d := 62) (v := ?vq42x) rfl rfl (by kernel_rfl) (by kernel_rfl) (by kernel_rfl) (fun _ _ _ h => h) (Or.inl ⟨by rfl, ?hyq42x⟩) hHeld ?_
      case hyq42x =>
        intro W hSw
        clear hSw
        (go_simp; try with_reducible rfl)
      simp only [List.setIfInBounds_toArray, List.set_cons_zero, List.set_cons_succ]
      refine wpAnyH_done (by kernel_rfl) ?_ _
      replace hHeld : Below w1.heap.size w1 w5 := hHeld
      obtain ⟨y0, y1, y2⟩ := (HBB.out.below hHeld HBB.out.lt).three
      cases hsm : sameM p.2 t.2 with
      | true =>
        have HPT : Hid (p = t) := Lib.hid (Prod.ext HE.out (sameM_iff.1 hsm))
        go_wp2_with fail
        exact ⟨⟨k + 1, by omega, by go_num, fun j hj => by
          by_cases hjk : j < k
          · exact HSM.out j hjk
          · obtain rfl : j = k := by omega
            rw [HP.out, HQ.out, HPT.out], hHeld⟩, by simp [intOf]; omega⟩
      | false =>
        have HR : Hid (sameS ⟨mo, l, ca⟩ ⟨mo, l', ca⟩ = false) := Lib.hid (sameS_no (fun e => by
          injection e with e1 e2 e3
          have h1 := HP.out
          rw [e2, HQ.out] at h1
          injection h1 with h1
          rw [h1, sameM_refl] at hsm
          cases hsm))
        go_wp2_with fail
        go_ret
        exact ⟨ret_bool HR.out.symm, HFIN.out _ hHeld⟩
end Go.Proofs.Yticabfmjdjcfnaa
