/-
  EpochsAsks, walked. Conditions: bounds.
-/
import Derived.Test.YtabbkghnijebpaaSameS
import Derived.Deep.RegionHeld3
namespace Go.Proofs.Ytabbkghnijebpaa
open Go.RowKit
set_option maxHeartbeats 8000000 in
set_option maxRecDepth 100000 in
theorem walkYes (a0 : Option Addr) (len0 cap0 : Nat) (z0 : Nat → Int) (a1 : Option Addr) (len1 cap1 : Nat) (z1 : Nat → Int) (a2 : Option Addr) (len2 cap2 : Nat) (z2 : Nat → Int) (w : World) (b0 : Ints w a0 len0 z0) (b1 : Ints w a1 len1 z1) (b2 : Ints w a2 len2 z2) (h60 : len0 ≤ 60) (h20 : len1 ≤ 20) (h21 : len2 ≤ 20) (hm : May (fun i => (lf z0 i).1) len0) :
    Calls Try.prog 3 #[.slice a0 len0 cap0, .slice a1 len1 cap1, .slice a2 len2 cap2] w fun e w' => e = .returned (.bool true) ∧ Below w.heap.size w w' := by
  have hkn := known_any
  have hd0 : decide (60 < len0) = false := by simp; omega
  have hd1 : decide (20 < len1) = false := by simp; omega
  have hd2 : decide (20 < len2) = false := by simp; omega
  have hlg := log_any (c := cap0) b0 (by omega)
  go_enter Try.func3, Try.ntmps3
  go_wp2_with fail
  refine hlg.mono ?_
  rintro e w1 ⟨A, c, rfl, hl, hnc, hcm, hb1⟩
  have HL1 := Lib.hid hl
  have hRM := refMay_any (c := c) hl (by omega)
  rw [decide_eq_true hm] at hRM
  have HM := Lib.hid hm
  clear hl hlg hm
  go_wp2_with fail
  refine hRM.mono ?_
  rintro e w2 ⟨rfl, hb2⟩
  have HB2 := Lib.hid hb2
  have hS := Starts_yes (c := c) (HL1.out.below HB2.out) HM.out
  go_wp2_with fail
  refine hS.mono ?_
  rintro e w3 ⟨S, cs, rfl, hst, hsc, hsm, hb3⟩
  have hsl := starts_len (fun i => (lf z0 i).1) len0
  have HB3 := Lib.hid (HB2.out.trans (hb3.mono HB2.out.size))
  have hLa := Last_any (c := c) (HL1.out.below HB3.out) (by omega)
  rw [if_pos HM.out, ask_yes ⟨by omega, by omega, HM.out⟩] at hLa
  generalize hns : (starts (fun i => (lf z0 i).1) len0).length = ns at *
  have HNS := Lib.hid hns
  have HST := Lib.hid hst
  generalize hla : lastTo (fun i => (lf z0 i).1) len0 = la at *
  have HLA := Lib.hid hla
  clear hst hns hla
  go_wp2_with fail
  refine hLa.mono ?_
  rintro e w4 ⟨rfl, hb4⟩
  have HB34 := Lib.hid hb4
  have HB4 := Lib.hid (HB3.out.trans (hb4.mono HB3.out.size))
  have hMy := may_any (c := c) (HL1.out.below HB4.out) (by omega)
  rw [decide_eq_true HM.out] at hMy
  clear hRM hS hLa hb2 hb3 hb4
  go_wp2_with fail
  refine hMy.mono ?_
  rintro e w4a ⟨rfl, hb5'⟩
  have HB5 := Lib.hid (HB4.out.trans (hb5'.mono HB4.out.size))
  have HB35 := Lib.hid (HB34.out.trans (hb5'.mono HB34.out.size))
  have hRL := refLast_any (c := c) (HL1.out.below HB5.out) (by omega)
  rw [HLA.out] at hRL
  have bla : (la != la) = false := by simp
  clear hMy hb5'
  go_wp2_with fail
  refine hRL.mono ?_
  rintro e w4b ⟨rfl, rfl⟩
  have hRS := refStarts_any (c := c) (HL1.out.below HB5.out) (by omega)
  clear hRL
  go_wp2_with fail
  refine hRS.mono ?_
  rintro e w4c ⟨R, cr, rfl, hrt, hrc, hrm, hb6⟩
  rw [HNS.out] at hrt hrc
  rw [HNS.out]
  have HB6 := Lib.hid (HB5.out.trans (hb6.mono HB5.out.size))
  have HB36 := Lib.hid (HB35.out.trans (hb6.mono HB35.out.size))
  have hSS := sameStarts_any (c := cs) (c' := cr) (HST.out.below HB36.out) hrt (by omega)
  clear hRS hb6 hrt
  go_wp2_with fail
  refine hSS.mono ?_
  rintro e w5 ⟨rfl, hb7⟩
  have HB7 := Lib.hid (HB6.out.trans (hb7.mono HB6.out.size))
  have hb5 := Lib.hid (hb1.trans (HB7.out.mono hb1.size))
  have HL := Lib.hid (HL1.out.below HB7.out)
  have HI1 := Lib.hid (b1.below hb5.out)
  have HI2 := Lib.hid (b2.below hb5.out)
  clear hSS hb7 b0 b1 b2 hb1
  go_wp2_with fail
  go_loopw [13] (fun v wr => ∃ i : Nat, i ≤ len1 ∧ v = .int .i64 i ∧ Below w5.heap.size w5 wr) (fun v _ => len1 - (intOf v).toNat)
  case atStart => exact ⟨0, by omega, rfl, Below.refl _ _⟩
  case round =>
    obtain ⟨i, hi, rfl, hbr⟩ := hrel
    have HB0 := Lib.hid hbr
    clear hbr
    by_cases hli : i < len1
    case neg =>
      have hdi : decide (i < len1) = false := by simpa using hli
      have hb15 := hb5.out.trans (HB0.out.mono hb5.out.size)
      go_wp2_with fail
      refine (hkn _).mono ?_
      rintro e wk ⟨rfl, hbk⟩
      go_wp2_with fail
      go_ret
      exact ⟨rfl, hb15.trans (hbk.mono hb15.size)⟩
    case pos =>
    obtain ⟨ad1, had1, hl1w, ce0⟩ := HI1.out.at_ hli
    subst had1
    have cer := (HB0.out.cell (p := ad1.add i) (by rw [block_of_add]; exact hl1w)).trans ce0
    have hEn := End_any (c := c) (HL.out.below HB0.out) (by omega) hnc (z1 i)
    by_cases hneg : z1 i < 0
    case pos =>
      have hdneg : decide (z1 i < 0) = true := by simpa using hneg
      have hno : ¬ Can (fun i => (lf z0 i).1) len0 (z1 i) 0 := fun h => by have := h.1; omega
      rw [ask_no hno, if_neg hno, if_neg hno] at hEn
      clear hno
      go_wp2_with fail
      refine hEn.mono ?_
      rintro e wa ⟨rfl, hba⟩
      have HBR := Lib.hid (HB0.out.trans (hba.mono HB0.out.size))
      have cea := (HBR.out.cell (p := ad1.add i) (by rw [block_of_add]; exact hl1w)).trans ce0
      have hRE := refEnd_any (c := c) (HL.out.below HBR.out) (by omega) (z1 i)
      clear hEn cer
      generalize lastTo (fun i => (lf z0 i).1) (nab (fun i => (lf z0 i).1) (z1 i) len0) = y at hRE
      generalize nab (fun i => (lf z0 i).1) (z1 i) len0 = q at hRE
      go_wp2_with fail
      refine hRE.mono ?_
      rintro e wb ⟨rfl, rfl⟩
      clear hRE
      go_wp2_with fail
      go_loopw [19] (fun v wr => ∃ k : Nat, k ≤ len2 ∧ v = .int .i64 k ∧ Below w5.heap.size w5 wr) (fun v _ => len2 - (intOf v).toNat)
      case atStart => exact ⟨0, by omega, rfl, HBR.out⟩
      case round =>
        obtain ⟨k, hk, rfl, hbr⟩ := hrel
        have HB := Lib.hid hbr
        clear hbr
        by_cases hlk : k < len2
        case neg =>
          have hdk : decide (k < len2) = false := by simpa using hlk
          go_wp2_with fail
          exact ⟨⟨i + 1, by omega, by go_num, HB.out⟩, by simp [intOf]; omega⟩
        case pos =>
        obtain ⟨ad2, had2, hl2, cn⟩ := (HI2.out.below HB.out).at_ hlk
        subst had2
        have ce := (HB.out.cell (p := ad1.add i) (by rw [block_of_add]; exact hl1w)).trans ce0
        have hl1 : ad1.block < wr.heap.size := Nat.lt_of_lt_of_le hl1w HB.out.size
        have hd8 : decide (z1 i < 0) = true := by simpa using hneg
        have hno : ¬ Can (fun i => (lf z0 i).1) len0 (z1 i) (z2 k) := fun h => by have := h.1; omega
        have hF : Calls Try.prog 20 #[.slice A len0 c, .int .i64 (z2 k), .int .i64 (z1 i)] wr.drew fun e w' => e = .returned (.tuple #[.bool false, .int .i64 2]) ∧ Below wr.drew.heap.size wr.drew w' := by
          have := Fits_any (w := wr.drew) (c := c) ((HL.out.below HB.out).below (Below.refl _ _).drew) (by omega) hnc (z2 k) (z1 i)
          rwa [ask_no hno, decide_eq_false (fun h => hno h.1)] at this
        have HNO := Lib.hid hno
        clear hno
        go_wp2_with fail
        refine wp_region_np ?_
        refine wp_region_held_drew (S := fun W => Below wr.heap.size wr W) (by kernel_rfl) (show Below wr.heap.size wr wr.drew from (Below.refl _ _).drew) (fun hHeld => ?_)
        refine wpAnyH_takeAt (i := 0) (d := 158) (v := ?vq28x) rfl rfl (by kernel_rfl) (by kernel_rfl) (by kernel_rfl) (fun _ _ _ h => h) (Or.inl ⟨by rfl, ?hyq28x⟩) hHeld ?_
        case hyq28x =>
          intro W hSw
          clear hSw
          (go_simp; try with_reducible rfl)
        simp only [List.setIfInBounds_toArray, List.set_cons_zero, List.set_cons_succ]
        refine wpAnyH_takeAt (i := 1) (d := 159) (v := ?vq29x) rfl rfl (by kernel_rfl) (by kernel_rfl) (by kernel_rfl) (fun _ _ _ h => h) (Or.inl ⟨by rfl, ?hyq29x⟩) hHeld ?_
        case hyq29x =>
          intro W hSw
          clear hSw
          (go_simp; try with_reducible rfl)
        simp only [List.setIfInBounds_toArray, List.set_cons_zero, List.set_cons_succ]
        refine wpAnyH_takeAt (i := 2) (d := 160) (v := ?vq30x) rfl rfl (by kernel_rfl) (by kernel_rfl) (by kernel_rfl) (fun _ _ _ h => h) (Or.inl ⟨by rfl, ?hyq30x⟩) hHeld ?_
        case hyq30x =>
          intro W hSw
          clear hSw
          (go_simp; try with_reducible rfl)
        simp only [List.setIfInBounds_toArray, List.set_cons_zero, List.set_cons_succ]
        refine wpAnyH_takeAt (i := 3) (d := 161) (v := ?vq31x) rfl rfl (by kernel_rfl) (by kernel_rfl) (by kernel_rfl) (fun _ _ _ h => h) (Or.inl ⟨by rfl, ?hyq31x⟩) hHeld ?_
        case hyq31x =>
          intro W hSw
          clear hSw
          (go_simp; try with_reducible rfl)
        simp only [List.setIfInBounds_toArray, List.set_cons_zero, List.set_cons_succ]
        refine wpAnyH_takeAt (i := 4) (d := 162) (v := ?vq32x) rfl rfl (by kernel_rfl) (by kernel_rfl) (by kernel_rfl) (fun _ _ _ h => h) (Or.inl ⟨by rfl, ?hyq32x⟩) hHeld ?_
        case hyq32x =>
          intro W hSw
          have qc : W.cell? (ad2.add k) = some (.int .i64 (z2 k)) := (hSw.cell (p := ad2.add k) (by rw [block_of_add]; exact hl2)).trans cn; clear hSw
          (go_simp; try with_reducible rfl)
        simp only [List.setIfInBounds_toArray, List.set_cons_zero, List.set_cons_succ]
        refine wpAnyH_takeAt (i := 5) (d := 163) (v := ?vq33x) rfl rfl (by kernel_rfl) (by kernel_rfl) (by kernel_rfl) (fun _ _ _ h => h) (Or.inl ⟨by rfl, ?hyq33x⟩) hHeld ?_
        case hyq33x =>
          intro W hSw
          clear hSw
          (go_simp; try with_reducible rfl)
        simp only [List.setIfInBounds_toArray, List.set_cons_zero, List.set_cons_succ]
        refine wpAnyH_takeAt (i := 6) (d := 164) (v := ?vq34x) rfl rfl (by kernel_rfl) (by kernel_rfl) (by kernel_rfl) (fun _ _ _ h => h) (Or.inl ⟨by rfl, ?hyq34x⟩) hHeld ?_
        case hyq34x =>
          intro W hSw
          clear hSw
          (go_simp; try with_reducible rfl)
        simp only [List.setIfInBounds_toArray, List.set_cons_zero, List.set_cons_succ]
        refine wpAnyH_takeAt (i := 7) (d := 165) (v := ?vq35x) rfl rfl (by kernel_rfl) (by kernel_rfl) (by kernel_rfl) (fun _ _ _ h => h) (Or.inl ⟨by rfl, ?hyq35x⟩) hHeld ?_
        case hyq35x =>
          intro W hSw
          clear hSw
          (go_simp; try with_reducible rfl)
        simp only [List.setIfInBounds_toArray, List.set_cons_zero, List.set_cons_succ]
        refine wpAnyH_takeAt (i := 8) (d := 166) (v := ?vq36x) rfl rfl (by kernel_rfl) (by kernel_rfl) (by kernel_rfl) (fun _ _ _ h => h) (Or.inl ⟨by rfl, ?hyq36x⟩) hHeld ?_
        case hyq36x =>
          intro W hSw
          have qc : W.cell? (ad1.add i) = some (.int .i64 (z1 i)) := (hSw.cell (p := ad1.add i) (by rw [block_of_add]; exact hl1)).trans ce; clear hSw
          (go_simp; try with_reducible rfl)
        simp only [List.setIfInBounds_toArray, List.set_cons_zero, List.set_cons_succ]
        refine wpAnyH_ready (rs := [9]) (by kernel_rfl) (by simp) (AllReadyH.cons rfl (fun K hK => ?_) AllReadyH.nil)
        go_simp
        refine hF.mono ?_
        rintro e w6 ⟨rfl, hbw6⟩
        dsimp only
        have hcw6 : Below wr.heap.size wr w6 := ((Below.refl _ _).drew).trans hbw6
        refine hK.out _ _ (show Below wr.heap.size wr w6 from hcw6) (fun hHeld => ?_)
        clear hK K
        try simp only [List.setIfInBounds_toArray, List.set_cons_zero, List.set_cons_succ]
        refine wpAnyH_takeAt (i := 10) (d := 157) (v := ?vq37x) rfl rfl (by kernel_rfl) (by kernel_rfl) (by kernel_rfl) (fun _ _ _ h => h) (Or.inl ⟨by rfl, ?hyq37x⟩) hHeld ?_
        case hyq37x =>
          intro W hSw
          clear hSw
          (go_simp; try with_reducible rfl)
        simp only [List.setIfInBounds_toArray, List.set_cons_zero, List.set_cons_succ]
        refine wpAnyH_takeAt (i := 11) (d := 168) (v := ?vq38x) rfl rfl (by kernel_rfl) (by kernel_rfl) (by kernel_rfl) (fun _ _ _ h => h) (Or.inl ⟨by rfl, ?hyq38x⟩) hHeld ?_
        case hyq38x =>
          intro W hSw
          clear hSw
          (go_simp; try with_reducible rfl)
        simp only [List.setIfInBounds_toArray, List.set_cons_zero, List.set_cons_succ]
        refine wpAnyH_takeAt (i := 12) (d := 169) (v := ?vq39x) rfl rfl (by kernel_rfl) (by kernel_rfl) (by kernel_rfl) (fun _ _ _ h => h) (Or.inl ⟨by rfl, ?hyq39x⟩) hHeld ?_
        case hyq39x =>
          intro W hSw
          clear hSw
          (go_simp; try with_reducible rfl)
        simp only [List.setIfInBounds_toArray, List.set_cons_zero, List.set_cons_succ]
        refine wpAnyH_takeAt (i := 13) (d := 20) (v := ?vq40x) rfl rfl (by kernel_rfl) (by kernel_rfl) (by kernel_rfl) (fun _ _ _ h => h) (Or.inl ⟨by rfl, ?hyq40x⟩) hHeld ?_
        case hyq40x =>
          intro W hSw
          clear hSw
          (go_simp; try with_reducible rfl)
        simp only [List.setIfInBounds_toArray, List.set_cons_zero, List.set_cons_succ]
        refine wpAnyH_takeAt (i := 14) (d := 21) (v := ?vq41x) rfl rfl (by kernel_rfl) (by kernel_rfl) (by kernel_rfl) (fun _ _ _ h => h) (Or.inl ⟨by rfl, ?hyq41x⟩) hHeld ?_
        case hyq41x =>
          intro W hSw
          clear hSw
          (go_simp; try with_reducible rfl)
        simp only [List.setIfInBounds_toArray, List.set_cons_zero, List.set_cons_succ]
        refine wpAnyH_done (by kernel_rfl) ?_ _
        clear hHeld hF
        have ce' : w6.cell? (ad1.add i) = some (.int .i64 (z1 i)) := (hcw6.cell (p := ad1.add i) (by rw [block_of_add]; exact hl1)).trans ce
        have cn' : w6.cell? (ad2.add k) = some (.int .i64 (z2 k)) := (hcw6.cell (p := ad2.add k) (by rw [block_of_add]; exact hl2)).trans cn
        have hl1' : ad1.block < w6.heap.size := Nat.lt_of_lt_of_le hl1 hcw6.size
        have hl2' : ad2.block < w6.heap.size := Nat.lt_of_lt_of_le hl2 hcw6.size
        have HB6 := Lib.hid (HB.out.trans (hcw6.mono HB.out.size))
        clear ce cn hl1 hl2
        have hC : Calls Try.prog 21 #[.slice A len0 c, .int .i64 (z1 i), .int .i64 (z2 k)] w6.drew fun e w' => e = .returned (.tuple #[.int .i64 0, .int .i64 2]) ∧ Below w6.drew.heap.size w6.drew w' := by
          have := Cut_any (w := w6.drew) (c := c) ((HL.out.below HB6.out).below (Below.refl _ _).drew) (by omega) (z1 i) (z2 k)
          rwa [ask_no HNO.out, if_neg HNO.out] at this
        go_wp2_with fail
        refine wp_region_np ?_
        refine wp_region_held_drew (S := fun W => Below w6.heap.size w6 W) (by kernel_rfl) (show Below w6.heap.size w6 w6.drew from (Below.refl _ _).drew) (fun hHeld => ?_)
        refine wpAnyH_takeAt (i := 0) (d := 171) (v := ?vq42x) rfl rfl (by kernel_rfl) (by kernel_rfl) (by kernel_rfl) (fun _ _ _ h => h) (Or.inl ⟨by rfl, ?hyq42x⟩) hHeld ?_
        case hyq42x =>
          intro W hSw
          clear hSw
          (go_simp; try with_reducible rfl)
        simp only [List.setIfInBounds_toArray, List.set_cons_zero, List.set_cons_succ]
        refine wpAnyH_takeAt (i := 1) (d := 172) (v := ?vq43x) rfl rfl (by kernel_rfl) (by kernel_rfl) (by kernel_rfl) (fun _ _ _ h => h) (Or.inl ⟨by rfl, ?hyq43x⟩) hHeld ?_
        case hyq43x =>
          intro W hSw
          clear hSw
          (go_simp; try with_reducible rfl)
        simp only [List.setIfInBounds_toArray, List.set_cons_zero, List.set_cons_succ]
        refine wpAnyH_takeAt (i := 2) (d := 173) (v := ?vq44x) rfl rfl (by kernel_rfl) (by kernel_rfl) (by kernel_rfl) (fun _ _ _ h => h) (Or.inl ⟨by rfl, ?hyq44x⟩) hHeld ?_
        case hyq44x =>
          intro W hSw
          clear hSw
          (go_simp; try with_reducible rfl)
        simp only [List.setIfInBounds_toArray, List.set_cons_zero, List.set_cons_succ]
        refine wpAnyH_takeAt (i := 3) (d := 174) (v := ?vq45x) rfl rfl (by kernel_rfl) (by kernel_rfl) (by kernel_rfl) (fun _ _ _ h => h) (Or.inl ⟨by rfl, ?hyq45x⟩) hHeld ?_
        case hyq45x =>
          intro W hSw
          clear hSw
          (go_simp; try with_reducible rfl)
        simp only [List.setIfInBounds_toArray, List.set_cons_zero, List.set_cons_succ]
        refine wpAnyH_takeAt (i := 4) (d := 175) (v := ?vq46x) rfl rfl (by kernel_rfl) (by kernel_rfl) (by kernel_rfl) (fun _ _ _ h => h) (Or.inl ⟨by rfl, ?hyq46x⟩) hHeld ?_
        case hyq46x =>
          intro W hSw
          have qc : W.cell? (ad1.add i) = some (.int .i64 (z1 i)) := (hSw.cell (p := ad1.add i) (by rw [block_of_add]; exact hl1')).trans ce'; clear hSw
          (go_simp; try with_reducible rfl)
        simp only [List.setIfInBounds_toArray, List.set_cons_zero, List.set_cons_succ]
        refine wpAnyH_takeAt (i := 5) (d := 176) (v := ?vq47x) rfl rfl (by kernel_rfl) (by kernel_rfl) (by kernel_rfl) (fun _ _ _ h => h) (Or.inl ⟨by rfl, ?hyq47x⟩) hHeld ?_
        case hyq47x =>
          intro W hSw
          clear hSw
          (go_simp; try with_reducible rfl)
        simp only [List.setIfInBounds_toArray, List.set_cons_zero, List.set_cons_succ]
        refine wpAnyH_takeAt (i := 6) (d := 177) (v := ?vq48x) rfl rfl (by kernel_rfl) (by kernel_rfl) (by kernel_rfl) (fun _ _ _ h => h) (Or.inl ⟨by rfl, ?hyq48x⟩) hHeld ?_
        case hyq48x =>
          intro W hSw
          clear hSw
          (go_simp; try with_reducible rfl)
        simp only [List.setIfInBounds_toArray, List.set_cons_zero, List.set_cons_succ]
        refine wpAnyH_takeAt (i := 7) (d := 178) (v := ?vq49x) rfl rfl (by kernel_rfl) (by kernel_rfl) (by kernel_rfl) (fun _ _ _ h => h) (Or.inl ⟨by rfl, ?hyq49x⟩) hHeld ?_
        case hyq49x =>
          intro W hSw
          clear hSw
          (go_simp; try with_reducible rfl)
        simp only [List.setIfInBounds_toArray, List.set_cons_zero, List.set_cons_succ]
        refine wpAnyH_takeAt (i := 8) (d := 179) (v := ?vq50x) rfl rfl (by kernel_rfl) (by kernel_rfl) (by kernel_rfl) (fun _ _ _ h => h) (Or.inl ⟨by rfl, ?hyq50x⟩) hHeld ?_
        case hyq50x =>
          intro W hSw
          have qc : W.cell? (ad2.add k) = some (.int .i64 (z2 k)) := (hSw.cell (p := ad2.add k) (by rw [block_of_add]; exact hl2')).trans cn'; clear hSw
          (go_simp; try with_reducible rfl)
        simp only [List.setIfInBounds_toArray, List.set_cons_zero, List.set_cons_succ]
        refine wpAnyH_ready (rs := [9]) (by kernel_rfl) (by simp) (AllReadyH.cons rfl (fun K hK => ?_) AllReadyH.nil)
        go_simp
        refine hC.mono ?_
        rintro e w7 ⟨rfl, hbw7⟩
        dsimp only
        have hcw7 : Below w6.heap.size w6 w7 := ((Below.refl _ _).drew).trans hbw7
        refine hK.out _ _ (show Below w6.heap.size w6 w7 from hcw7) (fun hHeld => ?_)
        clear hK K
        try simp only [List.setIfInBounds_toArray, List.set_cons_zero, List.set_cons_succ]
        refine wpAnyH_takeAt (i := 10) (d := 170) (v := ?vq51x) rfl rfl (by kernel_rfl) (by kernel_rfl) (by kernel_rfl) (fun _ _ _ h => h) (Or.inl ⟨by rfl, ?hyq51x⟩) hHeld ?_
        case hyq51x =>
          intro W hSw
          clear hSw
          (go_simp; try with_reducible rfl)
        simp only [List.setIfInBounds_toArray, List.set_cons_zero, List.set_cons_succ]
        refine wpAnyH_takeAt (i := 11) (d := 181) (v := ?vq52x) rfl rfl (by kernel_rfl) (by kernel_rfl) (by kernel_rfl) (fun _ _ _ h => h) (Or.inl ⟨by rfl, ?hyq52x⟩) hHeld ?_
        case hyq52x =>
          intro W hSw
          clear hSw
          (go_simp; try with_reducible rfl)
        simp only [List.setIfInBounds_toArray, List.set_cons_zero, List.set_cons_succ]
        refine wpAnyH_takeAt (i := 12) (d := 182) (v := ?vq53x) rfl rfl (by kernel_rfl) (by kernel_rfl) (by kernel_rfl) (fun _ _ _ h => h) (Or.inl ⟨by rfl, ?hyq53x⟩) hHeld ?_
        case hyq53x =>
          intro W hSw
          clear hSw
          (go_simp; try with_reducible rfl)
        simp only [List.setIfInBounds_toArray, List.set_cons_zero, List.set_cons_succ]
        refine wpAnyH_takeAt (i := 13) (d := 22) (v := ?vq54x) rfl rfl (by kernel_rfl) (by kernel_rfl) (by kernel_rfl) (fun _ _ _ h => h) (Or.inl ⟨by rfl, ?hyq54x⟩) hHeld ?_
        case hyq54x =>
          intro W hSw
          clear hSw
          (go_simp; try with_reducible rfl)
        simp only [List.setIfInBounds_toArray, List.set_cons_zero, List.set_cons_succ]
        refine wpAnyH_takeAt (i := 14) (d := 23) (v := ?vq55x) rfl rfl (by kernel_rfl) (by kernel_rfl) (by kernel_rfl) (fun _ _ _ h => h) (Or.inl ⟨by rfl, ?hyq55x⟩) hHeld ?_
        case hyq55x =>
          intro W hSw
          clear hSw
          (go_simp; try with_reducible rfl)
        simp only [List.setIfInBounds_toArray, List.set_cons_zero, List.set_cons_succ]
        refine wpAnyH_done (by kernel_rfl) ?_ _
        clear hHeld hC
        have ce2 : w7.cell? (ad1.add i) = some (.int .i64 (z1 i)) := (hcw7.cell (p := ad1.add i) (by rw [block_of_add]; exact hl1')).trans ce'
        have cn2 : w7.cell? (ad2.add k) = some (.int .i64 (z2 k)) := (hcw7.cell (p := ad2.add k) (by rw [block_of_add]; exact hl2')).trans cn'
        have HB7 := Lib.hid (HB6.out.trans (hcw7.mono HB6.out.size))
        clear ce' cn'
        go_wp2_with fail
        exact ⟨⟨k + 1, by omega, by go_num, HB7.out⟩, by simp [intOf]; omega⟩
    case neg =>
    have hdneg : decide (z1 i < 0) = false := by simpa using hneg
    have hyes0 : Can (fun i => (lf z0 i).1) len0 (z1 i) 0 := ⟨by omega, by omega, HM.out⟩
    rw [ask_yes hyes0, if_pos hyes0, if_pos hyes0] at hEn
    obtain ⟨q, hq⟩ : ∃ q, q = nab (fun i => (lf z0 i).1) (z1 i) len0 := ⟨_, rfl⟩
    obtain ⟨y, hy⟩ : ∃ y, y = lastTo (fun i => (lf z0 i).1) q := ⟨_, rfl⟩
    rw [← hq, ← hy] at hEn
    go_wp2_with fail
    refine hEn.mono ?_
    rintro e wa ⟨rfl, hba⟩
    have HBR := Lib.hid (HB0.out.trans (hba.mono HB0.out.size))
    have cea := (HBR.out.cell (p := ad1.add i) (by rw [block_of_add]; exact hl1w)).trans ce0
    have hRE := refEnd_any (c := c) (HL.out.below HBR.out) (by omega) (z1 i)
    clear hEn cer
    rw [← hq, ← hy] at hRE
    clear hq hy hyes0
    have byy : (y != y) = false := by simp
    have bqq : ((q : Int) != (q : Int)) = false := by simp
    go_wp2_with fail
    refine hRE.mono ?_
    rintro e wb ⟨rfl, rfl⟩
    clear hRE
    go_wp2_with fail
    go_loopw [19] (fun v wr => ∃ k : Nat, k ≤ len2 ∧ v = .int .i64 k ∧ Below w5.heap.size w5 wr) (fun v _ => len2 - (intOf v).toNat)
    case atStart => exact ⟨0, by omega, rfl, HBR.out⟩
    case round =>
      obtain ⟨k, hk, rfl, hbr⟩ := hrel
      have HB := Lib.hid hbr
      clear hbr
      by_cases hlk : k < len2
      case neg =>
        have hdk : decide (k < len2) = false := by simpa using hlk
        go_wp2_with fail
        exact ⟨⟨i + 1, by omega, by go_num, HB.out⟩, by simp [intOf]; omega⟩
      case pos =>
      obtain ⟨ad2, had2, hl2, cn⟩ := (HI2.out.below HB.out).at_ hlk
      subst had2
      have ce := (HB.out.cell (p := ad1.add i) (by rw [block_of_add]; exact hl1w)).trans ce0
      have hl1 : ad1.block < wr.heap.size := Nat.lt_of_lt_of_le hl1w HB.out.size
      have hd8 : decide (z1 i < 0) = false := by simpa using hneg
      by_cases hn2 : z2 k < 0
      case pos =>
        have hd9 : decide (z2 k < 0) = true := by simpa using hn2
        have hno : ¬ Can (fun i => (lf z0 i).1) len0 (z1 i) (z2 k) := fun h => by have := h.2.1; omega
        have hF : Calls Try.prog 20 #[.slice A len0 c, .int .i64 (z2 k), .int .i64 (z1 i)] wr.drew fun e w' => e = .returned (.tuple #[.bool false, .int .i64 2]) ∧ Below wr.drew.heap.size wr.drew w' := by
          have := Fits_any (w := wr.drew) (c := c) ((HL.out.below HB.out).below (Below.refl _ _).drew) (by omega) hnc (z2 k) (z1 i)
          rwa [ask_no hno, decide_eq_false (fun h => hno h.1)] at this
        have HNO := Lib.hid hno
        clear hno
        go_wp2_with fail
        refine wp_region_np ?_
        refine wp_region_held_drew (S := fun W => Below wr.heap.size wr W) (by kernel_rfl) (show Below wr.heap.size wr wr.drew from (Below.refl _ _).drew) (fun hHeld => ?_)
        refine wpAnyH_takeAt (i := 0) (d := 158) (v := ?vq56x) rfl rfl (by kernel_rfl) (by kernel_rfl) (by kernel_rfl) (fun _ _ _ h => h) (Or.inl ⟨by rfl, ?hyq56x⟩) hHeld ?_
        case hyq56x =>
          intro W hSw
          clear hSw
          (go_simp; try with_reducible rfl)
        simp only [List.setIfInBounds_toArray, List.set_cons_zero, List.set_cons_succ]
        refine wpAnyH_takeAt (i := 1) (d := 159) (v := ?vq57x) rfl rfl (by kernel_rfl) (by kernel_rfl) (by kernel_rfl) (fun _ _ _ h => h) (Or.inl ⟨by rfl, ?hyq57x⟩) hHeld ?_
        case hyq57x =>
          intro W hSw
          clear hSw
          (go_simp; try with_reducible rfl)
        simp only [List.setIfInBounds_toArray, List.set_cons_zero, List.set_cons_succ]
        refine wpAnyH_takeAt (i := 2) (d := 160) (v := ?vq58x) rfl rfl (by kernel_rfl) (by kernel_rfl) (by kernel_rfl) (fun _ _ _ h => h) (Or.inl ⟨by rfl, ?hyq58x⟩) hHeld ?_
        case hyq58x =>
          intro W hSw
          clear hSw
          (go_simp; try with_reducible rfl)
        simp only [List.setIfInBounds_toArray, List.set_cons_zero, List.set_cons_succ]
        refine wpAnyH_takeAt (i := 3) (d := 161) (v := ?vq59x) rfl rfl (by kernel_rfl) (by kernel_rfl) (by kernel_rfl) (fun _ _ _ h => h) (Or.inl ⟨by rfl, ?hyq59x⟩) hHeld ?_
        case hyq59x =>
          intro W hSw
          clear hSw
          (go_simp; try with_reducible rfl)
        simp only [List.setIfInBounds_toArray, List.set_cons_zero, List.set_cons_succ]
        refine wpAnyH_takeAt (i := 4) (d := 162) (v := ?vq60x) rfl rfl (by kernel_rfl) (by kernel_rfl) (by kernel_rfl) (fun _ _ _ h => h) (Or.inl ⟨by rfl, ?hyq60x⟩) hHeld ?_
        case hyq60x =>
          intro W hSw
          have qc : W.cell? (ad2.add k) = some (.int .i64 (z2 k)) := (hSw.cell (p := ad2.add k) (by rw [block_of_add]; exact hl2)).trans cn; clear hSw
          (go_simp; try with_reducible rfl)
        simp only [List.setIfInBounds_toArray, List.set_cons_zero, List.set_cons_succ]
        refine wpAnyH_takeAt (i := 5) (d := 163) (v := ?vq61x) rfl rfl (by kernel_rfl) (by kernel_rfl) (by kernel_rfl) (fun _ _ _ h => h) (Or.inl ⟨by rfl, ?hyq61x⟩) hHeld ?_
        case hyq61x =>
          intro W hSw
          clear hSw
          (go_simp; try with_reducible rfl)
        simp only [List.setIfInBounds_toArray, List.set_cons_zero, List.set_cons_succ]
        refine wpAnyH_takeAt (i := 6) (d := 164) (v := ?vq62x) rfl rfl (by kernel_rfl) (by kernel_rfl) (by kernel_rfl) (fun _ _ _ h => h) (Or.inl ⟨by rfl, ?hyq62x⟩) hHeld ?_
        case hyq62x =>
          intro W hSw
          clear hSw
          (go_simp; try with_reducible rfl)
        simp only [List.setIfInBounds_toArray, List.set_cons_zero, List.set_cons_succ]
        refine wpAnyH_takeAt (i := 7) (d := 165) (v := ?vq63x) rfl rfl (by kernel_rfl) (by kernel_rfl) (by kernel_rfl) (fun _ _ _ h => h) (Or.inl ⟨by rfl, ?hyq63x⟩) hHeld ?_
        case hyq63x =>
          intro W hSw
          clear hSw
          (go_simp; try with_reducible rfl)
        simp only [List.setIfInBounds_toArray, List.set_cons_zero, List.set_cons_succ]
        refine wpAnyH_takeAt (i := 8) (d := 166) (v := ?vq64x) rfl rfl (by kernel_rfl) (by kernel_rfl) (by kernel_rfl) (fun _ _ _ h => h) (Or.inl ⟨by rfl, ?hyq64x⟩) hHeld ?_
        case hyq64x =>
          intro W hSw
          have qc : W.cell? (ad1.add i) = some (.int .i64 (z1 i)) := (hSw.cell (p := ad1.add i) (by rw [block_of_add]; exact hl1)).trans ce; clear hSw
          (go_simp; try with_reducible rfl)
        simp only [List.setIfInBounds_toArray, List.set_cons_zero, List.set_cons_succ]
        refine wpAnyH_ready (rs := [9]) (by kernel_rfl) (by simp) (AllReadyH.cons rfl (fun K hK => ?_) AllReadyH.nil)
        go_simp
        refine hF.mono ?_
        rintro e w6 ⟨rfl, hbw6⟩
        dsimp only
        have hcw6 : Below wr.heap.size wr w6 := ((Below.refl _ _).drew).trans hbw6
        refine hK.out _ _ (show Below wr.heap.size wr w6 from hcw6) (fun hHeld => ?_)
        clear hK K
        try simp only [List.setIfInBounds_toArray, List.set_cons_zero, List.set_cons_succ]
        refine wpAnyH_takeAt (i := 10) (d := 157) (v := ?vq65x) rfl rfl (by kernel_rfl) (by kernel_rfl) (by kernel_rfl) (fun _ _ _ h => h) (Or.inl ⟨by rfl, ?hyq65x⟩) hHeld ?_
        case hyq65x =>
          intro W hSw
          clear hSw
          (go_simp; try with_reducible rfl)
        simp only [List.setIfInBounds_toArray, List.set_cons_zero, List.set_cons_succ]
        refine wpAnyH_takeAt (i := 11) (d := 168) (v := ?vq66x) rfl rfl (by kernel_rfl) (by kernel_rfl) (by kernel_rfl) (fun _ _ _ h => h) (Or.inl ⟨by rfl, ?hyq66x⟩) hHeld ?_
        case hyq66x =>
          intro W hSw
          clear hSw
          (go_simp; try with_reducible rfl)
        simp only [List.setIfInBounds_toArray, List.set_cons_zero, List.set_cons_succ]
        refine wpAnyH_takeAt (i := 12) (d := 169) (v := ?vq67x) rfl rfl (by kernel_rfl) (by kernel_rfl) (by kernel_rfl) (fun _ _ _ h => h) (Or.inl ⟨by rfl, ?hyq67x⟩) hHeld ?_
        case hyq67x =>
          intro W hSw
          clear hSw
          (go_simp; try with_reducible rfl)
        simp only [List.setIfInBounds_toArray, List.set_cons_zero, List.set_cons_succ]
        refine wpAnyH_takeAt (i := 13) (d := 20) (v := ?vq68x) rfl rfl (by kernel_rfl) (by kernel_rfl) (by kernel_rfl) (fun _ _ _ h => h) (Or.inl ⟨by rfl, ?hyq68x⟩) hHeld ?_
        case hyq68x =>
          intro W hSw
          clear hSw
          (go_simp; try with_reducible rfl)
        simp only [List.setIfInBounds_toArray, List.set_cons_zero, List.set_cons_succ]
        refine wpAnyH_takeAt (i := 14) (d := 21) (v := ?vq69x) rfl rfl (by kernel_rfl) (by kernel_rfl) (by kernel_rfl) (fun _ _ _ h => h) (Or.inl ⟨by rfl, ?hyq69x⟩) hHeld ?_
        case hyq69x =>
          intro W hSw
          clear hSw
          (go_simp; try with_reducible rfl)
        simp only [List.setIfInBounds_toArray, List.set_cons_zero, List.set_cons_succ]
        refine wpAnyH_done (by kernel_rfl) ?_ _
        clear hHeld hF
        have ce' : w6.cell? (ad1.add i) = some (.int .i64 (z1 i)) := (hcw6.cell (p := ad1.add i) (by rw [block_of_add]; exact hl1)).trans ce
        have cn' : w6.cell? (ad2.add k) = some (.int .i64 (z2 k)) := (hcw6.cell (p := ad2.add k) (by rw [block_of_add]; exact hl2)).trans cn
        have hl1' : ad1.block < w6.heap.size := Nat.lt_of_lt_of_le hl1 hcw6.size
        have hl2' : ad2.block < w6.heap.size := Nat.lt_of_lt_of_le hl2 hcw6.size
        have HB6 := Lib.hid (HB.out.trans (hcw6.mono HB.out.size))
        clear ce cn hl1 hl2
        have hC : Calls Try.prog 21 #[.slice A len0 c, .int .i64 (z1 i), .int .i64 (z2 k)] w6.drew fun e w' => e = .returned (.tuple #[.int .i64 0, .int .i64 2]) ∧ Below w6.drew.heap.size w6.drew w' := by
          have := Cut_any (w := w6.drew) (c := c) ((HL.out.below HB6.out).below (Below.refl _ _).drew) (by omega) (z1 i) (z2 k)
          rwa [ask_no HNO.out, if_neg HNO.out] at this
        go_wp2_with fail
        refine wp_region_np ?_
        refine wp_region_held_drew (S := fun W => Below w6.heap.size w6 W) (by kernel_rfl) (show Below w6.heap.size w6 w6.drew from (Below.refl _ _).drew) (fun hHeld => ?_)
        refine wpAnyH_takeAt (i := 0) (d := 171) (v := ?vq70x) rfl rfl (by kernel_rfl) (by kernel_rfl) (by kernel_rfl) (fun _ _ _ h => h) (Or.inl ⟨by rfl, ?hyq70x⟩) hHeld ?_
        case hyq70x =>
          intro W hSw
          clear hSw
          (go_simp; try with_reducible rfl)
        simp only [List.setIfInBounds_toArray, List.set_cons_zero, List.set_cons_succ]
        refine wpAnyH_takeAt (i := 1) (d := 172) (v := ?vq71x) rfl rfl (by kernel_rfl) (by kernel_rfl) (by kernel_rfl) (fun _ _ _ h => h) (Or.inl ⟨by rfl, ?hyq71x⟩) hHeld ?_
        case hyq71x =>
          intro W hSw
          clear hSw
          (go_simp; try with_reducible rfl)
        simp only [List.setIfInBounds_toArray, List.set_cons_zero, List.set_cons_succ]
        refine wpAnyH_takeAt (i := 2) (d := 173) (v := ?vq72x) rfl rfl (by kernel_rfl) (by kernel_rfl) (by kernel_rfl) (fun _ _ _ h => h) (Or.inl ⟨by rfl, ?hyq72x⟩) hHeld ?_
        case hyq72x =>
          intro W hSw
          clear hSw
          (go_simp; try with_reducible rfl)
        simp only [List.setIfInBounds_toArray, List.set_cons_zero, List.set_cons_succ]
        refine wpAnyH_takeAt (i := 3) (d := 174) (v := ?vq73x) rfl rfl (by kernel_rfl) (by kernel_rfl) (by kernel_rfl) (fun _ _ _ h => h) (Or.inl ⟨by rfl, ?hyq73x⟩) hHeld ?_
        case hyq73x =>
          intro W hSw
          clear hSw
          (go_simp; try with_reducible rfl)
        simp only [List.setIfInBounds_toArray, List.set_cons_zero, List.set_cons_succ]
        refine wpAnyH_takeAt (i := 4) (d := 175) (v := ?vq74x) rfl rfl (by kernel_rfl) (by kernel_rfl) (by kernel_rfl) (fun _ _ _ h => h) (Or.inl ⟨by rfl, ?hyq74x⟩) hHeld ?_
        case hyq74x =>
          intro W hSw
          have qc : W.cell? (ad1.add i) = some (.int .i64 (z1 i)) := (hSw.cell (p := ad1.add i) (by rw [block_of_add]; exact hl1')).trans ce'; clear hSw
          (go_simp; try with_reducible rfl)
        simp only [List.setIfInBounds_toArray, List.set_cons_zero, List.set_cons_succ]
        refine wpAnyH_takeAt (i := 5) (d := 176) (v := ?vq75x) rfl rfl (by kernel_rfl) (by kernel_rfl) (by kernel_rfl) (fun _ _ _ h => h) (Or.inl ⟨by rfl, ?hyq75x⟩) hHeld ?_
        case hyq75x =>
          intro W hSw
          clear hSw
          (go_simp; try with_reducible rfl)
        simp only [List.setIfInBounds_toArray, List.set_cons_zero, List.set_cons_succ]
        refine wpAnyH_takeAt (i := 6) (d := 177) (v := ?vq76x) rfl rfl (by kernel_rfl) (by kernel_rfl) (by kernel_rfl) (fun _ _ _ h => h) (Or.inl ⟨by rfl, ?hyq76x⟩) hHeld ?_
        case hyq76x =>
          intro W hSw
          clear hSw
          (go_simp; try with_reducible rfl)
        simp only [List.setIfInBounds_toArray, List.set_cons_zero, List.set_cons_succ]
        refine wpAnyH_takeAt (i := 7) (d := 178) (v := ?vq77x) rfl rfl (by kernel_rfl) (by kernel_rfl) (by kernel_rfl) (fun _ _ _ h => h) (Or.inl ⟨by rfl, ?hyq77x⟩) hHeld ?_
        case hyq77x =>
          intro W hSw
          clear hSw
          (go_simp; try with_reducible rfl)
        simp only [List.setIfInBounds_toArray, List.set_cons_zero, List.set_cons_succ]
        refine wpAnyH_takeAt (i := 8) (d := 179) (v := ?vq78x) rfl rfl (by kernel_rfl) (by kernel_rfl) (by kernel_rfl) (fun _ _ _ h => h) (Or.inl ⟨by rfl, ?hyq78x⟩) hHeld ?_
        case hyq78x =>
          intro W hSw
          have qc : W.cell? (ad2.add k) = some (.int .i64 (z2 k)) := (hSw.cell (p := ad2.add k) (by rw [block_of_add]; exact hl2')).trans cn'; clear hSw
          (go_simp; try with_reducible rfl)
        simp only [List.setIfInBounds_toArray, List.set_cons_zero, List.set_cons_succ]
        refine wpAnyH_ready (rs := [9]) (by kernel_rfl) (by simp) (AllReadyH.cons rfl (fun K hK => ?_) AllReadyH.nil)
        go_simp
        refine hC.mono ?_
        rintro e w7 ⟨rfl, hbw7⟩
        dsimp only
        have hcw7 : Below w6.heap.size w6 w7 := ((Below.refl _ _).drew).trans hbw7
        refine hK.out _ _ (show Below w6.heap.size w6 w7 from hcw7) (fun hHeld => ?_)
        clear hK K
        try simp only [List.setIfInBounds_toArray, List.set_cons_zero, List.set_cons_succ]
        refine wpAnyH_takeAt (i := 10) (d := 170) (v := ?vq79x) rfl rfl (by kernel_rfl) (by kernel_rfl) (by kernel_rfl) (fun _ _ _ h => h) (Or.inl ⟨by rfl, ?hyq79x⟩) hHeld ?_
        case hyq79x =>
          intro W hSw
          clear hSw
          (go_simp; try with_reducible rfl)
        simp only [List.setIfInBounds_toArray, List.set_cons_zero, List.set_cons_succ]
        refine wpAnyH_takeAt (i := 11) (d := 181) (v := ?vq80x) rfl rfl (by kernel_rfl) (by kernel_rfl) (by kernel_rfl) (fun _ _ _ h => h) (Or.inl ⟨by rfl, ?hyq80x⟩) hHeld ?_
        case hyq80x =>
          intro W hSw
          clear hSw
          (go_simp; try with_reducible rfl)
        simp only [List.setIfInBounds_toArray, List.set_cons_zero, List.set_cons_succ]
        refine wpAnyH_takeAt (i := 12) (d := 182) (v := ?vq81x) rfl rfl (by kernel_rfl) (by kernel_rfl) (by kernel_rfl) (fun _ _ _ h => h) (Or.inl ⟨by rfl, ?hyq81x⟩) hHeld ?_
        case hyq81x =>
          intro W hSw
          clear hSw
          (go_simp; try with_reducible rfl)
        simp only [List.setIfInBounds_toArray, List.set_cons_zero, List.set_cons_succ]
        refine wpAnyH_takeAt (i := 13) (d := 22) (v := ?vq82x) rfl rfl (by kernel_rfl) (by kernel_rfl) (by kernel_rfl) (fun _ _ _ h => h) (Or.inl ⟨by rfl, ?hyq82x⟩) hHeld ?_
        case hyq82x =>
          intro W hSw
          clear hSw
          (go_simp; try with_reducible rfl)
        simp only [List.setIfInBounds_toArray, List.set_cons_zero, List.set_cons_succ]
        refine wpAnyH_takeAt (i := 14) (d := 23) (v := ?vq83x) rfl rfl (by kernel_rfl) (by kernel_rfl) (by kernel_rfl) (fun _ _ _ h => h) (Or.inl ⟨by rfl, ?hyq83x⟩) hHeld ?_
        case hyq83x =>
          intro W hSw
          clear hSw
          (go_simp; try with_reducible rfl)
        simp only [List.setIfInBounds_toArray, List.set_cons_zero, List.set_cons_succ]
        refine wpAnyH_done (by kernel_rfl) ?_ _
        clear hHeld hC
        have ce2 : w7.cell? (ad1.add i) = some (.int .i64 (z1 i)) := (hcw7.cell (p := ad1.add i) (by rw [block_of_add]; exact hl1')).trans ce'
        have cn2 : w7.cell? (ad2.add k) = some (.int .i64 (z2 k)) := (hcw7.cell (p := ad2.add k) (by rw [block_of_add]; exact hl2')).trans cn'
        have HB7 := Lib.hid (HB6.out.trans (hcw7.mono HB6.out.size))
        clear ce' cn'
        go_wp2_with fail
        exact ⟨⟨k + 1, by omega, by go_num, HB7.out⟩, by simp [intOf]; omega⟩
      case neg =>
      have hd9 : decide (z2 k < 0) = false := by simpa using hn2
      have hyes : Can (fun i => (lf z0 i).1) len0 (z1 i) (z2 k) := ⟨by omega, by omega, HM.out⟩
      obtain ⟨fb, hfb⟩ : ∃ fb, fb = decide (Fits (fun i => (lf z0 i).1) len0 (z2 k).toNat (z1 i)) := ⟨_, rfl⟩
      obtain ⟨cc, hcc⟩ : ∃ cc, cc = min (nab (fun i => (lf z0 i).1) (z1 i) len0) (z2 k).toNat := ⟨_, rfl⟩
      have HFB := Lib.hid hfb
      have HCC := Lib.hid hcc
      have hF : Calls Try.prog 20 #[.slice A len0 c, .int .i64 (z2 k), .int .i64 (z1 i)] wr.drew fun e w' => e = .returned (.tuple #[.bool fb, .int .i64 0]) ∧ Below wr.drew.heap.size wr.drew w' := by
        have := Fits_any (w := wr.drew) (c := c) ((HL.out.below HB.out).below (Below.refl _ _).drew) (by omega) hnc (z2 k) (z1 i)
        have e : decide (Can (fun i => (lf z0 i).1) len0 (z1 i) (z2 k) ∧ Fits (fun i => (lf z0 i).1) len0 (z2 k).toNat (z1 i)) = fb := by rw [hfb, decide_eq_decide]; exact ⟨fun h => h.2, fun h => ⟨hyes, h⟩⟩
        rwa [ask_yes hyes, e] at this
      have HY := Lib.hid hyes
      clear hyes hfb hcc
      go_wp2_with fail
      refine wp_region_np ?_
      refine wp_region_held_drew (S := fun W => Below wr.heap.size wr W) (by kernel_rfl) (show Below wr.heap.size wr wr.drew from (Below.refl _ _).drew) (fun hHeld => ?_)
      refine wpAnyH_takeAt (i := 0) (d := 158) (v := ?vq84x) rfl rfl (by kernel_rfl) (by kernel_rfl) (by kernel_rfl) (fun _ _ _ h => h) (Or.inl ⟨by rfl, ?hyq84x⟩) hHeld ?_
      case hyq84x =>
        intro W hSw
        clear hSw
        (go_simp; try with_reducible rfl)
      simp only [List.setIfInBounds_toArray, List.set_cons_zero, List.set_cons_succ]
      refine wpAnyH_takeAt (i := 1) (d := 159) (v := ?vq85x) rfl rfl (by kernel_rfl) (by kernel_rfl) (by kernel_rfl) (fun _ _ _ h => h) (Or.inl ⟨by rfl, ?hyq85x⟩) hHeld ?_
      case hyq85x =>
        intro W hSw
        clear hSw
        (go_simp; try with_reducible rfl)
      simp only [List.setIfInBounds_toArray, List.set_cons_zero, List.set_cons_succ]
      refine wpAnyH_takeAt (i := 2) (d := 160) (v := ?vq86x) rfl rfl (by kernel_rfl) (by kernel_rfl) (by kernel_rfl) (fun _ _ _ h => h) (Or.inl ⟨by rfl, ?hyq86x⟩) hHeld ?_
      case hyq86x =>
        intro W hSw
        clear hSw
        (go_simp; try with_reducible rfl)
      simp only [List.setIfInBounds_toArray, List.set_cons_zero, List.set_cons_succ]
      refine wpAnyH_takeAt (i := 3) (d := 161) (v := ?vq87x) rfl rfl (by kernel_rfl) (by kernel_rfl) (by kernel_rfl) (fun _ _ _ h => h) (Or.inl ⟨by rfl, ?hyq87x⟩) hHeld ?_
      case hyq87x =>
        intro W hSw
        clear hSw
        (go_simp; try with_reducible rfl)
      simp only [List.setIfInBounds_toArray, List.set_cons_zero, List.set_cons_succ]
      refine wpAnyH_takeAt (i := 4) (d := 162) (v := ?vq88x) rfl rfl (by kernel_rfl) (by kernel_rfl) (by kernel_rfl) (fun _ _ _ h => h) (Or.inl ⟨by rfl, ?hyq88x⟩) hHeld ?_
      case hyq88x =>
        intro W hSw
        have qc : W.cell? (ad2.add k) = some (.int .i64 (z2 k)) := (hSw.cell (p := ad2.add k) (by rw [block_of_add]; exact hl2)).trans cn; clear hSw
        (go_simp; try with_reducible rfl)
      simp only [List.setIfInBounds_toArray, List.set_cons_zero, List.set_cons_succ]
      refine wpAnyH_takeAt (i := 5) (d := 163) (v := ?vq89x) rfl rfl (by kernel_rfl) (by kernel_rfl) (by kernel_rfl) (fun _ _ _ h => h) (Or.inl ⟨by rfl, ?hyq89x⟩) hHeld ?_
      case hyq89x =>
        intro W hSw
        clear hSw
        (go_simp; try with_reducible rfl)
      simp only [List.setIfInBounds_toArray, List.set_cons_zero, List.set_cons_succ]
      refine wpAnyH_takeAt (i := 6) (d := 164) (v := ?vq90x) rfl rfl (by kernel_rfl) (by kernel_rfl) (by kernel_rfl) (fun _ _ _ h => h) (Or.inl ⟨by rfl, ?hyq90x⟩) hHeld ?_
      case hyq90x =>
        intro W hSw
        clear hSw
        (go_simp; try with_reducible rfl)
      simp only [List.setIfInBounds_toArray, List.set_cons_zero, List.set_cons_succ]
      refine wpAnyH_takeAt (i := 7) (d := 165) (v := ?vq91x) rfl rfl (by kernel_rfl) (by kernel_rfl) (by kernel_rfl) (fun _ _ _ h => h) (Or.inl ⟨by rfl, ?hyq91x⟩) hHeld ?_
      case hyq91x =>
        intro W hSw
        clear hSw
        (go_simp; try with_reducible rfl)
      simp only [List.setIfInBounds_toArray, List.set_cons_zero, List.set_cons_succ]
      refine wpAnyH_takeAt (i := 8) (d := 166) (v := ?vq92x) rfl rfl (by kernel_rfl) (by kernel_rfl) (by kernel_rfl) (fun _ _ _ h => h) (Or.inl ⟨by rfl, ?hyq92x⟩) hHeld ?_
      case hyq92x =>
        intro W hSw
        have qc : W.cell? (ad1.add i) = some (.int .i64 (z1 i)) := (hSw.cell (p := ad1.add i) (by rw [block_of_add]; exact hl1)).trans ce; clear hSw
        (go_simp; try with_reducible rfl)
      simp only [List.setIfInBounds_toArray, List.set_cons_zero, List.set_cons_succ]
      refine wpAnyH_ready (rs := [9]) (by kernel_rfl) (by simp) (AllReadyH.cons rfl (fun K hK => ?_) AllReadyH.nil)
      go_simp
      refine hF.mono ?_
      rintro e w6 ⟨rfl, hbw6⟩
      dsimp only
      have hcw6 : Below wr.heap.size wr w6 := ((Below.refl _ _).drew).trans hbw6
      refine hK.out _ _ (show Below wr.heap.size wr w6 from hcw6) (fun hHeld => ?_)
      clear hK K
      try simp only [List.setIfInBounds_toArray, List.set_cons_zero, List.set_cons_succ]
      refine wpAnyH_takeAt (i := 10) (d := 157) (v := ?vq93x) rfl rfl (by kernel_rfl) (by kernel_rfl) (by kernel_rfl) (fun _ _ _ h => h) (Or.inl ⟨by rfl, ?hyq93x⟩) hHeld ?_
      case hyq93x =>
        intro W hSw
        clear hSw
        (go_simp; try with_reducible rfl)
      simp only [List.setIfInBounds_toArray, List.set_cons_zero, List.set_cons_succ]
      refine wpAnyH_takeAt (i := 11) (d := 168) (v := ?vq94x) rfl rfl (by kernel_rfl) (by kernel_rfl) (by kernel_rfl) (fun _ _ _ h => h) (Or.inl ⟨by rfl, ?hyq94x⟩) hHeld ?_
      case hyq94x =>
        intro W hSw
        clear hSw
        (go_simp; try with_reducible rfl)
      simp only [List.setIfInBounds_toArray, List.set_cons_zero, List.set_cons_succ]
      refine wpAnyH_takeAt (i := 12) (d := 169) (v := ?vq95x) rfl rfl (by kernel_rfl) (by kernel_rfl) (by kernel_rfl) (fun _ _ _ h => h) (Or.inl ⟨by rfl, ?hyq95x⟩) hHeld ?_
      case hyq95x =>
        intro W hSw
        clear hSw
        (go_simp; try with_reducible rfl)
      simp only [List.setIfInBounds_toArray, List.set_cons_zero, List.set_cons_succ]
      refine wpAnyH_takeAt (i := 13) (d := 20) (v := ?vq96x) rfl rfl (by kernel_rfl) (by kernel_rfl) (by kernel_rfl) (fun _ _ _ h => h) (Or.inl ⟨by rfl, ?hyq96x⟩) hHeld ?_
      case hyq96x =>
        intro W hSw
        clear hSw
        (go_simp; try with_reducible rfl)
      simp only [List.setIfInBounds_toArray, List.set_cons_zero, List.set_cons_succ]
      refine wpAnyH_takeAt (i := 14) (d := 21) (v := ?vq97x) rfl rfl (by kernel_rfl) (by kernel_rfl) (by kernel_rfl) (fun _ _ _ h => h) (Or.inl ⟨by rfl, ?hyq97x⟩) hHeld ?_
      case hyq97x =>
        intro W hSw
        clear hSw
        (go_simp; try with_reducible rfl)
      simp only [List.setIfInBounds_toArray, List.set_cons_zero, List.set_cons_succ]
      refine wpAnyH_done (by kernel_rfl) ?_ _
      clear hHeld hF
      have ce' : w6.cell? (ad1.add i) = some (.int .i64 (z1 i)) := (hcw6.cell (p := ad1.add i) (by rw [block_of_add]; exact hl1)).trans ce
      have cn' : w6.cell? (ad2.add k) = some (.int .i64 (z2 k)) := (hcw6.cell (p := ad2.add k) (by rw [block_of_add]; exact hl2)).trans cn
      have hl1' : ad1.block < w6.heap.size := Nat.lt_of_lt_of_le hl1 hcw6.size
      have hl2' : ad2.block < w6.heap.size := Nat.lt_of_lt_of_le hl2 hcw6.size
      have HB6 := Lib.hid (HB.out.trans (hcw6.mono HB.out.size))
      clear ce cn hl1 hl2
      have hC : Calls Try.prog 21 #[.slice A len0 c, .int .i64 (z1 i), .int .i64 (z2 k)] w6.drew fun e w' => e = .returned (.tuple #[.int .i64 (cc : Int), .int .i64 0]) ∧ Below w6.drew.heap.size w6.drew w' := by
        have := Cut_any (w := w6.drew) (c := c) ((HL.out.below HB6.out).below (Below.refl _ _).drew) (by omega) (z1 i) (z2 k)
        rwa [ask_yes HY.out, if_pos HY.out, ← HCC.out] at this
      go_wp2_with fail
      refine wp_region_np ?_
      refine wp_region_held_drew (S := fun W => Below w6.heap.size w6 W) (by kernel_rfl) (show Below w6.heap.size w6 w6.drew from (Below.refl _ _).drew) (fun hHeld => ?_)
      refine wpAnyH_takeAt (i := 0) (d := 171) (v := ?vq98x) rfl rfl (by kernel_rfl) (by kernel_rfl) (by kernel_rfl) (fun _ _ _ h => h) (Or.inl ⟨by rfl, ?hyq98x⟩) hHeld ?_
      case hyq98x =>
        intro W hSw
        clear hSw
        (go_simp; try with_reducible rfl)
      simp only [List.setIfInBounds_toArray, List.set_cons_zero, List.set_cons_succ]
      refine wpAnyH_takeAt (i := 1) (d := 172) (v := ?vq99x) rfl rfl (by kernel_rfl) (by kernel_rfl) (by kernel_rfl) (fun _ _ _ h => h) (Or.inl ⟨by rfl, ?hyq99x⟩) hHeld ?_
      case hyq99x =>
        intro W hSw
        clear hSw
        (go_simp; try with_reducible rfl)
      simp only [List.setIfInBounds_toArray, List.set_cons_zero, List.set_cons_succ]
      refine wpAnyH_takeAt (i := 2) (d := 173) (v := ?vq100x) rfl rfl (by kernel_rfl) (by kernel_rfl) (by kernel_rfl) (fun _ _ _ h => h) (Or.inl ⟨by rfl, ?hyq100x⟩) hHeld ?_
      case hyq100x =>
        intro W hSw
        clear hSw
        (go_simp; try with_reducible rfl)
      simp only [List.setIfInBounds_toArray, List.set_cons_zero, List.set_cons_succ]
      refine wpAnyH_takeAt (i := 3) (d := 174) (v := ?vq101x) rfl rfl (by kernel_rfl) (by kernel_rfl) (by kernel_rfl) (fun _ _ _ h => h) (Or.inl ⟨by rfl, ?hyq101x⟩) hHeld ?_
      case hyq101x =>
        intro W hSw
        clear hSw
        (go_simp; try with_reducible rfl)
      simp only [List.setIfInBounds_toArray, List.set_cons_zero, List.set_cons_succ]
      refine wpAnyH_takeAt (i := 4) (d := 175) (v := ?vq102x) rfl rfl (by kernel_rfl) (by kernel_rfl) (by kernel_rfl) (fun _ _ _ h => h) (Or.inl ⟨by rfl, ?hyq102x⟩) hHeld ?_
      case hyq102x =>
        intro W hSw
        have qc : W.cell? (ad1.add i) = some (.int .i64 (z1 i)) := (hSw.cell (p := ad1.add i) (by rw [block_of_add]; exact hl1')).trans ce'; clear hSw
        (go_simp; try with_reducible rfl)
      simp only [List.setIfInBounds_toArray, List.set_cons_zero, List.set_cons_succ]
      refine wpAnyH_takeAt (i := 5) (d := 176) (v := ?vq103x) rfl rfl (by kernel_rfl) (by kernel_rfl) (by kernel_rfl) (fun _ _ _ h => h) (Or.inl ⟨by rfl, ?hyq103x⟩) hHeld ?_
      case hyq103x =>
        intro W hSw
        clear hSw
        (go_simp; try with_reducible rfl)
      simp only [List.setIfInBounds_toArray, List.set_cons_zero, List.set_cons_succ]
      refine wpAnyH_takeAt (i := 6) (d := 177) (v := ?vq104x) rfl rfl (by kernel_rfl) (by kernel_rfl) (by kernel_rfl) (fun _ _ _ h => h) (Or.inl ⟨by rfl, ?hyq104x⟩) hHeld ?_
      case hyq104x =>
        intro W hSw
        clear hSw
        (go_simp; try with_reducible rfl)
      simp only [List.setIfInBounds_toArray, List.set_cons_zero, List.set_cons_succ]
      refine wpAnyH_takeAt (i := 7) (d := 178) (v := ?vq105x) rfl rfl (by kernel_rfl) (by kernel_rfl) (by kernel_rfl) (fun _ _ _ h => h) (Or.inl ⟨by rfl, ?hyq105x⟩) hHeld ?_
      case hyq105x =>
        intro W hSw
        clear hSw
        (go_simp; try with_reducible rfl)
      simp only [List.setIfInBounds_toArray, List.set_cons_zero, List.set_cons_succ]
      refine wpAnyH_takeAt (i := 8) (d := 179) (v := ?vq106x) rfl rfl (by kernel_rfl) (by kernel_rfl) (by kernel_rfl) (fun _ _ _ h => h) (Or.inl ⟨by rfl, ?hyq106x⟩) hHeld ?_
      case hyq106x =>
        intro W hSw
        have qc : W.cell? (ad2.add k) = some (.int .i64 (z2 k)) := (hSw.cell (p := ad2.add k) (by rw [block_of_add]; exact hl2')).trans cn'; clear hSw
        (go_simp; try with_reducible rfl)
      simp only [List.setIfInBounds_toArray, List.set_cons_zero, List.set_cons_succ]
      refine wpAnyH_ready (rs := [9]) (by kernel_rfl) (by simp) (AllReadyH.cons rfl (fun K hK => ?_) AllReadyH.nil)
      go_simp
      refine hC.mono ?_
      rintro e w7 ⟨rfl, hbw7⟩
      dsimp only
      have hcw7 : Below w6.heap.size w6 w7 := ((Below.refl _ _).drew).trans hbw7
      refine hK.out _ _ (show Below w6.heap.size w6 w7 from hcw7) (fun hHeld => ?_)
      clear hK K
      try simp only [List.setIfInBounds_toArray, List.set_cons_zero, List.set_cons_succ]
      refine wpAnyH_takeAt (i := 10) (d := 170) (v := ?vq107x) rfl rfl (by kernel_rfl) (by kernel_rfl) (by kernel_rfl) (fun _ _ _ h => h) (Or.inl ⟨by rfl, ?hyq107x⟩) hHeld ?_
      case hyq107x =>
        intro W hSw
        clear hSw
        (go_simp; try with_reducible rfl)
      simp only [List.setIfInBounds_toArray, List.set_cons_zero, List.set_cons_succ]
      refine wpAnyH_takeAt (i := 11) (d := 181) (v := ?vq108x) rfl rfl (by kernel_rfl) (by kernel_rfl) (by kernel_rfl) (fun _ _ _ h => h) (Or.inl ⟨by rfl, ?hyq108x⟩) hHeld ?_
      case hyq108x =>
        intro W hSw
        clear hSw
        (go_simp; try with_reducible rfl)
      simp only [List.setIfInBounds_toArray, List.set_cons_zero, List.set_cons_succ]
      refine wpAnyH_takeAt (i := 12) (d := 182) (v := ?vq109x) rfl rfl (by kernel_rfl) (by kernel_rfl) (by kernel_rfl) (fun _ _ _ h => h) (Or.inl ⟨by rfl, ?hyq109x⟩) hHeld ?_
      case hyq109x =>
        intro W hSw
        clear hSw
        (go_simp; try with_reducible rfl)
      simp only [List.setIfInBounds_toArray, List.set_cons_zero, List.set_cons_succ]
      refine wpAnyH_takeAt (i := 13) (d := 22) (v := ?vq110x) rfl rfl (by kernel_rfl) (by kernel_rfl) (by kernel_rfl) (fun _ _ _ h => h) (Or.inl ⟨by rfl, ?hyq110x⟩) hHeld ?_
      case hyq110x =>
        intro W hSw
        clear hSw
        (go_simp; try with_reducible rfl)
      simp only [List.setIfInBounds_toArray, List.set_cons_zero, List.set_cons_succ]
      refine wpAnyH_takeAt (i := 14) (d := 23) (v := ?vq111x) rfl rfl (by kernel_rfl) (by kernel_rfl) (by kernel_rfl) (fun _ _ _ h => h) (Or.inl ⟨by rfl, ?hyq111x⟩) hHeld ?_
      case hyq111x =>
        intro W hSw
        clear hSw
        (go_simp; try with_reducible rfl)
      simp only [List.setIfInBounds_toArray, List.set_cons_zero, List.set_cons_succ]
      refine wpAnyH_done (by kernel_rfl) ?_ _
      clear hHeld hC
      have ce2 : w7.cell? (ad1.add i) = some (.int .i64 (z1 i)) := (hcw7.cell (p := ad1.add i) (by rw [block_of_add]; exact hl1')).trans ce'
      have cn2 : w7.cell? (ad2.add k) = some (.int .i64 (z2 k)) := (hcw7.cell (p := ad2.add k) (by rw [block_of_add]; exact hl2')).trans cn'
      have HB7 := Lib.hid (HB6.out.trans (hcw7.mono HB6.out.size))
      clear ce' cn'
      have hRF : ∀ nq, Calls Try.prog 22 #[.slice A len0 c, .int .i64 (z2 k), .int .i64 (z1 i)] (w7.drewN nq) fun e w' => e = .returned (.bool fb) ∧ w' = w7.drewN nq := fun nq => by
        have := refFits_any (w := w7.drewN nq) (c := c) ((HL.out.below HB7.out).below (below_drewN (Below.refl _ _) nq)) (by omega) (z2 k) (by omega) (z1 i)
        rw [← HFB.out] at this
        exact this.mono fun e w' h => ⟨h.1, h.2.symm⟩
      have hRC : ∀ nq, Calls Try.prog 23 #[.slice A len0 c, .int .i64 (z1 i), .int .i64 (z2 k)] (w7.drewN nq) fun e w' => e = .returned (.int .i64 (cc : Int)) ∧ w' = w7.drewN nq := fun nq => by
        have := refCut_any (w := w7.drewN nq) (c := c) ((HL.out.below HB7.out).below (below_drewN (Below.refl _ _) nq)) (by omega) (z1 i) (z2 k) (by omega)
        rw [nab_min HM.out.2, ← HCC.out] at this
        exact this.mono fun e w' h => ⟨h.1, h.2.symm⟩
      have bb : (fb != fb) = false := by simp
      have bc : ((cc : Int) != (cc : Int)) = false := by simp
      go_wp2_with fail
      go_quiet (first | (go_at_call 22; exact Calls.quiet_of_same (hRF _)) | (go_at_call 23; exact Calls.quiet_of_same (hRC _)))
      go_wp2_with fail
      exact ⟨⟨k + 1, by omega, by go_num, below_drewN HB7.out _⟩, by simp [intOf]; omega⟩
end Go.Proofs.Ytabbkghnijebpaa
