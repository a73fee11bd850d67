/-
  EpochsAsks, walked. Conditions: bounds.
-/
import Derived.Test.YtabbkghnijebpaaSameS
import Derived.Deep.RegionHeld3
namespace Go.Proofs.Ytabbkghnijebpaa
open Go.RowKit
set_option maxHeartbeats 8000000 in
set_option maxRecDepth 100000 in
theorem walkNo (a0 : Option Addr) (len0 cap0 : Nat) (z0 : Nat → Int) (a1 : Option Addr) (len1 cap1 : Nat) (z1 : Nat → Int) (a2 : Option Addr) (len2 cap2 : Nat) (z2 : Nat → Int) (w : World) (b0 : Ints w a0 len0 z0) (b1 : Ints w a1 len1 z1) (b2 : Ints w a2 len2 z2) (h60 : len0 ≤ 60) (h20 : len1 ≤ 20) (h21 : len2 ≤ 20) (hm : ¬ May (fun i => (lf z0 i).1) len0) :
    Calls Try.prog 3 #[.slice a0 len0 cap0, .slice a1 len1 cap1, .slice a2 len2 cap2] w fun e w' => e = .returned (.bool true) ∧ Below w.heap.size w w' := by
  have hkn := known_any
  have hd0 : decide (60 < len0) = false := by simp; omega
  have hd1 : decide (20 < len1) = false := by simp; omega
  have hd2 : decide (20 < len2) = false := by simp; omega
  have hlg := log_any (c := cap0) b0 (by omega)
  go_enter Try.func3, Try.ntmps3
  go_wp2_with fail
  refine hlg.mono ?_
  rintro e w1 ⟨A, c, rfl, hl, hnc, hcm, hb1⟩
  have HL1 := Lib.hid hl
  have hRM := refMay_any (c := c) hl (by omega)
  rw [decide_eq_false hm] at hRM
  have HNM := Lib.hid hm
  clear hl hlg hm
  go_wp2_with fail
  refine hRM.mono ?_
  rintro e w2 ⟨rfl, hb2⟩
  have HB2 := Lib.hid hb2
  have hS := Starts_no (c := c) (HL1.out.below HB2.out) (by omega) HNM.out
  go_wp2_with fail
  refine hS.mono ?_
  rintro e w3 ⟨rfl, hb3⟩
  have HB3 := Lib.hid (HB2.out.trans (hb3.mono HB2.out.size))
  have hLa := Last_any (c := c) (HL1.out.below HB3.out) (by omega)
  rw [if_neg HNM.out, ask_no (fun h => HNM.out h.2.2)] at hLa
  go_wp2_with fail
  refine hLa.mono ?_
  rintro e w4 ⟨rfl, hb4⟩
  have HB4 := Lib.hid (HB3.out.trans (hb4.mono HB3.out.size))
  have hMy := may_any (c := c) (HL1.out.below HB4.out) (by omega)
  rw [decide_eq_false HNM.out] at hMy
  clear hRM hS hLa hb2 hb3 hb4
  go_wp2_with fail
  refine hMy.mono ?_
  rintro e w5 ⟨rfl, hb5'⟩
  have HB5 := Lib.hid (HB4.out.trans (hb5'.mono HB4.out.size))
  have hb5 := Lib.hid (hb1.trans (HB5.out.mono hb1.size))
  have HL := Lib.hid (HL1.out.below HB5.out)
  have HI1 := Lib.hid (b1.below hb5.out)
  have HI2 := Lib.hid (b2.below hb5.out)
  clear hMy hb5' b0 b1 b2 hb1
  go_wp2_with fail
  go_loopw [13] (fun v wr => ∃ i : Nat, i ≤ len1 ∧ v = .int .i64 i ∧ Below w5.heap.size w5 wr) (fun v _ => len1 - (intOf v).toNat)
  case atStart => exact ⟨0, by omega, rfl, Below.refl _ _⟩
  case round =>
    obtain ⟨i, hi, rfl, hbr⟩ := hrel
    have HB0 := Lib.hid hbr
    clear hbr
    by_cases hli : i < len1
    case neg =>
      have hdi : decide (i < len1) = false := by simpa using hli
      have hb15 := hb5.out.trans (HB0.out.mono hb5.out.size)
      go_wp2_with fail
      refine (hkn _).mono ?_
      rintro e wk ⟨rfl, hbk⟩
      go_wp2_with fail
      go_ret
      exact ⟨rfl, hb15.trans (hbk.mono hb15.size)⟩
    case pos =>
    obtain ⟨ad1, had1, hl1w, ce0⟩ := HI1.out.at_ hli
    subst had1
    have cer := (HB0.out.cell (p := ad1.add i) (by rw [block_of_add]; exact hl1w)).trans ce0
    have hEn := End_any (c := c) (HL.out.below HB0.out) (by omega) hnc (z1 i)
    have hno : ¬ Can (fun i => (lf z0 i).1) len0 (z1 i) 0 := fun h => HNM.out h.2.2
    rw [ask_no hno, if_neg hno, if_neg hno] at hEn
    clear hno
    go_wp2_with fail
    refine hEn.mono ?_
    rintro e wa ⟨rfl, hba⟩
    have HBR := Lib.hid (HB0.out.trans (hba.mono HB0.out.size))
    have cea := (HBR.out.cell (p := ad1.add i) (by rw [block_of_add]; exact hl1w)).trans ce0
    have hRE := refEnd_any (c := c) (HL.out.below HBR.out) (by omega) (z1 i)
    clear hEn cer
    generalize lastTo (fun i => (lf z0 i).1) (nab (fun i => (lf z0 i).1) (z1 i) len0) = y at hRE
    generalize nab (fun i => (lf z0 i).1) (z1 i) len0 = q at hRE
    go_wp2_with fail
    refine hRE.mono ?_
    rintro e wb ⟨rfl, rfl⟩
    clear hRE
    go_wp2_with fail
    go_loopw [19] (fun v wr => ∃ k : Nat, k ≤ len2 ∧ v = .int .i64 k ∧ Below w5.heap.size w5 wr) (fun v _ => len2 - (intOf v).toNat)
    case atStart => exact ⟨0, by omega, rfl, HBR.out⟩
    case round =>
      obtain ⟨k, hk, rfl, hbr⟩ := hrel
      have HB := Lib.hid hbr
      clear hbr
      by_cases hlk : k < len2
      case neg =>
        have hdk : decide (k < len2) = false := by simpa using hlk
        go_wp2_with fail
        exact ⟨⟨i + 1, by omega, by go_num, HB.out⟩, by simp [intOf]; omega⟩
      case pos =>
      obtain ⟨ad2, had2, hl2, cn⟩ := (HI2.out.below HB.out).at_ hlk
      subst had2
      have ce := (HB.out.cell (p := ad1.add i) (by rw [block_of_add]; exact hl1w)).trans ce0
      have hl1 : ad1.block < wr.heap.size := Nat.lt_of_lt_of_le hl1w HB.out.size
      have hno : ¬ Can (fun i => (lf z0 i).1) len0 (z1 i) (z2 k) := fun h => HNM.out h.2.2
      have hF : Calls Try.prog 20 #[.slice A len0 c, .int .i64 (z2 k), .int .i64 (z1 i)] wr.drew fun e w' => e = .returned (.tuple #[.bool false, .int .i64 2]) ∧ Below wr.drew.heap.size wr.drew w' := by
        have := Fits_any (w := wr.drew) (c := c) ((HL.out.below HB.out).below (Below.refl _ _).drew) (by omega) hnc (z2 k) (z1 i)
        rwa [ask_no hno, decide_eq_false (fun h => hno h.1)] at this
      have HNO := Lib.hid hno
      clear hno
      go_wp2_with fail
      refine wp_region_np ?_
      refine wp_region_held_drew (S := fun W => Below wr.heap.size wr W) (by kernel_rfl) (show Below wr.heap.size wr wr.drew from (Below.refl _ _).drew) (fun hHeld => ?_)
      refine wpAnyH_takeAt (i := 0) (d := 158) (v := ?vq0x) rfl rfl (by kernel_rfl) (by kernel_rfl) (by kernel_rfl) (fun _ _ _ h => h) (Or.inl ⟨by rfl, ?hyq0x⟩) hHeld ?_
      case hyq0x =>
        intro W hSw
        clear hSw
        (go_simp; try with_reducible rfl)
      simp only [List.setIfInBounds_toArray, List.set_cons_zero, List.set_cons_succ]
      refine wpAnyH_takeAt (i := 1) (d := 159) (v := ?vq1x) rfl rfl (by kernel_rfl) (by kernel_rfl) (by kernel_rfl) (fun _ _ _ h => h) (Or.inl ⟨by rfl, ?hyq1x⟩) hHeld ?_
      case hyq1x =>
        intro W hSw
        clear hSw
        (go_simp; try with_reducible rfl)
      simp only [List.setIfInBounds_toArray, List.set_cons_zero, List.set_cons_succ]
      refine wpAnyH_takeAt (i := 2) (d := 160) (v := ?vq2x) rfl rfl (by kernel_rfl) (by kernel_rfl) (by kernel_rfl) (fun _ _ _ h => h) (Or.inl ⟨by rfl, ?hyq2x⟩) hHeld ?_
      case hyq2x =>
        intro W hSw
        clear hSw
        (go_simp; try with_reducible rfl)
      simp only [List.setIfInBounds_toArray, List.set_cons_zero, List.set_cons_succ]
      refine wpAnyH_takeAt (i := 3) (d := 161) (v := ?vq3x) rfl rfl (by kernel_rfl) (by kernel_rfl) (by kernel_rfl) (fun _ _ _ h => h) (Or.inl ⟨by rfl, ?hyq3x⟩) hHeld ?_
      case hyq3x =>
        intro W hSw
        clear hSw
        (go_simp; try with_reducible rfl)
      simp only [List.setIfInBounds_toArray, List.set_cons_zero, List.set_cons_succ]
      refine wpAnyH_takeAt (i := 4) (d := 162) (v := ?vq4x) rfl rfl (by kernel_rfl) (by kernel_rfl) (by kernel_rfl) (fun _ _ _ h => h) (Or.inl ⟨by rfl, ?hyq4x⟩) hHeld ?_
      case hyq4x =>
        intro W hSw
        have qc : W.cell? (ad2.add k) = some (.int .i64 (z2 k)) := (hSw.cell (p := ad2.add k) (by rw [block_of_add]; exact hl2)).trans cn; clear hSw
        (go_simp; try with_reducible rfl)
      simp only [List.setIfInBounds_toArray, List.set_cons_zero, List.set_cons_succ]
      refine wpAnyH_takeAt (i := 5) (d := 163) (v := ?vq5x) rfl rfl (by kernel_rfl) (by kernel_rfl) (by kernel_rfl) (fun _ _ _ h => h) (Or.inl ⟨by rfl, ?hyq5x⟩) hHeld ?_
      case hyq5x =>
        intro W hSw
        clear hSw
        (go_simp; try with_reducible rfl)
      simp only [List.setIfInBounds_toArray, List.set_cons_zero, List.set_cons_succ]
      refine wpAnyH_takeAt (i := 6) (d := 164) (v := ?vq6x) rfl rfl (by kernel_rfl) (by kernel_rfl) (by kernel_rfl) (fun _ _ _ h => h) (Or.inl ⟨by rfl, ?hyq6x⟩) hHeld ?_
      case hyq6x =>
        intro W hSw
        clear hSw
        (go_simp; try with_reducible rfl)
      simp only [List.setIfInBounds_toArray, List.set_cons_zero, List.set_cons_succ]
      refine wpAnyH_takeAt (i := 7) (d := 165) (v := ?vq7x) rfl rfl (by kernel_rfl) (by kernel_rfl) (by kernel_rfl) (fun _ _ _ h => h) (Or.inl ⟨by rfl, ?hyq7x⟩) hHeld ?_
      case hyq7x =>
        intro W hSw
        clear hSw
        (go_simp; try with_reducible rfl)
      simp only [List.setIfInBounds_toArray, List.set_cons_zero, List.set_cons_succ]
      refine wpAnyH_takeAt (i := 8) (d := 166) (v := ?vq8x) rfl rfl (by kernel_rfl) (by kernel_rfl) (by kernel_rfl) (fun _ _ _ h => h) (Or.inl ⟨by rfl, ?hyq8x⟩) hHeld ?_
      case hyq8x =>
        intro W hSw
        have qc : W.cell? (ad1.add i) = some (.int .i64 (z1 i)) := (hSw.cell (p := ad1.add i) (by rw [block_of_add]; exact hl1)).trans ce; clear hSw
        (go_simp; try with_reducible rfl)
      simp only [List.setIfInBounds_toArray, List.set_cons_zero, List.set_cons_succ]
      refine wpAnyH_ready (rs := [9]) (by kernel_rfl) (by simp) (AllReadyH.cons rfl (fun K hK => ?_) AllReadyH.nil)
      go_simp
      refine hF.mono ?_
      rintro e w6 ⟨rfl, hbw6⟩
      dsimp only
      have hcw6 : Below wr.heap.size wr w6 := ((Below.refl _ _).drew).trans hbw6
      refine hK.out _ _ (show Below wr.heap.size wr w6 from hcw6) (fun hHeld => ?_)
      clear hK K
      try simp only [List.setIfInBounds_toArray, List.set_cons_zero, List.set_cons_succ]
      refine wpAnyH_takeAt (i := 10) (d := 157) (v := ?vq9x) rfl rfl (by kernel_rfl) (by kernel_rfl) (by kernel_rfl) (fun _ _ _ h => h) (Or.inl ⟨by rfl, ?hyq9x⟩) hHeld ?_
      case hyq9x =>
        intro W hSw
        clear hSw
        (go_simp; try with_reducible rfl)
      simp only [List.setIfInBounds_toArray, List.set_cons_zero, List.set_cons_succ]
      refine wpAnyH_takeAt (i := 11) (d := 168) (v := ?vq10x) rfl rfl (by kernel_rfl) (by kernel_rfl) (by kernel_rfl) (fun _ _ _ h => h) (Or.inl ⟨by rfl, ?hyq10x⟩) hHeld ?_
      case hyq10x =>
        intro W hSw
        clear hSw
        (go_simp; try with_reducible rfl)
      simp only [List.setIfInBounds_toArray, List.set_cons_zero, List.set_cons_succ]
      refine wpAnyH_takeAt (i := 12) (d := 169) (v := ?vq11x) rfl rfl (by kernel_rfl) (by kernel_rfl) (by kernel_rfl) (fun _ _ _ h => h) (Or.inl ⟨by rfl, ?hyq11x⟩) hHeld ?_
      case hyq11x =>
        intro W hSw
        clear hSw
        (go_simp; try with_reducible rfl)
      simp only [List.setIfInBounds_toArray, List.set_cons_zero, List.set_cons_succ]
      refine wpAnyH_takeAt (i := 13) (d := 20) (v := ?vq12x) rfl rfl (by kernel_rfl) (by kernel_rfl) (by kernel_rfl) (fun _ _ _ h => h) (Or.inl ⟨by rfl, ?hyq12x⟩) hHeld ?_
      case hyq12x =>
        intro W hSw
        clear hSw
        (go_simp; try with_reducible rfl)
      simp only [List.setIfInBounds_toArray, List.set_cons_zero, List.set_cons_succ]
      refine wpAnyH_takeAt (i := 14) (d := 21) (v := ?vq13x) rfl rfl (by kernel_rfl) (by kernel_rfl) (by kernel_rfl) (fun _ _ _ h => h) (Or.inl ⟨by rfl, ?hyq13x⟩) hHeld ?_
      case hyq13x =>
        intro W hSw
        clear hSw
        (go_simp; try with_reducible rfl)
      simp only [List.setIfInBounds_toArray, List.set_cons_zero, List.set_cons_succ]
      refine wpAnyH_done (by kernel_rfl) ?_ _
      clear hHeld hF
      have ce' : w6.cell? (ad1.add i) = some (.int .i64 (z1 i)) := (hcw6.cell (p := ad1.add i) (by rw [block_of_add]; exact hl1)).trans ce
      have cn' : w6.cell? (ad2.add k) = some (.int .i64 (z2 k)) := (hcw6.cell (p := ad2.add k) (by rw [block_of_add]; exact hl2)).trans cn
      have hl1' : ad1.block < w6.heap.size := Nat.lt_of_lt_of_le hl1 hcw6.size
      have hl2' : ad2.block < w6.heap.size := Nat.lt_of_lt_of_le hl2 hcw6.size
      have HB6 := Lib.hid (HB.out.trans (hcw6.mono HB.out.size))
      clear ce cn hl1 hl2
      have hC : Calls Try.prog 21 #[.slice A len0 c, .int .i64 (z1 i), .int .i64 (z2 k)] w6.drew fun e w' => e = .returned (.tuple #[.int .i64 0, .int .i64 2]) ∧ Below w6.drew.heap.size w6.drew w' := by
        have := Cut_any (w := w6.drew) (c := c) ((HL.out.below HB6.out).below (Below.refl _ _).drew) (by omega) (z1 i) (z2 k)
        rwa [ask_no HNO.out, if_neg HNO.out] at this
      go_wp2_with fail
      refine wp_region_np ?_
      refine wp_region_held_drew (S := fun W => Below w6.heap.size w6 W) (by kernel_rfl) (show Below w6.heap.size w6 w6.drew from (Below.refl _ _).drew) (fun hHeld => ?_)
      refine wpAnyH_takeAt (i := 0) (d := 171) (v := ?vq14x) rfl rfl (by kernel_rfl) (by kernel_rfl) (by kernel_rfl) (fun _ _ _ h => h) (Or.inl ⟨by rfl, ?hyq14x⟩) hHeld ?_
      case hyq14x =>
        intro W hSw
        clear hSw
        (go_simp; try with_reducible rfl)
      simp only [List.setIfInBounds_toArray, List.set_cons_zero, List.set_cons_succ]
      refine wpAnyH_takeAt (i := 1) (d := 172) (v := ?vq15x) rfl rfl (by kernel_rfl) (by kernel_rfl) (by kernel_rfl) (fun _ _ _ h => h) (Or.inl ⟨by rfl, ?hyq15x⟩) hHeld ?_
      case hyq15x =>
        intro W hSw
        clear hSw
        (go_simp; try with_reducible rfl)
      simp only [List.setIfInBounds_toArray, List.set_cons_zero, List.set_cons_succ]
      refine wpAnyH_takeAt (i := 2) (d := 173) (v := ?vq16x) rfl rfl (by kernel_rfl) (by kernel_rfl) (by kernel_rfl) (fun _ _ _ h => h) (Or.inl ⟨by rfl, ?hyq16x⟩) hHeld ?_
      case hyq16x =>
        intro W hSw
        clear hSw
        (go_simp; try with_reducible rfl)
      simp only [List.setIfInBounds_toArray, List.set_cons_zero, List.set_cons_succ]
      refine wpAnyH_takeAt (i := 3) (d := 174) (v := ?vq17x) rfl rfl (by kernel_rfl) (by kernel_rfl) (by kernel_rfl) (fun _ _ _ h => h) (Or.inl ⟨by rfl, ?hyq17x⟩) hHeld ?_
      case hyq17x =>
        intro W hSw
        clear hSw
        (go_simp; try with_reducible rfl)
      simp only [List.setIfInBounds_toArray, List.set_cons_zero, List.set_cons_succ]
      refine wpAnyH_takeAt (i := 4) (d := 175) (v := ?vq18x) rfl rfl (by kernel_rfl) (by kernel_rfl) (by kernel_rfl) (fun _ _ _ h => h) (Or.inl ⟨by rfl, ?hyq18x⟩) hHeld ?_
      case hyq18x =>
        intro W hSw
        have qc : W.cell? (ad1.add i) = some (.int .i64 (z1 i)) := (hSw.cell (p := ad1.add i) (by rw [block_of_add]; exact hl1')).trans ce'; clear hSw
        (go_simp; try with_reducible rfl)
      simp only [List.setIfInBounds_toArray, List.set_cons_zero, List.set_cons_succ]
      refine wpAnyH_takeAt (i := 5) (d := 176) (v := ?vq19x) rfl rfl (by kernel_rfl) (by kernel_rfl) (by kernel_rfl) (fun _ _ _ h => h) (Or.inl ⟨by rfl, ?hyq19x⟩) hHeld ?_
      case hyq19x =>
        intro W hSw
        clear hSw
        (go_simp; try with_reducible rfl)
      simp only [List.setIfInBounds_toArray, List.set_cons_zero, List.set_cons_succ]
      refine wpAnyH_takeAt (i := 6) (d := 177) (v := ?vq20x) rfl rfl (by kernel_rfl) (by kernel_rfl) (by kernel_rfl) (fun _ _ _ h => h) (Or.inl ⟨by rfl, ?hyq20x⟩) hHeld ?_
      case hyq20x =>
        intro W hSw
        clear hSw
        (go_simp; try with_reducible rfl)
      simp only [List.setIfInBounds_toArray, List.set_cons_zero, List.set_cons_succ]
      refine wpAnyH_takeAt (i := 7) (d := 178) (v := ?vq21x) rfl rfl (by kernel_rfl) (by kernel_rfl) (by kernel_rfl) (fun _ _ _ h => h) (Or.inl ⟨by rfl, ?hyq21x⟩) hHeld ?_
      case hyq21x =>
        intro W hSw
        clear hSw
        (go_simp; try with_reducible rfl)
      simp only [List.setIfInBounds_toArray, List.set_cons_zero, List.set_cons_succ]
      refine wpAnyH_takeAt (i := 8) (d := 179) (v := ?vq22x) rfl rfl (by kernel_rfl) (by kernel_rfl) (by kernel_rfl) (fun _ _ _ h => h) (Or.inl ⟨by rfl, ?hyq22x⟩) hHeld ?_
      case hyq22x =>
        intro W hSw
        have qc : W.cell? (ad2.add k) = some (.int .i64 (z2 k)) := (hSw.cell (p := ad2.add k) (by rw [block_of_add]; exact hl2')).trans cn'; clear hSw
        (go_simp; try with_reducible rfl)
      simp only [List.setIfInBounds_toArray, List.set_cons_zero, List.set_cons_succ]
      refine wpAnyH_ready (rs := [9]) (by kernel_rfl) (by simp) (AllReadyH.cons rfl (fun K hK => ?_) AllReadyH.nil)
      go_simp
      refine hC.mono ?_
      rintro e w7 ⟨rfl, hbw7⟩
      dsimp only
      have hcw7 : Below w6.heap.size w6 w7 := ((Below.refl _ _).drew).trans hbw7
      refine hK.out _ _ (show Below w6.heap.size w6 w7 from hcw7) (fun hHeld => ?_)
      clear hK K
      try simp only [List.setIfInBounds_toArray, List.set_cons_zero, List.set_cons_succ]
      refine wpAnyH_takeAt (i := 10) (d := 170) (v := ?vq23x) rfl rfl (by kernel_rfl) (by kernel_rfl) (by kernel_rfl) (fun _ _ _ h => h) (Or.inl ⟨by rfl, ?hyq23x⟩) hHeld ?_
      case hyq23x =>
        intro W hSw
        clear hSw
        (go_simp; try with_reducible rfl)
      simp only [List.setIfInBounds_toArray, List.set_cons_zero, List.set_cons_succ]
      refine wpAnyH_takeAt (i := 11) (d := 181) (v := ?vq24x) rfl rfl (by kernel_rfl) (by kernel_rfl) (by kernel_rfl) (fun _ _ _ h => h) (Or.inl ⟨by rfl, ?hyq24x⟩) hHeld ?_
      case hyq24x =>
        intro W hSw
        clear hSw
        (go_simp; try with_reducible rfl)
      simp only [List.setIfInBounds_toArray, List.set_cons_zero, List.set_cons_succ]
      refine wpAnyH_takeAt (i := 12) (d := 182) (v := ?vq25x) rfl rfl (by kernel_rfl) (by kernel_rfl) (by kernel_rfl) (fun _ _ _ h => h) (Or.inl ⟨by rfl, ?hyq25x⟩) hHeld ?_
      case hyq25x =>
        intro W hSw
        clear hSw
        (go_simp; try with_reducible rfl)
      simp only [List.setIfInBounds_toArray, List.set_cons_zero, List.set_cons_succ]
      refine wpAnyH_takeAt (i := 13) (d := 22) (v := ?vq26x) rfl rfl (by kernel_rfl) (by kernel_rfl) (by kernel_rfl) (fun _ _ _ h => h) (Or.inl ⟨by rfl, ?hyq26x⟩) hHeld ?_
      case hyq26x =>
        intro W hSw
        clear hSw
        (go_simp; try with_reducible rfl)
      simp only [List.setIfInBounds_toArray, List.set_cons_zero, List.set_cons_succ]
      refine wpAnyH_takeAt (i := 14) (d := 23) (v := ?vq27x) rfl rfl (by kernel_rfl) (by kernel_rfl) (by kernel_rfl) (fun _ _ _ h => h) (Or.inl ⟨by rfl, ?hyq27x⟩) hHeld ?_
      case hyq27x =>
        intro W hSw
        clear hSw
        (go_simp; try with_reducible rfl)
      simp only [List.setIfInBounds_toArray, List.set_cons_zero, List.set_cons_succ]
      refine wpAnyH_done (by kernel_rfl) ?_ _
      clear hHeld hC
      have ce2 : w7.cell? (ad1.add i) = some (.int .i64 (z1 i)) := (hcw7.cell (p := ad1.add i) (by rw [block_of_add]; exact hl1')).trans ce'
      have cn2 : w7.cell? (ad2.add k) = some (.int .i64 (z2 k)) := (hcw7.cell (p := ad2.add k) (by rw [block_of_add]; exact hl2')).trans cn'
      have HB7 := Lib.hid (HB6.out.trans (hcw7.mono HB6.out.size))
      clear ce' cn'
      go_wp2_with fail
      exact ⟨⟨k + 1, by omega, by go_num, HB7.out⟩, by simp [intOf]; omega⟩
end Go.Proofs.Ytabbkghnijebpaa
