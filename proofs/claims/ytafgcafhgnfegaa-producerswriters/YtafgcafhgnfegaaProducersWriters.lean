/-
  What a log has of any ID. Nothing is assumed.
-/
import Derived.Test.YtafgcafhgnfegaaWr2
import Derived.Test.YtafgcafhgnfegaaOpen
import Derived.Test.YtafgcafhgnfegaaRefD
import Derived.Test.YtafgcafhgnfegaaTrunc
import Derived.Test.YtafgcafhgnfegaaWriter
import Derived.Test.YtafgcafhgnfegaaTwo2
import Derived.Test.YtafgcafhgnfegaaNums
import Derived.WalkKit
import Derived.ProofKit
import Derived.OpenShut
import Derived.ShutString
import Derived.ChangeOld
import Derived.Below
namespace Go.Proofs.Ytafgcafhgnfegaa.producersWriters
open Go.ChangeShapes Go.WideShapes Go.ChangeAt Go.RowKit Go.Maps
set_option linter.unusedVariables false
theorem own : ownKnob Try.prog.godebug = none := by kernel_rfl
theorem laidOut : laidOutB Try.prog = true := by kernel_rfl
theorem own_frozen {w : World} {e k n c : Nat} {ad : Addr} {css : List (Array Value)} (h : OwnK w e k (.slice (some ad) n c) css) (j : Nat) : w.frozen? (ad.add j) = false := by
  rcases h.1.2 with ⟨he, h0⟩ | ⟨g, cap, cur, he, hg, hh, h1, h2, h3, h4⟩
  · cases he
  · injection he with e1 e2 e3
    injection e1 with e1
    subst e1
    have hadd : (⟨g, 0, none⟩ : Addr).add j = ⟨g, j, none⟩ := by unfold Addr.add; split <;> simp_all
    rw [hadd]
    simp [World.frozen?, hh]
set_option maxHeartbeats 4000000 in
set_option maxRecDepth 100000 in
theorem walk (a0 : Option Addr) (len0 cap0 : Nat) (l0 : List Ent) (n1 : Int) (w : World) (b0 : Rd w No 6 a0 len0 (cellsOf l0)) (hc0 : len0 ≤ cap0) (hm0 : cap0 ≤ maxLen) (hn1 : -9223372036854775808 ≤ n1 ∧ n1 ≤ 9223372036854775807) :
    Calls Try.prog 6 #[.slice a0 len0 cap0, .int .i64 n1] w fun e w' => e = .returned (.bool true) ∧ Below w.heap.size w w' := by
  have HR := Lib.hid b0
  have HLEN := Lib.hid b0.lenE
  clear b0 hc0 hm0
  by_cases hgt : 60 < len0
  case pos =>
    have hd : decide (60 < len0) = true := decide_eq_true hgt
    go_enter Try.func6, Try.ntmps6
    go_wp2_with fail
    refine (works_any _).mono ?_
    rintro r w1 ⟨rfl, hb1⟩
    go_wp2_with fail
    go_ret
    exact ⟨rfl, hb1⟩
  case neg =>
  have hd : decide (60 < len0) = false := decide_eq_false hgt
  go_enter Try.func6, Try.ntmps6
  go_wp2_with fail
  refine (log_of HR.out (by omega)).mono ?_
  rintro r w1 ⟨v1, rfl, hL1, hb1⟩
  have HKL : Hid ((kept l0).length ≤ 60) := Lib.hid (by have := kept_len l0; have := HLEN.out; omega)
  have HKR : Hid (AllR (kept l0)) := Lib.hid (kept_right l0)
  have HKA : Hid (allE [] (kept l0) = 0) := Lib.hid (kept_all l0)
  have HKS : Hid (∀ (id : Int) (p : Int × Nat), p ∈ (wr id (kept l0)).opens → In64 p.1) := Lib.hid (fun id p hp => opens_in64 HKR.out id hp)
  generalize kept l0 = L at *
  have HL1 := Lib.hid hL1
  obtain ⟨A1, c1, rfl, -, -, -⟩ := hL1
  clear hb1
  go_wp2_with fail
  refine (of_any (c := c1) HL1.out.rd (by have := HKL.out; omega)).mono ?_
  rintro r w2 ⟨hb2, hz | hz⟩
  case inr => exact absurd HKA.out hz.1
  obtain ⟨-, g, rfl, hT⟩ := hz
  have HW2 : Hid (Two w g L L (.slice A1 L.length c1) w2) := Lib.hid (Two.made HL1.out hb2 hT)
  clear hT hb2
  by_cases hin : n1 < 0 ∨ 3 < n1
  case pos =>
    have hwr : Calls Try.prog 20 #[.pointer (some ⟨g, 0, none⟩), .int .i64 n1] w2 fun r w' => r = .returned (.tuple #[.agg zero41, .int .i64 2]) ∧ Below w2.heap.size w2 w' := by
      obtain ⟨-, S, ht, -⟩ := HW2.out
      exact writer_no ht hin
    unfold zero41 at hwr
    go_wp2_with fail
    refine hwr.mono ?_
    rintro r w3 ⟨rfl, hb3⟩
    have HB3 := Lib.hid (HW2.out.below.trans (hb3.mono HW2.out.below.size))
    clear hwr hb3
    have hsw : ∀ W : World, Calls Try.prog 29 #[.agg #[.int .i64 0, .int .i64 0, .int .i64 0, .slice none 0 0], .agg #[.int .i64 0, .int .i64 0, .int .i64 0, .slice none 0 0]] W fun r w' => r = .returned (.bool true) ∧ Below W.heap.size W w' := fun W =>
      sameWriter_yes (o := []) (X := No) (Y := No) 0 0 0 Rd.none_ Rd.none_ (by simp)
    have HB4 := Lib.hid (HB3.out.alloc HB3.out.size (.cells #[.int .i64 0, .int .i64 0, .int .i64 0, .slice none 0 0] 41))
    go_upto_region 6 with fail
    have hX4 := Blk.new w3 41 #[.int .i64 0, .int .i64 0, .int .i64 0, .slice none 0 0]
    have x0 := hX4.cell 0
    have x1 := hX4.cell 1
    have x2 := hX4.cell 2
    have x3 := hX4.cell 3
    generalize w3.alloc (.cells #[.int .i64 0, .int .i64 0, .int .i64 0, .slice none 0 0] 41) = w4 at *
    rcases hin with hin | hin
    · have d1 : decide (n1 < 0) = true := decide_eq_true hin
      clear hin
      go_wp2_with fail
      refine (num_any _ _).mono ?_
      rintro r w5 ⟨rfl, rfl⟩
      go_wp2_with fail
      refine (num_any _ _).mono ?_
      rintro r w5 ⟨rfl, rfl⟩
      go_wp2_with fail
      refine (hsw _).mono ?_
      rintro r w6 ⟨rfl, hb6⟩
      have HB6 := Lib.hid (HB4.out.trans (hb6.mono HB4.out.size))
      clear hsw hb6 x0 x1 x2 x3 hX4
      go_wp2_with fail
      refine (works_any _).mono ?_
      rintro r w7 ⟨rfl, hb7⟩
      go_wp2_with fail
      go_ret
      exact ⟨rfl, HB6.out.trans (hb7.mono HB6.out.size)⟩
    · have d1 : decide (n1 < 0) = false := decide_eq_false (by omega)
      have d2 : decide (3 < n1) = true := decide_eq_true hin
      clear hin
      go_wp2_with fail
      refine (num_any _ _).mono ?_
      rintro r w5 ⟨rfl, rfl⟩
      go_wp2_with fail
      refine (num_any _ _).mono ?_
      rintro r w5 ⟨rfl, rfl⟩
      go_wp2_with fail
      refine (hsw _).mono ?_
      rintro r w6 ⟨rfl, hb6⟩
      have HB6 := Lib.hid (HB4.out.trans (hb6.mono HB4.out.size))
      clear hsw hb6 x0 x1 x2 x3 hX4
      go_wp2_with fail
      refine (works_any _).mono ?_
      rintro r w7 ⟨rfl, hb7⟩
      go_wp2_with fail
      go_ret
      exact ⟨rfl, HB6.out.trans (hb7.mono HB6.out.size)⟩
  case neg =>
  obtain ⟨i, hi, rfl⟩ : ∃ i : Nat, i < 4 ∧ n1 = (i : Int) := ⟨n1.toNat, by omega, by omega⟩
  have d1 : decide ((i : Int) < 0) = false := decide_eq_false (by omega)
  have d2 : decide (3 < (i : Int)) = false := decide_eq_false (by omega)
  have hwr : Calls Try.prog 20 #[.pointer (some ⟨g, 0, none⟩), .int .i64 (i : Int)] w2 (WritP w2 (wr (i : Int) L)) := by
    obtain ⟨-, S, ht, -⟩ := HW2.out
    exact writer_yes ht hi
  have HRW : Hid (∀ W, Below w2.heap.size w2 W → Calls Try.prog 30 #[.slice A1 L.length c1, .int .i64 (i : Int)] W (RWritP W (wr (i : Int) L))) := Lib.hid (fun W hbW => refWriter_any (c := c1) (HW2.out.low hbW).log.rd (by have := HKL.out; omega) HKR.out (i : Int))
  have HOL : Hid ((wr (i : Int) L).opens.length ≤ 5000) := Lib.hid (by have := (wr_lens (i : Int) L).1; have := HKL.out; omega)
  have HIN : Hid (∀ p ∈ (wr (i : Int) L).opens, In64 p.1) := Lib.hid (fun p hp => HKS.out _ p hp)
  clear HKS hin
  go_wp2_with fail
  refine hwr.mono ?_
  rintro r w3 ⟨A3, c3, rfl, hO3, hv3, hb3⟩
  have HB3 := Lib.hid hb3
  have HO3 := Lib.hid (And.intro hO3 hv3)
  clear hwr hO3 hv3 hb3
  generalize wr (i : Int) L = x at *
  go_upto_region 6 with fail
  have hX4 := Blk.new w3 41 #[.int .i64 x.high, .int .i64 x.next, .int .i64 x.marked, .slice A3 x.opens.length c3]
  have HX4 : Hid (Blk (w3.alloc (.cells #[.int .i64 x.high, .int .i64 x.next, .int .i64 x.marked, .slice A3 x.opens.length c3] 41)) w3.heap.size 41 #[.int .i64 x.high, .int .i64 x.next, .int .i64 x.marked, .slice A3 x.opens.length c3]) := Lib.hid hX4
  have HO4 : Hid (OwnK (w3.alloc (.cells #[.int .i64 x.high, .int .i64 x.next, .int .i64 x.marked, .slice A3 x.opens.length c3] 41)) 54 2 (.slice A3 x.opens.length c3) (opsOf x.opens)) := Lib.hid (HO3.out.1.alloc _)
  have HB4 : Hid (Below w2.heap.size w2 (w3.alloc (.cells #[.int .i64 x.high, .int .i64 x.next, .int .i64 x.marked, .slice A3 x.opens.length c3] 41))) := Lib.hid (HB3.out.alloc HB3.out.size _)
  clear hX4
  generalize w3.alloc (.cells #[.int .i64 x.high, .int .i64 x.next, .int .i64 x.marked, .slice A3 x.opens.length c3] 41) = w4 at *
  generalize w3.heap.size = bx at *
  have x3 := HX4.out.cell 3
  go_wp2_with fail
  go_loopw [10] (fun iv wv => ∃ k : Nat, k ≤ x.opens.length ∧ iv = .int .i64 k ∧ Below w4.heap.size w4 wv) (fun iv _ => x.opens.length - (iOf iv).toNat)
  case atStart => exact ⟨0, by omega, rfl, Below.refl _ _⟩
  case round =>
    obtain ⟨k, hk, rfl, hbv⟩ := hrel
    have HBV := Lib.hid hbv
    clear x3
    have x3 := (HX4.out.below hbv HX4.out.lt).cell 3
    have hOv := HO4.out.below hbv
    clear hbv
    by_cases hlt : k < x.opens.length
    case pos =>
      have hd1 : decide (k < x.opens.length) = true := by simpa using hlt
      obtain ⟨p, hp⟩ : ∃ p, x.opens[k]? = some p := ⟨_, List.getElem?_eq_getElem hlt⟩
      obtain ⟨ad, rfl, y0, y1⟩ := (hOv.rd (X := No) (fun _ _ h => h)).op hp
      have hpi := HIN.out p (List.mem_of_getElem? hp)
      obtain ⟨hp1, hp2⟩ := hpi
      have x3d : wr.drew.cell? ⟨bx, 3, none⟩ = some (.slice (some ad) x.opens.length c3) := x3
      have y0d : wr.drew.cell? (ad.add (k * 2)) = some (.int .i64 p.1) := y0
      have HS : Hid (wr.setCell (ad.add (k * 2)) (.int .i64 p.1) = wr) := Lib.hid (setCell_same y0)
      have hfz : wr.drew.frozen? (ad.add (k * 2)) = false := own_frozen hOv (k * 2)
      clear hOv y0 y1 hp
      have hol5 := HOL.out
      go_wp2_with fail
      go_still_tail 12, (by kernel_rfl)
      change wpList _ _ _ _ _ wr.drew
      go_wp2_with fail
      rw [HS.out]
      go_round
      case rel => exact ⟨k + 1, by omega, by go_num, HBV.out.drew⟩
      case measure => simp [iOf]; omega
    case neg =>
      have hd1 : decide (k < x.opens.length) = false := by simpa using hlt
      clear hOv
      go_upto_region 12 with fail
      have HX7 := Lib.hid (HX4.out.below HBV.out HX4.out.lt)
      have HO7 := Lib.hid (HO4.out.below HBV.out)
      have HB7 := Lib.hid (HB4.out.trans (HBV.out.mono HB4.out.size))
      clear x3 hlt hd1
      refine wp_region_np ?_
      refine wp_region_held_drew (S := fun W => Below wr.heap.size wr W) (by kernel_rfl) (show Below wr.heap.size wr wr.drew from (Below.refl _ _).drew) (fun hHeld => ?_)
      refine wpAnyH_takeAt (i := 0) (d := 69) (v := ?vq0x) rfl rfl (by kernel_rfl) (by kernel_rfl) (by kernel_rfl) (fun _ _ _ h => h) (Or.inl ⟨by rfl, ?hyq0x⟩) hHeld ?_
      case hyq0x =>
        intro W hSw
        clear hSw
        (go_simp; try with_reducible rfl)
      simp only [List.setIfInBounds_toArray, List.set_cons_zero, List.set_cons_succ]
      refine wpAnyH_takeAt (i := 2) (d := 71) (v := ?vq1x) rfl rfl (by kernel_rfl) (by kernel_rfl) (by kernel_rfl) (fun _ _ _ h => h) (Or.inl ⟨by rfl, ?hyq1x⟩) hHeld ?_
      case hyq1x =>
        intro W hSw
        clear hSw
        (go_simp; try with_reducible rfl)
      simp only [List.setIfInBounds_toArray, List.set_cons_zero, List.set_cons_succ]
      refine wpAnyH_ready (rs := [1]) (by kernel_rfl) (by simp) (AllReadyH.cons rfl (fun K hK => ?_) AllReadyH.nil)
      go_simp
      refine (num_any _ _).mono ?_
      rintro r w8 ⟨rfl, rfl⟩
      dsimp only
      refine hK.out _ _ (show Below wr.heap.size wr wr.drew from (Below.refl _ _).drew) (fun hHeld => ?_)
      clear hK K
      try simp only [List.setIfInBounds_toArray, List.set_cons_zero, List.set_cons_succ]
      refine wpAnyH_ready (rs := [3]) (by kernel_rfl) (by simp) (AllReadyH.cons rfl (fun K hK => ?_) AllReadyH.nil)
      go_simp
      refine (num_any _ _).mono ?_
      rintro r w8 ⟨rfl, rfl⟩
      dsimp only
      refine hK.out _ _ (show Below wr.heap.size wr wr.drew from (Below.refl _ _).drew) (fun hHeld => ?_)
      clear hK K
      try simp only [List.setIfInBounds_toArray, List.set_cons_zero, List.set_cons_succ]
      refine wpAnyH_takeAt (i := 4) (d := 73) (v := ?vq2x) rfl rfl (by kernel_rfl) (by kernel_rfl) (by kernel_rfl) (fun _ _ _ h => h) (Or.inl ⟨by rfl, ?hyq2x⟩) hHeld ?_
      case hyq2x =>
        intro W hSw
        clear hSw
        (go_simp; try with_reducible rfl)
      simp only [List.setIfInBounds_toArray, List.set_cons_zero, List.set_cons_succ]
      refine wpAnyH_takeAt (i := 5) (d := 74) (v := ?vq3x) rfl rfl (by kernel_rfl) (by kernel_rfl) (by kernel_rfl) (fun _ _ _ h => h) (Or.inl ⟨by rfl, ?hyq3x⟩) hHeld ?_
      case hyq3x =>
        intro W hSw
        clear hSw
        (go_simp; try with_reducible rfl)
      simp only [List.setIfInBounds_toArray, List.set_cons_zero, List.set_cons_succ]
      refine wpAnyH_takeAt (i := 6) (d := 75) (v := ?vq4x) rfl rfl (by kernel_rfl) (by kernel_rfl) (by kernel_rfl) (fun _ _ _ h => h) (Or.inl ⟨by rfl, ?hyq4x⟩) hHeld ?_
      case hyq4x =>
        intro W hSw
        clear hSw
        (go_simp; try with_reducible rfl)
      simp only [List.setIfInBounds_toArray, List.set_cons_zero, List.set_cons_succ]
      refine wpAnyH_takeAt (i := 7) (d := 76) (v := ?vq5x) rfl rfl (by kernel_rfl) (by kernel_rfl) (by kernel_rfl) (fun _ _ _ h => h) (Or.inl ⟨by rfl, ?hyq5x⟩) hHeld ?_
      case hyq5x =>
        intro W hSw
        have hX := HX7.out.below (show Below wr.heap.size wr W from hSw) HX7.out.lt; have x0 : W.cell? ⟨bx, 0, none⟩ = some (.int .i64 x.high) := hX.cell 0; have x1 : W.cell? ⟨bx, 1, none⟩ = some (.int .i64 x.next) := hX.cell 1; have x2 : W.cell? ⟨bx, 2, none⟩ = some (.int .i64 x.marked) := hX.cell 2; have x3 : W.cell? ⟨bx, 3, none⟩ = some (.slice A3 x.opens.length c3) := hX.cell 3; clear hX hSw
        (go_simp; try with_reducible rfl)
      simp only [List.setIfInBounds_toArray, List.set_cons_zero, List.set_cons_succ]
      refine wpAnyH_takeAt (i := 8) (d := 77) (v := ?vq6x) rfl rfl (by kernel_rfl) (by kernel_rfl) (by kernel_rfl) (fun _ _ _ h => h) (Or.inl ⟨by rfl, ?hyq6x⟩) hHeld ?_
      case hyq6x =>
        intro W hSw
        clear hSw
        (go_simp; try with_reducible rfl)
      simp only [List.setIfInBounds_toArray, List.set_cons_zero, List.set_cons_succ]
      refine wpAnyH_takeAt (i := 9) (d := 78) (v := ?vq7x) rfl rfl (by kernel_rfl) (by kernel_rfl) (by kernel_rfl) (fun _ _ _ h => h) (Or.inl ⟨by rfl, ?hyq7x⟩) hHeld ?_
      case hyq7x =>
        intro W hSw
        clear hSw
        (go_simp; try with_reducible rfl)
      simp only [List.setIfInBounds_toArray, List.set_cons_zero, List.set_cons_succ]
      refine wpAnyH_ready (rs := [10]) (by kernel_rfl) (by simp) (AllReadyH.cons rfl (fun K hK => ?_) AllReadyH.nil)
      go_simp
      have hbd : Below wr.heap.size wr wr.drew := (Below.refl _ _).drew
      refine (HRW.out _ (HB7.out.trans (hbd.mono HB7.out.size))).mono ?_
      rintro r w8 ⟨A8, c8, rfl, hO8, hv8, hb8⟩
      dsimp only
      have hb18 : Below wr.heap.size wr w8 := hbd.trans hb8
      refine hK.out _ _ (show Below wr.heap.size wr w8 from hb18) (fun hHeld => ?_)
      clear hK K
      try simp only [List.setIfInBounds_toArray, List.set_cons_zero, List.set_cons_succ]
      refine wpAnyH_ready (rs := [11]) (by kernel_rfl) (by simp) (AllReadyH.cons rfl (fun K hK => ?_) AllReadyH.nil)
      go_simp
      refine (sameWriter_yes x.high x.next x.marked ((HO7.out.below hb18).rd (X := No) (fun _ _ h => h)) (hO8.rd (X := No) (fun _ _ h => h)) HOL.out).mono ?_
      rintro r w9 ⟨rfl, hb9⟩
      dsimp only
      have hb19 : Below wr.heap.size wr w9 := hb18.trans (hb9.mono hb18.size)
      refine hK.out _ _ (show Below wr.heap.size wr w9 from hb19) (fun hHeld => ?_)
      clear hK K
      try simp only [List.setIfInBounds_toArray, List.set_cons_zero, List.set_cons_succ]
      refine wpAnyH_takeAt (i := 12) (d := 81) (v := ?vq8x) rfl rfl (by kernel_rfl) (by kernel_rfl) (by kernel_rfl) (fun _ _ _ h => h) (Or.inl ⟨by rfl, ?hyq8x⟩) hHeld ?_
      case hyq8x =>
        intro W hSw
        clear hSw
        (go_simp; try with_reducible rfl)
      simp only [List.setIfInBounds_toArray, List.set_cons_zero, List.set_cons_succ]
      refine wpAnyH_takeAt (i := 13) (d := 82) (v := ?vq9x) rfl rfl (by kernel_rfl) (by kernel_rfl) (by kernel_rfl) (fun _ _ _ h => h) (Or.inl ⟨by rfl, ?hyq9x⟩) hHeld ?_
      case hyq9x =>
        intro W hSw
        clear hSw
        (go_simp; try with_reducible rfl)
      simp only [List.setIfInBounds_toArray, List.set_cons_zero, List.set_cons_succ]
      refine wpAnyH_ready (rs := [14]) (by kernel_rfl) (by simp) (AllReadyH.cons rfl (fun K hK => ?_) AllReadyH.nil)
      go_simp
      refine (works_any _).mono ?_
      rintro r w10 ⟨rfl, hb10⟩
      dsimp only
      have hb110 : Below wr.heap.size wr w10 := hb19.trans (hb10.mono hb19.size)
      refine hK.out _ _ (show Below wr.heap.size wr w10 from hb110) (fun hHeld => ?_)
      clear hK K
      try simp only [List.setIfInBounds_toArray, List.set_cons_zero, List.set_cons_succ]
      refine wpAnyH_takeAt (i := 15) (d := 84) (v := ?vq10x) rfl rfl (by kernel_rfl) (by kernel_rfl) (by kernel_rfl) (fun _ _ _ h => h) (Or.inl ⟨by rfl, ?hyq10x⟩) hHeld ?_
      case hyq10x =>
        intro W hSw
        clear hSw
        (go_simp; try with_reducible rfl)
      simp only [List.setIfInBounds_toArray, List.set_cons_zero, List.set_cons_succ]
      refine wpAnyH_takeAt (i := 16) (d := 4) (v := ?vq11x) rfl rfl (by kernel_rfl) (by kernel_rfl) (by kernel_rfl) (fun _ _ _ h => h) (Or.inl ⟨by rfl, ?hyq11x⟩) hHeld ?_
      case hyq11x =>
        intro W hSw
        clear hSw
        (go_simp; try with_reducible rfl)
      simp only [List.setIfInBounds_toArray, List.set_cons_zero, List.set_cons_succ]
      refine wpAnyH_done (by kernel_rfl) ?_ _
      have HBF := Lib.hid (HB7.out.trans (hb110.mono HB7.out.size))
      clear hb110 hb19 hb18 hb8 hb9 hb10 hO8 hv8
      go_wp2_with fail
      go_ret
      exact ⟨rfl, HW2.out.below.trans (HBF.out.mono HW2.out.below.size)⟩

set_option maxRecDepth 100000 in
theorem lifted (os : Os) (started : os.Started) (H : Type) (enc : TypeId × Value → H) :
    ReturnsInHanded {} Try.checked os 6 .any (Rows.producersWritersSpec.pre6 enc Try.prog Try.f6 Rows.producersWritersRow.domain false) (Rows.producersWritersSpec.post enc Try.prog Try.f6 false true false false) := by
  refine returnsInHanded_of_change (C := Try.checked) own started (by kernel_rfl) Try.func6
    (ChangeSpec.witness6 (enc := enc) (C := Try.checked) false ⟨#[], #[.slice none 0 0, .int .i64 0], []⟩ 8 (by kernel_rfl) (by kernel_rfl) (by kernel_rfl) (by kernel_rfl)) ?_
  intro W base args ds gs before hval0 hW hcnd _
  have hval : ∀ (j : Nat) t v, Try.f6.params[j]? = some t → args[j]? = some v → Value.okWide Try.prog W .any base t v := hval0
  have hW' := hW
  obtain ⟨p, q, hA0, hV, rfl, hfz, hnd⟩ := hW
  have hA : DataW.TrodAll enc Try.prog W 0 (fun _ => true) true Try.f6.params.toList args.toList ds p := hA0
  rw [Try.params6] at hA hval
  obtain ⟨v0, vs0, d0, ds0, p0, q0, hargs, rfl, rfl, h0, r0⟩ := trodAll_cons hA
  obtain ⟨v1, vs1, d1, ds1, p1, q1, rfl, rfl, rfl, h1, r1⟩ := trodAll_cons r0
  obtain ⟨rfl, rfl, rfl⟩ := trodAll_nil r1
  obtain rfl : args = #[v0, v1] := by cases args; simp_all
  obtain ⟨rfl, rfl⟩ := trodVars_none hV
  have k0 := h0
  have lt0 : ∀ x ∈ p0, x.block < W.heap.size := by obtain ⟨m, hm⟩ := k0; exact DataW.trod_lt m _ _ _ hm
  obtain ⟨a0, len0, cap0, rfl⟩ := okWide_slice Try.underlying22 (hval 0 22 v0 rfl rfl)
  obtain ⟨l0, b0, hc0, hm0⟩ := open_ents h0
  have k1 := h1
  have lt1 : ∀ x ∈ p1, x.block < W.heap.size := by obtain ⟨m, hm⟩ := k1; exact DataW.trod_lt m _ _ _ hm
  obtain ⟨n1, rfl, rfl, rfl, wf1⟩ := open_int Try.underlying3 (hval 1 3 v1 rfl rfl) h1
  clear hA0 hval0
  refine (walk a0 len0 cap0 l0 n1 W b0 hc0 hm0 (i64_bounds wf1)).mono fun e W' ⟨he, bel⟩ => ?_
  subst he
  exact ⟨_, rfl, _, _, _, [], _, [], hW', trodAll_mk1 (shut_bool Try.underlying4 _), (trodAll_cons_mk (Below.trod laidOut (by kernel_rfl) (of_decide_eq_true (by kernel_rfl)) k0 bel lt0) (trodAll_cons_mk (Below.trod laidOut (by kernel_rfl) (of_decide_eq_true (by kernel_rfl)) k1 bel lt1) trodAll_mk0)), rfl, bel.frame _, fun h => by cases h⟩

theorem over : Rows.producersWritersRow.holds Try.pinned (OpenSpec.ofChange Rows.producersWritersSpec) :=
  OpenClaim.holds_of_wide 6 Try.f6 rfl rfl rfl rfl rfl rfl rfl ⟨rfl, rfl, rfl, rfl, rfl⟩ rfl rfl rfl rfl rfl (by kernel_rfl) Try.func6 (by kernel_rfl)
    (of_decide_eq_true (by kernel_rfl)) (by unfold Func.isWrapper; first | (rw [if_pos (by decide +kernel)]; kernel_rfl) | (rw [if_neg (by decide +kernel)]; exact ⟨rfl, rfl⟩))
    (fun os started H enc _ => lifted os started H enc)

theorem proved : Rows.ProducersWritersSaid := over
end Go.Proofs.Ytafgcafhgnfegaa.producersWriters
namespace Go.Proofs.Ytafgcafhgnfegaa
theorem producersWriters_holds : Rows.ProducersWritersSaid := producersWriters.proved
#print axioms producersWriters_holds
end Go.Proofs.Ytafgcafhgnfegaa
