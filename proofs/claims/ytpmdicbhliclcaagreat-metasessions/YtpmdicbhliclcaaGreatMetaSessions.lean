/-
  The law MetaSessions: sessions and transactions of one ID, by two who do not know of each other.
-/
import Derived.Test.YtpmdicbhliclcaaGreatPlayv
import Derived.WalkKit
import Derived.ProofKit
import Derived.OpenShut
import Derived.ShutString
import Derived.ChangeOld
import Derived.Below
namespace Go.Proofs.YtpmdicbhliclcaaGreat.metaSessions
open Go.ChangeShapes Go.WideShapes Go.ChangeAt Go.RowKit Go.Maps
set_option linter.unusedVariables false
theorem own : ownKnob Tryz.prog.godebug = none := by kernel_rfl
theorem laidOut : laidOutB Tryz.prog = true := by kernel_rfl
set_option maxHeartbeats 4000000 in
set_option maxRecDepth 100000 in
theorem walk (a0 : Option Addr) (len0 cap0 : Nat) (z0 : Nat → Nat × Nat × Nat) (w : World) (b0 : Rows3 w a0 len0 z0) (hc0 : len0 ≤ cap0) (hm0 : cap0 ≤ maxLen) :
    Calls Tryz.prog 9 #[.slice a0 len0 cap0] w fun e w' => e = .returned (.bool true) ∧ Below w.heap.size w w' := by
  have HP := Lib.hid b0
  clear b0 hc0 hm0
  go_enter Tryz.func9, Tryz.ntmps9
  by_cases h40 : 40 < len0
  case pos =>
    have d1 : decide (40 < len0) = true := decide_eq_true h40
    have d2 : decide ((40 : Int) < (len0 : Int)) = true := decide_eq_true (by omega)
    clear h40
    go_wp2_with fail
    refine (known_any _).mono ?_
    rintro r w4 ⟨rfl, hb4⟩
    have HF := Lib.hid hb4
    clear hb4
    go_wp2_with fail
    go_ret
    exact ⟨rfl, HF.out⟩
  case neg =>
  have d1 : decide (40 < len0) = false := decide_eq_false h40
  have d2 : decide ((40 : Int) < (len0 : Int)) = false := decide_eq_false (by omega)
  have h40' : len0 ≤ 40 := by omega
  have HS0 : Hid (([] : List Ac).length = 0 ∧ AcI w [] (.slice none 0 0) w) := Lib.hid ⟨rfl, AcI.nil w⟩
  clear h40
  go_wp2_with fail
  go_loopw [3, 4] (fun l i wv => ∃ (q : Nat) (k : List Ac), q ≤ len0 ∧ i = .int .i64 q ∧ Hid (k.length = q ∧ AcI w k l wv)) (fun _ i _ => len0 - (iOf i).toNat)
  case atStart => exact ⟨0, _, by omega, rfl, HS0⟩
  case round =>
    clear HS0
    obtain ⟨q, k, hq, rfl, HI⟩ := hrel
    by_cases hlt : q < len0
    case neg =>
      have hd1 : decide (q < len0) = false := decide_eq_false hlt
      clear hlt hq
      obtain ⟨A9, c9, hv⟩ := HI.out.2.form
      subst hv
      have hpl := play_any (k := c9) HI.out.2.acts 1 2 1
      rw [List.length_map] at hpl
      have HB8 := Lib.hid HI.out.2.low
      clear HI
      go_wp2_with fail
      refine hpl.mono ?_
      rintro r w5 ⟨rfl, hb5⟩
      have HF := Lib.hid (HB8.out.trans (hb5.mono HB8.out.size))
      clear hpl hb5
      go_wp2_with fail
      go_ret
      exact ⟨rfl, HF.out⟩
    case pos =>
    have hd1 : decide (q < len0) = true := decide_eq_true hlt
    obtain ⟨h1, h2, h3, ad, eA, -, c0, c1, c2⟩ := HP.out.at_ hlt
    subst eA
    have HE := Lib.hid (And.intro c0 (And.intro c1 c2))
    have HR := Lib.hid (And.intro h1 (And.intro h2 h3))
    have HLT : Hid (q < len0 ∧ len0 ≤ 40) := Lib.hid ⟨hlt, h40'⟩
    clear hlt hq c0 c1 c2 h1 h2 h3
    go_upto_region 7 with fail
    refine wp_region_np ?_
    refine wp_region_held_drew (S := fun W => Below w.heap.size w W) (by kernel_rfl) (show Below w.heap.size w wr.drew from HI.out.2.low.drew) (fun hHeld => ?_)
    have HV : Hid (k.length = q ∧ AcI w k u3 wr.drew) := Lib.hid ⟨HI.out.1, HI.out.2.own.below (Below.refl _ _).drew, HI.out.2.fresh, HI.out.2.low.drew⟩
    generalize hv0 : wr.drew = V0 at *
    clear hv0 HI
    refine wpAnyH_takeAt (i := 0) (d := 15) (v := ?vq0x) rfl rfl (by kernel_rfl) (by kernel_rfl) (by kernel_rfl) (fun _ _ _ h => h) (Or.inl ⟨by rfl, ?hyq0x⟩) hHeld ?_
    case hyq0x =>
      intro W hSw
      clear hSw
      (go_simp; try with_reducible rfl)
    simp only [List.setIfInBounds_toArray, List.set_cons_zero, List.set_cons_succ]
    refine wpAnyH_takeAt (i := 1) (d := 16) (v := ?vq1x) rfl rfl (by kernel_rfl) (by kernel_rfl) (by kernel_rfl) (fun _ _ _ h => h) (Or.inl ⟨by rfl, ?hyq1x⟩) hHeld ?_
    case hyq1x =>
      intro W hSw
      clear hSw
      (go_simp; try with_reducible rfl)
    simp only [List.setIfInBounds_toArray, List.set_cons_zero, List.set_cons_succ]
    refine wpAnyH_takeAt (i := 2) (d := 17) (v := ?vq2x) rfl rfl (by kernel_rfl) (by kernel_rfl) (by kernel_rfl) (fun _ _ _ h => h) (Or.inl ⟨by rfl, ?hyq2x⟩) hHeld ?_
    case hyq2x =>
      intro W hSw
      clear hSw
      (go_simp; try with_reducible rfl)
    simp only [List.setIfInBounds_toArray, List.set_cons_zero, List.set_cons_succ]
    refine wpAnyH_takeAt (i := 3) (d := 18) (v := ?vq3x) rfl rfl (by kernel_rfl) (by kernel_rfl) (by kernel_rfl) (fun _ _ _ h => h) (Or.inl ⟨by rfl, ?hyq3x⟩) hHeld ?_
    case hyq3x =>
      intro W hSw
      clear hSw; have h9 := HLT.out.1
      (go_simp; try with_reducible rfl)
    simp only [List.setIfInBounds_toArray, List.set_cons_zero, List.set_cons_succ]
    refine wpAnyH_takeAt (i := 4) (d := 19) (v := ?vq4x) rfl rfl (by kernel_rfl) (by kernel_rfl) (by kernel_rfl) (fun _ _ _ h => h) (Or.inl ⟨by rfl, ?hyq4x⟩) hHeld ?_
    case hyq4x =>
      intro W hSw
      clear hSw; have h9 := HLT.out.1
      (go_simp; try with_reducible rfl)
    simp only [List.setIfInBounds_toArray, List.set_cons_zero, List.set_cons_succ]
    refine wpAnyH_takeAt (i := 5) (d := 20) (v := ?vq5x) rfl rfl (by kernel_rfl) (by kernel_rfl) (by kernel_rfl) (fun _ _ _ h => h) (Or.inl ⟨by rfl, ?hyq5x⟩) hHeld ?_
    case hyq5x =>
      intro W hSw
      have e0 : W.cell? (ad.add (q * 3)) = some (.int .u8 ((z0 q).1 : Int)) := cell_below HE.out.1 hSw; have e1 : W.cell? ⟨(ad.add (q * 3)).block, (ad.add (q * 3)).off + 1, none⟩ = some (.int .u8 ((z0 q).2.1 : Int)) := cell_below HE.out.2.1 hSw; have e2 : W.cell? ⟨(ad.add (q * 3)).block, (ad.add (q * 3)).off + 2, none⟩ = some (.int .u8 ((z0 q).2.2 : Int)) := cell_below HE.out.2.2 hSw; clear hSw
      (go_simp; try with_reducible rfl)
    simp only [List.setIfInBounds_toArray, List.set_cons_zero, List.set_cons_succ]
    refine wpAnyH_takeAt (i := 6) (d := 21) (v := ?vq6x) rfl rfl (by kernel_rfl) (by kernel_rfl) (by kernel_rfl) (fun _ _ _ h => h) (Or.inl ⟨by rfl, ?hyq6x⟩) hHeld ?_
    case hyq6x =>
      intro W hSw
      clear hSw
      (go_simp; try with_reducible rfl)
    simp only [List.setIfInBounds_toArray, List.set_cons_zero, List.set_cons_succ]
    refine wpAnyH_takeAt (i := 7) (d := 22) (v := ?vq7x) rfl rfl (by kernel_rfl) (by kernel_rfl) (by kernel_rfl) (fun _ _ _ h => h) (Or.inl ⟨by rfl, ?hyq7x⟩) hHeld ?_
    case hyq7x =>
      intro W hSw
      clear hSw
      (go_simp; try with_reducible rfl)
    simp only [List.setIfInBounds_toArray, List.set_cons_zero, List.set_cons_succ]
    refine wpAnyH_takeAt (i := 8) (d := 23) (v := ?vq8x) rfl rfl (by kernel_rfl) (by kernel_rfl) (by kernel_rfl) (fun _ _ _ h => h) (Or.inl ⟨by rfl, ?hyq8x⟩) hHeld ?_
    case hyq8x =>
      intro W hSw
      clear hSw
      (go_simp; try with_reducible rfl)
    simp only [List.setIfInBounds_toArray, List.set_cons_zero, List.set_cons_succ]
    refine wpAnyH_takeAt (i := 9) (d := 24) (v := ?vq9x) rfl rfl (by kernel_rfl) (by kernel_rfl) (by kernel_rfl) (fun _ _ _ h => h) (Or.inl ⟨by rfl, ?hyq9x⟩) hHeld ?_
    case hyq9x =>
      intro W hSw
      clear hSw
      (go_simp; try with_reducible rfl)
    simp only [List.setIfInBounds_toArray, List.set_cons_zero, List.set_cons_succ]
    refine wpAnyH_takeAt (i := 10) (d := 25) (v := ?vq10x) rfl rfl (by kernel_rfl) (by kernel_rfl) (by kernel_rfl) (fun _ _ _ h => h) (Or.inl ⟨by rfl, ?hyq10x⟩) hHeld ?_
    case hyq10x =>
      intro W hSw
      clear hSw
      (go_simp; try with_reducible rfl)
    simp only [List.setIfInBounds_toArray, List.set_cons_zero, List.set_cons_succ]
    refine wpAnyH_takeAt (i := 11) (d := 26) (v := ?vq11x) rfl rfl (by kernel_rfl) (by kernel_rfl) (by kernel_rfl) (fun _ _ _ h => h) (Or.inl ⟨by rfl, ?hyq11x⟩) hHeld ?_
    case hyq11x =>
      intro W hSw
      clear hSw; have h9 := HLT.out.1
      (go_simp; try with_reducible rfl)
    simp only [List.setIfInBounds_toArray, List.set_cons_zero, List.set_cons_succ]
    refine wpAnyH_takeAt (i := 12) (d := 27) (v := ?vq12x) rfl rfl (by kernel_rfl) (by kernel_rfl) (by kernel_rfl) (fun _ _ _ h => h) (Or.inl ⟨by rfl, ?hyq12x⟩) hHeld ?_
    case hyq12x =>
      intro W hSw
      clear hSw; have h9 := HLT.out.1
      (go_simp; try with_reducible rfl)
    simp only [List.setIfInBounds_toArray, List.set_cons_zero, List.set_cons_succ]
    refine wpAnyH_takeAt (i := 13) (d := 28) (v := ?vq13x) rfl rfl (by kernel_rfl) (by kernel_rfl) (by kernel_rfl) (fun _ _ _ h => h) (Or.inl ⟨by rfl, ?hyq13x⟩) hHeld ?_
    case hyq13x =>
      intro W hSw
      have e0 : W.cell? (ad.add (q * 3)) = some (.int .u8 ((z0 q).1 : Int)) := cell_below HE.out.1 hSw; have e1 : W.cell? ⟨(ad.add (q * 3)).block, (ad.add (q * 3)).off + 1, none⟩ = some (.int .u8 ((z0 q).2.1 : Int)) := cell_below HE.out.2.1 hSw; have e2 : W.cell? ⟨(ad.add (q * 3)).block, (ad.add (q * 3)).off + 2, none⟩ = some (.int .u8 ((z0 q).2.2 : Int)) := cell_below HE.out.2.2 hSw; clear hSw
      (go_simp; try with_reducible rfl)
    simp only [List.setIfInBounds_toArray, List.set_cons_zero, List.set_cons_succ]
    refine wpAnyH_takeAt (i := 14) (d := 29) (v := ?vq14x) rfl rfl (by kernel_rfl) (by kernel_rfl) (by kernel_rfl) (fun _ _ _ h => h) (Or.inl ⟨by rfl, ?hyq14x⟩) hHeld ?_
    case hyq14x =>
      intro W hSw
      clear hSw
      (go_simp; try with_reducible rfl)
    simp only [List.setIfInBounds_toArray, List.set_cons_zero, List.set_cons_succ]
    refine wpAnyH_takeAt (i := 15) (d := 30) (v := ?vq15x) rfl rfl (by kernel_rfl) (by kernel_rfl) (by kernel_rfl) (fun _ _ _ h => h) (Or.inl ⟨by rfl, ?hyq15x⟩) hHeld ?_
    case hyq15x =>
      intro W hSw
      clear hSw
      (go_simp; try with_reducible rfl)
    simp only [List.setIfInBounds_toArray, List.set_cons_zero, List.set_cons_succ]
    refine wpAnyH_takeAt (i := 16) (d := 31) (v := ?vq16x) rfl rfl (by kernel_rfl) (by kernel_rfl) (by kernel_rfl) (fun _ _ _ h => h) (Or.inl ⟨by rfl, ?hyq16x⟩) hHeld ?_
    case hyq16x =>
      intro W hSw
      clear hSw
      (go_simp; try with_reducible rfl)
    simp only [List.setIfInBounds_toArray, List.set_cons_zero, List.set_cons_succ]
    refine wpAnyH_takeAt (i := 17) (d := 32) (v := ?vq17x) rfl rfl (by kernel_rfl) (by kernel_rfl) (by kernel_rfl) (fun _ _ _ h => h) (Or.inl ⟨by rfl, ?hyq17x⟩) hHeld ?_
    case hyq17x =>
      intro W hSw
      clear hSw
      (go_simp; try with_reducible rfl)
    simp only [List.setIfInBounds_toArray, List.set_cons_zero, List.set_cons_succ]
    refine wpAnyH_takeAt (i := 18) (d := 33) (v := ?vq18x) rfl rfl (by kernel_rfl) (by kernel_rfl) (by kernel_rfl) (fun _ _ _ h => h) (Or.inl ⟨by rfl, ?hyq18x⟩) hHeld ?_
    case hyq18x =>
      intro W hSw
      clear hSw
      (go_simp; try with_reducible rfl)
    simp only [List.setIfInBounds_toArray, List.set_cons_zero, List.set_cons_succ]
    refine wpAnyH_takeAt (i := 19) (d := 34) (v := ?vq19x) rfl rfl (by kernel_rfl) (by kernel_rfl) (by kernel_rfl) (fun _ _ _ h => h) (Or.inl ⟨by rfl, ?hyq19x⟩) hHeld ?_
    case hyq19x =>
      intro W hSw
      clear hSw; have h9 := HLT.out.1
      (go_simp; try with_reducible rfl)
    simp only [List.setIfInBounds_toArray, List.set_cons_zero, List.set_cons_succ]
    refine wpAnyH_takeAt (i := 20) (d := 35) (v := ?vq20x) rfl rfl (by kernel_rfl) (by kernel_rfl) (by kernel_rfl) (fun _ _ _ h => h) (Or.inl ⟨by rfl, ?hyq20x⟩) hHeld ?_
    case hyq20x =>
      intro W hSw
      clear hSw; have h9 := HLT.out.1
      (go_simp; try with_reducible rfl)
    simp only [List.setIfInBounds_toArray, List.set_cons_zero, List.set_cons_succ]
    refine wpAnyH_takeAt (i := 21) (d := 36) (v := ?vq21x) rfl rfl (by kernel_rfl) (by kernel_rfl) (by kernel_rfl) (fun _ _ _ h => h) (Or.inl ⟨by rfl, ?hyq21x⟩) hHeld ?_
    case hyq21x =>
      intro W hSw
      have e0 : W.cell? (ad.add (q * 3)) = some (.int .u8 ((z0 q).1 : Int)) := cell_below HE.out.1 hSw; have e1 : W.cell? ⟨(ad.add (q * 3)).block, (ad.add (q * 3)).off + 1, none⟩ = some (.int .u8 ((z0 q).2.1 : Int)) := cell_below HE.out.2.1 hSw; have e2 : W.cell? ⟨(ad.add (q * 3)).block, (ad.add (q * 3)).off + 2, none⟩ = some (.int .u8 ((z0 q).2.2 : Int)) := cell_below HE.out.2.2 hSw; clear hSw
      (go_simp; try with_reducible rfl)
    simp only [List.setIfInBounds_toArray, List.set_cons_zero, List.set_cons_succ]
    refine wpAnyH_takeAt (i := 22) (d := 37) (v := ?vq22x) rfl rfl (by kernel_rfl) (by kernel_rfl) (by kernel_rfl) (fun _ _ _ h => h) (Or.inl ⟨by rfl, ?hyq22x⟩) hHeld ?_
    case hyq22x =>
      intro W hSw
      clear hSw
      (go_simp; try with_reducible rfl)
    simp only [List.setIfInBounds_toArray, List.set_cons_zero, List.set_cons_succ]
    refine wpAnyH_takeAt (i := 23) (d := 38) (v := ?vq23x) rfl rfl (by kernel_rfl) (by kernel_rfl) (by kernel_rfl) (fun _ _ _ h => h) (Or.inl ⟨by rfl, ?hyq23x⟩) hHeld ?_
    case hyq23x =>
      intro W hSw
      clear hSw
      (go_simp; try with_reducible rfl)
    simp only [List.setIfInBounds_toArray, List.set_cons_zero, List.set_cons_succ]
    refine wpAnyH_takeAt (i := 24) (d := 39) (v := ?vq24x) rfl rfl (by kernel_rfl) (by kernel_rfl) (by kernel_rfl) (fun _ _ _ h => h) (Or.inl ⟨by rfl, ?hyq24x⟩) hHeld ?_
    case hyq24x =>
      intro W hSw
      clear hSw
      (go_simp; try with_reducible rfl)
    simp only [List.setIfInBounds_toArray, List.set_cons_zero, List.set_cons_succ]
    refine wpAnyH_takeAt (i := 25) (d := 40) (v := ?vq25x) rfl rfl (by kernel_rfl) (by kernel_rfl) (by kernel_rfl) (fun _ _ _ h => h) (Or.inl ⟨by rfl, ?hyq25x⟩) hHeld ?_
    case hyq25x =>
      intro W hSw
      clear hSw
      (go_simp; try with_reducible rfl)
    simp only [List.setIfInBounds_toArray, List.set_cons_zero, List.set_cons_succ]
    refine wpAnyH_takeAt (i := 26) (d := 41) (v := ?vq26x) rfl rfl (by kernel_rfl) (by kernel_rfl) (by kernel_rfl) (fun _ _ _ h => h) (Or.inl ⟨by rfl, ?hyq26x⟩) hHeld ?_
    case hyq26x =>
      intro W hSw
      clear hSw; have h9 := HLT.out.1
      (go_simp; try with_reducible rfl)
    simp only [List.setIfInBounds_toArray, List.set_cons_zero, List.set_cons_succ]
    refine wpAnyH_takeAt (i := 27) (d := 42) (v := ?vq27x) rfl rfl (by kernel_rfl) (by kernel_rfl) (by kernel_rfl) (fun _ _ _ h => h) (Or.inl ⟨by rfl, ?hyq27x⟩) hHeld ?_
    case hyq27x =>
      intro W hSw
      clear hSw; have h9 := HLT.out.1
      (go_simp; try with_reducible rfl)
    simp only [List.setIfInBounds_toArray, List.set_cons_zero, List.set_cons_succ]
    refine wpAnyH_takeAt (i := 28) (d := 43) (v := ?vq28x) rfl rfl (by kernel_rfl) (by kernel_rfl) (by kernel_rfl) (fun _ _ _ h => h) (Or.inl ⟨by rfl, ?hyq28x⟩) hHeld ?_
    case hyq28x =>
      intro W hSw
      have e0 : W.cell? (ad.add (q * 3)) = some (.int .u8 ((z0 q).1 : Int)) := cell_below HE.out.1 hSw; have e1 : W.cell? ⟨(ad.add (q * 3)).block, (ad.add (q * 3)).off + 1, none⟩ = some (.int .u8 ((z0 q).2.1 : Int)) := cell_below HE.out.2.1 hSw; have e2 : W.cell? ⟨(ad.add (q * 3)).block, (ad.add (q * 3)).off + 2, none⟩ = some (.int .u8 ((z0 q).2.2 : Int)) := cell_below HE.out.2.2 hSw; clear hSw
      (go_simp; try with_reducible rfl)
    simp only [List.setIfInBounds_toArray, List.set_cons_zero, List.set_cons_succ]
    refine wpAnyH_takeAt (i := 29) (d := 44) (v := ?vq29x) rfl rfl (by kernel_rfl) (by kernel_rfl) (by kernel_rfl) (fun _ _ _ h => h) (Or.inl ⟨by rfl, ?hyq29x⟩) hHeld ?_
    case hyq29x =>
      intro W hSw
      clear hSw
      (go_simp; try with_reducible rfl)
    simp only [List.setIfInBounds_toArray, List.set_cons_zero, List.set_cons_succ]
    refine wpAnyH_takeAt (i := 30) (d := 45) (v := ?vq30x) rfl rfl (by kernel_rfl) (by kernel_rfl) (by kernel_rfl) (fun _ _ _ h => h) (Or.inl ⟨by rfl, ?hyq30x⟩) hHeld ?_
    case hyq30x =>
      intro W hSw
      clear hSw
      (go_simp; try with_reducible rfl)
    simp only [List.setIfInBounds_toArray, List.set_cons_zero, List.set_cons_succ]
    refine wpAnyH_takeAt (i := 31) (d := 46) (v := ?vq31x) rfl rfl (by kernel_rfl) (by kernel_rfl) (by kernel_rfl) (fun _ _ _ h => h) (Or.inl ⟨by rfl, ?hyq31x⟩) hHeld ?_
    case hyq31x =>
      intro W hSw
      clear hSw
      (go_simp; try with_reducible rfl)
    simp only [List.setIfInBounds_toArray, List.set_cons_zero, List.set_cons_succ]
    refine wpAnyH_takeAt (i := 32) (d := 47) (v := ?vq32x) rfl rfl (by kernel_rfl) (by kernel_rfl) (by kernel_rfl) (fun _ _ _ h => h) (Or.inl ⟨by rfl, ?hyq32x⟩) hHeld ?_
    case hyq32x =>
      intro W hSw
      clear hSw
      (go_simp; try with_reducible rfl)
    simp only [List.setIfInBounds_toArray, List.set_cons_zero, List.set_cons_succ]
    refine wpAnyH_takeAt (i := 33) (d := 48) (v := ?vq33x) rfl rfl (by kernel_rfl) (by kernel_rfl) (by kernel_rfl) (fun _ _ _ h => h) (Or.inl ⟨by rfl, ?hyq33x⟩) hHeld ?_
    case hyq33x =>
      intro W hSw
      clear hSw; have h9 := HLT.out.1
      (go_simp; try with_reducible rfl)
    simp only [List.setIfInBounds_toArray, List.set_cons_zero, List.set_cons_succ]
    refine wpAnyH_takeAt (i := 34) (d := 49) (v := ?vq34x) rfl rfl (by kernel_rfl) (by kernel_rfl) (by kernel_rfl) (fun _ _ _ h => h) (Or.inl ⟨by rfl, ?hyq34x⟩) hHeld ?_
    case hyq34x =>
      intro W hSw
      clear hSw; have h9 := HLT.out.1
      (go_simp; try with_reducible rfl)
    simp only [List.setIfInBounds_toArray, List.set_cons_zero, List.set_cons_succ]
    refine wpAnyH_takeAt (i := 35) (d := 50) (v := ?vq35x) rfl rfl (by kernel_rfl) (by kernel_rfl) (by kernel_rfl) (fun _ _ _ h => h) (Or.inl ⟨by rfl, ?hyq35x⟩) hHeld ?_
    case hyq35x =>
      intro W hSw
      have e0 : W.cell? (ad.add (q * 3)) = some (.int .u8 ((z0 q).1 : Int)) := cell_below HE.out.1 hSw; have e1 : W.cell? ⟨(ad.add (q * 3)).block, (ad.add (q * 3)).off + 1, none⟩ = some (.int .u8 ((z0 q).2.1 : Int)) := cell_below HE.out.2.1 hSw; have e2 : W.cell? ⟨(ad.add (q * 3)).block, (ad.add (q * 3)).off + 2, none⟩ = some (.int .u8 ((z0 q).2.2 : Int)) := cell_below HE.out.2.2 hSw; clear hSw
      (go_simp; try with_reducible rfl)
    simp only [List.setIfInBounds_toArray, List.set_cons_zero, List.set_cons_succ]
    refine wpAnyH_takeAt (i := 36) (d := 51) (v := ?vq36x) rfl rfl (by kernel_rfl) (by kernel_rfl) (by kernel_rfl) (fun _ _ _ h => h) (Or.inl ⟨by rfl, ?hyq36x⟩) hHeld ?_
    case hyq36x =>
      intro W hSw
      clear hSw
      (go_simp; try with_reducible rfl)
    simp only [List.setIfInBounds_toArray, List.set_cons_zero, List.set_cons_succ]
    refine wpAnyH_takeAt (i := 37) (d := 52) (v := ?vq37x) rfl rfl (by kernel_rfl) (by kernel_rfl) (by kernel_rfl) (fun _ _ _ h => h) (Or.inl ⟨by rfl, ?hyq37x⟩) hHeld ?_
    case hyq37x =>
      intro W hSw
      clear hSw
      (go_simp; try with_reducible rfl)
    simp only [List.setIfInBounds_toArray, List.set_cons_zero, List.set_cons_succ]
    refine wpAnyH_takeAt (i := 38) (d := 53) (v := ?vq38x) rfl rfl (by kernel_rfl) (by kernel_rfl) (by kernel_rfl) (fun _ _ _ h => h) (Or.inl ⟨by rfl, ?hyq38x⟩) hHeld ?_
    case hyq38x =>
      intro W hSw
      clear hSw
      (go_simp; try with_reducible rfl)
    simp only [List.setIfInBounds_toArray, List.set_cons_zero, List.set_cons_succ]
    refine wpAnyH_ready (rs := [39]) (by kernel_rfl) (by simp) (AllReadyH.cons rfl (fun K hK => ?_) AllReadyH.nil)
    go_simp
    have hHeld2 : Below w.heap.size w (V0.alloc (.cells (aArr (⟨IntKind.i64.wrap (5 + IntKind.i64.wrap (((z0 q).1 : Int).tmod 4)), 0, IntKind.i64.wrap (((z0 q).2.2 : Int).tmod 2), IntKind.i64.wrap (-IntKind.i64.wrap (((z0 q).2.1 : Int).tmod 3)), IntKind.i64.wrap (((z0 q).2.1 : Int).tmod 2), (((z0 q).2.2 : Int).tmod 3 != 0), true⟩ : Ac) (.slice none 0 0)) 43)) := hHeld.alloc hHeld.size _
    refine hK.out _ _ hHeld2 (fun hHeld => ?_)
    clear hK K hHeld2
    try simp only [List.setIfInBounds_toArray, List.set_cons_zero, List.set_cons_succ]
    refine wpAnyH_ready (rs := [40]) (by kernel_rfl) (by simp) (AllReadyH.cons rfl (fun K hK => ?_) AllReadyH.nil)
    refine step_append_a el24 (by rfl) rfl _ _ rfl u3 (rowA k) rfl (HV.out.2.own.alloc _) No (some ⟨V0.heap.size, 0, none⟩) 1 1 (rowA [(⟨IntKind.i64.wrap (5 + IntKind.i64.wrap (((z0 q).1 : Int).tmod 4)), 0, IntKind.i64.wrap (((z0 q).2.2 : Int).tmod 2), IntKind.i64.wrap (-IntKind.i64.wrap (((z0 q).2.1 : Int).tmod 3)), IntKind.i64.wrap (((z0 q).2.1 : Int).tmod 2), (((z0 q).2.2 : Int).tmod 3 != 0), true⟩ : Ac)]) rfl (rd_lit (Blk.new V0 43 _) rfl rfl (fun h => h)) (by rw [rowA_len]; have := HV.out.1; have := HLT.out; omega) (by omega) ?_
    intro v9 w9 ho9 hg9
    have HN : Hid ((k ++ [(⟨IntKind.i64.wrap (5 + IntKind.i64.wrap (((z0 q).1 : Int).tmod 4)), 0, IntKind.i64.wrap (((z0 q).2.2 : Int).tmod 2), IntKind.i64.wrap (-IntKind.i64.wrap (((z0 q).2.1 : Int).tmod 3)), IntKind.i64.wrap (((z0 q).2.1 : Int).tmod 2), (((z0 q).2.2 : Int).tmod 3 != 0), true⟩ : Ac)]).length = (q + 1) ∧ AcI w (k ++ [(⟨IntKind.i64.wrap (5 + IntKind.i64.wrap (((z0 q).1 : Int).tmod 4)), 0, IntKind.i64.wrap (((z0 q).2.2 : Int).tmod 2), IntKind.i64.wrap (-IntKind.i64.wrap (((z0 q).2.1 : Int).tmod 3)), IntKind.i64.wrap (((z0 q).2.1 : Int).tmod 2), (((z0 q).2.2 : Int).tmod 3 != 0), true⟩ : Ac)]) v9 w9) := Lib.hid ⟨by simp; have := HV.out.1; omega, HV.out.2.more ho9 hg9⟩
    refine hK.out _ _ HN.out.2.low (fun hHeld => ?_)
    clear hK K ho9 hg9
    try simp only [List.setIfInBounds_toArray, List.set_cons_zero, List.set_cons_succ]
    refine wpAnyH_takeAt (i := 41) (d := 3) (v := ?vq39x) rfl rfl (by kernel_rfl) (by kernel_rfl) (by kernel_rfl) (fun _ _ _ h => h) (Or.inl ⟨by rfl, ?hyq39x⟩) hHeld ?_
    case hyq39x =>
      intro W hSw
      clear hSw
      (go_simp; try with_reducible rfl)
    simp only [List.setIfInBounds_toArray, List.set_cons_zero, List.set_cons_succ]
    refine wpAnyH_done (by kernel_rfl) ?_ _
    clear hHeld
    have hq5 := HLT.out.1
    have hq6 := HLT.out.2
    go_wp2_with fail
    go_round
    case rel => exact ⟨q + 1, _, by have := HLT.out; omega, by go_num, HN⟩
    case measure => simp [iOf]; have := HLT.out; omega

set_option maxRecDepth 100000 in
theorem lifted (os : Os) (started : os.Started) (H : Type) (enc : TypeId × Value → H) :
    ReturnsInHanded {} Tryz.checked os 9 .any (Rows.metaSessionsSpec.pre6 enc Tryz.prog Tryz.f9 Rows.metaSessionsRow.domain false) (Rows.metaSessionsSpec.post enc Tryz.prog Tryz.f9 false true false false) := by
  refine returnsInHanded_of_change (C := Tryz.checked) own started (by kernel_rfl) Tryz.func9
    (ChangeSpec.witness6 (enc := enc) (C := Tryz.checked) false ⟨#[], #[.slice none 0 0], []⟩ 8 (by kernel_rfl) (by kernel_rfl) (by kernel_rfl) (by kernel_rfl)) ?_
  intro W base args ds gs before hval0 hW hcnd _
  have hval : ∀ (j : Nat) t v, Tryz.f9.params[j]? = some t → args[j]? = some v → Value.okWide Tryz.prog W .any base t v := hval0
  have hW' := hW
  obtain ⟨p, q, hA0, hV, rfl, hfz, hnd⟩ := hW
  have hA : DataW.TrodAll enc Tryz.prog W 0 (fun _ => true) true Tryz.f9.params.toList args.toList ds p := hA0
  rw [Tryz.params9] at hA hval
  obtain ⟨v0, vs0, d0, ds0, p0, q0, hargs, rfl, rfl, h0, r0⟩ := trodAll_cons hA
  obtain ⟨rfl, rfl, rfl⟩ := trodAll_nil r0
  obtain rfl : args = #[v0] := by cases args; simp_all
  obtain ⟨rfl, rfl⟩ := trodVars_none hV
  have k0 := h0
  have lt0 : ∀ x ∈ p0, x.block < W.heap.size := by obtain ⟨m, hm⟩ := k0; exact DataW.trod_lt m _ _ _ hm
  obtain ⟨a0, len0, cap0, rfl⟩ := okWide_slice Tryz.underlying82 (hval 0 82 v0 rfl rfl)
  obtain ⟨⟨z0, b0⟩, hc0, hm0⟩ := open_rows3 h0
  clear hA0 hval0
  refine (walk a0 len0 cap0 z0 W b0 hc0 hm0).mono fun e W' ⟨he, bel⟩ => ?_
  subst he
  exact ⟨_, rfl, _, _, _, [], _, [], hW', trodAll_mk1 (shut_bool Tryz.underlying4 _), (trodAll_cons_mk (Below.trod laidOut (by kernel_rfl) (of_decide_eq_true (by kernel_rfl)) k0 bel lt0) trodAll_mk0), rfl, bel.frame _, fun h => by cases h⟩

theorem over : Rows.metaSessionsRow.holds Tryz.pinned (OpenSpec.ofChange Rows.metaSessionsSpec) :=
  OpenClaim.holds_of_wide 9 Tryz.f9 rfl rfl rfl rfl rfl rfl rfl ⟨rfl, rfl, rfl, rfl, rfl⟩ rfl rfl rfl rfl rfl (by kernel_rfl) Tryz.func9 (by kernel_rfl)
    (of_decide_eq_true (by kernel_rfl)) (by unfold Func.isWrapper; first | (rw [if_pos (by decide +kernel)]; kernel_rfl) | (rw [if_neg (by decide +kernel)]; exact ⟨rfl, rfl⟩))
    (fun os started H enc _ => lifted os started H enc)

theorem proved : Rows.MetaSessionsSaid := over
end Go.Proofs.YtpmdicbhliclcaaGreat.metaSessions
namespace Go.Proofs.YtpmdicbhliclcaaGreat
theorem metaSessions_holds : Rows.MetaSessionsSaid := metaSessions.proved
#print axioms metaSessions_holds
end Go.Proofs.YtpmdicbhliclcaaGreat
