/-
  Numbers, WireNumbers: a number above the signed numbers.
-/
import Derived.Test.YtickdpgfiianjaaNumbers
import Derived.Test.YtickdpgfiianjaaTakeOf
import Derived.Test.YtickdpgfiianjaaOpen
import Derived.Test.YtickdpgfiianjaaRefTake
import Derived.Test.YtickdpgfiianjaaRefNum
import Derived.Test.YtickdpgfiianjaaWorks
import Derived.WalkKit
import Derived.ProofKit
import Derived.Below
namespace Go.Proofs.Ytickdpgfiianjaa.wireNumbers
open Go.ChangeShapes Go.WideShapes Go.ChangeAt Go.RowKit
set_option linter.unusedVariables false
set_option maxHeartbeats 4000000 in
set_option maxRecDepth 100000 in
theorem caseD (N : Nat) (a1 : Option Addr) (len1 cap1 : Nat) (l1 : List UInt8) (w : World) (b1 : Bys w w.heap.size a1 len1 l1) (hc1 : len1 ≤ cap1) (hmx : cap1 ≤ 9223372036854775807) (h2 : ¬ 100 < len1) (hN : N < 9223372036854775808) (hneg : 0 ≤ (N : Int)) (hs : ¬ (-4611686018427387904 ≤ (N : Int) ∧ (N : Int) ≤ 4611686018427387903)) :
    Calls Try.prog 3 #[.int .i64 (N : Int), .slice a1 len1 cap1] w fun e w' => e = .returned (.bool true) ∧ Below w.heap.size w w' := by
  have HB0 := Lib.hid (Below.refl w.heap.size w)
  go_enter Try.func3, Try.ntmps3
  go_wp2_with fail
  refine (wireNumber_yes N hN w).mono ?_
  rintro r w1 ⟨v, rfl, ho, hb⟩
  obtain ⟨Aa, qa, ca, rfl, hq⟩ := ho.form2
  have hqa : qa ≤ 10 := by rw [hq]; exact length_num _
  have HLa : Hid ((num N).length = qa) := Lib.hid hq.symm
  have HTa : Hid (tk ((num N) ++ l1) = .num (N) qa) := Lib.hid (by rw [hq]; exact tk_num _ (by first | omega | exact fold_lt hs) _)
  clear hq
  have HYa := Lib.hid ho.bys
  clear ho
  have HB1 : Hid (Below w.heap.size w w1) := Lib.hid (HB0.out.trans (hb.mono HB0.out.size))
  have hz1 := HB1.out.size
  clear hb
  go_wp2_with fail
  refine (wireSigned_no (N : Int) hs w1).mono ?_
  rintro r w' ⟨rfl, rfl⟩
  go_wp2_with (first | (go_at_call 17; refine (num_any _ _).mono ?_; rintro e w' ⟨rfl, rfl⟩) | (go_at_call 18; refine (inSign_no _ hs _).mono ?_; rintro e w' ⟨rfl, rfl⟩) | (at_builtin; refine stop ?_))
  refine Stop.go (wpList_append_want _ (by rfl) _ _ (by rfl) w1.heap.size _ [] (by rfl) (own_empty _ _ (Nat.le_refl _)) w1.heap.size Aa qa ca (num N) (by rfl) (HYa.out.alloc (Nat.le_refl _) _) (by simp) (by omega) (le_alloc (Nat.le_refl _) _) ?_)
  intro v2 w2 ho2 hb
  rw [List.nil_append] at ho2
  have hb2 : Below w1.heap.size w1 w2 := ((Below.refl _ _).alloc (Nat.le_refl _) _).trans hb
  clear hb
  go_wp2_with (at_builtin; refine stop ?_)
  refine Stop.go (wpList_append_want _ (by rfl) _ _ (by rfl) w1.heap.size _ (num N) (by rfl) ho2 w.heap.size a1 len1 cap1 l1 (by rfl) (b1.below (HB1.out.trans (hb2.mono HB1.out.size))) (by have := HLa.out; omega) (by omega) hb2.size ?_)
  intro v3 w3 ho3 hb
  have hb3 : Below w1.heap.size w1 w3 := hb2.trans hb
  replace HYa := Lib.hid ((HYa.out.below hb3).more hb3.size)
  have HB3 : Hid (Below w.heap.size w w3) := Lib.hid (HB1.out.trans (hb3.mono HB1.out.size))
  have hz3 := HB3.out.size
  clear hb hb2 hb3 ho2
  obtain ⟨A3, q3, c3, rfl, hq3⟩ := ho3.form2
  have HQ3 : Hid (q3 < 1000000) := Lib.hid (by rw [hq3, List.length_append, b1.1, HLa.out]; omega)
  clear hq3
  go_wp2_with fail
  refine (take_any _ q3 c3 _ w3 ho3.bys HQ3.out).mono ?_
  rintro r w4 ⟨rfl, hb⟩
  rw [HTa.out]
  dsimp only [tkNum, tksNum, tkLen, tkErr]
  replace HYa := Lib.hid ((HYa.out.below hb).more hb.size)
  have HB4 : Hid (Below w.heap.size w w4) := Lib.hid (HB3.out.trans (hb.mono HB3.out.size))
  have hz4 := HB4.out.size
  clear hb ho3
  go_wp2_with fail
  have SSa : Hid (∀ W, Below w4.heap.size w4 W → (convert 22 9 (.slice Aa qa ca)).run Try.prog W = .ok (.string (str (num N))) W) :=
    Lib.hid fun W hW => conv_str W _ _ _ _ _ (HYa.out.below hW)
  have hbd : Below w4.heap.size w4 w4.drew := (Below.refl _ _).drew
  have t1 := str_toList (num N)
  refine wp_region_np ?_
  refine wp_region_held_drew (S := fun W => (convert 22 9 (.slice Aa qa ca)).run Try.prog W = .ok (.string (str (num N))) W) (by kernel_rfl) (SSa.out _ hbd) (fun hHeld => ?_)
  refine wpAnyH_takeAt (i := 0) (d := 68) (v := ?vax4y0) rfl rfl (by kernel_rfl) (by kernel_rfl) (by kernel_rfl) (fun _ _ _ h => h) (Or.inl ⟨by rfl, ?hyax4y0⟩) hHeld ?_
  case hyax4y0 =>
    intro W hSw
    clear hSw
    (go_simp; try with_reducible rfl)
  simp only [List.setIfInBounds_toArray, List.set_cons_zero, List.set_cons_succ]
  refine wpAnyH_takeAt (i := 2) (d := 70) (v := ?vax4y2) rfl rfl (by kernel_rfl) (by kernel_rfl) (by kernel_rfl) (fun _ _ _ h => h) (Or.inl ⟨by rfl, ?hyax4y2⟩) hHeld ?_
  case hyax4y2 =>
    intro W hSw
    clear hSw
    (go_simp; try with_reducible rfl)
  simp only [List.setIfInBounds_toArray, List.set_cons_zero, List.set_cons_succ]
  refine wpAnyH_ready (rs := [1]) (by kernel_rfl) (by simp) (AllReadyH.cons rfl (fun K hK => ?_) AllReadyH.nil)
  go_simp
  refine (num_any _ _).mono ?_
  rintro r w' ⟨rfl, rfl⟩
  dsimp only
  refine hK.out _ _ hHeld (fun hHeld => ?_)
  clear hK K
  refine wpAnyH_ready (rs := [3]) (by kernel_rfl) (by simp) (AllReadyH.cons rfl (fun K hK => ?_) AllReadyH.nil)
  go_simp
  refine (num_any _ _).mono ?_
  rintro r w' ⟨rfl, rfl⟩
  dsimp only
  refine hK.out _ _ hHeld (fun hHeld => ?_)
  clear hK K
  refine wpAnyH_takeAt (i := 4) (d := 72) (v := ?vax4y4) rfl rfl (by kernel_rfl) (by kernel_rfl) (by kernel_rfl) (fun _ _ _ h => h) (Or.inl ⟨by rfl, ?hyax4y4⟩) hHeld ?_
  case hyax4y4 =>
    intro W hSw
    clear hSw
    (go_simp; try with_reducible rfl)
  simp only [List.setIfInBounds_toArray, List.set_cons_zero, List.set_cons_succ]
  refine wpAnyH_takeAt (i := 5) (d := 73) (v := ?vax4y5) rfl rfl (by kernel_rfl) (by kernel_rfl) (by kernel_rfl) (fun _ _ _ h => h) (Or.inl ⟨by rfl, ?hyax4y5⟩) hHeld ?_
  case hyax4y5 =>
    intro W hSw
    clear hSw
    (go_simp; try with_reducible rfl)
  simp only [List.setIfInBounds_toArray, List.set_cons_zero, List.set_cons_succ]
  refine wpAnyH_takeAt (i := 6) (d := 74) (v := ?vax4y6) rfl rfl (by kernel_rfl) (by kernel_rfl) (by kernel_rfl) (fun _ _ _ h => h) (Or.inl ⟨by rfl, ?hyax4y6⟩) hHeld ?_
  case hyax4y6 =>
    intro W hSw
    clear hSw
    (go_simp; try with_reducible rfl)
  simp only [List.setIfInBounds_toArray, List.set_cons_zero, List.set_cons_succ]
  refine wpAnyH_takeAt (i := 7) (d := 75) (v := ?vax4y7) rfl rfl (by kernel_rfl) (by kernel_rfl) (by kernel_rfl) (fun _ _ _ h => h) (Or.inl ⟨by rfl, ?hyax4y7⟩) hHeld ?_
  case hyax4y7 =>
    intro W hSw
    clear hSw
    (go_simp; try with_reducible rfl)
  simp only [List.setIfInBounds_toArray, List.set_cons_zero, List.set_cons_succ]
  refine wpAnyH_takeAt (i := 8) (d := 76) (v := ?vax4y8) rfl rfl (by kernel_rfl) (by kernel_rfl) (by kernel_rfl) (fun _ _ _ h => h) (Or.inl ⟨by rfl, ?hyax4y8⟩) hHeld ?_
  case hyax4y8 =>
    intro W hSw
    have sc := hSw
    (go_simp; try with_reducible rfl)
  simp only [List.setIfInBounds_toArray, List.set_cons_zero, List.set_cons_succ]
  refine wpAnyH_takeAt (i := 9) (d := 77) (v := ?vax4y9) rfl rfl (by kernel_rfl) (by kernel_rfl) (by kernel_rfl) (fun _ _ _ h => h) (Or.inl ⟨by rfl, ?hyax4y9⟩) hHeld ?_
  case hyax4y9 =>
    intro W hSw
    clear hSw
    (go_simp; try with_reducible rfl)
  simp only [List.setIfInBounds_toArray, List.set_cons_zero, List.set_cons_succ]
  refine wpAnyH_ready (rs := [10]) (by kernel_rfl) (by simp) (AllReadyH.cons rfl (fun K hK => ?_) AllReadyH.nil)
  go_simp
  refine (refNumber_any N hN w4.drew).mono ?_
  rintro r w5 ⟨v5, rfl, ho5, hb5⟩
  obtain ⟨A5, q5, k5, rfl, hq5⟩ := ho5.form2
  clear hq5
  have hb5' := hbd.trans hb5
  have q4 := conv_str w5 _ A5 q5 k5 _ ho5.bys
  dsimp only
  refine hK.out _ _ (SSa.out _ hb5') (fun hHeld => ?_)
  clear hK K
  refine wpAnyH_ready (rs := [11]) (by kernel_rfl) (by simp) (AllReadyH.cons rfl (fun K hK => ?_) AllReadyH.nil)
  go_simp
  refine hK.out _ _ hHeld (fun hHeld => ?_)
  clear hK K q4 ho5 hb5
  refine wpAnyH_takeAt (i := 12) (d := 80) (v := ?vax4y12) rfl rfl (by kernel_rfl) (by kernel_rfl) (by kernel_rfl) (fun _ _ _ h => h) (Or.inl ⟨by rfl, ?hyax4y12⟩) hHeld ?_
  case hyax4y12 =>
    intro W hSw
    clear hSw
    (go_simp; try with_reducible rfl)
  simp only [List.setIfInBounds_toArray, List.set_cons_zero, List.set_cons_succ]
  refine wpAnyH_takeAt (i := 13) (d := 81) (v := ?vax4y13) rfl rfl (by kernel_rfl) (by kernel_rfl) (by kernel_rfl) (fun _ _ _ h => h) (Or.inl ⟨by rfl, ?hyax4y13⟩) hHeld ?_
  case hyax4y13 =>
    intro W hSw
    clear hSw
    (go_simp; try with_reducible rfl)
  simp only [List.setIfInBounds_toArray, List.set_cons_zero, List.set_cons_succ]
  refine wpAnyH_takeAt (i := 14) (d := 82) (v := ?vax4y14) rfl rfl (by kernel_rfl) (by kernel_rfl) (by kernel_rfl) (fun _ _ _ h => h) (Or.inl ⟨by rfl, ?hyax4y14⟩) hHeld ?_
  case hyax4y14 =>
    intro W hSw
    clear hSw
    (go_simp; try with_reducible rfl)
  simp only [List.setIfInBounds_toArray, List.set_cons_zero, List.set_cons_succ]
  refine wpAnyH_takeAt (i := 15) (d := 83) (v := ?vax4y15) rfl rfl (by kernel_rfl) (by kernel_rfl) (by kernel_rfl) (fun _ _ _ h => h) (Or.inl ⟨by rfl, ?hyax4y15⟩) hHeld ?_
  case hyax4y15 =>
    intro W hSw
    clear hSw
    (go_simp; try with_reducible rfl)
  simp only [List.setIfInBounds_toArray, List.set_cons_zero, List.set_cons_succ]
  refine wpAnyH_takeAt (i := 16) (d := 84) (v := ?vax4y16) rfl rfl (by kernel_rfl) (by kernel_rfl) (by kernel_rfl) (fun _ _ _ h => h) (Or.inl ⟨by rfl, ?hyax4y16⟩) hHeld ?_
  case hyax4y16 =>
    intro W hSw
    clear hSw
    (go_simp; try with_reducible rfl)
  simp only [List.setIfInBounds_toArray, List.set_cons_zero, List.set_cons_succ]
  refine wpAnyH_takeAt (i := 17) (d := 85) (v := ?vax4y17) rfl rfl (by kernel_rfl) (by kernel_rfl) (by kernel_rfl) (fun _ _ _ h => h) (Or.inl ⟨by rfl, ?hyax4y17⟩) hHeld ?_
  case hyax4y17 =>
    intro W hSw
    clear hSw
    (go_simp; try with_reducible rfl)
  simp only [List.setIfInBounds_toArray, List.set_cons_zero, List.set_cons_succ]
  refine wpAnyH_takeAt (i := 18) (d := 86) (v := ?vax4y18) rfl rfl (by kernel_rfl) (by kernel_rfl) (by kernel_rfl) (fun _ _ _ h => h) (Or.inl ⟨by rfl, ?hyax4y18⟩) hHeld ?_
  case hyax4y18 =>
    intro W hSw
    clear hSw
    (go_simp; try with_reducible rfl)
  simp only [List.setIfInBounds_toArray, List.set_cons_zero, List.set_cons_succ]
  refine wpAnyH_takeAt (i := 19) (d := 87) (v := ?vax4y19) rfl rfl (by kernel_rfl) (by kernel_rfl) (by kernel_rfl) (fun _ _ _ h => h) (Or.inl ⟨by rfl, ?hyax4y19⟩) hHeld ?_
  case hyax4y19 =>
    intro W hSw
    clear hSw
    (go_simp; try with_reducible rfl)
  simp only [List.setIfInBounds_toArray, List.set_cons_zero, List.set_cons_succ]
  refine wpAnyH_takeAt (i := 20) (d := 88) (v := ?vax4y20) rfl rfl (by kernel_rfl) (by kernel_rfl) (by kernel_rfl) (fun _ _ _ h => h) (Or.inl ⟨by rfl, ?hyax4y20⟩) hHeld ?_
  case hyax4y20 =>
    intro W hSw
    clear hSw
    (go_simp; try with_reducible rfl)
  simp only [List.setIfInBounds_toArray, List.set_cons_zero, List.set_cons_succ]
  refine wpAnyH_takeAt (i := 21) (d := 89) (v := ?vax4y21) rfl rfl (by kernel_rfl) (by kernel_rfl) (by kernel_rfl) (fun _ _ _ h => h) (Or.inl ⟨by rfl, ?hyax4y21⟩) hHeld ?_
  case hyax4y21 =>
    intro W hSw
    clear hSw
    (go_simp; try with_reducible rfl)
  simp only [List.setIfInBounds_toArray, List.set_cons_zero, List.set_cons_succ]
  refine wpAnyH_takeAt (i := 22) (d := 90) (v := ?vax4y22) rfl rfl (by kernel_rfl) (by kernel_rfl) (by kernel_rfl) (fun _ _ _ h => h) (Or.inl ⟨by rfl, ?hyax4y22⟩) hHeld ?_
  case hyax4y22 =>
    intro W hSw
    clear hSw
    (go_simp; try with_reducible rfl)
  simp only [List.setIfInBounds_toArray, List.set_cons_zero, List.set_cons_succ]
  refine wpAnyH_takeAt (i := 23) (d := 91) (v := ?vax4y23) rfl rfl (by kernel_rfl) (by kernel_rfl) (by kernel_rfl) (fun _ _ _ h => h) (Or.inl ⟨by rfl, ?hyax4y23⟩) hHeld ?_
  case hyax4y23 =>
    intro W hSw
    clear hSw
    (go_simp; try with_reducible rfl)
  simp only [List.setIfInBounds_toArray, List.set_cons_zero, List.set_cons_succ]
  refine wpAnyH_takeAt (i := 24) (d := 92) (v := ?vax4y24) rfl rfl (by kernel_rfl) (by kernel_rfl) (by kernel_rfl) (fun _ _ _ h => h) (Or.inl ⟨by rfl, ?hyax4y24⟩) hHeld ?_
  case hyax4y24 =>
    intro W hSw
    clear hSw
    (go_simp; try with_reducible rfl)
  simp only [List.setIfInBounds_toArray, List.set_cons_zero, List.set_cons_succ]
  refine wpAnyH_done (by kernel_rfl) ?_ _
  have HB5 : Hid (Below w.heap.size w w5) := Lib.hid (HB4.out.trans (hb5'.mono HB4.out.size))
  have hz5 := HB5.out.size
  clear hHeld t1 hb5' hbd
  go_wp2_with (first | (go_at_call 17; refine (num_any _ _).mono ?_; rintro e w' ⟨rfl, rfl⟩) | (go_at_call 18; refine (inSign_no _ hs _).mono ?_; rintro e w' ⟨rfl, rfl⟩) | (at_builtin; refine stop ?_))
  refine (works_any w5).mono ?_
  rintro e w' ⟨rfl, hb⟩
  have hfin := HB5.out.trans (hb.mono HB5.out.size)
  clear hb
  go_wp2_with fail
  go_ret
  exact ⟨rfl, hfin⟩
end Go.Proofs.Ytickdpgfiianjaa.wireNumbers
