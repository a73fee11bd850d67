/-
  Numbers, WireNumbers: a number from 0 that is a signed number.
-/
import Derived.Test.YtickdpgfiianjaaNumbers
import Derived.Test.YtickdpgfiianjaaTakeOf
import Derived.Test.YtickdpgfiianjaaOpen
import Derived.Test.YtickdpgfiianjaaRefTake
import Derived.Test.YtickdpgfiianjaaRefNum
import Derived.Test.YtickdpgfiianjaaWorks
import Derived.WalkKit
import Derived.ProofKit
import Derived.Below
namespace Go.Proofs.Ytickdpgfiianjaa.wireNumbers
open Go.ChangeShapes Go.WideShapes Go.ChangeAt Go.RowKit
set_option linter.unusedVariables false
theorem fold_ltC {n : Int} (h : -4611686018427387904 ≤ n ∧ n ≤ 4611686018427387903) : fold n < 9223372036854775808 := by unfold fold; split <;> omega
set_option maxHeartbeats 4000000 in
set_option maxRecDepth 100000 in
theorem caseC (N : Nat) (a1 : Option Addr) (len1 cap1 : Nat) (l1 : List UInt8) (w : World) (b1 : Bys w w.heap.size a1 len1 l1) (hc1 : len1 ≤ cap1) (hmx : cap1 ≤ 9223372036854775807) (h2 : ¬ 100 < len1) (hN : N < 9223372036854775808) (hneg : 0 ≤ (N : Int)) (hs : -4611686018427387904 ≤ (N : Int) ∧ (N : Int) ≤ 4611686018427387903) :
    Calls Try.prog 3 #[.int .i64 (N : Int), .slice a1 len1 cap1] w fun e w' => e = .returned (.bool true) ∧ Below w.heap.size w w' := by
  have HB0 := Lib.hid (Below.refl w.heap.size w)
  go_enter Try.func3, Try.ntmps3
  go_wp2_with fail
  refine (wireNumber_yes N hN w).mono ?_
  rintro r w1 ⟨v, rfl, ho, hb⟩
  obtain ⟨Aa, qa, ca, rfl, hq⟩ := ho.form2
  have hqa : qa ≤ 10 := by rw [hq]; exact length_num _
  have HLa : Hid ((num N).length = qa) := Lib.hid hq.symm
  have HTa : Hid (tk ((num N) ++ l1) = .num (N) qa) := Lib.hid (by rw [hq]; exact tk_num _ (by first | omega | exact fold_ltC hs) _)
  clear hq
  have HYa := Lib.hid ho.bys
  clear ho
  have HB1 : Hid (Below w.heap.size w w1) := Lib.hid (HB0.out.trans (hb.mono HB0.out.size))
  have hz1 := HB1.out.size
  clear hb
  go_wp2_with fail
  refine (wireSigned_yes (N : Int) hs.1 hs.2 w1).mono ?_
  rintro r w2 ⟨v, rfl, ho, hb⟩
  obtain ⟨Ab, qb, cb, rfl, hq⟩ := ho.form2
  have hqb : qb ≤ 10 := by rw [hq]; exact length_num _
  have HLb : Hid ((num (fold (N : Int))).length = qb) := Lib.hid hq.symm
  have HTb : Hid (tk ((num (fold (N : Int))) ++ l1) = .num (fold (N : Int)) qb) := Lib.hid (by rw [hq]; exact tk_num _ (by first | omega | exact fold_ltC hs) _)
  clear hq
  have HYb := Lib.hid ho.bys
  clear ho
  replace HYa := Lib.hid ((HYa.out.below hb).more hb.size)
  have HB2 : Hid (Below w.heap.size w w2) := Lib.hid (HB1.out.trans (hb.mono HB1.out.size))
  have hz2 := HB2.out.size
  clear hb
  go_wp2_with (first | (go_at_call 17; refine (num_any _ _).mono ?_; rintro e w' ⟨rfl, rfl⟩) | (go_at_call 18; refine (inSign_yes _ hs.1 hs.2 _).mono ?_; rintro e w' ⟨rfl, rfl⟩) | (at_builtin; refine stop ?_))
  refine Stop.go (wpList_append_want _ (by rfl) _ _ (by rfl) w2.heap.size _ [] (by rfl) (own_empty _ _ (Nat.le_refl _)) w2.heap.size Aa qa ca (num N) (by rfl) (HYa.out.alloc (Nat.le_refl _) _) (by simp) (by omega) (le_alloc (Nat.le_refl _) _) ?_)
  intro v3 w3 ho3 hb
  rw [List.nil_append] at ho3
  have hb3 : Below w2.heap.size w2 w3 := ((Below.refl _ _).alloc (Nat.le_refl _) _).trans hb
  clear hb
  go_wp2_with (at_builtin; refine stop ?_)
  refine Stop.go (wpList_append_want _ (by rfl) _ _ (by rfl) w2.heap.size _ (num N) (by rfl) ho3 w.heap.size a1 len1 cap1 l1 (by rfl) (b1.below (HB2.out.trans (hb3.mono HB2.out.size))) (by have := HLa.out; omega) (by omega) hb3.size ?_)
  intro v4 w4 ho4 hb
  have hb4 : Below w2.heap.size w2 w4 := hb3.trans hb
  replace HYa := Lib.hid ((HYa.out.below hb4).more hb4.size)
  replace HYb := Lib.hid ((HYb.out.below hb4).more hb4.size)
  have HB4 : Hid (Below w.heap.size w w4) := Lib.hid (HB2.out.trans (hb4.mono HB2.out.size))
  have hz4 := HB4.out.size
  clear hb hb3 hb4 ho3
  obtain ⟨A4, q4, c4, rfl, hq4⟩ := ho4.form2
  have HQ4 : Hid (q4 < 1000000) := Lib.hid (by rw [hq4, List.length_append, b1.1, HLa.out]; omega)
  clear hq4
  go_wp2_with fail
  refine (take_any _ q4 c4 _ w4 ho4.bys HQ4.out).mono ?_
  rintro r w5 ⟨rfl, hb⟩
  rw [HTa.out]
  dsimp only [tkNum, tksNum, tkLen, tkErr]
  replace HYa := Lib.hid ((HYa.out.below hb).more hb.size)
  replace HYb := Lib.hid ((HYb.out.below hb).more hb.size)
  have HB5 : Hid (Below w.heap.size w w5) := Lib.hid (HB4.out.trans (hb.mono HB4.out.size))
  have hz5 := HB5.out.size
  clear hb ho4
  go_wp2_with fail
  have SSa : Hid (∀ W, Below w5.heap.size w5 W → (convert 22 9 (.slice Aa qa ca)).run Try.prog W = .ok (.string (str (num N))) W) :=
    Lib.hid fun W hW => conv_str W _ _ _ _ _ (HYa.out.below hW)
  have hbd : Below w5.heap.size w5 w5.drew := (Below.refl _ _).drew
  have t1 := str_toList (num N)
  refine wp_region_np ?_
  refine wp_region_held_drew (S := fun W => (convert 22 9 (.slice Aa qa ca)).run Try.prog W = .ok (.string (str (num N))) W) (by kernel_rfl) (SSa.out _ hbd) (fun hHeld => ?_)
  refine wpAnyH_takeAt (i := 0) (d := 68) (v := ?vax5y0) rfl rfl (by kernel_rfl) (by kernel_rfl) (by kernel_rfl) (fun _ _ _ h => h) (Or.inl ⟨by rfl, ?hyax5y0⟩) hHeld ?_
  case hyax5y0 =>
    intro W hSw
    clear hSw
    (go_simp; try with_reducible rfl)
  simp only [List.setIfInBounds_toArray, List.set_cons_zero, List.set_cons_succ]
  refine wpAnyH_takeAt (i := 2) (d := 70) (v := ?vax5y2) rfl rfl (by kernel_rfl) (by kernel_rfl) (by kernel_rfl) (fun _ _ _ h => h) (Or.inl ⟨by rfl, ?hyax5y2⟩) hHeld ?_
  case hyax5y2 =>
    intro W hSw
    clear hSw
    (go_simp; try with_reducible rfl)
  simp only [List.setIfInBounds_toArray, List.set_cons_zero, List.set_cons_succ]
  refine wpAnyH_ready (rs := [1]) (by kernel_rfl) (by simp) (AllReadyH.cons rfl (fun K hK => ?_) AllReadyH.nil)
  go_simp
  refine (num_any _ _).mono ?_
  rintro r w' ⟨rfl, rfl⟩
  dsimp only
  refine hK.out _ _ hHeld (fun hHeld => ?_)
  clear hK K
  refine wpAnyH_ready (rs := [3]) (by kernel_rfl) (by simp) (AllReadyH.cons rfl (fun K hK => ?_) AllReadyH.nil)
  go_simp
  refine (num_any _ _).mono ?_
  rintro r w' ⟨rfl, rfl⟩
  dsimp only
  refine hK.out _ _ hHeld (fun hHeld => ?_)
  clear hK K
  refine wpAnyH_takeAt (i := 4) (d := 72) (v := ?vax5y4) rfl rfl (by kernel_rfl) (by kernel_rfl) (by kernel_rfl) (fun _ _ _ h => h) (Or.inl ⟨by rfl, ?hyax5y4⟩) hHeld ?_
  case hyax5y4 =>
    intro W hSw
    clear hSw
    (go_simp; try with_reducible rfl)
  simp only [List.setIfInBounds_toArray, List.set_cons_zero, List.set_cons_succ]
  refine wpAnyH_takeAt (i := 5) (d := 73) (v := ?vax5y5) rfl rfl (by kernel_rfl) (by kernel_rfl) (by kernel_rfl) (fun _ _ _ h => h) (Or.inl ⟨by rfl, ?hyax5y5⟩) hHeld ?_
  case hyax5y5 =>
    intro W hSw
    clear hSw
    (go_simp; try with_reducible rfl)
  simp only [List.setIfInBounds_toArray, List.set_cons_zero, List.set_cons_succ]
  refine wpAnyH_takeAt (i := 6) (d := 74) (v := ?vax5y6) rfl rfl (by kernel_rfl) (by kernel_rfl) (by kernel_rfl) (fun _ _ _ h => h) (Or.inl ⟨by rfl, ?hyax5y6⟩) hHeld ?_
  case hyax5y6 =>
    intro W hSw
    clear hSw
    (go_simp; try with_reducible rfl)
  simp only [List.setIfInBounds_toArray, List.set_cons_zero, List.set_cons_succ]
  refine wpAnyH_takeAt (i := 7) (d := 75) (v := ?vax5y7) rfl rfl (by kernel_rfl) (by kernel_rfl) (by kernel_rfl) (fun _ _ _ h => h) (Or.inl ⟨by rfl, ?hyax5y7⟩) hHeld ?_
  case hyax5y7 =>
    intro W hSw
    clear hSw
    (go_simp; try with_reducible rfl)
  simp only [List.setIfInBounds_toArray, List.set_cons_zero, List.set_cons_succ]
  refine wpAnyH_takeAt (i := 8) (d := 76) (v := ?vax5y8) rfl rfl (by kernel_rfl) (by kernel_rfl) (by kernel_rfl) (fun _ _ _ h => h) (Or.inl ⟨by rfl, ?hyax5y8⟩) hHeld ?_
  case hyax5y8 =>
    intro W hSw
    have sc := hSw
    (go_simp; try with_reducible rfl)
  simp only [List.setIfInBounds_toArray, List.set_cons_zero, List.set_cons_succ]
  refine wpAnyH_takeAt (i := 9) (d := 77) (v := ?vax5y9) rfl rfl (by kernel_rfl) (by kernel_rfl) (by kernel_rfl) (fun _ _ _ h => h) (Or.inl ⟨by rfl, ?hyax5y9⟩) hHeld ?_
  case hyax5y9 =>
    intro W hSw
    clear hSw
    (go_simp; try with_reducible rfl)
  simp only [List.setIfInBounds_toArray, List.set_cons_zero, List.set_cons_succ]
  refine wpAnyH_ready (rs := [10]) (by kernel_rfl) (by simp) (AllReadyH.cons rfl (fun K hK => ?_) AllReadyH.nil)
  go_simp
  refine (refNumber_any N hN w5.drew).mono ?_
  rintro r w6 ⟨v6, rfl, ho6, hb6⟩
  obtain ⟨A6, q6, k6, rfl, hq6⟩ := ho6.form2
  clear hq6
  have hb6' := hbd.trans hb6
  have q4 := conv_str w6 _ A6 q6 k6 _ ho6.bys
  dsimp only
  refine hK.out _ _ (SSa.out _ hb6') (fun hHeld => ?_)
  clear hK K
  refine wpAnyH_ready (rs := [11]) (by kernel_rfl) (by simp) (AllReadyH.cons rfl (fun K hK => ?_) AllReadyH.nil)
  go_simp
  refine hK.out _ _ hHeld (fun hHeld => ?_)
  clear hK K q4 ho6 hb6
  refine wpAnyH_takeAt (i := 12) (d := 80) (v := ?vax5y12) rfl rfl (by kernel_rfl) (by kernel_rfl) (by kernel_rfl) (fun _ _ _ h => h) (Or.inl ⟨by rfl, ?hyax5y12⟩) hHeld ?_
  case hyax5y12 =>
    intro W hSw
    clear hSw
    (go_simp; try with_reducible rfl)
  simp only [List.setIfInBounds_toArray, List.set_cons_zero, List.set_cons_succ]
  refine wpAnyH_takeAt (i := 13) (d := 81) (v := ?vax5y13) rfl rfl (by kernel_rfl) (by kernel_rfl) (by kernel_rfl) (fun _ _ _ h => h) (Or.inl ⟨by rfl, ?hyax5y13⟩) hHeld ?_
  case hyax5y13 =>
    intro W hSw
    clear hSw
    (go_simp; try with_reducible rfl)
  simp only [List.setIfInBounds_toArray, List.set_cons_zero, List.set_cons_succ]
  refine wpAnyH_takeAt (i := 14) (d := 82) (v := ?vax5y14) rfl rfl (by kernel_rfl) (by kernel_rfl) (by kernel_rfl) (fun _ _ _ h => h) (Or.inl ⟨by rfl, ?hyax5y14⟩) hHeld ?_
  case hyax5y14 =>
    intro W hSw
    clear hSw
    (go_simp; try with_reducible rfl)
  simp only [List.setIfInBounds_toArray, List.set_cons_zero, List.set_cons_succ]
  refine wpAnyH_takeAt (i := 15) (d := 83) (v := ?vax5y15) rfl rfl (by kernel_rfl) (by kernel_rfl) (by kernel_rfl) (fun _ _ _ h => h) (Or.inl ⟨by rfl, ?hyax5y15⟩) hHeld ?_
  case hyax5y15 =>
    intro W hSw
    clear hSw
    (go_simp; try with_reducible rfl)
  simp only [List.setIfInBounds_toArray, List.set_cons_zero, List.set_cons_succ]
  refine wpAnyH_takeAt (i := 16) (d := 84) (v := ?vax5y16) rfl rfl (by kernel_rfl) (by kernel_rfl) (by kernel_rfl) (fun _ _ _ h => h) (Or.inl ⟨by rfl, ?hyax5y16⟩) hHeld ?_
  case hyax5y16 =>
    intro W hSw
    clear hSw
    (go_simp; try with_reducible rfl)
  simp only [List.setIfInBounds_toArray, List.set_cons_zero, List.set_cons_succ]
  refine wpAnyH_takeAt (i := 17) (d := 85) (v := ?vax5y17) rfl rfl (by kernel_rfl) (by kernel_rfl) (by kernel_rfl) (fun _ _ _ h => h) (Or.inl ⟨by rfl, ?hyax5y17⟩) hHeld ?_
  case hyax5y17 =>
    intro W hSw
    clear hSw
    (go_simp; try with_reducible rfl)
  simp only [List.setIfInBounds_toArray, List.set_cons_zero, List.set_cons_succ]
  refine wpAnyH_takeAt (i := 18) (d := 86) (v := ?vax5y18) rfl rfl (by kernel_rfl) (by kernel_rfl) (by kernel_rfl) (fun _ _ _ h => h) (Or.inl ⟨by rfl, ?hyax5y18⟩) hHeld ?_
  case hyax5y18 =>
    intro W hSw
    clear hSw
    (go_simp; try with_reducible rfl)
  simp only [List.setIfInBounds_toArray, List.set_cons_zero, List.set_cons_succ]
  refine wpAnyH_takeAt (i := 19) (d := 87) (v := ?vax5y19) rfl rfl (by kernel_rfl) (by kernel_rfl) (by kernel_rfl) (fun _ _ _ h => h) (Or.inl ⟨by rfl, ?hyax5y19⟩) hHeld ?_
  case hyax5y19 =>
    intro W hSw
    clear hSw
    (go_simp; try with_reducible rfl)
  simp only [List.setIfInBounds_toArray, List.set_cons_zero, List.set_cons_succ]
  refine wpAnyH_takeAt (i := 20) (d := 88) (v := ?vax5y20) rfl rfl (by kernel_rfl) (by kernel_rfl) (by kernel_rfl) (fun _ _ _ h => h) (Or.inl ⟨by rfl, ?hyax5y20⟩) hHeld ?_
  case hyax5y20 =>
    intro W hSw
    clear hSw
    (go_simp; try with_reducible rfl)
  simp only [List.setIfInBounds_toArray, List.set_cons_zero, List.set_cons_succ]
  refine wpAnyH_takeAt (i := 21) (d := 89) (v := ?vax5y21) rfl rfl (by kernel_rfl) (by kernel_rfl) (by kernel_rfl) (fun _ _ _ h => h) (Or.inl ⟨by rfl, ?hyax5y21⟩) hHeld ?_
  case hyax5y21 =>
    intro W hSw
    clear hSw
    (go_simp; try with_reducible rfl)
  simp only [List.setIfInBounds_toArray, List.set_cons_zero, List.set_cons_succ]
  refine wpAnyH_takeAt (i := 22) (d := 90) (v := ?vax5y22) rfl rfl (by kernel_rfl) (by kernel_rfl) (by kernel_rfl) (fun _ _ _ h => h) (Or.inl ⟨by rfl, ?hyax5y22⟩) hHeld ?_
  case hyax5y22 =>
    intro W hSw
    clear hSw
    (go_simp; try with_reducible rfl)
  simp only [List.setIfInBounds_toArray, List.set_cons_zero, List.set_cons_succ]
  refine wpAnyH_takeAt (i := 23) (d := 91) (v := ?vax5y23) rfl rfl (by kernel_rfl) (by kernel_rfl) (by kernel_rfl) (fun _ _ _ h => h) (Or.inl ⟨by rfl, ?hyax5y23⟩) hHeld ?_
  case hyax5y23 =>
    intro W hSw
    clear hSw
    (go_simp; try with_reducible rfl)
  simp only [List.setIfInBounds_toArray, List.set_cons_zero, List.set_cons_succ]
  refine wpAnyH_takeAt (i := 24) (d := 92) (v := ?vax5y24) rfl rfl (by kernel_rfl) (by kernel_rfl) (by kernel_rfl) (fun _ _ _ h => h) (Or.inl ⟨by rfl, ?hyax5y24⟩) hHeld ?_
  case hyax5y24 =>
    intro W hSw
    clear hSw
    (go_simp; try with_reducible rfl)
  simp only [List.setIfInBounds_toArray, List.set_cons_zero, List.set_cons_succ]
  refine wpAnyH_done (by kernel_rfl) ?_ _
  replace HYb := Lib.hid ((HYb.out.below hb6').more hb6'.size)
  have HB6 : Hid (Below w.heap.size w w6) := Lib.hid (HB5.out.trans (hb6'.mono HB5.out.size))
  have hz6 := HB6.out.size
  clear hHeld t1 hb6' hbd
  go_wp2_with (first | (go_at_call 17; refine (num_any _ _).mono ?_; rintro e w' ⟨rfl, rfl⟩) | (go_at_call 18; refine (inSign_yes _ hs.1 hs.2 _).mono ?_; rintro e w' ⟨rfl, rfl⟩) | (at_builtin; refine stop ?_))
  refine Stop.go (wpList_append_want _ (by rfl) _ _ (by rfl) w6.heap.size _ [] (by rfl) (own_empty _ _ (Nat.le_refl _)) w6.heap.size Ab qb cb (num (fold (N : Int))) (by rfl) (HYb.out.alloc (Nat.le_refl _) _) (by simp) (by omega) (le_alloc (Nat.le_refl _) _) ?_)
  intro v7 w7 ho7 hb
  rw [List.nil_append] at ho7
  have hb7 : Below w6.heap.size w6 w7 := ((Below.refl _ _).alloc (Nat.le_refl _) _).trans hb
  clear hb
  go_wp2_with (at_builtin; refine stop ?_)
  refine Stop.go (wpList_append_want _ (by rfl) _ _ (by rfl) w6.heap.size _ (num (fold (N : Int))) (by rfl) ho7 w.heap.size a1 len1 cap1 l1 (by rfl) (b1.below (HB6.out.trans (hb7.mono HB6.out.size))) (by have := HLb.out; omega) (by omega) hb7.size ?_)
  intro v8 w8 ho8 hb
  have hb8 : Below w6.heap.size w6 w8 := hb7.trans hb
  replace HYb := Lib.hid ((HYb.out.below hb8).more hb8.size)
  have HB8 : Hid (Below w.heap.size w w8) := Lib.hid (HB6.out.trans (hb8.mono HB6.out.size))
  have hz8 := HB8.out.size
  clear hb hb7 hb8 ho7
  obtain ⟨A8, q8, c8, rfl, hq8⟩ := ho8.form2
  have HQ8 : Hid (q8 < 1000000) := Lib.hid (by rw [hq8, List.length_append, b1.1, HLb.out]; omega)
  clear hq8
  go_wp2_with fail
  refine (takeSigned_any _ q8 c8 _ w8 ho8.bys HQ8.out).mono ?_
  rintro r w9 ⟨rfl, hb⟩
  rw [HTb.out]
  dsimp only [tkNum, tksNum, tkLen, tkErr]
  rw [unf_fold]
  replace HYb := Lib.hid ((HYb.out.below hb).more hb.size)
  have HB9 : Hid (Below w.heap.size w w9) := Lib.hid (HB8.out.trans (hb.mono HB8.out.size))
  have hz9 := HB9.out.size
  clear hb ho8
  go_wp2_with fail
  have SSb : Hid (∀ W, Below w9.heap.size w9 W → (convert 22 9 (.slice Ab qb cb)).run Try.prog W = .ok (.string (str (num (fold (N : Int))))) W) :=
    Lib.hid fun W hW => conv_str W _ _ _ _ _ (HYb.out.below hW)
  have hbd : Below w9.heap.size w9 w9.drew := (Below.refl _ _).drew
  have t1 := str_toList (num (fold (N : Int)))
  refine wp_region_np ?_
  refine wp_region_held_drew (S := fun W => (convert 22 9 (.slice Ab qb cb)).run Try.prog W = .ok (.string (str (num (fold (N : Int))))) W) (by kernel_rfl) (SSb.out _ hbd) (fun hHeld => ?_)
  refine wpAnyH_takeAt (i := 0) (d := 105) (v := ?vbx9y0) rfl rfl (by kernel_rfl) (by kernel_rfl) (by kernel_rfl) (fun _ _ _ h => h) (Or.inl ⟨by rfl, ?hybx9y0⟩) hHeld ?_
  case hybx9y0 =>
    intro W hSw
    clear hSw
    (go_simp; try with_reducible rfl)
  simp only [List.setIfInBounds_toArray, List.set_cons_zero, List.set_cons_succ]
  refine wpAnyH_takeAt (i := 2) (d := 107) (v := ?vbx9y2) rfl rfl (by kernel_rfl) (by kernel_rfl) (by kernel_rfl) (fun _ _ _ h => h) (Or.inl ⟨by rfl, ?hybx9y2⟩) hHeld ?_
  case hybx9y2 =>
    intro W hSw
    clear hSw
    (go_simp; try with_reducible rfl)
  simp only [List.setIfInBounds_toArray, List.set_cons_zero, List.set_cons_succ]
  refine wpAnyH_ready (rs := [1]) (by kernel_rfl) (by simp) (AllReadyH.cons rfl (fun K hK => ?_) AllReadyH.nil)
  go_simp
  refine (num_any _ _).mono ?_
  rintro r w' ⟨rfl, rfl⟩
  dsimp only
  refine hK.out _ _ hHeld (fun hHeld => ?_)
  clear hK K
  refine wpAnyH_ready (rs := [3]) (by kernel_rfl) (by simp) (AllReadyH.cons rfl (fun K hK => ?_) AllReadyH.nil)
  go_simp
  refine (num_any _ _).mono ?_
  rintro r w' ⟨rfl, rfl⟩
  dsimp only
  refine hK.out _ _ hHeld (fun hHeld => ?_)
  clear hK K
  refine wpAnyH_takeAt (i := 4) (d := 109) (v := ?vbx9y4) rfl rfl (by kernel_rfl) (by kernel_rfl) (by kernel_rfl) (fun _ _ _ h => h) (Or.inl ⟨by rfl, ?hybx9y4⟩) hHeld ?_
  case hybx9y4 =>
    intro W hSw
    clear hSw
    (go_simp; try with_reducible rfl)
  simp only [List.setIfInBounds_toArray, List.set_cons_zero, List.set_cons_succ]
  refine wpAnyH_takeAt (i := 5) (d := 110) (v := ?vbx9y5) rfl rfl (by kernel_rfl) (by kernel_rfl) (by kernel_rfl) (fun _ _ _ h => h) (Or.inl ⟨by rfl, ?hybx9y5⟩) hHeld ?_
  case hybx9y5 =>
    intro W hSw
    clear hSw
    (go_simp; try with_reducible rfl)
  simp only [List.setIfInBounds_toArray, List.set_cons_zero, List.set_cons_succ]
  refine wpAnyH_takeAt (i := 6) (d := 111) (v := ?vbx9y6) rfl rfl (by kernel_rfl) (by kernel_rfl) (by kernel_rfl) (fun _ _ _ h => h) (Or.inl ⟨by rfl, ?hybx9y6⟩) hHeld ?_
  case hybx9y6 =>
    intro W hSw
    clear hSw
    (go_simp; try with_reducible rfl)
  simp only [List.setIfInBounds_toArray, List.set_cons_zero, List.set_cons_succ]
  refine wpAnyH_takeAt (i := 7) (d := 112) (v := ?vbx9y7) rfl rfl (by kernel_rfl) (by kernel_rfl) (by kernel_rfl) (fun _ _ _ h => h) (Or.inl ⟨by rfl, ?hybx9y7⟩) hHeld ?_
  case hybx9y7 =>
    intro W hSw
    clear hSw
    (go_simp; try with_reducible rfl)
  simp only [List.setIfInBounds_toArray, List.set_cons_zero, List.set_cons_succ]
  refine wpAnyH_takeAt (i := 8) (d := 113) (v := ?vbx9y8) rfl rfl (by kernel_rfl) (by kernel_rfl) (by kernel_rfl) (fun _ _ _ h => h) (Or.inl ⟨by rfl, ?hybx9y8⟩) hHeld ?_
  case hybx9y8 =>
    intro W hSw
    have sc := hSw
    (go_simp; try with_reducible rfl)
  simp only [List.setIfInBounds_toArray, List.set_cons_zero, List.set_cons_succ]
  refine wpAnyH_takeAt (i := 9) (d := 114) (v := ?vbx9y9) rfl rfl (by kernel_rfl) (by kernel_rfl) (by kernel_rfl) (fun _ _ _ h => h) (Or.inl ⟨by rfl, ?hybx9y9⟩) hHeld ?_
  case hybx9y9 =>
    intro W hSw
    clear hSw
    (go_simp; try with_reducible rfl)
  simp only [List.setIfInBounds_toArray, List.set_cons_zero, List.set_cons_succ]
  refine wpAnyH_ready (rs := [10]) (by kernel_rfl) (by simp) (AllReadyH.cons rfl (fun K hK => ?_) AllReadyH.nil)
  go_simp
  refine (refSigned_any (N : Int) hs.1 hs.2 w9.drew).mono ?_
  rintro r w10 ⟨v10, rfl, ho10, hb10⟩
  obtain ⟨A10, q10, k10, rfl, hq10⟩ := ho10.form2
  clear hq10
  have hb10' := hbd.trans hb10
  have q4 := conv_str w10 _ A10 q10 k10 _ ho10.bys
  dsimp only
  refine hK.out _ _ (SSb.out _ hb10') (fun hHeld => ?_)
  clear hK K
  refine wpAnyH_ready (rs := [11]) (by kernel_rfl) (by simp) (AllReadyH.cons rfl (fun K hK => ?_) AllReadyH.nil)
  go_simp
  refine hK.out _ _ hHeld (fun hHeld => ?_)
  clear hK K q4 ho10 hb10
  refine wpAnyH_takeAt (i := 12) (d := 117) (v := ?vbx9y12) rfl rfl (by kernel_rfl) (by kernel_rfl) (by kernel_rfl) (fun _ _ _ h => h) (Or.inl ⟨by rfl, ?hybx9y12⟩) hHeld ?_
  case hybx9y12 =>
    intro W hSw
    clear hSw
    (go_simp; try with_reducible rfl)
  simp only [List.setIfInBounds_toArray, List.set_cons_zero, List.set_cons_succ]
  refine wpAnyH_takeAt (i := 13) (d := 118) (v := ?vbx9y13) rfl rfl (by kernel_rfl) (by kernel_rfl) (by kernel_rfl) (fun _ _ _ h => h) (Or.inl ⟨by rfl, ?hybx9y13⟩) hHeld ?_
  case hybx9y13 =>
    intro W hSw
    clear hSw
    (go_simp; try with_reducible rfl)
  simp only [List.setIfInBounds_toArray, List.set_cons_zero, List.set_cons_succ]
  refine wpAnyH_takeAt (i := 14) (d := 119) (v := ?vbx9y14) rfl rfl (by kernel_rfl) (by kernel_rfl) (by kernel_rfl) (fun _ _ _ h => h) (Or.inl ⟨by rfl, ?hybx9y14⟩) hHeld ?_
  case hybx9y14 =>
    intro W hSw
    clear hSw
    (go_simp; try with_reducible rfl)
  simp only [List.setIfInBounds_toArray, List.set_cons_zero, List.set_cons_succ]
  refine wpAnyH_takeAt (i := 15) (d := 120) (v := ?vbx9y15) rfl rfl (by kernel_rfl) (by kernel_rfl) (by kernel_rfl) (fun _ _ _ h => h) (Or.inl ⟨by rfl, ?hybx9y15⟩) hHeld ?_
  case hybx9y15 =>
    intro W hSw
    clear hSw
    (go_simp; try with_reducible rfl)
  simp only [List.setIfInBounds_toArray, List.set_cons_zero, List.set_cons_succ]
  refine wpAnyH_takeAt (i := 16) (d := 121) (v := ?vbx9y16) rfl rfl (by kernel_rfl) (by kernel_rfl) (by kernel_rfl) (fun _ _ _ h => h) (Or.inl ⟨by rfl, ?hybx9y16⟩) hHeld ?_
  case hybx9y16 =>
    intro W hSw
    clear hSw
    (go_simp; try with_reducible rfl)
  simp only [List.setIfInBounds_toArray, List.set_cons_zero, List.set_cons_succ]
  refine wpAnyH_takeAt (i := 17) (d := 122) (v := ?vbx9y17) rfl rfl (by kernel_rfl) (by kernel_rfl) (by kernel_rfl) (fun _ _ _ h => h) (Or.inl ⟨by rfl, ?hybx9y17⟩) hHeld ?_
  case hybx9y17 =>
    intro W hSw
    clear hSw
    (go_simp; try with_reducible rfl)
  simp only [List.setIfInBounds_toArray, List.set_cons_zero, List.set_cons_succ]
  refine wpAnyH_takeAt (i := 18) (d := 123) (v := ?vbx9y18) rfl rfl (by kernel_rfl) (by kernel_rfl) (by kernel_rfl) (fun _ _ _ h => h) (Or.inl ⟨by rfl, ?hybx9y18⟩) hHeld ?_
  case hybx9y18 =>
    intro W hSw
    clear hSw
    (go_simp; try with_reducible rfl)
  simp only [List.setIfInBounds_toArray, List.set_cons_zero, List.set_cons_succ]
  refine wpAnyH_takeAt (i := 19) (d := 124) (v := ?vbx9y19) rfl rfl (by kernel_rfl) (by kernel_rfl) (by kernel_rfl) (fun _ _ _ h => h) (Or.inl ⟨by rfl, ?hybx9y19⟩) hHeld ?_
  case hybx9y19 =>
    intro W hSw
    clear hSw
    (go_simp; try with_reducible rfl)
  simp only [List.setIfInBounds_toArray, List.set_cons_zero, List.set_cons_succ]
  refine wpAnyH_takeAt (i := 20) (d := 125) (v := ?vbx9y20) rfl rfl (by kernel_rfl) (by kernel_rfl) (by kernel_rfl) (fun _ _ _ h => h) (Or.inl ⟨by rfl, ?hybx9y20⟩) hHeld ?_
  case hybx9y20 =>
    intro W hSw
    clear hSw
    (go_simp; try with_reducible rfl)
  simp only [List.setIfInBounds_toArray, List.set_cons_zero, List.set_cons_succ]
  refine wpAnyH_takeAt (i := 21) (d := 126) (v := ?vbx9y21) rfl rfl (by kernel_rfl) (by kernel_rfl) (by kernel_rfl) (fun _ _ _ h => h) (Or.inl ⟨by rfl, ?hybx9y21⟩) hHeld ?_
  case hybx9y21 =>
    intro W hSw
    clear hSw
    (go_simp; try with_reducible rfl)
  simp only [List.setIfInBounds_toArray, List.set_cons_zero, List.set_cons_succ]
  refine wpAnyH_takeAt (i := 22) (d := 127) (v := ?vbx9y22) rfl rfl (by kernel_rfl) (by kernel_rfl) (by kernel_rfl) (fun _ _ _ h => h) (Or.inl ⟨by rfl, ?hybx9y22⟩) hHeld ?_
  case hybx9y22 =>
    intro W hSw
    clear hSw
    (go_simp; try with_reducible rfl)
  simp only [List.setIfInBounds_toArray, List.set_cons_zero, List.set_cons_succ]
  refine wpAnyH_takeAt (i := 23) (d := 128) (v := ?vbx9y23) rfl rfl (by kernel_rfl) (by kernel_rfl) (by kernel_rfl) (fun _ _ _ h => h) (Or.inl ⟨by rfl, ?hybx9y23⟩) hHeld ?_
  case hybx9y23 =>
    intro W hSw
    clear hSw
    (go_simp; try with_reducible rfl)
  simp only [List.setIfInBounds_toArray, List.set_cons_zero, List.set_cons_succ]
  refine wpAnyH_takeAt (i := 24) (d := 129) (v := ?vbx9y24) rfl rfl (by kernel_rfl) (by kernel_rfl) (by kernel_rfl) (fun _ _ _ h => h) (Or.inl ⟨by rfl, ?hybx9y24⟩) hHeld ?_
  case hybx9y24 =>
    intro W hSw
    clear hSw
    (go_simp; try with_reducible rfl)
  simp only [List.setIfInBounds_toArray, List.set_cons_zero, List.set_cons_succ]
  refine wpAnyH_done (by kernel_rfl) ?_ _
  have HB10 : Hid (Below w.heap.size w w10) := Lib.hid (HB9.out.trans (hb10'.mono HB9.out.size))
  have hz10 := HB10.out.size
  clear hHeld t1 hb10' hbd
  go_wp2_with fail
  refine (works_any w10).mono ?_
  rintro e w' ⟨rfl, hb⟩
  have hfin := HB10.out.trans (hb.mono HB10.out.size)
  clear hb
  go_wp2_with fail
  go_ret
  exact ⟨rfl, hfin⟩
end Go.Proofs.Ytickdpgfiianjaa.wireNumbers
