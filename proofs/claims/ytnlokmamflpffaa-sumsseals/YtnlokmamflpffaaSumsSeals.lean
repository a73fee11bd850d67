/-
  For all bytes b waystationlaw01.SumsSeals returns true: sums.Seal answers what the document's own Seal answers, and the bytes and the room behind them stay. Conditions: none.
-/
import Derived.Test.YtnlokmamflpffaaRefs
import Derived.WalkKit
import Derived.ProofKit
import Derived.OpenShut
import Derived.ShutString
import Derived.ChangeOld
import Derived.Below
namespace Go.Proofs.Ytnlokmamflpffaa.sumsSeals
open Go.ChangeShapes Go.WideShapes Go.ChangeAt Go.RowKit
open Go.ChangeMaps (open_string shut_string)
set_option linter.unusedVariables false

theorem own : ownKnob Try.prog.godebug = none := by kernel_rfl
theorem laidOut : laidOutB Try.prog = true := by kernel_rfl

set_option maxHeartbeats 2000000 in
set_option maxRecDepth 100000 in
theorem walk (a0 : Option Addr) (len0 cap0 : Nat) (z0 : List Int) (w : World) (w0 : IsRow .u8 w a0 len0 cap0 z0) :
    Calls Try.prog 6 #[.slice a0 len0 cap0] w fun e w' => e = .returned (.bool true) ∧ Below w.heap.size w w' := by
  obtain ⟨l, hl, hc1, hc2⟩ := w0.bys
  clear w0
  unfold maxLen at hc2
  by_cases hlong : 2000 < len0
  · go_enter Try.func6, Try.ntmps6
    go_wp2_with fail
    refine (works_any w).mono ?_
    rintro e w' ⟨rfl, hb⟩
    go_wp2_with fail
    go_ret
    exact ⟨rfl, hb⟩
  have hln := hl.1
  have HL := Lib.hid hln
  clear hln
  go_enter Try.func6, Try.ntmps6
  go_wp2_with (at_builtin; refine stop ?_)
  refine Stop.go (wpList_append_want _ (by rfl) _ _ (by rfl) w.heap.size _ [] (by rfl) (own_empty _ _ (Nat.le_refl _)) w.heap.size a0 len0 cap0 l (by rfl) (hl.alloc (Nat.le_refl _) _) (by simp) (by omega) (le_alloc (Nat.le_refl _) _) ?_)
  intro v1 w1 ho1 hb1
  rw [List.nil_append] at ho1
  have hb1' : Below w.heap.size w w1 := ((Below.refl _ _).alloc (Nat.le_refl _) _).trans hb1
  have hz1 := hb1'.size
  clear hb1
  go_wp2_with (at_builtin; refine stop ?_)
  refine Stop.go (wpList_append_want _ (by rfl) _ _ (by rfl) w.heap.size _ l (by rfl) (ho1.alloc _) _ _ 1 1 [77] (by rfl) (bys_lit w1 [77] 5 (0, 0) 1 _ rfl (Nat.lt_succ_self _)) (by rw [HL.out]; omega) (by omega) (le_alloc hz1 _) ?_)
  intro v2 w2 ho2 hb2
  have hb2' : Below w.heap.size w w2 := (hb1'.alloc hz1 _).trans hb2
  have hz2 := hb2'.size
  clear hb2 ho1
  obtain ⟨A2, k2, c2, rfl, hk2⟩ := ho2.form2
  rw [List.length_append, HL.out] at hk2
  have hk2' : k2 = len0 + 1 := hk2
  subst hk2'
  clear hk2
  obtain ⟨hcap1, hcap2⟩ := ho2.cap
  unfold maxLen at hcap2
  have hy2 := ho2.bys
  obtain ⟨ad2, u2, rfl, hbl2, hu2, hcell2⟩ := hy2.at_ (k := len0) (by omega)
  have hu : u2 = 77 := by
    rw [List.getElem?_append_right (by rw [HL.out]; omega), HL.out, Nat.sub_self] at hu2
    simpa using hu2.symm
  subst hu
  clear hu2
  have hm2 : Bys w2 w2.heap.size (some ad2) len0 l := by
    have := hy2.first (k := len0) (by omega)
    rw [List.take_append_of_le_length (by rw [HL.out]; omega), List.take_of_length_le (by rw [HL.out]; omega)] at this
    exact this
  have hsl := slice_to (some ad2) (len0 + 1) c2 len0 (len0 : Int) rfl (by omega)
  clear ho2 hy2
  go_wp2_with (at_builtin; refine stop ?_)
  refine (seal_any (some ad2) len0 c2 l w2 hm2 (by omega)).mono ?_
  rintro e w3 ⟨v3, rfl, ho3, hb3⟩
  have hz3 := hb3.size
  have hb3' : Below w.heap.size w w3 := hb2'.trans (hb3.mono hz2)
  obtain ⟨A3, k3, c3, rfl, hk3⟩ := ho3.form2
  clear hk3
  have hs3 := ho3.bys
  have hm3 := hm2.below hb3
  have hl3 := hl.below hb3'
  have hcell3 : w3.cell? (ad2.add len0) = some (.int .u8 77) := (hb3.cell (by rw [block_of_add]; exact hbl2)).trans hcell2
  clear hsl hcell2 hm2 hb2'
  have hsl := slice_to (some ad2) len0 c2 (len0 + 1) ((len0 : Int) + 1) (by omega) (by omega)
  have hsl2 := sliceAt_to (some ad2) len0 c2 (len0 + 1) ((len0 : Int) + 1) (by omega) (by omega)
  have f1 : IntKind.i64.wrap ((len0 : Int) + 1) = (len0 : Int) + 1 := IntWalk.i64_in _ (by omega)
  have f2 : (len0 : Int) < (len0 : Int) + 1 := by omega
  have t1 := str_toList l
  have t2 := str_toList (l ++ les 4 (Crc.sum l))
  have SS : Hid (∀ W, Below w3.heap.size w3 W → ((convert 22 9 (.slice A3 k3 c3)).run Try.prog W = .ok (.string (str (l ++ les 4 (Crc.sum l)))) W ∧ (convert 22 9 (.slice (some ad2) len0 c2)).run Try.prog W = .ok (.string (str l)) W ∧ (convert 22 9 (.slice a0 len0 cap0)).run Try.prog W = .ok (.string (str l)) W ∧ W.cell? (ad2.add len0) = some (.int .u8 77))) :=
    Lib.hid fun W hW => ⟨conv_str W _ _ _ _ _ (hs3.below hW), conv_str W _ _ _ _ _ (hm3.below (hW.mono hz3)), conv_str W _ _ _ _ _ (hl3.below (hW.mono (by omega))), (hW.cell (by rw [block_of_add]; omega)).trans hcell3⟩
  go_wp2_with fail
  refine wp_region_np ?_
  refine wp_region_held_drew (S := fun W => (convert 22 9 (.slice A3 k3 c3)).run Try.prog W = .ok (.string (str (l ++ les 4 (Crc.sum l)))) W ∧ (convert 22 9 (.slice (some ad2) len0 c2)).run Try.prog W = .ok (.string (str l)) W ∧ (convert 22 9 (.slice a0 len0 cap0)).run Try.prog W = .ok (.string (str l)) W ∧ W.cell? (ad2.add len0) = some (.int .u8 77)) (by kernel_rfl) (SS.out _ (Below.refl _ _).drew) (fun hHeld => ?_)
  refine wpAnyH_takeAt (i := 0) (d := 19) (v := ?va0) rfl rfl (by kernel_rfl) (by kernel_rfl) (by kernel_rfl) (fun _ _ _ h => h) (Or.inl ⟨by rfl, ?hya0⟩) hHeld ?_
  case hya0 => intro W hSw; (try dsimp only at hSw); (go_simp; try with_reducible rfl)
  simp only [List.setIfInBounds_toArray, List.set_cons_zero, List.set_cons_succ]
  refine wpAnyH_takeAt (i := 1) (d := 20) (v := ?va1) rfl rfl (by kernel_rfl) (by kernel_rfl) (by kernel_rfl) (fun _ _ _ h => h) (Or.inl ⟨by rfl, ?hya1⟩) hHeld ?_
  case hya1 => intro W hSw; (try dsimp only at hSw); (go_simp; try with_reducible rfl)
  simp only [List.setIfInBounds_toArray, List.set_cons_zero, List.set_cons_succ]
  refine wpAnyH_takeAt (i := 2) (d := 21) (v := ?va2) rfl rfl (by kernel_rfl) (by kernel_rfl) (by kernel_rfl) (fun _ _ _ h => h) (Or.inl ⟨by rfl, ?hya2⟩) hHeld ?_
  case hya2 => intro W hSw; (try dsimp only at hSw); (go_simp; try with_reducible rfl)
  simp only [List.setIfInBounds_toArray, List.set_cons_zero, List.set_cons_succ]
  refine wpAnyH_ready (rs := [3]) (by kernel_rfl) (by simp) (AllReadyH.cons rfl (fun K hK => ?_) AllReadyH.nil)
  go_simp
  refine (refSeal_any a0 len0 cap0 l w3.drew (hl3.drew.more (by show w.heap.size ≤ w3.heap.size; omega)) (by omega)).mono ?_
  rintro e w4 ⟨v4, rfl, ho4, hb4⟩
  obtain ⟨A4, k4, c4, rfl, hk4⟩ := ho4.form2
  clear hk4
  have hb4' : Below w3.heap.size w3 w4 := (Below.refl w3.heap.size w3).drew.trans hb4
  have q4 := conv_str w4 _ A4 k4 c4 _ ho4.bys
  dsimp only
  refine hK.out _ _ (SS.out _ hb4') (fun hHeld => ?_)
  clear hK K
  refine wpAnyH_ready (rs := [4]) (by kernel_rfl) (by simp) (AllReadyH.cons rfl (fun K hK => ?_) AllReadyH.nil)
  go_simp
  refine hK.out _ _ hHeld (fun hHeld => ?_)
  clear hK K
  refine wpAnyH_takeAt (i := 5) (d := 24) (v := ?va5) rfl rfl (by kernel_rfl) (by kernel_rfl) (by kernel_rfl) (fun _ _ _ h => h) (Or.inl ⟨by rfl, ?hya5⟩) hHeld ?_
  case hya5 => intro W hSw; (try dsimp only at hSw); (go_simp; try with_reducible rfl)
  simp only [List.setIfInBounds_toArray, List.set_cons_zero, List.set_cons_succ]
  refine wpAnyH_takeAt (i := 6) (d := 25) (v := ?va6) rfl rfl (by kernel_rfl) (by kernel_rfl) (by kernel_rfl) (fun _ _ _ h => h) (Or.inl ⟨by rfl, ?hya6⟩) hHeld ?_
  case hya6 => intro W hSw; (try dsimp only at hSw); (go_simp; try with_reducible rfl)
  simp only [List.setIfInBounds_toArray, List.set_cons_zero, List.set_cons_succ]
  refine wpAnyH_takeAt (i := 7) (d := 26) (v := ?va7) rfl rfl (by kernel_rfl) (by kernel_rfl) (by kernel_rfl) (fun _ _ _ h => h) (Or.inl ⟨by rfl, ?hya7⟩) hHeld ?_
  case hya7 => intro W hSw; (try dsimp only at hSw); (go_simp; try with_reducible rfl)
  simp only [List.setIfInBounds_toArray, List.set_cons_zero, List.set_cons_succ]
  refine wpAnyH_takeAt (i := 8) (d := 27) (v := ?va8) rfl rfl (by kernel_rfl) (by kernel_rfl) (by kernel_rfl) (fun _ _ _ h => h) (Or.inl ⟨by rfl, ?hya8⟩) hHeld ?_
  case hya8 => intro W hSw; (try dsimp only at hSw); (go_simp; try with_reducible rfl)
  simp only [List.setIfInBounds_toArray, List.set_cons_zero, List.set_cons_succ]
  refine wpAnyH_takeAt (i := 9) (d := 28) (v := ?va9) rfl rfl (by kernel_rfl) (by kernel_rfl) (by kernel_rfl) (fun _ _ _ h => h) (Or.inl ⟨by rfl, ?hya9⟩) hHeld ?_
  case hya9 => intro W hSw; (try dsimp only at hSw); (go_simp; try with_reducible rfl)
  simp only [List.setIfInBounds_toArray, List.set_cons_zero, List.set_cons_succ]
  refine wpAnyH_takeAt (i := 10) (d := 29) (v := ?va10) rfl rfl (by kernel_rfl) (by kernel_rfl) (by kernel_rfl) (fun _ _ _ h => h) (Or.inl ⟨by rfl, ?hya10⟩) hHeld ?_
  case hya10 => intro W hSw; (try dsimp only at hSw); (go_simp; try with_reducible rfl)
  simp only [List.setIfInBounds_toArray, List.set_cons_zero, List.set_cons_succ]
  refine wpAnyH_takeAt (i := 11) (d := 30) (v := ?va11) rfl rfl (by kernel_rfl) (by kernel_rfl) (by kernel_rfl) (fun _ _ _ h => h) (Or.inl ⟨by rfl, ?hya11⟩) hHeld ?_
  case hya11 => intro W hSw; (try dsimp only at hSw); (go_simp; try with_reducible rfl)
  simp only [List.setIfInBounds_toArray, List.set_cons_zero, List.set_cons_succ]
  refine wpAnyH_takeAt (i := 12) (d := 31) (v := ?va12) rfl rfl (by kernel_rfl) (by kernel_rfl) (by kernel_rfl) (fun _ _ _ h => h) (Or.inl ⟨by rfl, ?hya12⟩) hHeld ?_
  case hya12 => intro W hSw; (try dsimp only at hSw); (go_simp; try with_reducible rfl)
  simp only [List.setIfInBounds_toArray, List.set_cons_zero, List.set_cons_succ]
  refine wpAnyH_takeAt (i := 13) (d := 32) (v := ?va13) rfl rfl (by kernel_rfl) (by kernel_rfl) (by kernel_rfl) (fun _ _ _ h => h) (Or.inl ⟨by rfl, ?hya13⟩) hHeld ?_
  case hya13 => intro W hSw; (try dsimp only at hSw); (go_simp; try with_reducible rfl)
  simp only [List.setIfInBounds_toArray, List.set_cons_zero, List.set_cons_succ]
  refine wpAnyH_takeAt (i := 14) (d := 33) (v := ?va14) rfl rfl (by kernel_rfl) (by kernel_rfl) (by kernel_rfl) (fun _ _ _ h => h) (Or.inl ⟨by rfl, ?hya14⟩) hHeld ?_
  case hya14 => intro W hSw; (try dsimp only at hSw); (go_simp; try with_reducible rfl)
  simp only [List.setIfInBounds_toArray, List.set_cons_zero, List.set_cons_succ]
  refine wpAnyH_takeAt (i := 15) (d := 34) (v := ?va15) rfl rfl (by kernel_rfl) (by kernel_rfl) (by kernel_rfl) (fun _ _ _ h => h) (Or.inl ⟨by rfl, ?hya15⟩) hHeld ?_
  case hya15 => intro W hSw; (try dsimp only at hSw); (go_simp; try with_reducible rfl)
  simp only [List.setIfInBounds_toArray, List.set_cons_zero, List.set_cons_succ]
  refine wpAnyH_takeAt (i := 16) (d := 35) (v := ?va16) rfl rfl (by kernel_rfl) (by kernel_rfl) (by kernel_rfl) (fun _ _ _ h => h) (Or.inl ⟨by rfl, ?hya16⟩) hHeld ?_
  case hya16 => intro W hSw; (try dsimp only at hSw); (go_simp; try with_reducible rfl)
  simp only [List.setIfInBounds_toArray, List.set_cons_zero, List.set_cons_succ]
  refine wpAnyH_takeAt (i := 17) (d := 36) (v := ?va17) rfl rfl (by kernel_rfl) (by kernel_rfl) (by kernel_rfl) (fun _ _ _ h => h) (Or.inl ⟨by rfl, ?hya17⟩) hHeld ?_
  case hya17 => intro W hSw; (try dsimp only at hSw); (go_simp; try with_reducible rfl)
  simp only [List.setIfInBounds_toArray, List.set_cons_zero, List.set_cons_succ]
  refine wpAnyH_takeAt (i := 18) (d := 37) (v := ?va18) rfl rfl (by kernel_rfl) (by kernel_rfl) (by kernel_rfl) (fun _ _ _ h => h) (Or.inl ⟨by rfl, ?hya18⟩) hHeld ?_
  case hya18 => intro W hSw; (try dsimp only at hSw); (go_simp; try with_reducible rfl)
  simp only [List.setIfInBounds_toArray, List.set_cons_zero, List.set_cons_succ]
  refine wpAnyH_takeAt (i := 19) (d := 38) (v := ?va19) rfl rfl (by kernel_rfl) (by kernel_rfl) (by kernel_rfl) (fun _ _ _ h => h) (Or.inl ⟨by rfl, ?hya19⟩) hHeld ?_
  case hya19 => intro W hSw; (try dsimp only at hSw); (go_simp; try with_reducible rfl)
  simp only [List.setIfInBounds_toArray, List.set_cons_zero, List.set_cons_succ]
  refine wpAnyH_takeAt (i := 20) (d := 39) (v := ?va20) rfl rfl (by kernel_rfl) (by kernel_rfl) (by kernel_rfl) (fun _ _ _ h => h) (Or.inl ⟨by rfl, ?hya20⟩) hHeld ?_
  case hya20 => intro W hSw; (try dsimp only at hSw); (go_simp; try with_reducible rfl)
  simp only [List.setIfInBounds_toArray, List.set_cons_zero, List.set_cons_succ]
  refine wpAnyH_takeAt (i := 21) (d := 40) (v := ?va21) rfl rfl (by kernel_rfl) (by kernel_rfl) (by kernel_rfl) (fun _ _ _ h => h) (Or.inl ⟨by rfl, ?hya21⟩) hHeld ?_
  case hya21 => intro W hSw; (try dsimp only at hSw); (go_simp; try with_reducible rfl)
  simp only [List.setIfInBounds_toArray, List.set_cons_zero, List.set_cons_succ]
  refine wpAnyH_takeAt (i := 22) (d := 41) (v := ?va22) rfl rfl (by kernel_rfl) (by kernel_rfl) (by kernel_rfl) (fun _ _ _ h => h) (Or.inl ⟨by rfl, ?hya22⟩) hHeld ?_
  case hya22 => intro W hSw; (try dsimp only at hSw); (go_simp; try with_reducible rfl)
  simp only [List.setIfInBounds_toArray, List.set_cons_zero, List.set_cons_succ]
  refine wpAnyH_takeAt (i := 23) (d := 42) (v := ?va23) rfl rfl (by kernel_rfl) (by kernel_rfl) (by kernel_rfl) (fun _ _ _ h => h) (Or.inl ⟨by rfl, ?hya23⟩) hHeld ?_
  case hya23 => intro W hSw; (try dsimp only at hSw); (go_simp; try with_reducible rfl)
  simp only [List.setIfInBounds_toArray, List.set_cons_zero, List.set_cons_succ]
  refine wpAnyH_takeAt (i := 24) (d := 43) (v := ?va24) rfl rfl (by kernel_rfl) (by kernel_rfl) (by kernel_rfl) (fun _ _ _ h => h) (Or.inl ⟨by rfl, ?hya24⟩) hHeld ?_
  case hya24 => intro W hSw; (try dsimp only at hSw); (go_simp; try with_reducible rfl)
  simp only [List.setIfInBounds_toArray, List.set_cons_zero, List.set_cons_succ]
  refine wpAnyH_takeAt (i := 25) (d := 44) (v := ?va25) rfl rfl (by kernel_rfl) (by kernel_rfl) (by kernel_rfl) (fun _ _ _ h => h) (Or.inl ⟨by rfl, ?hya25⟩) hHeld ?_
  case hya25 => intro W hSw; (try dsimp only at hSw); (go_simp; try with_reducible rfl)
  simp only [List.setIfInBounds_toArray, List.set_cons_zero, List.set_cons_succ]
  refine wpAnyH_ready (rs := [26]) (by kernel_rfl) (by simp) (AllReadyH.cons rfl (fun K hK => ?_) AllReadyH.nil)
  go_simp
  refine (works_any w4).mono ?_
  rintro e w5 ⟨rfl, hb5⟩
  have hb5' : Below w3.heap.size w3 w5 := hb4'.trans (hb5.mono hb4'.size)
  dsimp only
  refine hK.out _ _ (SS.out _ hb5') (fun hHeld => ?_)
  clear hK K
  refine wpAnyH_takeAt (i := 27) (d := 46) (v := ?va27) rfl rfl (by kernel_rfl) (by kernel_rfl) (by kernel_rfl) (fun _ _ _ h => h) (Or.inl ⟨by rfl, ?hya27⟩) hHeld ?_
  case hya27 => intro W hSw; (try dsimp only at hSw); (go_simp; try with_reducible rfl)
  simp only [List.setIfInBounds_toArray, List.set_cons_zero, List.set_cons_succ]
  refine wpAnyH_takeAt (i := 28) (d := 2) (v := ?va28) rfl rfl (by kernel_rfl) (by kernel_rfl) (by kernel_rfl) (fun _ _ _ h => h) (Or.inl ⟨by rfl, ?hya28⟩) hHeld ?_
  case hya28 => intro W hSw; (try dsimp only at hSw); (go_simp; try with_reducible rfl)
  simp only [List.setIfInBounds_toArray, List.set_cons_zero, List.set_cons_succ]
  refine wpAnyH_done (by kernel_rfl) ?_ _
  have hfin : Below w.heap.size w w5 := hb3'.trans (hb5'.mono (by omega))
  clear hHeld t1 t2 q4 hsl hsl2 f1
  go_wp2_with fail
  go_ret
  exact ⟨rfl, hfin⟩

set_option maxRecDepth 100000 in
theorem lifted (os : Os) (started : os.Started) (H : Type) (enc : TypeId × Value → H) :
    ReturnsInHanded {} Try.checked os 6 .any (Rows.sumsSealsSpec.pre6 enc Try.prog Try.f6 Rows.sumsSealsRow.domain false) (Rows.sumsSealsSpec.post enc Try.prog Try.f6 false true false false) := by
  refine returnsInHanded_of_change (C := Try.checked) own started (by kernel_rfl) Try.func6
    (ChangeSpec.witness6 (enc := enc) (C := Try.checked) false ⟨#[], #[.slice none 0 0], []⟩ 8 (by kernel_rfl) (by kernel_rfl) (by kernel_rfl) (by kernel_rfl)) ?_
  intro W base args ds gs before hval0 hW hcnd _
  have hval : ∀ (j : Nat) t v, Try.f6.params[j]? = some t → args[j]? = some v → Value.okWide Try.prog W .any base t v := hval0
  have hW' := hW
  obtain ⟨p, q, hA0, hV, rfl, hfz, hnd⟩ := hW
  have hA : DataW.TrodAll enc Try.prog W 0 (fun _ => true) true Try.f6.params.toList args.toList ds p := hA0
  rw [Try.params6] at hA hval
  obtain ⟨v0, vs0, d0, ds0, p0, q0, hargs, rfl, rfl, h0, r0⟩ := trodAll_cons hA
  obtain ⟨rfl, rfl, rfl⟩ := trodAll_nil r0
  obtain rfl : args = #[v0] := by cases args; simp_all
  obtain ⟨rfl, rfl⟩ := trodVars_none hV
  obtain ⟨a0, len0, cap0, rfl⟩ := okWide_slice Try.underlying22 (hval 0 22 v0 rfl rfl)
  have k0 := h0
  have lt0 : ∀ x ∈ p0, x.block < W.heap.size := by obtain ⟨m, hm⟩ := k0; exact DataW.trod_lt m _ _ _ hm
  obtain ⟨z0, w0⟩ : ∃ zs, IsRow .u8 W a0 len0 cap0 zs := by
    obtain ⟨fuel, hf⟩ := h0
    rcases open_ints Try.underlying22 Try.underlying5 (by kernel_rfl) hf with ⟨hcs, _⟩ | ⟨x, l, c, zs, hcs, _, hl, hm, hz, _, hcell, hwz⟩
    · simp [Value.cells] at hcs
      obtain ⟨rfl, rfl, rfl⟩ := hcs
      exact ⟨[], .inl ⟨rfl, rfl, rfl, rfl⟩⟩
    · simp [Value.cells] at hcs
      obtain ⟨rfl, rfl, rfl⟩ := hcs
      exact ⟨zs, .inr ⟨_, rfl, hl, hm, by simpa using hz, hcell, hwz⟩⟩
  clear hA0 hval0
  refine (walk a0 len0 cap0 z0 W w0).mono fun e W' ⟨he, bel⟩ => ?_
  subst he
  exact ⟨_, rfl, _, _, _, [], _, [], hW', trodAll_mk1 (shut_bool Try.underlying4 _), (trodAll_cons_mk (Below.trod laidOut (by kernel_rfl) (of_decide_eq_true (by kernel_rfl)) k0 bel lt0) trodAll_mk0), rfl, bel.frame _, fun h => by cases h⟩

theorem over : Rows.sumsSealsRow.holds Try.pinned (OpenSpec.ofChange Rows.sumsSealsSpec) :=
  OpenClaim.holds_of_wide 6 Try.f6 rfl rfl rfl rfl rfl rfl rfl ⟨rfl, rfl, rfl, rfl, rfl⟩ rfl rfl rfl rfl rfl (by kernel_rfl) Try.func6 (by kernel_rfl)
    (of_decide_eq_true (by kernel_rfl)) (by unfold Func.isWrapper; first | (rw [if_pos (by decide +kernel)]; kernel_rfl) | (rw [if_neg (by decide +kernel)]; exact ⟨rfl, rfl⟩))
    (fun os started H enc _ => lifted os started H enc)

theorem proved : Rows.SumsSealsSaid := over
end Go.Proofs.Ytnlokmamflpffaa.sumsSeals
namespace Go.Proofs.Ytnlokmamflpffaa
theorem sumsSeals_holds : Rows.SumsSealsSaid := sumsSeals.proved
#print axioms sumsSeals_holds
end Go.Proofs.Ytnlokmamflpffaa
