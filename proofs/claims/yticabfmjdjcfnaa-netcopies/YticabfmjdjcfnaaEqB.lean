/-
  slices.Equal of bytes; net.alike. Conditions: bounds.
-/
import Derived.Test.YticabfmjdjcfnaaRefSame
namespace Go.Proofs.Yticabfmjdjcfnaa
open Go.RowKit
set_option maxRecDepth 100000 in
set_option maxHeartbeats 4000000 in
theorem eqB_any {w : World} {X X' : Nat → Prop} {A A' : Option Addr} {n c n' c' : Nat} {l l' : Bs} (h : Bys w X A n l) (h' : Bys w X' A' n' l') (hn : n ≤ 1000000000) (hn' : n' ≤ 1000000000) :
    Calls Try.prog 51 #[.slice A n c, .slice A' n' c'] w fun e w' => e = .returned (.bool (l == l')) ∧ Below w.heap.size w w' := by
  have HL := Lib.hid h.1
  have HL' := Lib.hid h'.1
  have HH := Lib.hid h
  have HH' := Lib.hid h'
  clear h h'
  by_cases hnn : n = n'
  case neg =>
    have HR : Hid ((l == l') = false) := Lib.hid (by
      rw [beq_eq_false_iff_ne]
      intro e
      have h1 := HL.out
      have h2 := HL'.out
      rw [e] at h1
      omega)
    have hm1 : (!((n : Int) == (n' : Int))) = true := by simp; omega
    have hm2 : ¬ (n : Int) = (n' : Int) := by omega
    clear hnn HL HL' HH HH'
    go_enter Try.func51, Try.ntmps51
    go_wp2_with fail
    go_ret
    exact ⟨ret_bool HR.out.symm, Below.refl _ _⟩
  case pos =>
  subst hnn
  go_enter Try.func51, Try.ntmps51
  go_wp2_with fail
  go_loopw [5, 13] (fun _ i wr => ∃ k : Nat, k ≤ n ∧ i = .int .i64 k ∧ (∀ j, j < k → l[j]? = l'[j]?) ∧ Below w.heap.size w wr) (fun _ i _ => n - (intOf i).toNat)
  case atStart => exact ⟨0, by omega, rfl, fun j hj => by omega, Below.refl _ _⟩
  case round =>
    obtain ⟨k, hk, rfl, hsame, hbl⟩ := hrel
    have HSM := Lib.hid hsame
    have HBL := Lib.hid hbl
    clear hsame hbl
    by_cases hlt : k < n
    case neg =>
      have hd1 : decide (k < n) = false := by simpa using hlt
      have HR : Hid ((l == l') = true) := Lib.hid (by
        rw [beq_iff_eq]
        exact List.ext_getElem? (fun j => by
          by_cases hj : j < k
          · exact HSM.out j hj
          · have h1 := HL.out
            have h2 := HL'.out
            rw [List.getElem?_eq_none (by omega), List.getElem?_eq_none (by omega)]))
      go_wp2_with fail
      go_ret
      exact ⟨ret_bool HR.out.symm, HBL.out⟩
    case pos =>
    have hki : ((k : Nat) : Int) < ((n : Nat) : Int) := by omega
    obtain ⟨ad, u, rfl, hadl, hu, hc⟩ := HH.out.at_ hlt
    obtain ⟨ae, v, rfl, hael, hv, hc'⟩ := HH'.out.at_ hlt
    have HC1 : Hid (∀ W, Below w.heap.size w W → W.cell? (ad.add k) = some (.int .u8 (u.toNat : Int))) := Lib.hid (fun W hW => (hW.cell (p := ad.add k) (by rw [block_of_add]; exact hadl)).trans hc)
    have HC2 : Hid (∀ W, Below w.heap.size w W → W.cell? (ae.add k) = some (.int .u8 (v.toNat : Int))) := Lib.hid (fun W hW => (hW.cell (p := ae.add k) (by rw [block_of_add]; exact hael)).trans hc')
    have HU := Lib.hid hu
    have HV := Lib.hid hv
    clear hc hc' hu hv hadl hael
    go_wp2_with fail
    by_cases huv : u = v
    case pos =>
      subst huv
      refine wp_region_np ?_
      refine wp_region_held_drew (S := fun W => Below w.heap.size w W) (by kernel_rfl) HBL.out.drew (fun hHeld => ?_)
      refine wpAnyH_takeAt (i := 0) (d := 16) (v := ?vq0x) rfl rfl (by kernel_rfl) (by kernel_rfl) (by kernel_rfl) (fun _ _ _ h => h) (Or.inl ⟨by rfl, ?hyq0x⟩) hHeld ?_
      case hyq0x =>
        intro W hSw
        clear hSw
        (go_simp; try with_reducible rfl)
      simp only [List.setIfInBounds_toArray, List.set_cons_zero, List.set_cons_succ]
      refine wpAnyH_takeAt (i := 1) (d := 17) (v := ?vq1x) rfl rfl (by kernel_rfl) (by kernel_rfl) (by kernel_rfl) (fun _ _ _ h => h) (Or.inl ⟨by rfl, ?hyq1x⟩) hHeld ?_
      case hyq1x =>
        intro W hSw
        clear hSw
        (go_simp; try with_reducible rfl)
      simp only [List.setIfInBounds_toArray, List.set_cons_zero, List.set_cons_succ]
      refine wpAnyH_takeAt (i := 2) (d := 18) (v := ?vq2x) rfl rfl (by kernel_rfl) (by kernel_rfl) (by kernel_rfl) (fun _ _ _ h => h) (Or.inl ⟨by rfl, ?hyq2x⟩) hHeld ?_
      case hyq2x =>
        intro W hSw
        clear hSw
        (go_simp; try with_reducible rfl)
      simp only [List.setIfInBounds_toArray, List.set_cons_zero, List.set_cons_succ]
      refine wpAnyH_takeAt (i := 3) (d := 19) (v := ?vq3x) rfl rfl (by kernel_rfl) (by kernel_rfl) (by kernel_rfl) (fun _ _ _ h => h) (Or.inl ⟨by rfl, ?hyq3x⟩) hHeld ?_
      case hyq3x =>
        intro W hSw
        have e0 := HC1.out W hSw
        (go_simp; try with_reducible rfl)
      simp only [List.setIfInBounds_toArray, List.set_cons_zero, List.set_cons_succ]
      refine wpAnyH_takeAt (i := 4) (d := 20) (v := ?vq4x) rfl rfl (by kernel_rfl) (by kernel_rfl) (by kernel_rfl) (fun _ _ _ h => h) (Or.inl ⟨by rfl, ?hyq4x⟩) hHeld ?_
      case hyq4x =>
        intro W hSw
        clear hSw
        (go_simp; try with_reducible rfl)
      simp only [List.setIfInBounds_toArray, List.set_cons_zero, List.set_cons_succ]
      refine wpAnyH_takeAt (i := 5) (d := 21) (v := ?vq5x) rfl rfl (by kernel_rfl) (by kernel_rfl) (by kernel_rfl) (fun _ _ _ h => h) (Or.inl ⟨by rfl, ?hyq5x⟩) hHeld ?_
      case hyq5x =>
        intro W hSw
        clear hSw
        (go_simp; try with_reducible rfl)
      simp only [List.setIfInBounds_toArray, List.set_cons_zero, List.set_cons_succ]
      refine wpAnyH_takeAt (i := 6) (d := 22) (v := ?vq6x) rfl rfl (by kernel_rfl) (by kernel_rfl) (by kernel_rfl) (fun _ _ _ h => h) (Or.inl ⟨by rfl, ?hyq6x⟩) hHeld ?_
      case hyq6x =>
        intro W hSw
        clear hSw
        (go_simp; try with_reducible rfl)
      simp only [List.setIfInBounds_toArray, List.set_cons_zero, List.set_cons_succ]
      refine wpAnyH_takeAt (i := 7) (d := 23) (v := ?vq7x) rfl rfl (by kernel_rfl) (by kernel_rfl) (by kernel_rfl) (fun _ _ _ h => h) (Or.inl ⟨by rfl, ?hyq7x⟩) hHeld ?_
      case hyq7x =>
        intro W hSw
        have e0 := HC2.out W hSw
        (go_simp; try with_reducible rfl)
      simp only [List.setIfInBounds_toArray, List.set_cons_zero, List.set_cons_succ]
      refine wpAnyH_takeAt (i := 8) (d := 24) (v := .bool false) rfl rfl (by kernel_rfl) (by kernel_rfl) (by kernel_rfl) (fun _ _ _ h => h) (Or.inl ⟨by rfl, ?hyq8x⟩) hHeld ?_
      case hyq8x =>
        intro W hSw
        clear hSw
        go_simp
        all_goals (first | with_reducible rfl | (simp; done))
      simp only [List.setIfInBounds_toArray, List.set_cons_zero, List.set_cons_succ]
      refine wpAnyH_done (by kernel_rfl) ?_ _
      go_wp2_with fail
      exact ⟨⟨k + 1, by omega, by go_num, fun j hj => by
        by_cases hjk : j < k
        · exact HSM.out j hjk
        · obtain rfl : j = k := by omega
          rw [HU.out, HV.out], hHeld⟩, by simp [intOf]; omega⟩
    case neg =>
      have hne : ¬ (u.toNat : Int) = (v.toNat : Int) := fun e => huv (UInt8.toNat_inj.1 (by omega))
      have HR : Hid ((l == l') = false) := Lib.hid (by
        rw [beq_eq_false_iff_ne]
        intro e
        have h1 := HU.out
        rw [e, HV.out] at h1
        injection h1 with h1
        exact huv h1.symm)
      refine wp_region_np ?_
      refine wp_region_held_drew (S := fun W => Below w.heap.size w W) (by kernel_rfl) HBL.out.drew (fun hHeld => ?_)
      refine wpAnyH_takeAt (i := 0) (d := 16) (v := ?vq9x) rfl rfl (by kernel_rfl) (by kernel_rfl) (by kernel_rfl) (fun _ _ _ h => h) (Or.inl ⟨by rfl, ?hyq9x⟩) hHeld ?_
      case hyq9x =>
        intro W hSw
        clear hSw
        (go_simp; try with_reducible rfl)
      simp only [List.setIfInBounds_toArray, List.set_cons_zero, List.set_cons_succ]
      refine wpAnyH_takeAt (i := 1) (d := 17) (v := ?vq10x) rfl rfl (by kernel_rfl) (by kernel_rfl) (by kernel_rfl) (fun _ _ _ h => h) (Or.inl ⟨by rfl, ?hyq10x⟩) hHeld ?_
      case hyq10x =>
        intro W hSw
        clear hSw
        (go_simp; try with_reducible rfl)
      simp only [List.setIfInBounds_toArray, List.set_cons_zero, List.set_cons_succ]
      refine wpAnyH_takeAt (i := 2) (d := 18) (v := ?vq11x) rfl rfl (by kernel_rfl) (by kernel_rfl) (by kernel_rfl) (fun _ _ _ h => h) (Or.inl ⟨by rfl, ?hyq11x⟩) hHeld ?_
      case hyq11x =>
        intro W hSw
        clear hSw
        (go_simp; try with_reducible rfl)
      simp only [List.setIfInBounds_toArray, List.set_cons_zero, List.set_cons_succ]
      refine wpAnyH_takeAt (i := 3) (d := 19) (v := ?vq12x) rfl rfl (by kernel_rfl) (by kernel_rfl) (by kernel_rfl) (fun _ _ _ h => h) (Or.inl ⟨by rfl, ?hyq12x⟩) hHeld ?_
      case hyq12x =>
        intro W hSw
        have e0 := HC1.out W hSw
        (go_simp; try with_reducible rfl)
      simp only [List.setIfInBounds_toArray, List.set_cons_zero, List.set_cons_succ]
      refine wpAnyH_takeAt (i := 4) (d := 20) (v := ?vq13x) rfl rfl (by kernel_rfl) (by kernel_rfl) (by kernel_rfl) (fun _ _ _ h => h) (Or.inl ⟨by rfl, ?hyq13x⟩) hHeld ?_
      case hyq13x =>
        intro W hSw
        clear hSw
        (go_simp; try with_reducible rfl)
      simp only [List.setIfInBounds_toArray, List.set_cons_zero, List.set_cons_succ]
      refine wpAnyH_takeAt (i := 5) (d := 21) (v := ?vq14x) rfl rfl (by kernel_rfl) (by kernel_rfl) (by kernel_rfl) (fun _ _ _ h => h) (Or.inl ⟨by rfl, ?hyq14x⟩) hHeld ?_
      case hyq14x =>
        intro W hSw
        clear hSw
        (go_simp; try with_reducible rfl)
      simp only [List.setIfInBounds_toArray, List.set_cons_zero, List.set_cons_succ]
      refine wpAnyH_takeAt (i := 6) (d := 22) (v := ?vq15x) rfl rfl (by kernel_rfl) (by kernel_rfl) (by kernel_rfl) (fun _ _ _ h => h) (Or.inl ⟨by rfl, ?hyq15x⟩) hHeld ?_
      case hyq15x =>
        intro W hSw
        clear hSw
        (go_simp; try with_reducible rfl)
      simp only [List.setIfInBounds_toArray, List.set_cons_zero, List.set_cons_succ]
      refine wpAnyH_takeAt (i := 7) (d := 23) (v := ?vq16x) rfl rfl (by kernel_rfl) (by kernel_rfl) (by kernel_rfl) (fun _ _ _ h => h) (Or.inl ⟨by rfl, ?hyq16x⟩) hHeld ?_
      case hyq16x =>
        intro W hSw
        have e0 := HC2.out W hSw
        (go_simp; try with_reducible rfl)
      simp only [List.setIfInBounds_toArray, List.set_cons_zero, List.set_cons_succ]
      refine wpAnyH_takeAt (i := 8) (d := 24) (v := .bool true) rfl rfl (by kernel_rfl) (by kernel_rfl) (by kernel_rfl) (fun _ _ _ h => h) (Or.inl ⟨by rfl, ?hyq17x⟩) hHeld ?_
      case hyq17x =>
        intro W hSw
        clear hSw
        go_simp
        all_goals (first | with_reducible rfl | (simp [hne]; done) | (simp; omega))
      simp only [List.setIfInBounds_toArray, List.set_cons_zero, List.set_cons_succ]
      refine wpAnyH_done (by kernel_rfl) ?_ _
      go_wp2_with fail
      go_ret
      exact ⟨ret_bool HR.out.symm, hHeld⟩
set_option maxRecDepth 100000 in
set_option maxHeartbeats 4000000 in
theorem alike_any {w : World} {X X' : Nat → Prop} {a b : Msg} {va vb : Value} (ha : MsgV w X a va) (hb : MsgV w X' b vb) (hl : a.b.length ≤ 1000000000) (hl' : b.b.length ≤ 1000000000) : Calls Try.prog 41 #[va, vb] w fun e w' => e = .returned (.bool (sameM a b)) ∧ Below w.heap.size w w' := by
  obtain ⟨A, n, c, rfl, hA⟩ := ha
  obtain ⟨A', n', c', rfl, hB⟩ := hb
  have k0 : Blk ((w.alloc (.cells #[.int .i64 a.fr, .int .i64 a.to, .slice A n c] 39)).alloc (.cells #[.int .i64 b.fr, .int .i64 b.to, .slice A' n' c'] 39)) w.heap.size 39 #[.int .i64 a.fr, .int .i64 a.to, .slice A n c] := (Blk.new _ _ _).alloc _
  have k1 : Blk ((w.alloc (.cells #[.int .i64 a.fr, .int .i64 a.to, .slice A n c] 39)).alloc (.cells #[.int .i64 b.fr, .int .i64 b.to, .slice A' n' c'] 39)) (w.heap.size + 1) 39 #[.int .i64 b.fr, .int .i64 b.to, .slice A' n' c'] := blk_new _ 39 _ (by simp)
  have hb2 : Below w.heap.size w ((w.alloc (.cells #[.int .i64 a.fr, .int .i64 a.to, .slice A n c] 39)).alloc (.cells #[.int .i64 b.fr, .int .i64 b.to, .slice A' n' c'] 39)) := ((Below.refl _ _).alloc (Nat.le_refl _) _).alloc (by simp) _
  have HE := Lib.hid (eqB_any (c := c) (c' := c') (hA.below hb2) (hB.below hb2) (by have := hA.1; omega) (by have := hB.1; omega))
  clear hA hB
  obtain ⟨c0, c1, c2⟩ := k0.three
  obtain ⟨d0, d1, d2⟩ := k1.three
  have HB := Lib.hid hb2
  clear hb2
  cases h1 : (a.fr == b.fr) with
  | false =>
    have HR : Hid (sameM a b = false) := Lib.hid (by unfold sameM; rw [h1]; rfl)
    go_enter Try.func41, Try.ntmps41
    go_wp2_with fail
    go_ret
    exact ⟨ret_bool HR.out.symm, HB.out⟩
  | true =>
  cases h2 : (a.to == b.to) with
  | false =>
    have HR : Hid (sameM a b = false) := Lib.hid (by unfold sameM; rw [h1, h2]; rfl)
    go_enter Try.func41, Try.ntmps41
    go_wp2_with fail
    go_ret
    exact ⟨ret_bool HR.out.symm, HB.out⟩
  | true =>
  have HR : Hid (sameM a b = (a.b == b.b)) := Lib.hid (by unfold sameM; rw [h1, h2]; rfl)
  go_enter Try.func41, Try.ntmps41
  go_wp2_with (go_at_call 51; refine HE.out.mono ?_; rintro e w' ⟨rfl, hb'⟩)
  all_goals
    go_ret
    exact ⟨ret_bool HR.out.symm, HB.out.trans (hb'.mono HB.out.size)⟩
end Go.Proofs.Yticabfmjdjcfnaa
