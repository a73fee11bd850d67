/-
  The rest of the faults of a call. Conditions: a controller that New made, a partition, an ID of its own where one ahead says so.
-/
import Derived.Test.YtpmdicbhliclcaaGreatIns
namespace Go.Proofs.YtpmdicbhliclcaaGreat
open Go.RowKit Go.Maps
set_option linter.unusedVariables false
/-- Where the first one stands of which P is so, or -1. -/
def idxP (V : List Int) (P : Int → Bool) : Int := match V.findIdx? P with
  | some i => (i : Int)
  | none => -1
theorem idxP_at {V : List Int} {P : Int → Bool} {k : Nat} {y : Int} (h : V[k]? = some y) (hy : P y = true) (hno : ∀ (j : Nat) (z : Int), j < k → V[j]? = some z → P z = false) : idxP V P = (k : Int) := by
  unfold idxP
  have hk := (List.getElem?_eq_some_iff.1 h).1
  have : V.findIdx? P = some k := by
    rw [List.findIdx?_eq_some_iff_getElem]
    refine ⟨hk, by rw [(List.getElem?_eq_some_iff.1 h).2]; exact hy, fun j hj => ?_⟩
    rw [hno j _ hj (List.getElem?_eq_getElem (by omega))]
    simp
  rw [this]
theorem idxP_no {V : List Int} {P : Int → Bool} (h : ∀ (j : Nat) (z : Int), V[j]? = some z → P z = false) : idxP V P = -1 := by
  unfold idxP
  have : V.findIdx? P = none := by
    rw [List.findIdx?_eq_none_iff]
    intro y hy
    obtain ⟨j, hj⟩ := List.mem_iff_getElem?.1 hy
    exact h j y hj
  rw [this]
theorem idxP_in {V : List Int} {P : Int → Bool} : decide (0 ≤ idxP V P) = V.any P := by
  by_cases h : V.any P = true
  · rw [h]
    refine decide_eq_true ?_
    unfold idxP
    cases hf : V.findIdx? P with
    | some i => simp
    | none =>
      rw [List.findIdx?_eq_none_iff] at hf
      rw [List.any_eq_true] at h
      obtain ⟨y, hy, e⟩ := h
      rw [hf y hy] at e
      cases e
  · have h2 : V.any P = false := by simpa using h
    rw [h2]
    refine decide_eq_false ?_
    rw [idxP_no]
    · omega
    · intro j z hj
      rw [List.any_eq_false] at h2
      have := h2 z (List.mem_iff_getElem?.2 ⟨j, hj⟩)
      simpa using this
section
variable {w : World} {bm bi be bu bs bo g : Nat} {a b c x y : Int} {S X : Nat → Prop} {M : Mt} {p : Nat} {I : List Int} {A : Option Addr} {n k : Nat}
set_option maxRecDepth 100000 in
set_option maxHeartbeats 2000000 in
theorem arg63_any (h : Cap w bm bi g a b c x) (hy : w.cell? ⟨be, 0, none⟩ = some (.int .i64 y)) : Calls Tryz.prog 63 #[.pointer (some ⟨bm, 0, none⟩), .pointer (some ⟨bi, 0, none⟩), .pointer (some ⟨be, 0, none⟩)] w fun r w' => r = .returned (.bool (!decide ((0 ≤ x ∧ x < c) ∧ 0 ≤ y ∧ y < b))) ∧ Below w.heap.size w w' := by
  have HC := Lib.hid h
  have HY := Lib.hid hy
  clear h hy
  obtain ⟨d1, hd1⟩ : ∃ d, decide (0 ≤ x ∧ x < c) = d := ⟨_, rfl⟩
  obtain ⟨d2, hd2⟩ : ∃ d, decide (0 ≤ y ∧ y < b) = d := ⟨_, rfl⟩
  have HF : Hid (decide ((0 ≤ x ∧ x < c) ∧ 0 ≤ y ∧ y < b) = (d1 && d2)) := Lib.hid (by rw [← hd1, ← hd2]; exact Bool.decide_and _ _)
  have HD1 := Lib.hid hd1
  have HD2 := Lib.hid hd2
  clear hd1 hd2
  go_enter Tryz.func63, Tryz.ntmps63
  go_upto_region 1 with fail
  refine wp_region_np ?_
  refine wp_region_held_drew (S := fun W => Below w.heap.size w W) (by kernel_rfl) (show Below w.heap.size w w.drew from (Below.refl _ _).drew) (fun hHeld => ?_)
  generalize hv0 : w.drew = V0 at *
  clear hv0
  cases d1 with
  | false =>
    refine wpAnyH_takeAt (i := 0) (d := 4) (v := ?vq0x) rfl rfl (by kernel_rfl) (by kernel_rfl) (by kernel_rfl) (fun _ _ _ h => h) (Or.inl ⟨by rfl, ?hyq0x⟩) hHeld ?_
    case hyq0x =>
      intro W hSw
      have hh := HC.out.below hSw; obtain ⟨q0, q1, q2, q3, q4⟩ := hh; have xHY := (hSw.cell (p := ⟨_, 0, none⟩) (block_lt_of_cell HY.out)).trans HY.out; clear hSw
      (go_simp; try with_reducible rfl)
    simp only [List.setIfInBounds_toArray, List.set_cons_zero, List.set_cons_succ]
    refine wpAnyH_takeAt (i := 1) (d := 5) (v := ?vq1x) rfl rfl (by kernel_rfl) (by kernel_rfl) (by kernel_rfl) (fun _ _ _ h => h) (Or.inl ⟨by rfl, ?hyq1x⟩) hHeld ?_
    case hyq1x =>
      intro W hSw
      clear hSw
      (go_simp; try with_reducible rfl)
    simp only [List.setIfInBounds_toArray, List.set_cons_zero, List.set_cons_succ]
    refine wpAnyH_takeAt (i := 2) (d := 6) (v := ?vq2x) rfl rfl (by kernel_rfl) (by kernel_rfl) (by kernel_rfl) (fun _ _ _ h => h) (Or.inl ⟨by rfl, ?hyq2x⟩) hHeld ?_
    case hyq2x =>
      intro W hSw
      clear hSw
      (go_simp; try with_reducible rfl)
    simp only [List.setIfInBounds_toArray, List.set_cons_zero, List.set_cons_succ]
    refine wpAnyH_takeAt (i := 3) (d := 7) (v := ?vq3x) rfl rfl (by kernel_rfl) (by kernel_rfl) (by kernel_rfl) (fun _ _ _ h => h) (Or.inl ⟨by rfl, ?hyq3x⟩) hHeld ?_
    case hyq3x =>
      intro W hSw
      have hh := HC.out.below hSw; obtain ⟨q0, q1, q2, q3, q4⟩ := hh; have xHY := (hSw.cell (p := ⟨_, 0, none⟩) (block_lt_of_cell HY.out)).trans HY.out; clear hSw
      (go_simp; try with_reducible rfl)
    simp only [List.setIfInBounds_toArray, List.set_cons_zero, List.set_cons_succ]
    refine wpAnyH_takeAt (i := 4) (d := 8) (v := ?vq4x) rfl rfl (by kernel_rfl) (by kernel_rfl) (by kernel_rfl) (fun _ _ _ h => h) (Or.inl ⟨by rfl, ?hyq4x⟩) hHeld ?_
    case hyq4x =>
      intro W hSw
      have hh := HC.out.below hSw; obtain ⟨q0, q1, q2, q3, q4⟩ := hh; have xHY := (hSw.cell (p := ⟨_, 0, none⟩) (block_lt_of_cell HY.out)).trans HY.out; clear hSw
      (go_simp; try with_reducible rfl)
    simp only [List.setIfInBounds_toArray, List.set_cons_zero, List.set_cons_succ]
    refine wpAnyH_ready (rs := [5]) (by kernel_rfl) (by simp) (AllReadyH.cons rfl (fun K hK => ?_) AllReadyH.nil)
    go_simp
    have hq := hasID_any V0 a b c x
    unfold frm at hq
    rw [HD1.out] at hq
    refine hq.mono ?_
    rintro r V1 ⟨rfl, hb1⟩
    dsimp only
    refine hK.out _ _ (hHeld.trans (hb1.mono hHeld.size)) (fun hHeld => ?_)
    clear hK K hq hb1
    try simp only [List.setIfInBounds_toArray, List.set_cons_zero, List.set_cons_succ]
    refine wpAnyH_takeAt (i := 6) (d := 10) (v := ?vq5x) rfl rfl (by kernel_rfl) (by kernel_rfl) (by kernel_rfl) (fun _ _ _ h => h) (Or.inl ⟨by rfl, ?hyq5x⟩) hHeld ?_
    case hyq5x =>
      intro W hSw
      clear hSw
      (go_simp; try with_reducible rfl)
    simp only [List.setIfInBounds_toArray, List.set_cons_zero, List.set_cons_succ]
    refine wpAnyH_takeAt (i := 7) (d := 11) (v := ?vq6x) rfl rfl (by kernel_rfl) (by kernel_rfl) (by kernel_rfl) (fun _ _ _ h => h) (Or.inl ⟨by rfl, ?hyq6x⟩) hHeld ?_
    case hyq6x =>
      intro W hSw
      clear hSw
      (go_simp; try with_reducible rfl)
    simp only [List.setIfInBounds_toArray, List.set_cons_zero, List.set_cons_succ]
    refine wpAnyH_takeAt (i := 8) (d := 12) (v := undef) rfl rfl (by kernel_rfl) (by kernel_rfl) (by kernel_rfl) (fun _ _ _ h => h) (Or.inr ⟨by rfl, rfl⟩) hHeld ?_
    simp only [List.setIfInBounds_toArray, List.set_cons_zero, List.set_cons_succ]
    refine wpAnyH_takeAt (i := 9) (d := 13) (v := undef) rfl rfl (by kernel_rfl) (by kernel_rfl) (by kernel_rfl) (fun _ _ _ h => h) (Or.inr ⟨by rfl, rfl⟩) hHeld ?_
    simp only [List.setIfInBounds_toArray, List.set_cons_zero, List.set_cons_succ]
    refine wpAnyH_takeAt (i := 10) (d := 14) (v := undef) rfl rfl (by kernel_rfl) (by kernel_rfl) (by kernel_rfl) (fun _ _ _ h => h) (Or.inr ⟨by rfl, rfl⟩) hHeld ?_
    simp only [List.setIfInBounds_toArray, List.set_cons_zero, List.set_cons_succ]
    refine wpAnyH_takeAt (i := 11) (d := 15) (v := undef) rfl rfl (by kernel_rfl) (by kernel_rfl) (by kernel_rfl) (fun _ _ _ h => h) (Or.inr ⟨by rfl, rfl⟩) hHeld ?_
    simp only [List.setIfInBounds_toArray, List.set_cons_zero, List.set_cons_succ]
    refine wpAnyH_takeAt (i := 12) (d := 16) (v := undef) rfl rfl (by kernel_rfl) (by kernel_rfl) (by kernel_rfl) (fun _ _ _ h => h) (Or.inr ⟨by rfl, rfl⟩) hHeld ?_
    simp only [List.setIfInBounds_toArray, List.set_cons_zero, List.set_cons_succ]
    refine wpAnyH_takeAt (i := 13) (d := 17) (v := undef) rfl rfl (by kernel_rfl) (by kernel_rfl) (by kernel_rfl) (fun _ _ _ h => h) (Or.inr ⟨by rfl, rfl⟩) hHeld ?_
    simp only [List.setIfInBounds_toArray, List.set_cons_zero, List.set_cons_succ]
    refine wpAnyH_takeAt (i := 14) (d := 18) (v := undef) rfl rfl (by kernel_rfl) (by kernel_rfl) (by kernel_rfl) (fun _ _ _ h => h) (Or.inr ⟨by rfl, rfl⟩) hHeld ?_
    simp only [List.setIfInBounds_toArray, List.set_cons_zero, List.set_cons_succ]
    refine wpAnyH_takeAt (i := 15) (d := 19) (v := ?vq7x) rfl rfl (by kernel_rfl) (by kernel_rfl) (by kernel_rfl) (fun _ _ _ h => h) (Or.inl ⟨by rfl, ?hyq7x⟩) hHeld ?_
    case hyq7x =>
      intro W hSw
      clear hSw
      (go_simp; try with_reducible rfl)
    simp only [List.setIfInBounds_toArray, List.set_cons_zero, List.set_cons_succ]
    refine wpAnyH_takeAt (i := 16) (d := 3) (v := ?vq8x) rfl rfl (by kernel_rfl) (by kernel_rfl) (by kernel_rfl) (fun _ _ _ h => h) (Or.inl ⟨by rfl, ?hyq8x⟩) hHeld ?_
    case hyq8x =>
      intro W hSw
      clear hSw
      (go_simp; try with_reducible rfl)
    simp only [List.setIfInBounds_toArray, List.set_cons_zero, List.set_cons_succ]
    refine wpAnyH_done (by kernel_rfl) ?_ _
    have HB := Lib.hid hHeld
    clear hHeld
    go_wp2_with fail
    go_ret
    exact ⟨by rw [HF.out]; rfl, HB.out⟩
  | true =>
    refine wpAnyH_takeAt (i := 0) (d := 4) (v := ?vq9x) rfl rfl (by kernel_rfl) (by kernel_rfl) (by kernel_rfl) (fun _ _ _ h => h) (Or.inl ⟨by rfl, ?hyq9x⟩) hHeld ?_
    case hyq9x =>
      intro W hSw
      have hh := HC.out.below hSw; obtain ⟨q0, q1, q2, q3, q4⟩ := hh; have xHY := (hSw.cell (p := ⟨_, 0, none⟩) (block_lt_of_cell HY.out)).trans HY.out; clear hSw
      (go_simp; try with_reducible rfl)
    simp only [List.setIfInBounds_toArray, List.set_cons_zero, List.set_cons_succ]
    refine wpAnyH_takeAt (i := 1) (d := 5) (v := ?vq10x) rfl rfl (by kernel_rfl) (by kernel_rfl) (by kernel_rfl) (fun _ _ _ h => h) (Or.inl ⟨by rfl, ?hyq10x⟩) hHeld ?_
    case hyq10x =>
      intro W hSw
      clear hSw
      (go_simp; try with_reducible rfl)
    simp only [List.setIfInBounds_toArray, List.set_cons_zero, List.set_cons_succ]
    refine wpAnyH_takeAt (i := 2) (d := 6) (v := ?vq11x) rfl rfl (by kernel_rfl) (by kernel_rfl) (by kernel_rfl) (fun _ _ _ h => h) (Or.inl ⟨by rfl, ?hyq11x⟩) hHeld ?_
    case hyq11x =>
      intro W hSw
      clear hSw
      (go_simp; try with_reducible rfl)
    simp only [List.setIfInBounds_toArray, List.set_cons_zero, List.set_cons_succ]
    refine wpAnyH_takeAt (i := 3) (d := 7) (v := ?vq12x) rfl rfl (by kernel_rfl) (by kernel_rfl) (by kernel_rfl) (fun _ _ _ h => h) (Or.inl ⟨by rfl, ?hyq12x⟩) hHeld ?_
    case hyq12x =>
      intro W hSw
      have hh := HC.out.below hSw; obtain ⟨q0, q1, q2, q3, q4⟩ := hh; have xHY := (hSw.cell (p := ⟨_, 0, none⟩) (block_lt_of_cell HY.out)).trans HY.out; clear hSw
      (go_simp; try with_reducible rfl)
    simp only [List.setIfInBounds_toArray, List.set_cons_zero, List.set_cons_succ]
    refine wpAnyH_takeAt (i := 4) (d := 8) (v := ?vq13x) rfl rfl (by kernel_rfl) (by kernel_rfl) (by kernel_rfl) (fun _ _ _ h => h) (Or.inl ⟨by rfl, ?hyq13x⟩) hHeld ?_
    case hyq13x =>
      intro W hSw
      have hh := HC.out.below hSw; obtain ⟨q0, q1, q2, q3, q4⟩ := hh; have xHY := (hSw.cell (p := ⟨_, 0, none⟩) (block_lt_of_cell HY.out)).trans HY.out; clear hSw
      (go_simp; try with_reducible rfl)
    simp only [List.setIfInBounds_toArray, List.set_cons_zero, List.set_cons_succ]
    refine wpAnyH_ready (rs := [5]) (by kernel_rfl) (by simp) (AllReadyH.cons rfl (fun K hK => ?_) AllReadyH.nil)
    go_simp
    have hq := hasID_any V0 a b c x
    unfold frm at hq
    rw [HD1.out] at hq
    refine hq.mono ?_
    rintro r V1 ⟨rfl, hb1⟩
    dsimp only
    refine hK.out _ _ (hHeld.trans (hb1.mono hHeld.size)) (fun hHeld => ?_)
    clear hK K hq hb1
    try simp only [List.setIfInBounds_toArray, List.set_cons_zero, List.set_cons_succ]
    refine wpAnyH_takeAt (i := 6) (d := 10) (v := ?vq14x) rfl rfl (by kernel_rfl) (by kernel_rfl) (by kernel_rfl) (fun _ _ _ h => h) (Or.inl ⟨by rfl, ?hyq14x⟩) hHeld ?_
    case hyq14x =>
      intro W hSw
      clear hSw
      (go_simp; try with_reducible rfl)
    simp only [List.setIfInBounds_toArray, List.set_cons_zero, List.set_cons_succ]
    refine wpAnyH_takeAt (i := 7) (d := 11) (v := ?vq15x) rfl rfl (by kernel_rfl) (by kernel_rfl) (by kernel_rfl) (fun _ _ _ h => h) (Or.inl ⟨by rfl, ?hyq15x⟩) hHeld ?_
    case hyq15x =>
      intro W hSw
      clear hSw
      (go_simp; try with_reducible rfl)
    simp only [List.setIfInBounds_toArray, List.set_cons_zero, List.set_cons_succ]
    refine wpAnyH_takeAt (i := 8) (d := 12) (v := ?vq16x) rfl rfl (by kernel_rfl) (by kernel_rfl) (by kernel_rfl) (fun _ _ _ h => h) (Or.inl ⟨by rfl, ?hyq16x⟩) hHeld ?_
    case hyq16x =>
      intro W hSw
      have hh := HC.out.below hSw; obtain ⟨q0, q1, q2, q3, q4⟩ := hh; have xHY := (hSw.cell (p := ⟨_, 0, none⟩) (block_lt_of_cell HY.out)).trans HY.out; clear hSw
      (go_simp; try with_reducible rfl)
    simp only [List.setIfInBounds_toArray, List.set_cons_zero, List.set_cons_succ]
    refine wpAnyH_takeAt (i := 9) (d := 13) (v := ?vq17x) rfl rfl (by kernel_rfl) (by kernel_rfl) (by kernel_rfl) (fun _ _ _ h => h) (Or.inl ⟨by rfl, ?hyq17x⟩) hHeld ?_
    case hyq17x =>
      intro W hSw
      clear hSw
      (go_simp; try with_reducible rfl)
    simp only [List.setIfInBounds_toArray, List.set_cons_zero, List.set_cons_succ]
    refine wpAnyH_takeAt (i := 10) (d := 14) (v := ?vq18x) rfl rfl (by kernel_rfl) (by kernel_rfl) (by kernel_rfl) (fun _ _ _ h => h) (Or.inl ⟨by rfl, ?hyq18x⟩) hHeld ?_
    case hyq18x =>
      intro W hSw
      clear hSw
      (go_simp; try with_reducible rfl)
    simp only [List.setIfInBounds_toArray, List.set_cons_zero, List.set_cons_succ]
    refine wpAnyH_takeAt (i := 11) (d := 15) (v := ?vq19x) rfl rfl (by kernel_rfl) (by kernel_rfl) (by kernel_rfl) (fun _ _ _ h => h) (Or.inl ⟨by rfl, ?hyq19x⟩) hHeld ?_
    case hyq19x =>
      intro W hSw
      have hh := HC.out.below hSw; obtain ⟨q0, q1, q2, q3, q4⟩ := hh; have xHY := (hSw.cell (p := ⟨_, 0, none⟩) (block_lt_of_cell HY.out)).trans HY.out; clear hSw
      (go_simp; try with_reducible rfl)
    simp only [List.setIfInBounds_toArray, List.set_cons_zero, List.set_cons_succ]
    refine wpAnyH_takeAt (i := 12) (d := 16) (v := ?vq20x) rfl rfl (by kernel_rfl) (by kernel_rfl) (by kernel_rfl) (fun _ _ _ h => h) (Or.inl ⟨by rfl, ?hyq20x⟩) hHeld ?_
    case hyq20x =>
      intro W hSw
      have hh := HC.out.below hSw; obtain ⟨q0, q1, q2, q3, q4⟩ := hh; have xHY := (hSw.cell (p := ⟨_, 0, none⟩) (block_lt_of_cell HY.out)).trans HY.out; clear hSw
      (go_simp; try with_reducible rfl)
    simp only [List.setIfInBounds_toArray, List.set_cons_zero, List.set_cons_succ]
    refine wpAnyH_ready (rs := [13]) (by kernel_rfl) (by simp) (AllReadyH.cons rfl (fun K hK => ?_) AllReadyH.nil)
    go_simp
    have hq := hasPart_any V1 a b c y
    unfold frm at hq
    rw [HD2.out] at hq
    refine hq.mono ?_
    rintro r V1b ⟨rfl, hb1⟩
    dsimp only
    refine hK.out _ _ (hHeld.trans (hb1.mono hHeld.size)) (fun hHeld => ?_)
    clear hK K hq hb1
    try simp only [List.setIfInBounds_toArray, List.set_cons_zero, List.set_cons_succ]
    refine wpAnyH_takeAt (i := 14) (d := 18) (v := ?vq21x) rfl rfl (by kernel_rfl) (by kernel_rfl) (by kernel_rfl) (fun _ _ _ h => h) (Or.inl ⟨by rfl, ?hyq21x⟩) hHeld ?_
    case hyq21x =>
      intro W hSw
      clear hSw
      (go_simp; try with_reducible rfl)
    simp only [List.setIfInBounds_toArray, List.set_cons_zero, List.set_cons_succ]
    refine wpAnyH_takeAt (i := 15) (d := 19) (v := ?vq22x) rfl rfl (by kernel_rfl) (by kernel_rfl) (by kernel_rfl) (fun _ _ _ h => h) (Or.inl ⟨by rfl, ?hyq22x⟩) hHeld ?_
    case hyq22x =>
      intro W hSw
      clear hSw
      (go_simp; try with_reducible rfl)
    simp only [List.setIfInBounds_toArray, List.set_cons_zero, List.set_cons_succ]
    refine wpAnyH_takeAt (i := 16) (d := 3) (v := ?vq23x) rfl rfl (by kernel_rfl) (by kernel_rfl) (by kernel_rfl) (fun _ _ _ h => h) (Or.inl ⟨by rfl, ?hyq23x⟩) hHeld ?_
    case hyq23x =>
      intro W hSw
      clear hSw
      (go_simp; try with_reducible rfl)
    simp only [List.setIfInBounds_toArray, List.set_cons_zero, List.set_cons_succ]
    refine wpAnyH_done (by kernel_rfl) ?_ _
    have HB := Lib.hid hHeld
    clear hHeld
    go_wp2_with fail
    go_ret
    exact ⟨by rw [HF.out]; rfl, HB.out⟩
set_option maxRecDepth 100000 in
set_option maxHeartbeats 2000000 in
theorem arg79_any (h : Cap w bm bi g a b c x) (hy : w.cell? ⟨be, 0, none⟩ = some (.int .i64 y)) : Calls Tryz.prog 79 #[.pointer (some ⟨bm, 0, none⟩), .pointer (some ⟨bi, 0, none⟩), .pointer (some ⟨be, 0, none⟩)] w fun r w' => r = .returned (.bool (!decide ((0 ≤ x ∧ x < b) ∧ 0 ≤ y ∧ y < a))) ∧ Below w.heap.size w w' := by
  have HC := Lib.hid h
  have HY := Lib.hid hy
  clear h hy
  obtain ⟨d1, hd1⟩ : ∃ d, decide (0 ≤ x ∧ x < b) = d := ⟨_, rfl⟩
  obtain ⟨d2, hd2⟩ : ∃ d, decide (0 ≤ y ∧ y < a) = d := ⟨_, rfl⟩
  have HF : Hid (decide ((0 ≤ x ∧ x < b) ∧ 0 ≤ y ∧ y < a) = (d1 && d2)) := Lib.hid (by rw [← hd1, ← hd2]; exact Bool.decide_and _ _)
  have HD1 := Lib.hid hd1
  have HD2 := Lib.hid hd2
  clear hd1 hd2
  go_enter Tryz.func79, Tryz.ntmps79
  go_upto_region 1 with fail
  refine wp_region_np ?_
  refine wp_region_held_drew (S := fun W => Below w.heap.size w W) (by kernel_rfl) (show Below w.heap.size w w.drew from (Below.refl _ _).drew) (fun hHeld => ?_)
  generalize hv0 : w.drew = V0 at *
  clear hv0
  cases d1 with
  | false =>
    refine wpAnyH_takeAt (i := 0) (d := 4) (v := ?vq24x) rfl rfl (by kernel_rfl) (by kernel_rfl) (by kernel_rfl) (fun _ _ _ h => h) (Or.inl ⟨by rfl, ?hyq24x⟩) hHeld ?_
    case hyq24x =>
      intro W hSw
      have hh := HC.out.below hSw; obtain ⟨q0, q1, q2, q3, q4⟩ := hh; have xHY := (hSw.cell (p := ⟨_, 0, none⟩) (block_lt_of_cell HY.out)).trans HY.out; clear hSw
      (go_simp; try with_reducible rfl)
    simp only [List.setIfInBounds_toArray, List.set_cons_zero, List.set_cons_succ]
    refine wpAnyH_takeAt (i := 1) (d := 5) (v := ?vq25x) rfl rfl (by kernel_rfl) (by kernel_rfl) (by kernel_rfl) (fun _ _ _ h => h) (Or.inl ⟨by rfl, ?hyq25x⟩) hHeld ?_
    case hyq25x =>
      intro W hSw
      clear hSw
      (go_simp; try with_reducible rfl)
    simp only [List.setIfInBounds_toArray, List.set_cons_zero, List.set_cons_succ]
    refine wpAnyH_takeAt (i := 2) (d := 6) (v := ?vq26x) rfl rfl (by kernel_rfl) (by kernel_rfl) (by kernel_rfl) (fun _ _ _ h => h) (Or.inl ⟨by rfl, ?hyq26x⟩) hHeld ?_
    case hyq26x =>
      intro W hSw
      clear hSw
      (go_simp; try with_reducible rfl)
    simp only [List.setIfInBounds_toArray, List.set_cons_zero, List.set_cons_succ]
    refine wpAnyH_takeAt (i := 3) (d := 7) (v := ?vq27x) rfl rfl (by kernel_rfl) (by kernel_rfl) (by kernel_rfl) (fun _ _ _ h => h) (Or.inl ⟨by rfl, ?hyq27x⟩) hHeld ?_
    case hyq27x =>
      intro W hSw
      have hh := HC.out.below hSw; obtain ⟨q0, q1, q2, q3, q4⟩ := hh; have xHY := (hSw.cell (p := ⟨_, 0, none⟩) (block_lt_of_cell HY.out)).trans HY.out; clear hSw
      (go_simp; try with_reducible rfl)
    simp only [List.setIfInBounds_toArray, List.set_cons_zero, List.set_cons_succ]
    refine wpAnyH_takeAt (i := 4) (d := 8) (v := ?vq28x) rfl rfl (by kernel_rfl) (by kernel_rfl) (by kernel_rfl) (fun _ _ _ h => h) (Or.inl ⟨by rfl, ?hyq28x⟩) hHeld ?_
    case hyq28x =>
      intro W hSw
      have hh := HC.out.below hSw; obtain ⟨q0, q1, q2, q3, q4⟩ := hh; have xHY := (hSw.cell (p := ⟨_, 0, none⟩) (block_lt_of_cell HY.out)).trans HY.out; clear hSw
      (go_simp; try with_reducible rfl)
    simp only [List.setIfInBounds_toArray, List.set_cons_zero, List.set_cons_succ]
    refine wpAnyH_ready (rs := [5]) (by kernel_rfl) (by simp) (AllReadyH.cons rfl (fun K hK => ?_) AllReadyH.nil)
    go_simp
    have hq := hasPart_any V0 a b c x
    unfold frm at hq
    rw [HD1.out] at hq
    refine hq.mono ?_
    rintro r V1 ⟨rfl, hb1⟩
    dsimp only
    refine hK.out _ _ (hHeld.trans (hb1.mono hHeld.size)) (fun hHeld => ?_)
    clear hK K hq hb1
    try simp only [List.setIfInBounds_toArray, List.set_cons_zero, List.set_cons_succ]
    refine wpAnyH_takeAt (i := 6) (d := 10) (v := ?vq29x) rfl rfl (by kernel_rfl) (by kernel_rfl) (by kernel_rfl) (fun _ _ _ h => h) (Or.inl ⟨by rfl, ?hyq29x⟩) hHeld ?_
    case hyq29x =>
      intro W hSw
      clear hSw
      (go_simp; try with_reducible rfl)
    simp only [List.setIfInBounds_toArray, List.set_cons_zero, List.set_cons_succ]
    refine wpAnyH_takeAt (i := 7) (d := 11) (v := ?vq30x) rfl rfl (by kernel_rfl) (by kernel_rfl) (by kernel_rfl) (fun _ _ _ h => h) (Or.inl ⟨by rfl, ?hyq30x⟩) hHeld ?_
    case hyq30x =>
      intro W hSw
      clear hSw
      (go_simp; try with_reducible rfl)
    simp only [List.setIfInBounds_toArray, List.set_cons_zero, List.set_cons_succ]
    refine wpAnyH_takeAt (i := 8) (d := 12) (v := undef) rfl rfl (by kernel_rfl) (by kernel_rfl) (by kernel_rfl) (fun _ _ _ h => h) (Or.inr ⟨by rfl, rfl⟩) hHeld ?_
    simp only [List.setIfInBounds_toArray, List.set_cons_zero, List.set_cons_succ]
    refine wpAnyH_takeAt (i := 9) (d := 13) (v := undef) rfl rfl (by kernel_rfl) (by kernel_rfl) (by kernel_rfl) (fun _ _ _ h => h) (Or.inr ⟨by rfl, rfl⟩) hHeld ?_
    simp only [List.setIfInBounds_toArray, List.set_cons_zero, List.set_cons_succ]
    refine wpAnyH_takeAt (i := 10) (d := 14) (v := undef) rfl rfl (by kernel_rfl) (by kernel_rfl) (by kernel_rfl) (fun _ _ _ h => h) (Or.inr ⟨by rfl, rfl⟩) hHeld ?_
    simp only [List.setIfInBounds_toArray, List.set_cons_zero, List.set_cons_succ]
    refine wpAnyH_takeAt (i := 11) (d := 15) (v := undef) rfl rfl (by kernel_rfl) (by kernel_rfl) (by kernel_rfl) (fun _ _ _ h => h) (Or.inr ⟨by rfl, rfl⟩) hHeld ?_
    simp only [List.setIfInBounds_toArray, List.set_cons_zero, List.set_cons_succ]
    refine wpAnyH_takeAt (i := 12) (d := 16) (v := undef) rfl rfl (by kernel_rfl) (by kernel_rfl) (by kernel_rfl) (fun _ _ _ h => h) (Or.inr ⟨by rfl, rfl⟩) hHeld ?_
    simp only [List.setIfInBounds_toArray, List.set_cons_zero, List.set_cons_succ]
    refine wpAnyH_takeAt (i := 13) (d := 17) (v := undef) rfl rfl (by kernel_rfl) (by kernel_rfl) (by kernel_rfl) (fun _ _ _ h => h) (Or.inr ⟨by rfl, rfl⟩) hHeld ?_
    simp only [List.setIfInBounds_toArray, List.set_cons_zero, List.set_cons_succ]
    refine wpAnyH_takeAt (i := 14) (d := 18) (v := undef) rfl rfl (by kernel_rfl) (by kernel_rfl) (by kernel_rfl) (fun _ _ _ h => h) (Or.inr ⟨by rfl, rfl⟩) hHeld ?_
    simp only [List.setIfInBounds_toArray, List.set_cons_zero, List.set_cons_succ]
    refine wpAnyH_takeAt (i := 15) (d := 19) (v := ?vq31x) rfl rfl (by kernel_rfl) (by kernel_rfl) (by kernel_rfl) (fun _ _ _ h => h) (Or.inl ⟨by rfl, ?hyq31x⟩) hHeld ?_
    case hyq31x =>
      intro W hSw
      clear hSw
      (go_simp; try with_reducible rfl)
    simp only [List.setIfInBounds_toArray, List.set_cons_zero, List.set_cons_succ]
    refine wpAnyH_takeAt (i := 16) (d := 3) (v := ?vq32x) rfl rfl (by kernel_rfl) (by kernel_rfl) (by kernel_rfl) (fun _ _ _ h => h) (Or.inl ⟨by rfl, ?hyq32x⟩) hHeld ?_
    case hyq32x =>
      intro W hSw
      clear hSw
      (go_simp; try with_reducible rfl)
    simp only [List.setIfInBounds_toArray, List.set_cons_zero, List.set_cons_succ]
    refine wpAnyH_done (by kernel_rfl) ?_ _
    have HB := Lib.hid hHeld
    clear hHeld
    go_wp2_with fail
    go_ret
    exact ⟨by rw [HF.out]; rfl, HB.out⟩
  | true =>
    refine wpAnyH_takeAt (i := 0) (d := 4) (v := ?vq33x) rfl rfl (by kernel_rfl) (by kernel_rfl) (by kernel_rfl) (fun _ _ _ h => h) (Or.inl ⟨by rfl, ?hyq33x⟩) hHeld ?_
    case hyq33x =>
      intro W hSw
      have hh := HC.out.below hSw; obtain ⟨q0, q1, q2, q3, q4⟩ := hh; have xHY := (hSw.cell (p := ⟨_, 0, none⟩) (block_lt_of_cell HY.out)).trans HY.out; clear hSw
      (go_simp; try with_reducible rfl)
    simp only [List.setIfInBounds_toArray, List.set_cons_zero, List.set_cons_succ]
    refine wpAnyH_takeAt (i := 1) (d := 5) (v := ?vq34x) rfl rfl (by kernel_rfl) (by kernel_rfl) (by kernel_rfl) (fun _ _ _ h => h) (Or.inl ⟨by rfl, ?hyq34x⟩) hHeld ?_
    case hyq34x =>
      intro W hSw
      clear hSw
      (go_simp; try with_reducible rfl)
    simp only [List.setIfInBounds_toArray, List.set_cons_zero, List.set_cons_succ]
    refine wpAnyH_takeAt (i := 2) (d := 6) (v := ?vq35x) rfl rfl (by kernel_rfl) (by kernel_rfl) (by kernel_rfl) (fun _ _ _ h => h) (Or.inl ⟨by rfl, ?hyq35x⟩) hHeld ?_
    case hyq35x =>
      intro W hSw
      clear hSw
      (go_simp; try with_reducible rfl)
    simp only [List.setIfInBounds_toArray, List.set_cons_zero, List.set_cons_succ]
    refine wpAnyH_takeAt (i := 3) (d := 7) (v := ?vq36x) rfl rfl (by kernel_rfl) (by kernel_rfl) (by kernel_rfl) (fun _ _ _ h => h) (Or.inl ⟨by rfl, ?hyq36x⟩) hHeld ?_
    case hyq36x =>
      intro W hSw
      have hh := HC.out.below hSw; obtain ⟨q0, q1, q2, q3, q4⟩ := hh; have xHY := (hSw.cell (p := ⟨_, 0, none⟩) (block_lt_of_cell HY.out)).trans HY.out; clear hSw
      (go_simp; try with_reducible rfl)
    simp only [List.setIfInBounds_toArray, List.set_cons_zero, List.set_cons_succ]
    refine wpAnyH_takeAt (i := 4) (d := 8) (v := ?vq37x) rfl rfl (by kernel_rfl) (by kernel_rfl) (by kernel_rfl) (fun _ _ _ h => h) (Or.inl ⟨by rfl, ?hyq37x⟩) hHeld ?_
    case hyq37x =>
      intro W hSw
      have hh := HC.out.below hSw; obtain ⟨q0, q1, q2, q3, q4⟩ := hh; have xHY := (hSw.cell (p := ⟨_, 0, none⟩) (block_lt_of_cell HY.out)).trans HY.out; clear hSw
      (go_simp; try with_reducible rfl)
    simp only [List.setIfInBounds_toArray, List.set_cons_zero, List.set_cons_succ]
    refine wpAnyH_ready (rs := [5]) (by kernel_rfl) (by simp) (AllReadyH.cons rfl (fun K hK => ?_) AllReadyH.nil)
    go_simp
    have hq := hasPart_any V0 a b c x
    unfold frm at hq
    rw [HD1.out] at hq
    refine hq.mono ?_
    rintro r V1 ⟨rfl, hb1⟩
    dsimp only
    refine hK.out _ _ (hHeld.trans (hb1.mono hHeld.size)) (fun hHeld => ?_)
    clear hK K hq hb1
    try simp only [List.setIfInBounds_toArray, List.set_cons_zero, List.set_cons_succ]
    refine wpAnyH_takeAt (i := 6) (d := 10) (v := ?vq38x) rfl rfl (by kernel_rfl) (by kernel_rfl) (by kernel_rfl) (fun _ _ _ h => h) (Or.inl ⟨by rfl, ?hyq38x⟩) hHeld ?_
    case hyq38x =>
      intro W hSw
      clear hSw
      (go_simp; try with_reducible rfl)
    simp only [List.setIfInBounds_toArray, List.set_cons_zero, List.set_cons_succ]
    refine wpAnyH_takeAt (i := 7) (d := 11) (v := ?vq39x) rfl rfl (by kernel_rfl) (by kernel_rfl) (by kernel_rfl) (fun _ _ _ h => h) (Or.inl ⟨by rfl, ?hyq39x⟩) hHeld ?_
    case hyq39x =>
      intro W hSw
      clear hSw
      (go_simp; try with_reducible rfl)
    simp only [List.setIfInBounds_toArray, List.set_cons_zero, List.set_cons_succ]
    refine wpAnyH_takeAt (i := 8) (d := 12) (v := ?vq40x) rfl rfl (by kernel_rfl) (by kernel_rfl) (by kernel_rfl) (fun _ _ _ h => h) (Or.inl ⟨by rfl, ?hyq40x⟩) hHeld ?_
    case hyq40x =>
      intro W hSw
      have hh := HC.out.below hSw; obtain ⟨q0, q1, q2, q3, q4⟩ := hh; have xHY := (hSw.cell (p := ⟨_, 0, none⟩) (block_lt_of_cell HY.out)).trans HY.out; clear hSw
      (go_simp; try with_reducible rfl)
    simp only [List.setIfInBounds_toArray, List.set_cons_zero, List.set_cons_succ]
    refine wpAnyH_takeAt (i := 9) (d := 13) (v := ?vq41x) rfl rfl (by kernel_rfl) (by kernel_rfl) (by kernel_rfl) (fun _ _ _ h => h) (Or.inl ⟨by rfl, ?hyq41x⟩) hHeld ?_
    case hyq41x =>
      intro W hSw
      clear hSw
      (go_simp; try with_reducible rfl)
    simp only [List.setIfInBounds_toArray, List.set_cons_zero, List.set_cons_succ]
    refine wpAnyH_takeAt (i := 10) (d := 14) (v := ?vq42x) rfl rfl (by kernel_rfl) (by kernel_rfl) (by kernel_rfl) (fun _ _ _ h => h) (Or.inl ⟨by rfl, ?hyq42x⟩) hHeld ?_
    case hyq42x =>
      intro W hSw
      clear hSw
      (go_simp; try with_reducible rfl)
    simp only [List.setIfInBounds_toArray, List.set_cons_zero, List.set_cons_succ]
    refine wpAnyH_takeAt (i := 11) (d := 15) (v := ?vq43x) rfl rfl (by kernel_rfl) (by kernel_rfl) (by kernel_rfl) (fun _ _ _ h => h) (Or.inl ⟨by rfl, ?hyq43x⟩) hHeld ?_
    case hyq43x =>
      intro W hSw
      have hh := HC.out.below hSw; obtain ⟨q0, q1, q2, q3, q4⟩ := hh; have xHY := (hSw.cell (p := ⟨_, 0, none⟩) (block_lt_of_cell HY.out)).trans HY.out; clear hSw
      (go_simp; try with_reducible rfl)
    simp only [List.setIfInBounds_toArray, List.set_cons_zero, List.set_cons_succ]
    refine wpAnyH_takeAt (i := 12) (d := 16) (v := ?vq44x) rfl rfl (by kernel_rfl) (by kernel_rfl) (by kernel_rfl) (fun _ _ _ h => h) (Or.inl ⟨by rfl, ?hyq44x⟩) hHeld ?_
    case hyq44x =>
      intro W hSw
      have hh := HC.out.below hSw; obtain ⟨q0, q1, q2, q3, q4⟩ := hh; have xHY := (hSw.cell (p := ⟨_, 0, none⟩) (block_lt_of_cell HY.out)).trans HY.out; clear hSw
      (go_simp; try with_reducible rfl)
    simp only [List.setIfInBounds_toArray, List.set_cons_zero, List.set_cons_succ]
    refine wpAnyH_ready (rs := [13]) (by kernel_rfl) (by simp) (AllReadyH.cons rfl (fun K hK => ?_) AllReadyH.nil)
    go_simp
    have hq := hasBroker_any V1 a b c y
    unfold frm at hq
    rw [HD2.out] at hq
    refine hq.mono ?_
    rintro r V1b ⟨rfl, hb1⟩
    dsimp only
    refine hK.out _ _ (hHeld.trans (hb1.mono hHeld.size)) (fun hHeld => ?_)
    clear hK K hq hb1
    try simp only [List.setIfInBounds_toArray, List.set_cons_zero, List.set_cons_succ]
    refine wpAnyH_takeAt (i := 14) (d := 18) (v := ?vq45x) rfl rfl (by kernel_rfl) (by kernel_rfl) (by kernel_rfl) (fun _ _ _ h => h) (Or.inl ⟨by rfl, ?hyq45x⟩) hHeld ?_
    case hyq45x =>
      intro W hSw
      clear hSw
      (go_simp; try with_reducible rfl)
    simp only [List.setIfInBounds_toArray, List.set_cons_zero, List.set_cons_succ]
    refine wpAnyH_takeAt (i := 15) (d := 19) (v := ?vq46x) rfl rfl (by kernel_rfl) (by kernel_rfl) (by kernel_rfl) (fun _ _ _ h => h) (Or.inl ⟨by rfl, ?hyq46x⟩) hHeld ?_
    case hyq46x =>
      intro W hSw
      clear hSw
      (go_simp; try with_reducible rfl)
    simp only [List.setIfInBounds_toArray, List.set_cons_zero, List.set_cons_succ]
    refine wpAnyH_takeAt (i := 16) (d := 3) (v := ?vq47x) rfl rfl (by kernel_rfl) (by kernel_rfl) (by kernel_rfl) (fun _ _ _ h => h) (Or.inl ⟨by rfl, ?hyq47x⟩) hHeld ?_
    case hyq47x =>
      intro W hSw
      clear hSw
      (go_simp; try with_reducible rfl)
    simp only [List.setIfInBounds_toArray, List.set_cons_zero, List.set_cons_succ]
    refine wpAnyH_done (by kernel_rfl) ?_ _
    have HB := Lib.hid hHeld
    clear hHeld
    go_wp2_with fail
    go_ret
    exact ⟨by rw [HF.out]; rfl, HB.out⟩
set_option maxRecDepth 100000 in
set_option maxHeartbeats 2000000 in
theorem arg96_any (h : Cap w bm bi g a b c x) (hy : w.cell? ⟨be, 0, none⟩ = some (.int .i64 y)) : Calls Tryz.prog 96 #[.pointer (some ⟨bm, 0, none⟩), .pointer (some ⟨bi, 0, none⟩), .pointer (some ⟨be, 0, none⟩)] w fun r w' => r = .returned (.bool (!decide ((0 ≤ x ∧ x < c) ∧ 0 ≤ y ∧ y < b))) ∧ Below w.heap.size w w' := by
  have HC := Lib.hid h
  have HY := Lib.hid hy
  clear h hy
  obtain ⟨d1, hd1⟩ : ∃ d, decide (0 ≤ x ∧ x < c) = d := ⟨_, rfl⟩
  obtain ⟨d2, hd2⟩ : ∃ d, decide (0 ≤ y ∧ y < b) = d := ⟨_, rfl⟩
  have HF : Hid (decide ((0 ≤ x ∧ x < c) ∧ 0 ≤ y ∧ y < b) = (d1 && d2)) := Lib.hid (by rw [← hd1, ← hd2]; exact Bool.decide_and _ _)
  have HD1 := Lib.hid hd1
  have HD2 := Lib.hid hd2
  clear hd1 hd2
  go_enter Tryz.func96, Tryz.ntmps96
  go_upto_region 1 with fail
  refine wp_region_np ?_
  refine wp_region_held_drew (S := fun W => Below w.heap.size w W) (by kernel_rfl) (show Below w.heap.size w w.drew from (Below.refl _ _).drew) (fun hHeld => ?_)
  generalize hv0 : w.drew = V0 at *
  clear hv0
  cases d1 with
  | false =>
    refine wpAnyH_takeAt (i := 0) (d := 4) (v := ?vq48x) rfl rfl (by kernel_rfl) (by kernel_rfl) (by kernel_rfl) (fun _ _ _ h => h) (Or.inl ⟨by rfl, ?hyq48x⟩) hHeld ?_
    case hyq48x =>
      intro W hSw
      have hh := HC.out.below hSw; obtain ⟨q0, q1, q2, q3, q4⟩ := hh; have xHY := (hSw.cell (p := ⟨_, 0, none⟩) (block_lt_of_cell HY.out)).trans HY.out; clear hSw
      (go_simp; try with_reducible rfl)
    simp only [List.setIfInBounds_toArray, List.set_cons_zero, List.set_cons_succ]
    refine wpAnyH_takeAt (i := 1) (d := 5) (v := ?vq49x) rfl rfl (by kernel_rfl) (by kernel_rfl) (by kernel_rfl) (fun _ _ _ h => h) (Or.inl ⟨by rfl, ?hyq49x⟩) hHeld ?_
    case hyq49x =>
      intro W hSw
      clear hSw
      (go_simp; try with_reducible rfl)
    simp only [List.setIfInBounds_toArray, List.set_cons_zero, List.set_cons_succ]
    refine wpAnyH_takeAt (i := 2) (d := 6) (v := ?vq50x) rfl rfl (by kernel_rfl) (by kernel_rfl) (by kernel_rfl) (fun _ _ _ h => h) (Or.inl ⟨by rfl, ?hyq50x⟩) hHeld ?_
    case hyq50x =>
      intro W hSw
      clear hSw
      (go_simp; try with_reducible rfl)
    simp only [List.setIfInBounds_toArray, List.set_cons_zero, List.set_cons_succ]
    refine wpAnyH_takeAt (i := 3) (d := 7) (v := ?vq51x) rfl rfl (by kernel_rfl) (by kernel_rfl) (by kernel_rfl) (fun _ _ _ h => h) (Or.inl ⟨by rfl, ?hyq51x⟩) hHeld ?_
    case hyq51x =>
      intro W hSw
      have hh := HC.out.below hSw; obtain ⟨q0, q1, q2, q3, q4⟩ := hh; have xHY := (hSw.cell (p := ⟨_, 0, none⟩) (block_lt_of_cell HY.out)).trans HY.out; clear hSw
      (go_simp; try with_reducible rfl)
    simp only [List.setIfInBounds_toArray, List.set_cons_zero, List.set_cons_succ]
    refine wpAnyH_takeAt (i := 4) (d := 8) (v := ?vq52x) rfl rfl (by kernel_rfl) (by kernel_rfl) (by kernel_rfl) (fun _ _ _ h => h) (Or.inl ⟨by rfl, ?hyq52x⟩) hHeld ?_
    case hyq52x =>
      intro W hSw
      have hh := HC.out.below hSw; obtain ⟨q0, q1, q2, q3, q4⟩ := hh; have xHY := (hSw.cell (p := ⟨_, 0, none⟩) (block_lt_of_cell HY.out)).trans HY.out; clear hSw
      (go_simp; try with_reducible rfl)
    simp only [List.setIfInBounds_toArray, List.set_cons_zero, List.set_cons_succ]
    refine wpAnyH_ready (rs := [5]) (by kernel_rfl) (by simp) (AllReadyH.cons rfl (fun K hK => ?_) AllReadyH.nil)
    go_simp
    have hq := hasID_any V0 a b c x
    unfold frm at hq
    rw [HD1.out] at hq
    refine hq.mono ?_
    rintro r V1 ⟨rfl, hb1⟩
    dsimp only
    refine hK.out _ _ (hHeld.trans (hb1.mono hHeld.size)) (fun hHeld => ?_)
    clear hK K hq hb1
    try simp only [List.setIfInBounds_toArray, List.set_cons_zero, List.set_cons_succ]
    refine wpAnyH_takeAt (i := 6) (d := 10) (v := ?vq53x) rfl rfl (by kernel_rfl) (by kernel_rfl) (by kernel_rfl) (fun _ _ _ h => h) (Or.inl ⟨by rfl, ?hyq53x⟩) hHeld ?_
    case hyq53x =>
      intro W hSw
      clear hSw
      (go_simp; try with_reducible rfl)
    simp only [List.setIfInBounds_toArray, List.set_cons_zero, List.set_cons_succ]
    refine wpAnyH_takeAt (i := 7) (d := 11) (v := ?vq54x) rfl rfl (by kernel_rfl) (by kernel_rfl) (by kernel_rfl) (fun _ _ _ h => h) (Or.inl ⟨by rfl, ?hyq54x⟩) hHeld ?_
    case hyq54x =>
      intro W hSw
      clear hSw
      (go_simp; try with_reducible rfl)
    simp only [List.setIfInBounds_toArray, List.set_cons_zero, List.set_cons_succ]
    refine wpAnyH_takeAt (i := 8) (d := 12) (v := undef) rfl rfl (by kernel_rfl) (by kernel_rfl) (by kernel_rfl) (fun _ _ _ h => h) (Or.inr ⟨by rfl, rfl⟩) hHeld ?_
    simp only [List.setIfInBounds_toArray, List.set_cons_zero, List.set_cons_succ]
    refine wpAnyH_takeAt (i := 9) (d := 13) (v := undef) rfl rfl (by kernel_rfl) (by kernel_rfl) (by kernel_rfl) (fun _ _ _ h => h) (Or.inr ⟨by rfl, rfl⟩) hHeld ?_
    simp only [List.setIfInBounds_toArray, List.set_cons_zero, List.set_cons_succ]
    refine wpAnyH_takeAt (i := 10) (d := 14) (v := undef) rfl rfl (by kernel_rfl) (by kernel_rfl) (by kernel_rfl) (fun _ _ _ h => h) (Or.inr ⟨by rfl, rfl⟩) hHeld ?_
    simp only [List.setIfInBounds_toArray, List.set_cons_zero, List.set_cons_succ]
    refine wpAnyH_takeAt (i := 11) (d := 15) (v := undef) rfl rfl (by kernel_rfl) (by kernel_rfl) (by kernel_rfl) (fun _ _ _ h => h) (Or.inr ⟨by rfl, rfl⟩) hHeld ?_
    simp only [List.setIfInBounds_toArray, List.set_cons_zero, List.set_cons_succ]
    refine wpAnyH_takeAt (i := 12) (d := 16) (v := undef) rfl rfl (by kernel_rfl) (by kernel_rfl) (by kernel_rfl) (fun _ _ _ h => h) (Or.inr ⟨by rfl, rfl⟩) hHeld ?_
    simp only [List.setIfInBounds_toArray, List.set_cons_zero, List.set_cons_succ]
    refine wpAnyH_takeAt (i := 13) (d := 17) (v := undef) rfl rfl (by kernel_rfl) (by kernel_rfl) (by kernel_rfl) (fun _ _ _ h => h) (Or.inr ⟨by rfl, rfl⟩) hHeld ?_
    simp only [List.setIfInBounds_toArray, List.set_cons_zero, List.set_cons_succ]
    refine wpAnyH_takeAt (i := 14) (d := 18) (v := undef) rfl rfl (by kernel_rfl) (by kernel_rfl) (by kernel_rfl) (fun _ _ _ h => h) (Or.inr ⟨by rfl, rfl⟩) hHeld ?_
    simp only [List.setIfInBounds_toArray, List.set_cons_zero, List.set_cons_succ]
    refine wpAnyH_takeAt (i := 15) (d := 19) (v := ?vq55x) rfl rfl (by kernel_rfl) (by kernel_rfl) (by kernel_rfl) (fun _ _ _ h => h) (Or.inl ⟨by rfl, ?hyq55x⟩) hHeld ?_
    case hyq55x =>
      intro W hSw
      clear hSw
      (go_simp; try with_reducible rfl)
    simp only [List.setIfInBounds_toArray, List.set_cons_zero, List.set_cons_succ]
    refine wpAnyH_takeAt (i := 16) (d := 3) (v := ?vq56x) rfl rfl (by kernel_rfl) (by kernel_rfl) (by kernel_rfl) (fun _ _ _ h => h) (Or.inl ⟨by rfl, ?hyq56x⟩) hHeld ?_
    case hyq56x =>
      intro W hSw
      clear hSw
      (go_simp; try with_reducible rfl)
    simp only [List.setIfInBounds_toArray, List.set_cons_zero, List.set_cons_succ]
    refine wpAnyH_done (by kernel_rfl) ?_ _
    have HB := Lib.hid hHeld
    clear hHeld
    go_wp2_with fail
    go_ret
    exact ⟨by rw [HF.out]; rfl, HB.out⟩
  | true =>
    refine wpAnyH_takeAt (i := 0) (d := 4) (v := ?vq57x) rfl rfl (by kernel_rfl) (by kernel_rfl) (by kernel_rfl) (fun _ _ _ h => h) (Or.inl ⟨by rfl, ?hyq57x⟩) hHeld ?_
    case hyq57x =>
      intro W hSw
      have hh := HC.out.below hSw; obtain ⟨q0, q1, q2, q3, q4⟩ := hh; have xHY := (hSw.cell (p := ⟨_, 0, none⟩) (block_lt_of_cell HY.out)).trans HY.out; clear hSw
      (go_simp; try with_reducible rfl)
    simp only [List.setIfInBounds_toArray, List.set_cons_zero, List.set_cons_succ]
    refine wpAnyH_takeAt (i := 1) (d := 5) (v := ?vq58x) rfl rfl (by kernel_rfl) (by kernel_rfl) (by kernel_rfl) (fun _ _ _ h => h) (Or.inl ⟨by rfl, ?hyq58x⟩) hHeld ?_
    case hyq58x =>
      intro W hSw
      clear hSw
      (go_simp; try with_reducible rfl)
    simp only [List.setIfInBounds_toArray, List.set_cons_zero, List.set_cons_succ]
    refine wpAnyH_takeAt (i := 2) (d := 6) (v := ?vq59x) rfl rfl (by kernel_rfl) (by kernel_rfl) (by kernel_rfl) (fun _ _ _ h => h) (Or.inl ⟨by rfl, ?hyq59x⟩) hHeld ?_
    case hyq59x =>
      intro W hSw
      clear hSw
      (go_simp; try with_reducible rfl)
    simp only [List.setIfInBounds_toArray, List.set_cons_zero, List.set_cons_succ]
    refine wpAnyH_takeAt (i := 3) (d := 7) (v := ?vq60x) rfl rfl (by kernel_rfl) (by kernel_rfl) (by kernel_rfl) (fun _ _ _ h => h) (Or.inl ⟨by rfl, ?hyq60x⟩) hHeld ?_
    case hyq60x =>
      intro W hSw
      have hh := HC.out.below hSw; obtain ⟨q0, q1, q2, q3, q4⟩ := hh; have xHY := (hSw.cell (p := ⟨_, 0, none⟩) (block_lt_of_cell HY.out)).trans HY.out; clear hSw
      (go_simp; try with_reducible rfl)
    simp only [List.setIfInBounds_toArray, List.set_cons_zero, List.set_cons_succ]
    refine wpAnyH_takeAt (i := 4) (d := 8) (v := ?vq61x) rfl rfl (by kernel_rfl) (by kernel_rfl) (by kernel_rfl) (fun _ _ _ h => h) (Or.inl ⟨by rfl, ?hyq61x⟩) hHeld ?_
    case hyq61x =>
      intro W hSw
      have hh := HC.out.below hSw; obtain ⟨q0, q1, q2, q3, q4⟩ := hh; have xHY := (hSw.cell (p := ⟨_, 0, none⟩) (block_lt_of_cell HY.out)).trans HY.out; clear hSw
      (go_simp; try with_reducible rfl)
    simp only [List.setIfInBounds_toArray, List.set_cons_zero, List.set_cons_succ]
    refine wpAnyH_ready (rs := [5]) (by kernel_rfl) (by simp) (AllReadyH.cons rfl (fun K hK => ?_) AllReadyH.nil)
    go_simp
    have hq := hasID_any V0 a b c x
    unfold frm at hq
    rw [HD1.out] at hq
    refine hq.mono ?_
    rintro r V1 ⟨rfl, hb1⟩
    dsimp only
    refine hK.out _ _ (hHeld.trans (hb1.mono hHeld.size)) (fun hHeld => ?_)
    clear hK K hq hb1
    try simp only [List.setIfInBounds_toArray, List.set_cons_zero, List.set_cons_succ]
    refine wpAnyH_takeAt (i := 6) (d := 10) (v := ?vq62x) rfl rfl (by kernel_rfl) (by kernel_rfl) (by kernel_rfl) (fun _ _ _ h => h) (Or.inl ⟨by rfl, ?hyq62x⟩) hHeld ?_
    case hyq62x =>
      intro W hSw
      clear hSw
      (go_simp; try with_reducible rfl)
    simp only [List.setIfInBounds_toArray, List.set_cons_zero, List.set_cons_succ]
    refine wpAnyH_takeAt (i := 7) (d := 11) (v := ?vq63x) rfl rfl (by kernel_rfl) (by kernel_rfl) (by kernel_rfl) (fun _ _ _ h => h) (Or.inl ⟨by rfl, ?hyq63x⟩) hHeld ?_
    case hyq63x =>
      intro W hSw
      clear hSw
      (go_simp; try with_reducible rfl)
    simp only [List.setIfInBounds_toArray, List.set_cons_zero, List.set_cons_succ]
    refine wpAnyH_takeAt (i := 8) (d := 12) (v := ?vq64x) rfl rfl (by kernel_rfl) (by kernel_rfl) (by kernel_rfl) (fun _ _ _ h => h) (Or.inl ⟨by rfl, ?hyq64x⟩) hHeld ?_
    case hyq64x =>
      intro W hSw
      have hh := HC.out.below hSw; obtain ⟨q0, q1, q2, q3, q4⟩ := hh; have xHY := (hSw.cell (p := ⟨_, 0, none⟩) (block_lt_of_cell HY.out)).trans HY.out; clear hSw
      (go_simp; try with_reducible rfl)
    simp only [List.setIfInBounds_toArray, List.set_cons_zero, List.set_cons_succ]
    refine wpAnyH_takeAt (i := 9) (d := 13) (v := ?vq65x) rfl rfl (by kernel_rfl) (by kernel_rfl) (by kernel_rfl) (fun _ _ _ h => h) (Or.inl ⟨by rfl, ?hyq65x⟩) hHeld ?_
    case hyq65x =>
      intro W hSw
      clear hSw
      (go_simp; try with_reducible rfl)
    simp only [List.setIfInBounds_toArray, List.set_cons_zero, List.set_cons_succ]
    refine wpAnyH_takeAt (i := 10) (d := 14) (v := ?vq66x) rfl rfl (by kernel_rfl) (by kernel_rfl) (by kernel_rfl) (fun _ _ _ h => h) (Or.inl ⟨by rfl, ?hyq66x⟩) hHeld ?_
    case hyq66x =>
      intro W hSw
      clear hSw
      (go_simp; try with_reducible rfl)
    simp only [List.setIfInBounds_toArray, List.set_cons_zero, List.set_cons_succ]
    refine wpAnyH_takeAt (i := 11) (d := 15) (v := ?vq67x) rfl rfl (by kernel_rfl) (by kernel_rfl) (by kernel_rfl) (fun _ _ _ h => h) (Or.inl ⟨by rfl, ?hyq67x⟩) hHeld ?_
    case hyq67x =>
      intro W hSw
      have hh := HC.out.below hSw; obtain ⟨q0, q1, q2, q3, q4⟩ := hh; have xHY := (hSw.cell (p := ⟨_, 0, none⟩) (block_lt_of_cell HY.out)).trans HY.out; clear hSw
      (go_simp; try with_reducible rfl)
    simp only [List.setIfInBounds_toArray, List.set_cons_zero, List.set_cons_succ]
    refine wpAnyH_takeAt (i := 12) (d := 16) (v := ?vq68x) rfl rfl (by kernel_rfl) (by kernel_rfl) (by kernel_rfl) (fun _ _ _ h => h) (Or.inl ⟨by rfl, ?hyq68x⟩) hHeld ?_
    case hyq68x =>
      intro W hSw
      have hh := HC.out.below hSw; obtain ⟨q0, q1, q2, q3, q4⟩ := hh; have xHY := (hSw.cell (p := ⟨_, 0, none⟩) (block_lt_of_cell HY.out)).trans HY.out; clear hSw
      (go_simp; try with_reducible rfl)
    simp only [List.setIfInBounds_toArray, List.set_cons_zero, List.set_cons_succ]
    refine wpAnyH_ready (rs := [13]) (by kernel_rfl) (by simp) (AllReadyH.cons rfl (fun K hK => ?_) AllReadyH.nil)
    go_simp
    have hq := hasPart_any V1 a b c y
    unfold frm at hq
    rw [HD2.out] at hq
    refine hq.mono ?_
    rintro r V1b ⟨rfl, hb1⟩
    dsimp only
    refine hK.out _ _ (hHeld.trans (hb1.mono hHeld.size)) (fun hHeld => ?_)
    clear hK K hq hb1
    try simp only [List.setIfInBounds_toArray, List.set_cons_zero, List.set_cons_succ]
    refine wpAnyH_takeAt (i := 14) (d := 18) (v := ?vq69x) rfl rfl (by kernel_rfl) (by kernel_rfl) (by kernel_rfl) (fun _ _ _ h => h) (Or.inl ⟨by rfl, ?hyq69x⟩) hHeld ?_
    case hyq69x =>
      intro W hSw
      clear hSw
      (go_simp; try with_reducible rfl)
    simp only [List.setIfInBounds_toArray, List.set_cons_zero, List.set_cons_succ]
    refine wpAnyH_takeAt (i := 15) (d := 19) (v := ?vq70x) rfl rfl (by kernel_rfl) (by kernel_rfl) (by kernel_rfl) (fun _ _ _ h => h) (Or.inl ⟨by rfl, ?hyq70x⟩) hHeld ?_
    case hyq70x =>
      intro W hSw
      clear hSw
      (go_simp; try with_reducible rfl)
    simp only [List.setIfInBounds_toArray, List.set_cons_zero, List.set_cons_succ]
    refine wpAnyH_takeAt (i := 16) (d := 3) (v := ?vq71x) rfl rfl (by kernel_rfl) (by kernel_rfl) (by kernel_rfl) (fun _ _ _ h => h) (Or.inl ⟨by rfl, ?hyq71x⟩) hHeld ?_
    case hyq71x =>
      intro W hSw
      clear hSw
      (go_simp; try with_reducible rfl)
    simp only [List.setIfInBounds_toArray, List.set_cons_zero, List.set_cons_succ]
    refine wpAnyH_done (by kernel_rfl) ?_ _
    have HB := Lib.hid hHeld
    clear hHeld
    go_wp2_with fail
    go_ret
    exact ⟨by rw [HF.out]; rfl, HB.out⟩
set_option maxRecDepth 100000 in
set_option maxHeartbeats 2000000 in
theorem arg68_any (h : Cap w bm bi g a b (M.ni : Int) x) (hy : w.cell? ⟨bo, 0, none⟩ = some (.int .i64 y)) (hm : Mm w S g M) (hi : M.ni ≤ 4) : Calls Tryz.prog 68 #[.pointer (some ⟨bm, 0, none⟩), .pointer (some ⟨bi, 0, none⟩), .pointer (some ⟨bo, 0, none⟩)] w fun r w' => r = .returned (.bool (!decide ((0 ≤ x ∧ x < (M.ni : Int)) ∧ y ≤ 2147483647 ∧ (M.wrs x.toNat).offset ≤ y))) ∧ Below w.heap.size w w' := by
  have HC := Lib.hid h
  have HY := Lib.hid hy
  have HM := Lib.hid hm
  have HI := Lib.hid hi
  clear h hy hm hi
  obtain ⟨d1, hd1⟩ : ∃ d, decide (0 ≤ x ∧ x < (M.ni : Int)) = d := ⟨_, rfl⟩
  obtain ⟨d2, hd2⟩ : ∃ d, decide (2147483647 < y) = d := ⟨_, rfl⟩
  have HD1 := Lib.hid hd1
  have HD2 := Lib.hid hd2
  go_enter Tryz.func68, Tryz.ntmps68
  clear hd1
  go_upto_region 1 with fail
  refine wp_region_np ?_
  refine wp_region_held_drew (S := fun W => Below w.heap.size w W) (by kernel_rfl) (show Below w.heap.size w w.drew from (Below.refl _ _).drew) (fun hHeld => ?_)
  generalize hv0 : w.drew = V0 at *
  clear hv0
  cases d1 with
  | false =>
    have HF : Hid (decide ((0 ≤ x ∧ x < (M.ni : Int)) ∧ y ≤ 2147483647 ∧ (M.wrs x.toNat).offset ≤ y) = false) := Lib.hid (decide_eq_false fun q => by have := HD1.out; rw [decide_eq_true q.1] at this; cases this)
    refine wpAnyH_takeAt (i := 0) (d := 4) (v := ?vq72x) rfl rfl (by kernel_rfl) (by kernel_rfl) (by kernel_rfl) (fun _ _ _ h => h) (Or.inl ⟨by rfl, ?hyq72x⟩) hHeld ?_
    case hyq72x =>
      intro W hSw
      have hh := HC.out.below hSw; obtain ⟨q0, q1, q2, q3, q4⟩ := hh; have xHY := (hSw.cell (p := ⟨_, 0, none⟩) (block_lt_of_cell HY.out)).trans HY.out; clear hSw
      (go_simp; try with_reducible rfl)
    simp only [List.setIfInBounds_toArray, List.set_cons_zero, List.set_cons_succ]
    refine wpAnyH_takeAt (i := 1) (d := 5) (v := ?vq73x) rfl rfl (by kernel_rfl) (by kernel_rfl) (by kernel_rfl) (fun _ _ _ h => h) (Or.inl ⟨by rfl, ?hyq73x⟩) hHeld ?_
    case hyq73x =>
      intro W hSw
      clear hSw
      (go_simp; try with_reducible rfl)
    simp only [List.setIfInBounds_toArray, List.set_cons_zero, List.set_cons_succ]
    refine wpAnyH_takeAt (i := 2) (d := 6) (v := ?vq74x) rfl rfl (by kernel_rfl) (by kernel_rfl) (by kernel_rfl) (fun _ _ _ h => h) (Or.inl ⟨by rfl, ?hyq74x⟩) hHeld ?_
    case hyq74x =>
      intro W hSw
      clear hSw
      (go_simp; try with_reducible rfl)
    simp only [List.setIfInBounds_toArray, List.set_cons_zero, List.set_cons_succ]
    refine wpAnyH_takeAt (i := 3) (d := 7) (v := ?vq75x) rfl rfl (by kernel_rfl) (by kernel_rfl) (by kernel_rfl) (fun _ _ _ h => h) (Or.inl ⟨by rfl, ?hyq75x⟩) hHeld ?_
    case hyq75x =>
      intro W hSw
      have hh := HC.out.below hSw; obtain ⟨q0, q1, q2, q3, q4⟩ := hh; have xHY := (hSw.cell (p := ⟨_, 0, none⟩) (block_lt_of_cell HY.out)).trans HY.out; clear hSw
      (go_simp; try with_reducible rfl)
    simp only [List.setIfInBounds_toArray, List.set_cons_zero, List.set_cons_succ]
    refine wpAnyH_takeAt (i := 4) (d := 8) (v := ?vq76x) rfl rfl (by kernel_rfl) (by kernel_rfl) (by kernel_rfl) (fun _ _ _ h => h) (Or.inl ⟨by rfl, ?hyq76x⟩) hHeld ?_
    case hyq76x =>
      intro W hSw
      have hh := HC.out.below hSw; obtain ⟨q0, q1, q2, q3, q4⟩ := hh; have xHY := (hSw.cell (p := ⟨_, 0, none⟩) (block_lt_of_cell HY.out)).trans HY.out; clear hSw
      (go_simp; try with_reducible rfl)
    simp only [List.setIfInBounds_toArray, List.set_cons_zero, List.set_cons_succ]
    refine wpAnyH_ready (rs := [5]) (by kernel_rfl) (by simp) (AllReadyH.cons rfl (fun K hK => ?_) AllReadyH.nil)
    go_simp
    have hq := hasID_any V0 a b (M.ni : Int) x
    unfold frm at hq
    rw [HD1.out] at hq
    refine hq.mono ?_
    rintro r V1 ⟨rfl, hb1⟩
    dsimp only
    refine hK.out _ _ (hHeld.trans (hb1.mono hHeld.size)) (fun hHeld => ?_)
    clear hK K hq hb1
    try simp only [List.setIfInBounds_toArray, List.set_cons_zero, List.set_cons_succ]
    refine wpAnyH_takeAt (i := 6) (d := 10) (v := ?vq77x) rfl rfl (by kernel_rfl) (by kernel_rfl) (by kernel_rfl) (fun _ _ _ h => h) (Or.inl ⟨by rfl, ?hyq77x⟩) hHeld ?_
    case hyq77x =>
      intro W hSw
      clear hSw
      (go_simp; try with_reducible rfl)
    simp only [List.setIfInBounds_toArray, List.set_cons_zero, List.set_cons_succ]
    refine wpAnyH_takeAt (i := 7) (d := 11) (v := ?vq78x) rfl rfl (by kernel_rfl) (by kernel_rfl) (by kernel_rfl) (fun _ _ _ h => h) (Or.inl ⟨by rfl, ?hyq78x⟩) hHeld ?_
    case hyq78x =>
      intro W hSw
      clear hSw
      (go_simp; try with_reducible rfl)
    simp only [List.setIfInBounds_toArray, List.set_cons_zero, List.set_cons_succ]
    refine wpAnyH_takeAt (i := 8) (d := 12) (v := undef) rfl rfl (by kernel_rfl) (by kernel_rfl) (by kernel_rfl) (fun _ _ _ h => h) (Or.inr ⟨by rfl, rfl⟩) hHeld ?_
    simp only [List.setIfInBounds_toArray, List.set_cons_zero, List.set_cons_succ]
    refine wpAnyH_takeAt (i := 9) (d := 13) (v := undef) rfl rfl (by kernel_rfl) (by kernel_rfl) (by kernel_rfl) (fun _ _ _ h => h) (Or.inr ⟨by rfl, rfl⟩) hHeld ?_
    simp only [List.setIfInBounds_toArray, List.set_cons_zero, List.set_cons_succ]
    refine wpAnyH_takeAt (i := 10) (d := 14) (v := ?vq79x) rfl rfl (by kernel_rfl) (by kernel_rfl) (by kernel_rfl) (fun _ _ _ h => h) (Or.inl ⟨by rfl, ?hyq79x⟩) hHeld ?_
    case hyq79x =>
      intro W hSw
      clear hSw
      (go_simp; try with_reducible rfl)
    simp only [List.setIfInBounds_toArray, List.set_cons_zero, List.set_cons_succ]
    refine wpAnyH_takeAt (i := 11) (d := 15) (v := ?vq80x) rfl rfl (by kernel_rfl) (by kernel_rfl) (by kernel_rfl) (fun _ _ _ h => h) (Or.inl ⟨by rfl, ?hyq80x⟩) hHeld ?_
    case hyq80x =>
      intro W hSw
      clear hSw
      (go_simp; try with_reducible rfl)
    simp only [List.setIfInBounds_toArray, List.set_cons_zero, List.set_cons_succ]
    refine wpAnyH_takeAt (i := 12) (d := 16) (v := undef) rfl rfl (by kernel_rfl) (by kernel_rfl) (by kernel_rfl) (fun _ _ _ h => h) (Or.inr ⟨by rfl, rfl⟩) hHeld ?_
    simp only [List.setIfInBounds_toArray, List.set_cons_zero, List.set_cons_succ]
    refine wpAnyH_takeAt (i := 13) (d := 17) (v := undef) rfl rfl (by kernel_rfl) (by kernel_rfl) (by kernel_rfl) (fun _ _ _ h => h) (Or.inr ⟨by rfl, rfl⟩) hHeld ?_
    simp only [List.setIfInBounds_toArray, List.set_cons_zero, List.set_cons_succ]
    refine wpAnyH_takeAt (i := 14) (d := 18) (v := undef) rfl rfl (by kernel_rfl) (by kernel_rfl) (by kernel_rfl) (fun _ _ _ h => h) (Or.inr ⟨by rfl, rfl⟩) hHeld ?_
    simp only [List.setIfInBounds_toArray, List.set_cons_zero, List.set_cons_succ]
    refine wpAnyH_takeAt (i := 15) (d := 19) (v := undef) rfl rfl (by kernel_rfl) (by kernel_rfl) (by kernel_rfl) (fun _ _ _ h => h) (Or.inr ⟨by rfl, rfl⟩) hHeld ?_
    simp only [List.setIfInBounds_toArray, List.set_cons_zero, List.set_cons_succ]
    refine wpAnyH_takeAt (i := 16) (d := 20) (v := undef) rfl rfl (by kernel_rfl) (by kernel_rfl) (by kernel_rfl) (fun _ _ _ h => h) (Or.inr ⟨by rfl, rfl⟩) hHeld ?_
    simp only [List.setIfInBounds_toArray, List.set_cons_zero, List.set_cons_succ]
    refine wpAnyH_takeAt (i := 17) (d := 21) (v := undef) rfl rfl (by kernel_rfl) (by kernel_rfl) (by kernel_rfl) (fun _ _ _ h => h) (Or.inr ⟨by rfl, rfl⟩) hHeld ?_
    simp only [List.setIfInBounds_toArray, List.set_cons_zero, List.set_cons_succ]
    refine wpAnyH_takeAt (i := 18) (d := 22) (v := undef) rfl rfl (by kernel_rfl) (by kernel_rfl) (by kernel_rfl) (fun _ _ _ h => h) (Or.inr ⟨by rfl, rfl⟩) hHeld ?_
    simp only [List.setIfInBounds_toArray, List.set_cons_zero, List.set_cons_succ]
    refine wpAnyH_takeAt (i := 19) (d := 23) (v := undef) rfl rfl (by kernel_rfl) (by kernel_rfl) (by kernel_rfl) (fun _ _ _ h => h) (Or.inr ⟨by rfl, rfl⟩) hHeld ?_
    simp only [List.setIfInBounds_toArray, List.set_cons_zero, List.set_cons_succ]
    refine wpAnyH_takeAt (i := 20) (d := 24) (v := undef) rfl rfl (by kernel_rfl) (by kernel_rfl) (by kernel_rfl) (fun _ _ _ h => h) (Or.inr ⟨by rfl, rfl⟩) hHeld ?_
    simp only [List.setIfInBounds_toArray, List.set_cons_zero, List.set_cons_succ]
    refine wpAnyH_takeAt (i := 21) (d := 25) (v := ?vq81x) rfl rfl (by kernel_rfl) (by kernel_rfl) (by kernel_rfl) (fun _ _ _ h => h) (Or.inl ⟨by rfl, ?hyq81x⟩) hHeld ?_
    case hyq81x =>
      intro W hSw
      clear hSw
      (go_simp; try with_reducible rfl)
    simp only [List.setIfInBounds_toArray, List.set_cons_zero, List.set_cons_succ]
    refine wpAnyH_takeAt (i := 22) (d := 3) (v := ?vq82x) rfl rfl (by kernel_rfl) (by kernel_rfl) (by kernel_rfl) (fun _ _ _ h => h) (Or.inl ⟨by rfl, ?hyq82x⟩) hHeld ?_
    case hyq82x =>
      intro W hSw
      clear hSw
      (go_simp; try with_reducible rfl)
    simp only [List.setIfInBounds_toArray, List.set_cons_zero, List.set_cons_succ]
    refine wpAnyH_done (by kernel_rfl) ?_ _
    have HB := Lib.hid hHeld
    clear hHeld
    go_wp2_with fail
    go_ret
    exact ⟨by rw [HF.out]; rfl, HB.out⟩
  | true =>
    have hx2 : 0 ≤ x ∧ x < (M.ni : Int) := of_decide_eq_true HD1.out
    obtain ⟨p, rfl⟩ : ∃ p : Nat, x = (p : Int) := ⟨x.toNat, by omega⟩
    have hp : p < 4 := by have := HI.out; omega
    have hpi : (p : Int) < 4 := by omega
    clear hx2
    cases d2 with
    | true =>
      have HF : Hid (decide ((0 ≤ (p : Int) ∧ (p : Int) < (M.ni : Int)) ∧ y ≤ 2147483647 ∧ (M.wrs (p : Int).toNat).offset ≤ y) = false) := Lib.hid (decide_eq_false fun q => by have := of_decide_eq_true HD2.out; omega)
      refine wpAnyH_takeAt (i := 0) (d := 4) (v := ?vq83x) rfl rfl (by kernel_rfl) (by kernel_rfl) (by kernel_rfl) (fun _ _ _ h => h) (Or.inl ⟨by rfl, ?hyq83x⟩) hHeld ?_
      case hyq83x =>
        intro W hSw
        have hh := HC.out.below hSw; obtain ⟨q0, q1, q2, q3, q4⟩ := hh; have xHY := (hSw.cell (p := ⟨_, 0, none⟩) (block_lt_of_cell HY.out)).trans HY.out; clear hSw
        (go_simp; try with_reducible rfl)
      simp only [List.setIfInBounds_toArray, List.set_cons_zero, List.set_cons_succ]
      refine wpAnyH_takeAt (i := 1) (d := 5) (v := ?vq84x) rfl rfl (by kernel_rfl) (by kernel_rfl) (by kernel_rfl) (fun _ _ _ h => h) (Or.inl ⟨by rfl, ?hyq84x⟩) hHeld ?_
      case hyq84x =>
        intro W hSw
        clear hSw
        (go_simp; try with_reducible rfl)
      simp only [List.setIfInBounds_toArray, List.set_cons_zero, List.set_cons_succ]
      refine wpAnyH_takeAt (i := 2) (d := 6) (v := ?vq85x) rfl rfl (by kernel_rfl) (by kernel_rfl) (by kernel_rfl) (fun _ _ _ h => h) (Or.inl ⟨by rfl, ?hyq85x⟩) hHeld ?_
      case hyq85x =>
        intro W hSw
        clear hSw
        (go_simp; try with_reducible rfl)
      simp only [List.setIfInBounds_toArray, List.set_cons_zero, List.set_cons_succ]
      refine wpAnyH_takeAt (i := 3) (d := 7) (v := ?vq86x) rfl rfl (by kernel_rfl) (by kernel_rfl) (by kernel_rfl) (fun _ _ _ h => h) (Or.inl ⟨by rfl, ?hyq86x⟩) hHeld ?_
      case hyq86x =>
        intro W hSw
        have hh := HC.out.below hSw; obtain ⟨q0, q1, q2, q3, q4⟩ := hh; have xHY := (hSw.cell (p := ⟨_, 0, none⟩) (block_lt_of_cell HY.out)).trans HY.out; clear hSw
        (go_simp; try with_reducible rfl)
      simp only [List.setIfInBounds_toArray, List.set_cons_zero, List.set_cons_succ]
      refine wpAnyH_takeAt (i := 4) (d := 8) (v := ?vq87x) rfl rfl (by kernel_rfl) (by kernel_rfl) (by kernel_rfl) (fun _ _ _ h => h) (Or.inl ⟨by rfl, ?hyq87x⟩) hHeld ?_
      case hyq87x =>
        intro W hSw
        have hh := HC.out.below hSw; obtain ⟨q0, q1, q2, q3, q4⟩ := hh; have xHY := (hSw.cell (p := ⟨_, 0, none⟩) (block_lt_of_cell HY.out)).trans HY.out; clear hSw
        (go_simp; try with_reducible rfl)
      simp only [List.setIfInBounds_toArray, List.set_cons_zero, List.set_cons_succ]
      refine wpAnyH_ready (rs := [5]) (by kernel_rfl) (by simp) (AllReadyH.cons rfl (fun K hK => ?_) AllReadyH.nil)
      go_simp
      have hq := hasID_any V0 a b (M.ni : Int) (p : Int)
      unfold frm at hq
      rw [HD1.out] at hq
      refine hq.mono ?_
      rintro r V1 ⟨rfl, hb1⟩
      dsimp only
      refine hK.out _ _ (hHeld.trans (hb1.mono hHeld.size)) (fun hHeld => ?_)
      clear hK K hq hb1
      try simp only [List.setIfInBounds_toArray, List.set_cons_zero, List.set_cons_succ]
      refine wpAnyH_takeAt (i := 6) (d := 10) (v := ?vq88x) rfl rfl (by kernel_rfl) (by kernel_rfl) (by kernel_rfl) (fun _ _ _ h => h) (Or.inl ⟨by rfl, ?hyq88x⟩) hHeld ?_
      case hyq88x =>
        intro W hSw
        clear hSw
        (go_simp; try with_reducible rfl)
      simp only [List.setIfInBounds_toArray, List.set_cons_zero, List.set_cons_succ]
      refine wpAnyH_takeAt (i := 7) (d := 11) (v := ?vq89x) rfl rfl (by kernel_rfl) (by kernel_rfl) (by kernel_rfl) (fun _ _ _ h => h) (Or.inl ⟨by rfl, ?hyq89x⟩) hHeld ?_
      case hyq89x =>
        intro W hSw
        clear hSw
        (go_simp; try with_reducible rfl)
      simp only [List.setIfInBounds_toArray, List.set_cons_zero, List.set_cons_succ]
      refine wpAnyH_takeAt (i := 8) (d := 12) (v := ?vq90x) rfl rfl (by kernel_rfl) (by kernel_rfl) (by kernel_rfl) (fun _ _ _ h => h) (Or.inl ⟨by rfl, ?hyq90x⟩) hHeld ?_
      case hyq90x =>
        intro W hSw
        have hh := HC.out.below hSw; obtain ⟨q0, q1, q2, q3, q4⟩ := hh; have xHY := (hSw.cell (p := ⟨_, 0, none⟩) (block_lt_of_cell HY.out)).trans HY.out; clear hSw
        (go_simp; try with_reducible rfl)
      simp only [List.setIfInBounds_toArray, List.set_cons_zero, List.set_cons_succ]
      refine wpAnyH_takeAt (i := 9) (d := 13) (v := ?vq91x) rfl rfl (by kernel_rfl) (by kernel_rfl) (by kernel_rfl) (fun _ _ _ h => h) (Or.inl ⟨by rfl, ?hyq91x⟩) hHeld ?_
      case hyq91x =>
        intro W hSw
        clear hSw
        (go_simp; try with_reducible rfl)
      simp only [List.setIfInBounds_toArray, List.set_cons_zero, List.set_cons_succ]
      refine wpAnyH_takeAt (i := 10) (d := 14) (v := ?vq92x) rfl rfl (by kernel_rfl) (by kernel_rfl) (by kernel_rfl) (fun _ _ _ h => h) (Or.inl ⟨by rfl, ?hyq92x⟩) hHeld ?_
      case hyq92x =>
        intro W hSw
        clear hSw
        (go_simp; try with_reducible rfl)
      simp only [List.setIfInBounds_toArray, List.set_cons_zero, List.set_cons_succ]
      refine wpAnyH_takeAt (i := 11) (d := 15) (v := ?vq93x) rfl rfl (by kernel_rfl) (by kernel_rfl) (by kernel_rfl) (fun _ _ _ h => h) (Or.inl ⟨by rfl, ?hyq93x⟩) hHeld ?_
      case hyq93x =>
        intro W hSw
        clear hSw
        (go_simp; try with_reducible rfl)
      simp only [List.setIfInBounds_toArray, List.set_cons_zero, List.set_cons_succ]
      refine wpAnyH_takeAt (i := 12) (d := 16) (v := undef) rfl rfl (by kernel_rfl) (by kernel_rfl) (by kernel_rfl) (fun _ _ _ h => h) (Or.inr ⟨by rfl, rfl⟩) hHeld ?_
      simp only [List.setIfInBounds_toArray, List.set_cons_zero, List.set_cons_succ]
      refine wpAnyH_takeAt (i := 13) (d := 17) (v := undef) rfl rfl (by kernel_rfl) (by kernel_rfl) (by kernel_rfl) (fun _ _ _ h => h) (Or.inr ⟨by rfl, rfl⟩) hHeld ?_
      simp only [List.setIfInBounds_toArray, List.set_cons_zero, List.set_cons_succ]
      refine wpAnyH_takeAt (i := 14) (d := 18) (v := undef) rfl rfl (by kernel_rfl) (by kernel_rfl) (by kernel_rfl) (fun _ _ _ h => h) (Or.inr ⟨by rfl, rfl⟩) hHeld ?_
      simp only [List.setIfInBounds_toArray, List.set_cons_zero, List.set_cons_succ]
      refine wpAnyH_takeAt (i := 15) (d := 19) (v := undef) rfl rfl (by kernel_rfl) (by kernel_rfl) (by kernel_rfl) (fun _ _ _ h => h) (Or.inr ⟨by rfl, rfl⟩) hHeld ?_
      simp only [List.setIfInBounds_toArray, List.set_cons_zero, List.set_cons_succ]
      refine wpAnyH_takeAt (i := 16) (d := 20) (v := undef) rfl rfl (by kernel_rfl) (by kernel_rfl) (by kernel_rfl) (fun _ _ _ h => h) (Or.inr ⟨by rfl, rfl⟩) hHeld ?_
      simp only [List.setIfInBounds_toArray, List.set_cons_zero, List.set_cons_succ]
      refine wpAnyH_takeAt (i := 17) (d := 21) (v := undef) rfl rfl (by kernel_rfl) (by kernel_rfl) (by kernel_rfl) (fun _ _ _ h => h) (Or.inr ⟨by rfl, rfl⟩) hHeld ?_
      simp only [List.setIfInBounds_toArray, List.set_cons_zero, List.set_cons_succ]
      refine wpAnyH_takeAt (i := 18) (d := 22) (v := undef) rfl rfl (by kernel_rfl) (by kernel_rfl) (by kernel_rfl) (fun _ _ _ h => h) (Or.inr ⟨by rfl, rfl⟩) hHeld ?_
      simp only [List.setIfInBounds_toArray, List.set_cons_zero, List.set_cons_succ]
      refine wpAnyH_takeAt (i := 19) (d := 23) (v := undef) rfl rfl (by kernel_rfl) (by kernel_rfl) (by kernel_rfl) (fun _ _ _ h => h) (Or.inr ⟨by rfl, rfl⟩) hHeld ?_
      simp only [List.setIfInBounds_toArray, List.set_cons_zero, List.set_cons_succ]
      refine wpAnyH_takeAt (i := 20) (d := 24) (v := undef) rfl rfl (by kernel_rfl) (by kernel_rfl) (by kernel_rfl) (fun _ _ _ h => h) (Or.inr ⟨by rfl, rfl⟩) hHeld ?_
      simp only [List.setIfInBounds_toArray, List.set_cons_zero, List.set_cons_succ]
      refine wpAnyH_takeAt (i := 21) (d := 25) (v := ?vq94x) rfl rfl (by kernel_rfl) (by kernel_rfl) (by kernel_rfl) (fun _ _ _ h => h) (Or.inl ⟨by rfl, ?hyq94x⟩) hHeld ?_
      case hyq94x =>
        intro W hSw
        clear hSw
        (go_simp; try with_reducible rfl)
      simp only [List.setIfInBounds_toArray, List.set_cons_zero, List.set_cons_succ]
      refine wpAnyH_takeAt (i := 22) (d := 3) (v := ?vq95x) rfl rfl (by kernel_rfl) (by kernel_rfl) (by kernel_rfl) (fun _ _ _ h => h) (Or.inl ⟨by rfl, ?hyq95x⟩) hHeld ?_
      case hyq95x =>
        intro W hSw
        clear hSw
        (go_simp; try with_reducible rfl)
      simp only [List.setIfInBounds_toArray, List.set_cons_zero, List.set_cons_succ]
      refine wpAnyH_done (by kernel_rfl) ?_ _
      have HB := Lib.hid hHeld
      clear hHeld
      go_wp2_with fail
      go_ret
      exact ⟨by rw [HF.out]; rfl, HB.out⟩
    | false =>
      obtain ⟨d3, hd3⟩ : ∃ d, decide (y < (M.wrs p).offset) = d := ⟨_, rfl⟩
      have HF : Hid (decide ((0 ≤ (p : Int) ∧ (p : Int) < (M.ni : Int)) ∧ y ≤ 2147483647 ∧ (M.wrs (p : Int).toNat).offset ≤ y) = !d3) := Lib.hid (by
        have h1 := of_decide_eq_true HD1.out
        have h2 := of_decide_eq_false HD2.out
        rw [← hd3, ← decide_not]
        exact decide_eq_decide.2 ⟨fun q => by have := q.2.2; simp only [Int.toNat_natCast] at this; omega, fun q => ⟨h1, by omega, by simp only [Int.toNat_natCast]; omega⟩⟩)
      refine wpAnyH_takeAt (i := 0) (d := 4) (v := ?vq96x) rfl rfl (by kernel_rfl) (by kernel_rfl) (by kernel_rfl) (fun _ _ _ h => h) (Or.inl ⟨by rfl, ?hyq96x⟩) hHeld ?_
      case hyq96x =>
        intro W hSw
        have hh := HC.out.below hSw; obtain ⟨q0, q1, q2, q3, q4⟩ := hh; have xHY := (hSw.cell (p := ⟨_, 0, none⟩) (block_lt_of_cell HY.out)).trans HY.out; obtain ⟨A9, k9, ⟨r0, r1, r2, r3, r4, r5⟩, -⟩ := (HM.out.below hSw).atWriting hp; clear hSw
        (go_simp; try with_reducible rfl)
      simp only [List.setIfInBounds_toArray, List.set_cons_zero, List.set_cons_succ]
      refine wpAnyH_takeAt (i := 1) (d := 5) (v := ?vq97x) rfl rfl (by kernel_rfl) (by kernel_rfl) (by kernel_rfl) (fun _ _ _ h => h) (Or.inl ⟨by rfl, ?hyq97x⟩) hHeld ?_
      case hyq97x =>
        intro W hSw
        clear hSw
        (go_simp; try with_reducible rfl)
      simp only [List.setIfInBounds_toArray, List.set_cons_zero, List.set_cons_succ]
      refine wpAnyH_takeAt (i := 2) (d := 6) (v := ?vq98x) rfl rfl (by kernel_rfl) (by kernel_rfl) (by kernel_rfl) (fun _ _ _ h => h) (Or.inl ⟨by rfl, ?hyq98x⟩) hHeld ?_
      case hyq98x =>
        intro W hSw
        clear hSw
        (go_simp; try with_reducible rfl)
      simp only [List.setIfInBounds_toArray, List.set_cons_zero, List.set_cons_succ]
      refine wpAnyH_takeAt (i := 3) (d := 7) (v := ?vq99x) rfl rfl (by kernel_rfl) (by kernel_rfl) (by kernel_rfl) (fun _ _ _ h => h) (Or.inl ⟨by rfl, ?hyq99x⟩) hHeld ?_
      case hyq99x =>
        intro W hSw
        have hh := HC.out.below hSw; obtain ⟨q0, q1, q2, q3, q4⟩ := hh; have xHY := (hSw.cell (p := ⟨_, 0, none⟩) (block_lt_of_cell HY.out)).trans HY.out; obtain ⟨A9, k9, ⟨r0, r1, r2, r3, r4, r5⟩, -⟩ := (HM.out.below hSw).atWriting hp; clear hSw
        (go_simp; try with_reducible rfl)
      simp only [List.setIfInBounds_toArray, List.set_cons_zero, List.set_cons_succ]
      refine wpAnyH_takeAt (i := 4) (d := 8) (v := ?vq100x) rfl rfl (by kernel_rfl) (by kernel_rfl) (by kernel_rfl) (fun _ _ _ h => h) (Or.inl ⟨by rfl, ?hyq100x⟩) hHeld ?_
      case hyq100x =>
        intro W hSw
        have hh := HC.out.below hSw; obtain ⟨q0, q1, q2, q3, q4⟩ := hh; have xHY := (hSw.cell (p := ⟨_, 0, none⟩) (block_lt_of_cell HY.out)).trans HY.out; obtain ⟨A9, k9, ⟨r0, r1, r2, r3, r4, r5⟩, -⟩ := (HM.out.below hSw).atWriting hp; clear hSw
        (go_simp; try with_reducible rfl)
      simp only [List.setIfInBounds_toArray, List.set_cons_zero, List.set_cons_succ]
      refine wpAnyH_ready (rs := [5]) (by kernel_rfl) (by simp) (AllReadyH.cons rfl (fun K hK => ?_) AllReadyH.nil)
      go_simp
      have hq := hasID_any V0 a b (M.ni : Int) (p : Int)
      unfold frm at hq
      rw [HD1.out] at hq
      refine hq.mono ?_
      rintro r V1 ⟨rfl, hb1⟩
      dsimp only
      refine hK.out _ _ (hHeld.trans (hb1.mono hHeld.size)) (fun hHeld => ?_)
      clear hK K hq hb1
      try simp only [List.setIfInBounds_toArray, List.set_cons_zero, List.set_cons_succ]
      refine wpAnyH_takeAt (i := 6) (d := 10) (v := ?vq101x) rfl rfl (by kernel_rfl) (by kernel_rfl) (by kernel_rfl) (fun _ _ _ h => h) (Or.inl ⟨by rfl, ?hyq101x⟩) hHeld ?_
      case hyq101x =>
        intro W hSw
        clear hSw
        (go_simp; try with_reducible rfl)
      simp only [List.setIfInBounds_toArray, List.set_cons_zero, List.set_cons_succ]
      refine wpAnyH_takeAt (i := 7) (d := 11) (v := ?vq102x) rfl rfl (by kernel_rfl) (by kernel_rfl) (by kernel_rfl) (fun _ _ _ h => h) (Or.inl ⟨by rfl, ?hyq102x⟩) hHeld ?_
      case hyq102x =>
        intro W hSw
        clear hSw
        (go_simp; try with_reducible rfl)
      simp only [List.setIfInBounds_toArray, List.set_cons_zero, List.set_cons_succ]
      refine wpAnyH_takeAt (i := 8) (d := 12) (v := ?vq103x) rfl rfl (by kernel_rfl) (by kernel_rfl) (by kernel_rfl) (fun _ _ _ h => h) (Or.inl ⟨by rfl, ?hyq103x⟩) hHeld ?_
      case hyq103x =>
        intro W hSw
        have hh := HC.out.below hSw; obtain ⟨q0, q1, q2, q3, q4⟩ := hh; have xHY := (hSw.cell (p := ⟨_, 0, none⟩) (block_lt_of_cell HY.out)).trans HY.out; obtain ⟨A9, k9, ⟨r0, r1, r2, r3, r4, r5⟩, -⟩ := (HM.out.below hSw).atWriting hp; clear hSw
        (go_simp; try with_reducible rfl)
      simp only [List.setIfInBounds_toArray, List.set_cons_zero, List.set_cons_succ]
      refine wpAnyH_takeAt (i := 9) (d := 13) (v := ?vq104x) rfl rfl (by kernel_rfl) (by kernel_rfl) (by kernel_rfl) (fun _ _ _ h => h) (Or.inl ⟨by rfl, ?hyq104x⟩) hHeld ?_
      case hyq104x =>
        intro W hSw
        clear hSw
        (go_simp; try with_reducible rfl)
      simp only [List.setIfInBounds_toArray, List.set_cons_zero, List.set_cons_succ]
      refine wpAnyH_takeAt (i := 10) (d := 14) (v := ?vq105x) rfl rfl (by kernel_rfl) (by kernel_rfl) (by kernel_rfl) (fun _ _ _ h => h) (Or.inl ⟨by rfl, ?hyq105x⟩) hHeld ?_
      case hyq105x =>
        intro W hSw
        clear hSw
        (go_simp; try with_reducible rfl)
      simp only [List.setIfInBounds_toArray, List.set_cons_zero, List.set_cons_succ]
      refine wpAnyH_takeAt (i := 11) (d := 15) (v := ?vq106x) rfl rfl (by kernel_rfl) (by kernel_rfl) (by kernel_rfl) (fun _ _ _ h => h) (Or.inl ⟨by rfl, ?hyq106x⟩) hHeld ?_
      case hyq106x =>
        intro W hSw
        clear hSw
        (go_simp; try with_reducible rfl)
      simp only [List.setIfInBounds_toArray, List.set_cons_zero, List.set_cons_succ]
      refine wpAnyH_takeAt (i := 12) (d := 16) (v := ?vq107x) rfl rfl (by kernel_rfl) (by kernel_rfl) (by kernel_rfl) (fun _ _ _ h => h) (Or.inl ⟨by rfl, ?hyq107x⟩) hHeld ?_
      case hyq107x =>
        intro W hSw
        have hh := HC.out.below hSw; obtain ⟨q0, q1, q2, q3, q4⟩ := hh; have xHY := (hSw.cell (p := ⟨_, 0, none⟩) (block_lt_of_cell HY.out)).trans HY.out; obtain ⟨A9, k9, ⟨r0, r1, r2, r3, r4, r5⟩, -⟩ := (HM.out.below hSw).atWriting hp; clear hSw
        (go_simp; try with_reducible rfl)
      simp only [List.setIfInBounds_toArray, List.set_cons_zero, List.set_cons_succ]
      refine wpAnyH_takeAt (i := 13) (d := 17) (v := ?vq108x) rfl rfl (by kernel_rfl) (by kernel_rfl) (by kernel_rfl) (fun _ _ _ h => h) (Or.inl ⟨by rfl, ?hyq108x⟩) hHeld ?_
      case hyq108x =>
        intro W hSw
        have hh := HC.out.below hSw; obtain ⟨q0, q1, q2, q3, q4⟩ := hh; have xHY := (hSw.cell (p := ⟨_, 0, none⟩) (block_lt_of_cell HY.out)).trans HY.out; obtain ⟨A9, k9, ⟨r0, r1, r2, r3, r4, r5⟩, -⟩ := (HM.out.below hSw).atWriting hp; clear hSw
        (go_simp; try with_reducible rfl)
      simp only [List.setIfInBounds_toArray, List.set_cons_zero, List.set_cons_succ]
      refine wpAnyH_takeAt (i := 14) (d := 18) (v := ?vq109x) rfl rfl (by kernel_rfl) (by kernel_rfl) (by kernel_rfl) (fun _ _ _ h => h) (Or.inl ⟨by rfl, ?hyq109x⟩) hHeld ?_
      case hyq109x =>
        intro W hSw
        have hh := HC.out.below hSw; obtain ⟨q0, q1, q2, q3, q4⟩ := hh; have xHY := (hSw.cell (p := ⟨_, 0, none⟩) (block_lt_of_cell HY.out)).trans HY.out; obtain ⟨A9, k9, ⟨r0, r1, r2, r3, r4, r5⟩, -⟩ := (HM.out.below hSw).atWriting hp; clear hSw
        (go_simp; try with_reducible rfl)
      simp only [List.setIfInBounds_toArray, List.set_cons_zero, List.set_cons_succ]
      refine wpAnyH_takeAt (i := 15) (d := 19) (v := ?vq110x) rfl rfl (by kernel_rfl) (by kernel_rfl) (by kernel_rfl) (fun _ _ _ h => h) (Or.inl ⟨by rfl, ?hyq110x⟩) hHeld ?_
      case hyq110x =>
        intro W hSw
        clear hSw
        (go_simp; try with_reducible rfl)
      simp only [List.setIfInBounds_toArray, List.set_cons_zero, List.set_cons_succ]
      refine wpAnyH_takeAt (i := 16) (d := 20) (v := ?vq111x) rfl rfl (by kernel_rfl) (by kernel_rfl) (by kernel_rfl) (fun _ _ _ h => h) (Or.inl ⟨by rfl, ?hyq111x⟩) hHeld ?_
      case hyq111x =>
        intro W hSw
        clear hSw
        (go_simp; try with_reducible rfl)
      simp only [List.setIfInBounds_toArray, List.set_cons_zero, List.set_cons_succ]
      refine wpAnyH_takeAt (i := 17) (d := 21) (v := ?vq112x) rfl rfl (by kernel_rfl) (by kernel_rfl) (by kernel_rfl) (fun _ _ _ h => h) (Or.inl ⟨by rfl, ?hyq112x⟩) hHeld ?_
      case hyq112x =>
        intro W hSw
        clear hSw
        (go_simp; try with_reducible rfl)
      simp only [List.setIfInBounds_toArray, List.set_cons_zero, List.set_cons_succ]
      refine wpAnyH_takeAt (i := 18) (d := 22) (v := ?vq113x) rfl rfl (by kernel_rfl) (by kernel_rfl) (by kernel_rfl) (fun _ _ _ h => h) (Or.inl ⟨by rfl, ?hyq113x⟩) hHeld ?_
      case hyq113x =>
        intro W hSw
        clear hSw
        (go_simp; try with_reducible rfl)
      simp only [List.setIfInBounds_toArray, List.set_cons_zero, List.set_cons_succ]
      refine wpAnyH_takeAt (i := 19) (d := 23) (v := ?vq114x) rfl rfl (by kernel_rfl) (by kernel_rfl) (by kernel_rfl) (fun _ _ _ h => h) (Or.inl ⟨by rfl, ?hyq114x⟩) hHeld ?_
      case hyq114x =>
        intro W hSw
        have hh := HC.out.below hSw; obtain ⟨q0, q1, q2, q3, q4⟩ := hh; have xHY := (hSw.cell (p := ⟨_, 0, none⟩) (block_lt_of_cell HY.out)).trans HY.out; obtain ⟨A9, k9, ⟨r0, r1, r2, r3, r4, r5⟩, -⟩ := (HM.out.below hSw).atWriting hp; clear hSw
        (go_simp; try with_reducible rfl)
      simp only [List.setIfInBounds_toArray, List.set_cons_zero, List.set_cons_succ]
      refine wpAnyH_takeAt (i := 20) (d := 24) (v := ?vq115x) rfl rfl (by kernel_rfl) (by kernel_rfl) (by kernel_rfl) (fun _ _ _ h => h) (Or.inl ⟨by rfl, ?hyq115x⟩) hHeld ?_
      case hyq115x =>
        intro W hSw
        clear hSw
        (go_simp; try with_reducible rfl)
      simp only [List.setIfInBounds_toArray, List.set_cons_zero, List.set_cons_succ]
      refine wpAnyH_takeAt (i := 21) (d := 25) (v := ?vq116x) rfl rfl (by kernel_rfl) (by kernel_rfl) (by kernel_rfl) (fun _ _ _ h => h) (Or.inl ⟨by rfl, ?hyq116x⟩) hHeld ?_
      case hyq116x =>
        intro W hSw
        clear hSw
        (go_simp; try with_reducible rfl)
      simp only [List.setIfInBounds_toArray, List.set_cons_zero, List.set_cons_succ]
      refine wpAnyH_takeAt (i := 22) (d := 3) (v := ?vq117x) rfl rfl (by kernel_rfl) (by kernel_rfl) (by kernel_rfl) (fun _ _ _ h => h) (Or.inl ⟨by rfl, ?hyq117x⟩) hHeld ?_
      case hyq117x =>
        intro W hSw
        clear hSw
        (go_simp; try with_reducible rfl)
      simp only [List.setIfInBounds_toArray, List.set_cons_zero, List.set_cons_succ]
      refine wpAnyH_done (by kernel_rfl) ?_ _
      have HB := Lib.hid hHeld
      clear hHeld
      go_wp2_with fail
      go_ret
      exact ⟨by rw [HF.out]; cases d3 <;> rfl, HB.out⟩
set_option maxRecDepth 100000 in
set_option maxHeartbeats 2000000 in
theorem arg81_any {un : Bool} (h : Cap w bm bi g a b c (p : Int)) (hm : Mm w S g M) (hp : p < 4) (hl : (M.views p).isr.length ≤ 1000000) (hu : w.cell? ⟨bu, 0, none⟩ = some (.bool un)) (hy : w.cell? ⟨be, 0, none⟩ = some (.int .i64 y)) : Calls Tryz.prog 81 #[.pointer (some ⟨bu, 0, none⟩), .pointer (some ⟨bm, 0, none⟩), .pointer (some ⟨bi, 0, none⟩), .pointer (some ⟨be, 0, none⟩)] w fun r w' => r = .returned (.bool (decide (un = false ∧ y ∉ (M.views p).isr))) ∧ Below w.heap.size w w' := by
  have HC := Lib.hid h
  have HM := Lib.hid hm
  have HU := Lib.hid hu
  have HY := Lib.hid hy
  have HL := Lib.hid hl
  have hpi : (p : Int) < 4 := by omega
  clear h hm hu hy hl
  obtain ⟨d1, hd1⟩ : ∃ d, decide (y ∈ (M.views p).isr) = d := ⟨_, rfl⟩
  obtain ⟨d9, hd9⟩ : ∃ d, decide (un = false ∧ y ∉ (M.views p).isr) = d := ⟨_, rfl⟩
  rw [hd9]
  have HF : Hid (d9 = (!un && !d1)) := Lib.hid (by rw [← hd9, ← hd1]; cases un <;> by_cases e : y ∈ (M.views p).isr <;> simp [e])
  clear hd9
  have HD1 := Lib.hid hd1
  clear hd1
  go_enter Tryz.func81, Tryz.ntmps81
  go_upto_region 1 with fail
  refine wp_region_np ?_
  refine wp_region_held_drew (S := fun W => Below w.heap.size w W) (by kernel_rfl) (show Below w.heap.size w w.drew from (Below.refl _ _).drew) (fun hHeld => ?_)
  generalize hv0 : w.drew = V0 at *
  clear hv0
  cases un with
  | true =>
    refine wpAnyH_takeAt (i := 0) (d := 5) (v := ?vq118x) rfl rfl (by kernel_rfl) (by kernel_rfl) (by kernel_rfl) (fun _ _ _ h => h) (Or.inl ⟨by rfl, ?hyq118x⟩) hHeld ?_
    case hyq118x =>
      intro W hSw
      have hh := HC.out.below hSw; obtain ⟨q0, q1, q2, q3, q4⟩ := hh; have xHY := (hSw.cell (p := ⟨_, 0, none⟩) (block_lt_of_cell HY.out)).trans HY.out; have xHU := (hSw.cell (p := ⟨_, 0, none⟩) (block_lt_of_cell HU.out)).trans HU.out; clear hSw
      (go_simp; try with_reducible rfl)
    simp only [List.setIfInBounds_toArray, List.set_cons_zero, List.set_cons_succ]
    refine wpAnyH_takeAt (i := 1) (d := 6) (v := ?vq119x) rfl rfl (by kernel_rfl) (by kernel_rfl) (by kernel_rfl) (fun _ _ _ h => h) (Or.inl ⟨by rfl, ?hyq119x⟩) hHeld ?_
    case hyq119x =>
      intro W hSw
      clear hSw
      (go_simp; try with_reducible rfl)
    simp only [List.setIfInBounds_toArray, List.set_cons_zero, List.set_cons_succ]
    refine wpAnyH_takeAt (i := 2) (d := 7) (v := ?vq120x) rfl rfl (by kernel_rfl) (by kernel_rfl) (by kernel_rfl) (fun _ _ _ h => h) (Or.inl ⟨by rfl, ?hyq120x⟩) hHeld ?_
    case hyq120x =>
      intro W hSw
      clear hSw
      (go_simp; try with_reducible rfl)
    simp only [List.setIfInBounds_toArray, List.set_cons_zero, List.set_cons_succ]
    refine wpAnyH_takeAt (i := 3) (d := 8) (v := undef) rfl rfl (by kernel_rfl) (by kernel_rfl) (by kernel_rfl) (fun _ _ _ h => h) (Or.inr ⟨by rfl, rfl⟩) hHeld ?_
    simp only [List.setIfInBounds_toArray, List.set_cons_zero, List.set_cons_succ]
    refine wpAnyH_takeAt (i := 4) (d := 9) (v := undef) rfl rfl (by kernel_rfl) (by kernel_rfl) (by kernel_rfl) (fun _ _ _ h => h) (Or.inr ⟨by rfl, rfl⟩) hHeld ?_
    simp only [List.setIfInBounds_toArray, List.set_cons_zero, List.set_cons_succ]
    refine wpAnyH_takeAt (i := 5) (d := 10) (v := undef) rfl rfl (by kernel_rfl) (by kernel_rfl) (by kernel_rfl) (fun _ _ _ h => h) (Or.inr ⟨by rfl, rfl⟩) hHeld ?_
    simp only [List.setIfInBounds_toArray, List.set_cons_zero, List.set_cons_succ]
    refine wpAnyH_takeAt (i := 6) (d := 11) (v := undef) rfl rfl (by kernel_rfl) (by kernel_rfl) (by kernel_rfl) (fun _ _ _ h => h) (Or.inr ⟨by rfl, rfl⟩) hHeld ?_
    simp only [List.setIfInBounds_toArray, List.set_cons_zero, List.set_cons_succ]
    refine wpAnyH_takeAt (i := 7) (d := 12) (v := undef) rfl rfl (by kernel_rfl) (by kernel_rfl) (by kernel_rfl) (fun _ _ _ h => h) (Or.inr ⟨by rfl, rfl⟩) hHeld ?_
    simp only [List.setIfInBounds_toArray, List.set_cons_zero, List.set_cons_succ]
    refine wpAnyH_takeAt (i := 8) (d := 13) (v := undef) rfl rfl (by kernel_rfl) (by kernel_rfl) (by kernel_rfl) (fun _ _ _ h => h) (Or.inr ⟨by rfl, rfl⟩) hHeld ?_
    simp only [List.setIfInBounds_toArray, List.set_cons_zero, List.set_cons_succ]
    refine wpAnyH_takeAt (i := 9) (d := 14) (v := undef) rfl rfl (by kernel_rfl) (by kernel_rfl) (by kernel_rfl) (fun _ _ _ h => h) (Or.inr ⟨by rfl, rfl⟩) hHeld ?_
    simp only [List.setIfInBounds_toArray, List.set_cons_zero, List.set_cons_succ]
    refine wpAnyH_takeAt (i := 10) (d := 15) (v := undef) rfl rfl (by kernel_rfl) (by kernel_rfl) (by kernel_rfl) (fun _ _ _ h => h) (Or.inr ⟨by rfl, rfl⟩) hHeld ?_
    simp only [List.setIfInBounds_toArray, List.set_cons_zero, List.set_cons_succ]
    refine wpAnyH_takeAt (i := 11) (d := 16) (v := ?vq121x) rfl rfl (by kernel_rfl) (by kernel_rfl) (by kernel_rfl) (fun _ _ _ h => h) (Or.inl ⟨by rfl, ?hyq121x⟩) hHeld ?_
    case hyq121x =>
      intro W hSw
      clear hSw
      (go_simp; try with_reducible rfl)
    simp only [List.setIfInBounds_toArray, List.set_cons_zero, List.set_cons_succ]
    refine wpAnyH_takeAt (i := 12) (d := 4) (v := ?vq122x) rfl rfl (by kernel_rfl) (by kernel_rfl) (by kernel_rfl) (fun _ _ _ h => h) (Or.inl ⟨by rfl, ?hyq122x⟩) hHeld ?_
    case hyq122x =>
      intro W hSw
      clear hSw
      (go_simp; try with_reducible rfl)
    simp only [List.setIfInBounds_toArray, List.set_cons_zero, List.set_cons_succ]
    refine wpAnyH_done (by kernel_rfl) ?_ _
    have HB := Lib.hid hHeld
    clear hHeld
    go_wp2_with fail
    go_ret
    exact ⟨by rw [HF.out]; rfl, HB.out⟩
  | false =>
    refine wpAnyH_takeAt (i := 0) (d := 5) (v := ?vq123x) rfl rfl (by kernel_rfl) (by kernel_rfl) (by kernel_rfl) (fun _ _ _ h => h) (Or.inl ⟨by rfl, ?hyq123x⟩) hHeld ?_
    case hyq123x =>
      intro W hSw
      have hh := HC.out.below hSw; obtain ⟨q0, q1, q2, q3, q4⟩ := hh; have xHY := (hSw.cell (p := ⟨_, 0, none⟩) (block_lt_of_cell HY.out)).trans HY.out; have xHU := (hSw.cell (p := ⟨_, 0, none⟩) (block_lt_of_cell HU.out)).trans HU.out; clear hSw
      (go_simp; try with_reducible rfl)
    simp only [List.setIfInBounds_toArray, List.set_cons_zero, List.set_cons_succ]
    refine wpAnyH_takeAt (i := 1) (d := 6) (v := ?vq124x) rfl rfl (by kernel_rfl) (by kernel_rfl) (by kernel_rfl) (fun _ _ _ h => h) (Or.inl ⟨by rfl, ?hyq124x⟩) hHeld ?_
    case hyq124x =>
      intro W hSw
      clear hSw
      (go_simp; try with_reducible rfl)
    simp only [List.setIfInBounds_toArray, List.set_cons_zero, List.set_cons_succ]
    refine wpAnyH_takeAt (i := 2) (d := 7) (v := ?vq125x) rfl rfl (by kernel_rfl) (by kernel_rfl) (by kernel_rfl) (fun _ _ _ h => h) (Or.inl ⟨by rfl, ?hyq125x⟩) hHeld ?_
    case hyq125x =>
      intro W hSw
      clear hSw
      (go_simp; try with_reducible rfl)
    simp only [List.setIfInBounds_toArray, List.set_cons_zero, List.set_cons_succ]
    refine wpAnyH_takeAt (i := 3) (d := 8) (v := ?vq126x) rfl rfl (by kernel_rfl) (by kernel_rfl) (by kernel_rfl) (fun _ _ _ h => h) (Or.inl ⟨by rfl, ?hyq126x⟩) hHeld ?_
    case hyq126x =>
      intro W hSw
      have hh := HC.out.below hSw; obtain ⟨q0, q1, q2, q3, q4⟩ := hh; have xHY := (hSw.cell (p := ⟨_, 0, none⟩) (block_lt_of_cell HY.out)).trans HY.out; have xHU := (hSw.cell (p := ⟨_, 0, none⟩) (block_lt_of_cell HU.out)).trans HU.out; clear hSw
      (go_simp; try with_reducible rfl)
    simp only [List.setIfInBounds_toArray, List.set_cons_zero, List.set_cons_succ]
    refine wpAnyH_takeAt (i := 4) (d := 9) (v := ?vq127x) rfl rfl (by kernel_rfl) (by kernel_rfl) (by kernel_rfl) (fun _ _ _ h => h) (Or.inl ⟨by rfl, ?hyq127x⟩) hHeld ?_
    case hyq127x =>
      intro W hSw
      have hh := HC.out.below hSw; obtain ⟨q0, q1, q2, q3, q4⟩ := hh; have xHY := (hSw.cell (p := ⟨_, 0, none⟩) (block_lt_of_cell HY.out)).trans HY.out; have xHU := (hSw.cell (p := ⟨_, 0, none⟩) (block_lt_of_cell HU.out)).trans HU.out; clear hSw
      (go_simp; try with_reducible rfl)
    simp only [List.setIfInBounds_toArray, List.set_cons_zero, List.set_cons_succ]
    refine wpAnyH_takeAt (i := 5) (d := 10) (v := ?vq128x) rfl rfl (by kernel_rfl) (by kernel_rfl) (by kernel_rfl) (fun _ _ _ h => h) (Or.inl ⟨by rfl, ?hyq128x⟩) hHeld ?_
    case hyq128x =>
      intro W hSw
      clear hSw
      (go_simp; try with_reducible rfl)
    simp only [List.setIfInBounds_toArray, List.set_cons_zero, List.set_cons_succ]
    refine wpAnyH_takeAt (i := 6) (d := 11) (v := ?vq129x) rfl rfl (by kernel_rfl) (by kernel_rfl) (by kernel_rfl) (fun _ _ _ h => h) (Or.inl ⟨by rfl, ?hyq129x⟩) hHeld ?_
    case hyq129x =>
      intro W hSw
      clear hSw
      (go_simp; try with_reducible rfl)
    simp only [List.setIfInBounds_toArray, List.set_cons_zero, List.set_cons_succ]
    refine wpAnyH_takeAt (i := 7) (d := 12) (v := ?vq130x) rfl rfl (by kernel_rfl) (by kernel_rfl) (by kernel_rfl) (fun _ _ _ h => h) (Or.inl ⟨by rfl, ?hyq130x⟩) hHeld ?_
    case hyq130x =>
      intro W hSw
      clear hSw
      (go_simp; try with_reducible rfl)
    simp only [List.setIfInBounds_toArray, List.set_cons_zero, List.set_cons_succ]
    refine wpAnyH_takeAt (i := 8) (d := 13) (v := ?vq131x) rfl rfl (by kernel_rfl) (by kernel_rfl) (by kernel_rfl) (fun _ _ _ h => h) (Or.inl ⟨by rfl, ?hyq131x⟩) hHeld ?_
    case hyq131x =>
      intro W hSw
      have hh := HC.out.below hSw; obtain ⟨q0, q1, q2, q3, q4⟩ := hh; have xHY := (hSw.cell (p := ⟨_, 0, none⟩) (block_lt_of_cell HY.out)).trans HY.out; have xHU := (hSw.cell (p := ⟨_, 0, none⟩) (block_lt_of_cell HU.out)).trans HU.out; clear hSw
      (go_simp; try with_reducible rfl)
    simp only [List.setIfInBounds_toArray, List.set_cons_zero, List.set_cons_succ]
    refine wpAnyH_ready (rs := [9]) (by kernel_rfl) (by simp) (AllReadyH.cons rfl (fun K hK => ?_) AllReadyH.nil)
    go_simp
    obtain ⟨cs, rv, hMx, -, -⟩ := HM.out.below hHeld
    have ho := hMx.own p (by omega)
    rw [show M.row p = (M.views p).isr by exact if_pos hp] at ho
    obtain ⟨A9, k9, hv9, -⟩ := ints_form ho
    have hs9 := hMx.lay.vw p hp
    rw [hv9] at hs9 ho
    have hq := inStep_any hMx.blk hs9 (ho.rd (X := No) (fun _ _ q => q)) HL.out y
    rw [HD1.out] at hq
    clear hMx ho hv9 hs9
    refine hq.mono ?_
    rintro r V1 ⟨rfl, rfl⟩
    dsimp only
    refine hK.out _ _ hHeld (fun hHeld => ?_)
    clear hK K hq
    try simp only [List.setIfInBounds_toArray, List.set_cons_zero, List.set_cons_succ]
    refine wpAnyH_takeAt (i := 10) (d := 15) (v := ?vq132x) rfl rfl (by kernel_rfl) (by kernel_rfl) (by kernel_rfl) (fun _ _ _ h => h) (Or.inl ⟨by rfl, ?hyq132x⟩) hHeld ?_
    case hyq132x =>
      intro W hSw
      clear hSw
      (go_simp; try with_reducible rfl)
    simp only [List.setIfInBounds_toArray, List.set_cons_zero, List.set_cons_succ]
    refine wpAnyH_takeAt (i := 11) (d := 16) (v := ?vq133x) rfl rfl (by kernel_rfl) (by kernel_rfl) (by kernel_rfl) (fun _ _ _ h => h) (Or.inl ⟨by rfl, ?hyq133x⟩) hHeld ?_
    case hyq133x =>
      intro W hSw
      clear hSw
      (go_simp; try with_reducible rfl)
    simp only [List.setIfInBounds_toArray, List.set_cons_zero, List.set_cons_succ]
    refine wpAnyH_takeAt (i := 12) (d := 4) (v := ?vq134x) rfl rfl (by kernel_rfl) (by kernel_rfl) (by kernel_rfl) (fun _ _ _ h => h) (Or.inl ⟨by rfl, ?hyq134x⟩) hHeld ?_
    case hyq134x =>
      intro W hSw
      clear hSw
      (go_simp; try with_reducible rfl)
    simp only [List.setIfInBounds_toArray, List.set_cons_zero, List.set_cons_succ]
    refine wpAnyH_done (by kernel_rfl) ?_ _
    have HB := Lib.hid hHeld
    clear hHeld
    go_wp2_with fail
    go_ret
    exact ⟨by rw [HF.out]; rfl, HB.out⟩
set_option maxRecDepth 100000 in
set_option maxHeartbeats 2000000 in
theorem arg86_any (h : Cap w bm bi g a b c x) (ha : 0 ≤ a ∧ a ≤ 1000000) (hs : w.cell? ⟨bs, 0, none⟩ = some (.slice A n k)) (hr : Rd w X 1 A n (intsOf I)) (hn : n ≤ 1000000) (hy : w.cell? ⟨be, 0, none⟩ = some (.int .i64 y)) : Calls Tryz.prog 86 #[.pointer (some ⟨bm, 0, none⟩), .pointer (some ⟨bi, 0, none⟩), .pointer (some ⟨bs, 0, none⟩), .pointer (some ⟨be, 0, none⟩)] w fun r w' => r = .returned (.bool (!decide ((0 ≤ x ∧ x < b) ∧ Rise I a ∧ y ∈ I))) ∧ Below w.heap.size w w' := by
  have HC := Lib.hid h
  have HS := Lib.hid hs
  have HR := Lib.hid hr
  have HY := Lib.hid hy
  have HA := Lib.hid (And.intro ha hn)
  clear h hs hr hy ha hn
  obtain ⟨d1, hd1⟩ : ∃ d, decide (0 ≤ x ∧ x < b) = d := ⟨_, rfl⟩
  obtain ⟨d2, hd2⟩ : ∃ d, decide (I ≠ [] ∧ Rise I a) = d := ⟨_, rfl⟩
  obtain ⟨d3, hd3⟩ : ∃ d, decide (y ∈ I) = d := ⟨_, rfl⟩
  have HF : Hid (decide ((0 ≤ x ∧ x < b) ∧ Rise I a ∧ y ∈ I) = (d1 && (d2 && d3))) := Lib.hid (by
    rw [← hd1, ← hd2, ← hd3, ← Bool.decide_and, ← Bool.decide_and]
    have key : ((0 ≤ x ∧ x < b) ∧ Rise I a ∧ y ∈ I) ↔ ((0 ≤ x ∧ x < b) ∧ (I ≠ [] ∧ Rise I a) ∧ y ∈ I) := by
      constructor
      · rintro ⟨k1, k2, k3⟩
        exact ⟨k1, ⟨List.ne_nil_of_mem k3, k2⟩, k3⟩
      · rintro ⟨k1, ⟨-, k2⟩, k3⟩
        exact ⟨k1, k2, k3⟩
    exact decide_eq_decide.2 key)
  have HD1 := Lib.hid hd1
  have HD2 := Lib.hid hd2
  have HD3 := Lib.hid hd3
  clear hd1 hd2 hd3
  go_enter Tryz.func86, Tryz.ntmps86
  go_upto_region 1 with fail
  refine wp_region_np ?_
  refine wp_region_held_drew (S := fun W => Below w.heap.size w W) (by kernel_rfl) (show Below w.heap.size w w.drew from (Below.refl _ _).drew) (fun hHeld => ?_)
  generalize hv0 : w.drew = V0 at *
  clear hv0
  cases d1 with
  | false =>
    refine wpAnyH_takeAt (i := 0) (d := 5) (v := ?vq135x) rfl rfl (by kernel_rfl) (by kernel_rfl) (by kernel_rfl) (fun _ _ _ h => h) (Or.inl ⟨by rfl, ?hyq135x⟩) hHeld ?_
    case hyq135x =>
      intro W hSw
      have hh := HC.out.below hSw; obtain ⟨q0, q1, q2, q3, q4⟩ := hh; have xHY := (hSw.cell (p := ⟨_, 0, none⟩) (block_lt_of_cell HY.out)).trans HY.out; have xHS := (hSw.cell (p := ⟨_, 0, none⟩) (block_lt_of_cell HS.out)).trans HS.out; clear hSw
      (go_simp; try with_reducible rfl)
    simp only [List.setIfInBounds_toArray, List.set_cons_zero, List.set_cons_succ]
    refine wpAnyH_takeAt (i := 1) (d := 6) (v := ?vq136x) rfl rfl (by kernel_rfl) (by kernel_rfl) (by kernel_rfl) (fun _ _ _ h => h) (Or.inl ⟨by rfl, ?hyq136x⟩) hHeld ?_
    case hyq136x =>
      intro W hSw
      clear hSw
      (go_simp; try with_reducible rfl)
    simp only [List.setIfInBounds_toArray, List.set_cons_zero, List.set_cons_succ]
    refine wpAnyH_takeAt (i := 2) (d := 7) (v := ?vq137x) rfl rfl (by kernel_rfl) (by kernel_rfl) (by kernel_rfl) (fun _ _ _ h => h) (Or.inl ⟨by rfl, ?hyq137x⟩) hHeld ?_
    case hyq137x =>
      intro W hSw
      clear hSw
      (go_simp; try with_reducible rfl)
    simp only [List.setIfInBounds_toArray, List.set_cons_zero, List.set_cons_succ]
    refine wpAnyH_takeAt (i := 3) (d := 8) (v := ?vq138x) rfl rfl (by kernel_rfl) (by kernel_rfl) (by kernel_rfl) (fun _ _ _ h => h) (Or.inl ⟨by rfl, ?hyq138x⟩) hHeld ?_
    case hyq138x =>
      intro W hSw
      have hh := HC.out.below hSw; obtain ⟨q0, q1, q2, q3, q4⟩ := hh; have xHY := (hSw.cell (p := ⟨_, 0, none⟩) (block_lt_of_cell HY.out)).trans HY.out; have xHS := (hSw.cell (p := ⟨_, 0, none⟩) (block_lt_of_cell HS.out)).trans HS.out; clear hSw
      (go_simp; try with_reducible rfl)
    simp only [List.setIfInBounds_toArray, List.set_cons_zero, List.set_cons_succ]
    refine wpAnyH_takeAt (i := 4) (d := 9) (v := ?vq139x) rfl rfl (by kernel_rfl) (by kernel_rfl) (by kernel_rfl) (fun _ _ _ h => h) (Or.inl ⟨by rfl, ?hyq139x⟩) hHeld ?_
    case hyq139x =>
      intro W hSw
      have hh := HC.out.below hSw; obtain ⟨q0, q1, q2, q3, q4⟩ := hh; have xHY := (hSw.cell (p := ⟨_, 0, none⟩) (block_lt_of_cell HY.out)).trans HY.out; have xHS := (hSw.cell (p := ⟨_, 0, none⟩) (block_lt_of_cell HS.out)).trans HS.out; clear hSw
      (go_simp; try with_reducible rfl)
    simp only [List.setIfInBounds_toArray, List.set_cons_zero, List.set_cons_succ]
    refine wpAnyH_ready (rs := [5]) (by kernel_rfl) (by simp) (AllReadyH.cons rfl (fun K hK => ?_) AllReadyH.nil)
    go_simp
    have hq := hasPart_any V0 a b c x
    unfold frm at hq
    rw [HD1.out] at hq
    refine hq.mono ?_
    rintro r V1 ⟨rfl, hb1⟩
    dsimp only
    refine hK.out _ _ (hHeld.trans (hb1.mono hHeld.size)) (fun hHeld => ?_)
    clear hK K hq hb1
    try simp only [List.setIfInBounds_toArray, List.set_cons_zero, List.set_cons_succ]
    refine wpAnyH_takeAt (i := 6) (d := 11) (v := ?vq140x) rfl rfl (by kernel_rfl) (by kernel_rfl) (by kernel_rfl) (fun _ _ _ h => h) (Or.inl ⟨by rfl, ?hyq140x⟩) hHeld ?_
    case hyq140x =>
      intro W hSw
      clear hSw
      (go_simp; try with_reducible rfl)
    simp only [List.setIfInBounds_toArray, List.set_cons_zero, List.set_cons_succ]
    refine wpAnyH_takeAt (i := 7) (d := 12) (v := ?vq141x) rfl rfl (by kernel_rfl) (by kernel_rfl) (by kernel_rfl) (fun _ _ _ h => h) (Or.inl ⟨by rfl, ?hyq141x⟩) hHeld ?_
    case hyq141x =>
      intro W hSw
      clear hSw
      (go_simp; try with_reducible rfl)
    simp only [List.setIfInBounds_toArray, List.set_cons_zero, List.set_cons_succ]
    refine wpAnyH_takeAt (i := 8) (d := 13) (v := undef) rfl rfl (by kernel_rfl) (by kernel_rfl) (by kernel_rfl) (fun _ _ _ h => h) (Or.inr ⟨by rfl, rfl⟩) hHeld ?_
    simp only [List.setIfInBounds_toArray, List.set_cons_zero, List.set_cons_succ]
    refine wpAnyH_takeAt (i := 9) (d := 14) (v := undef) rfl rfl (by kernel_rfl) (by kernel_rfl) (by kernel_rfl) (fun _ _ _ h => h) (Or.inr ⟨by rfl, rfl⟩) hHeld ?_
    simp only [List.setIfInBounds_toArray, List.set_cons_zero, List.set_cons_succ]
    refine wpAnyH_takeAt (i := 10) (d := 15) (v := undef) rfl rfl (by kernel_rfl) (by kernel_rfl) (by kernel_rfl) (fun _ _ _ h => h) (Or.inr ⟨by rfl, rfl⟩) hHeld ?_
    simp only [List.setIfInBounds_toArray, List.set_cons_zero, List.set_cons_succ]
    refine wpAnyH_takeAt (i := 11) (d := 16) (v := undef) rfl rfl (by kernel_rfl) (by kernel_rfl) (by kernel_rfl) (fun _ _ _ h => h) (Or.inr ⟨by rfl, rfl⟩) hHeld ?_
    simp only [List.setIfInBounds_toArray, List.set_cons_zero, List.set_cons_succ]
    refine wpAnyH_takeAt (i := 12) (d := 17) (v := undef) rfl rfl (by kernel_rfl) (by kernel_rfl) (by kernel_rfl) (fun _ _ _ h => h) (Or.inr ⟨by rfl, rfl⟩) hHeld ?_
    simp only [List.setIfInBounds_toArray, List.set_cons_zero, List.set_cons_succ]
    refine wpAnyH_takeAt (i := 13) (d := 18) (v := undef) rfl rfl (by kernel_rfl) (by kernel_rfl) (by kernel_rfl) (fun _ _ _ h => h) (Or.inr ⟨by rfl, rfl⟩) hHeld ?_
    simp only [List.setIfInBounds_toArray, List.set_cons_zero, List.set_cons_succ]
    refine wpAnyH_takeAt (i := 14) (d := 19) (v := undef) rfl rfl (by kernel_rfl) (by kernel_rfl) (by kernel_rfl) (fun _ _ _ h => h) (Or.inr ⟨by rfl, rfl⟩) hHeld ?_
    simp only [List.setIfInBounds_toArray, List.set_cons_zero, List.set_cons_succ]
    refine wpAnyH_takeAt (i := 15) (d := 20) (v := ?vq142x) rfl rfl (by kernel_rfl) (by kernel_rfl) (by kernel_rfl) (fun _ _ _ h => h) (Or.inl ⟨by rfl, ?hyq142x⟩) hHeld ?_
    case hyq142x =>
      intro W hSw
      clear hSw
      (go_simp; try with_reducible rfl)
    simp only [List.setIfInBounds_toArray, List.set_cons_zero, List.set_cons_succ]
    refine wpAnyH_takeAt (i := 16) (d := 21) (v := ?vq143x) rfl rfl (by kernel_rfl) (by kernel_rfl) (by kernel_rfl) (fun _ _ _ h => h) (Or.inl ⟨by rfl, ?hyq143x⟩) hHeld ?_
    case hyq143x =>
      intro W hSw
      clear hSw
      (go_simp; try with_reducible rfl)
    simp only [List.setIfInBounds_toArray, List.set_cons_zero, List.set_cons_succ]
    refine wpAnyH_takeAt (i := 17) (d := 22) (v := undef) rfl rfl (by kernel_rfl) (by kernel_rfl) (by kernel_rfl) (fun _ _ _ h => h) (Or.inr ⟨by rfl, rfl⟩) hHeld ?_
    simp only [List.setIfInBounds_toArray, List.set_cons_zero, List.set_cons_succ]
    refine wpAnyH_takeAt (i := 18) (d := 23) (v := undef) rfl rfl (by kernel_rfl) (by kernel_rfl) (by kernel_rfl) (fun _ _ _ h => h) (Or.inr ⟨by rfl, rfl⟩) hHeld ?_
    simp only [List.setIfInBounds_toArray, List.set_cons_zero, List.set_cons_succ]
    refine wpAnyH_takeAt (i := 19) (d := 24) (v := undef) rfl rfl (by kernel_rfl) (by kernel_rfl) (by kernel_rfl) (fun _ _ _ h => h) (Or.inr ⟨by rfl, rfl⟩) hHeld ?_
    simp only [List.setIfInBounds_toArray, List.set_cons_zero, List.set_cons_succ]
    refine wpAnyH_takeAt (i := 20) (d := 25) (v := undef) rfl rfl (by kernel_rfl) (by kernel_rfl) (by kernel_rfl) (fun _ _ _ h => h) (Or.inr ⟨by rfl, rfl⟩) hHeld ?_
    simp only [List.setIfInBounds_toArray, List.set_cons_zero, List.set_cons_succ]
    refine wpAnyH_takeAt (i := 21) (d := 26) (v := ?vq144x) rfl rfl (by kernel_rfl) (by kernel_rfl) (by kernel_rfl) (fun _ _ _ h => h) (Or.inl ⟨by rfl, ?hyq144x⟩) hHeld ?_
    case hyq144x =>
      intro W hSw
      clear hSw
      (go_simp; try with_reducible rfl)
    simp only [List.setIfInBounds_toArray, List.set_cons_zero, List.set_cons_succ]
    refine wpAnyH_takeAt (i := 22) (d := 4) (v := ?vq145x) rfl rfl (by kernel_rfl) (by kernel_rfl) (by kernel_rfl) (fun _ _ _ h => h) (Or.inl ⟨by rfl, ?hyq145x⟩) hHeld ?_
    case hyq145x =>
      intro W hSw
      clear hSw
      (go_simp; try with_reducible rfl)
    simp only [List.setIfInBounds_toArray, List.set_cons_zero, List.set_cons_succ]
    refine wpAnyH_done (by kernel_rfl) ?_ _
    have HB := Lib.hid hHeld
    clear hHeld
    go_wp2_with fail
    go_ret
    exact ⟨by rw [HF.out]; rfl, HB.out⟩
  | true =>
    cases d2 with
    | false =>
      refine wpAnyH_takeAt (i := 0) (d := 5) (v := ?vq146x) rfl rfl (by kernel_rfl) (by kernel_rfl) (by kernel_rfl) (fun _ _ _ h => h) (Or.inl ⟨by rfl, ?hyq146x⟩) hHeld ?_
      case hyq146x =>
        intro W hSw
        have hh := HC.out.below hSw; obtain ⟨q0, q1, q2, q3, q4⟩ := hh; have xHY := (hSw.cell (p := ⟨_, 0, none⟩) (block_lt_of_cell HY.out)).trans HY.out; have xHS := (hSw.cell (p := ⟨_, 0, none⟩) (block_lt_of_cell HS.out)).trans HS.out; clear hSw
        (go_simp; try with_reducible rfl)
      simp only [List.setIfInBounds_toArray, List.set_cons_zero, List.set_cons_succ]
      refine wpAnyH_takeAt (i := 1) (d := 6) (v := ?vq147x) rfl rfl (by kernel_rfl) (by kernel_rfl) (by kernel_rfl) (fun _ _ _ h => h) (Or.inl ⟨by rfl, ?hyq147x⟩) hHeld ?_
      case hyq147x =>
        intro W hSw
        clear hSw
        (go_simp; try with_reducible rfl)
      simp only [List.setIfInBounds_toArray, List.set_cons_zero, List.set_cons_succ]
      refine wpAnyH_takeAt (i := 2) (d := 7) (v := ?vq148x) rfl rfl (by kernel_rfl) (by kernel_rfl) (by kernel_rfl) (fun _ _ _ h => h) (Or.inl ⟨by rfl, ?hyq148x⟩) hHeld ?_
      case hyq148x =>
        intro W hSw
        clear hSw
        (go_simp; try with_reducible rfl)
      simp only [List.setIfInBounds_toArray, List.set_cons_zero, List.set_cons_succ]
      refine wpAnyH_takeAt (i := 3) (d := 8) (v := ?vq149x) rfl rfl (by kernel_rfl) (by kernel_rfl) (by kernel_rfl) (fun _ _ _ h => h) (Or.inl ⟨by rfl, ?hyq149x⟩) hHeld ?_
      case hyq149x =>
        intro W hSw
        have hh := HC.out.below hSw; obtain ⟨q0, q1, q2, q3, q4⟩ := hh; have xHY := (hSw.cell (p := ⟨_, 0, none⟩) (block_lt_of_cell HY.out)).trans HY.out; have xHS := (hSw.cell (p := ⟨_, 0, none⟩) (block_lt_of_cell HS.out)).trans HS.out; clear hSw
        (go_simp; try with_reducible rfl)
      simp only [List.setIfInBounds_toArray, List.set_cons_zero, List.set_cons_succ]
      refine wpAnyH_takeAt (i := 4) (d := 9) (v := ?vq150x) rfl rfl (by kernel_rfl) (by kernel_rfl) (by kernel_rfl) (fun _ _ _ h => h) (Or.inl ⟨by rfl, ?hyq150x⟩) hHeld ?_
      case hyq150x =>
        intro W hSw
        have hh := HC.out.below hSw; obtain ⟨q0, q1, q2, q3, q4⟩ := hh; have xHY := (hSw.cell (p := ⟨_, 0, none⟩) (block_lt_of_cell HY.out)).trans HY.out; have xHS := (hSw.cell (p := ⟨_, 0, none⟩) (block_lt_of_cell HS.out)).trans HS.out; clear hSw
        (go_simp; try with_reducible rfl)
      simp only [List.setIfInBounds_toArray, List.set_cons_zero, List.set_cons_succ]
      refine wpAnyH_ready (rs := [5]) (by kernel_rfl) (by simp) (AllReadyH.cons rfl (fun K hK => ?_) AllReadyH.nil)
      go_simp
      have hq := hasPart_any V0 a b c x
      unfold frm at hq
      rw [HD1.out] at hq
      refine hq.mono ?_
      rintro r V1 ⟨rfl, hb1⟩
      dsimp only
      refine hK.out _ _ (hHeld.trans (hb1.mono hHeld.size)) (fun hHeld => ?_)
      clear hK K hq hb1
      try simp only [List.setIfInBounds_toArray, List.set_cons_zero, List.set_cons_succ]
      refine wpAnyH_takeAt (i := 6) (d := 11) (v := ?vq151x) rfl rfl (by kernel_rfl) (by kernel_rfl) (by kernel_rfl) (fun _ _ _ h => h) (Or.inl ⟨by rfl, ?hyq151x⟩) hHeld ?_
      case hyq151x =>
        intro W hSw
        clear hSw
        (go_simp; try with_reducible rfl)
      simp only [List.setIfInBounds_toArray, List.set_cons_zero, List.set_cons_succ]
      refine wpAnyH_takeAt (i := 7) (d := 12) (v := ?vq152x) rfl rfl (by kernel_rfl) (by kernel_rfl) (by kernel_rfl) (fun _ _ _ h => h) (Or.inl ⟨by rfl, ?hyq152x⟩) hHeld ?_
      case hyq152x =>
        intro W hSw
        clear hSw
        (go_simp; try with_reducible rfl)
      simp only [List.setIfInBounds_toArray, List.set_cons_zero, List.set_cons_succ]
      refine wpAnyH_takeAt (i := 8) (d := 13) (v := ?vq153x) rfl rfl (by kernel_rfl) (by kernel_rfl) (by kernel_rfl) (fun _ _ _ h => h) (Or.inl ⟨by rfl, ?hyq153x⟩) hHeld ?_
      case hyq153x =>
        intro W hSw
        have hh := HC.out.below hSw; obtain ⟨q0, q1, q2, q3, q4⟩ := hh; have xHY := (hSw.cell (p := ⟨_, 0, none⟩) (block_lt_of_cell HY.out)).trans HY.out; have xHS := (hSw.cell (p := ⟨_, 0, none⟩) (block_lt_of_cell HS.out)).trans HS.out; clear hSw
        (go_simp; try with_reducible rfl)
      simp only [List.setIfInBounds_toArray, List.set_cons_zero, List.set_cons_succ]
      refine wpAnyH_takeAt (i := 9) (d := 14) (v := ?vq154x) rfl rfl (by kernel_rfl) (by kernel_rfl) (by kernel_rfl) (fun _ _ _ h => h) (Or.inl ⟨by rfl, ?hyq154x⟩) hHeld ?_
      case hyq154x =>
        intro W hSw
        clear hSw
        (go_simp; try with_reducible rfl)
      simp only [List.setIfInBounds_toArray, List.set_cons_zero, List.set_cons_succ]
      refine wpAnyH_takeAt (i := 10) (d := 15) (v := ?vq155x) rfl rfl (by kernel_rfl) (by kernel_rfl) (by kernel_rfl) (fun _ _ _ h => h) (Or.inl ⟨by rfl, ?hyq155x⟩) hHeld ?_
      case hyq155x =>
        intro W hSw
        clear hSw
        (go_simp; try with_reducible rfl)
      simp only [List.setIfInBounds_toArray, List.set_cons_zero, List.set_cons_succ]
      refine wpAnyH_takeAt (i := 11) (d := 16) (v := ?vq156x) rfl rfl (by kernel_rfl) (by kernel_rfl) (by kernel_rfl) (fun _ _ _ h => h) (Or.inl ⟨by rfl, ?hyq156x⟩) hHeld ?_
      case hyq156x =>
        intro W hSw
        have hh := HC.out.below hSw; obtain ⟨q0, q1, q2, q3, q4⟩ := hh; have xHY := (hSw.cell (p := ⟨_, 0, none⟩) (block_lt_of_cell HY.out)).trans HY.out; have xHS := (hSw.cell (p := ⟨_, 0, none⟩) (block_lt_of_cell HS.out)).trans HS.out; clear hSw
        (go_simp; try with_reducible rfl)
      simp only [List.setIfInBounds_toArray, List.set_cons_zero, List.set_cons_succ]
      refine wpAnyH_takeAt (i := 12) (d := 17) (v := ?vq157x) rfl rfl (by kernel_rfl) (by kernel_rfl) (by kernel_rfl) (fun _ _ _ h => h) (Or.inl ⟨by rfl, ?hyq157x⟩) hHeld ?_
      case hyq157x =>
        intro W hSw
        have hh := HC.out.below hSw; obtain ⟨q0, q1, q2, q3, q4⟩ := hh; have xHY := (hSw.cell (p := ⟨_, 0, none⟩) (block_lt_of_cell HY.out)).trans HY.out; have xHS := (hSw.cell (p := ⟨_, 0, none⟩) (block_lt_of_cell HS.out)).trans HS.out; clear hSw
        (go_simp; try with_reducible rfl)
      simp only [List.setIfInBounds_toArray, List.set_cons_zero, List.set_cons_succ]
      refine wpAnyH_ready (rs := [13]) (by kernel_rfl) (by simp) (AllReadyH.cons rfl (fun K hK => ?_) AllReadyH.nil)
      go_simp
      have hq := areBrokers_any (k := k) (HR.out.below hHeld) HA.out.2 a b c HA.out.1
      unfold frm at hq
      refine hq.mono ?_
      rintro r V2 ⟨d9, rfl, hd9, hb1⟩
      have e9 : d9 = false := by
        have := HD2.out
        rw [← this]
        cases d9 with
        | true => exact (decide_eq_true (hd9.1 rfl)).symm
        | false => exact (decide_eq_false (fun q => nomatch hd9.2 q)).symm
      subst e9
      dsimp only
      refine hK.out _ _ (hHeld.trans (hb1.mono hHeld.size)) (fun hHeld => ?_)
      clear hK K hq hb1 hd9
      try simp only [List.setIfInBounds_toArray, List.set_cons_zero, List.set_cons_succ]
      refine wpAnyH_takeAt (i := 14) (d := 19) (v := ?vq158x) rfl rfl (by kernel_rfl) (by kernel_rfl) (by kernel_rfl) (fun _ _ _ h => h) (Or.inl ⟨by rfl, ?hyq158x⟩) hHeld ?_
      case hyq158x =>
        intro W hSw
        clear hSw
        (go_simp; try with_reducible rfl)
      simp only [List.setIfInBounds_toArray, List.set_cons_zero, List.set_cons_succ]
      refine wpAnyH_takeAt (i := 15) (d := 20) (v := ?vq159x) rfl rfl (by kernel_rfl) (by kernel_rfl) (by kernel_rfl) (fun _ _ _ h => h) (Or.inl ⟨by rfl, ?hyq159x⟩) hHeld ?_
      case hyq159x =>
        intro W hSw
        clear hSw
        (go_simp; try with_reducible rfl)
      simp only [List.setIfInBounds_toArray, List.set_cons_zero, List.set_cons_succ]
      refine wpAnyH_takeAt (i := 16) (d := 21) (v := ?vq160x) rfl rfl (by kernel_rfl) (by kernel_rfl) (by kernel_rfl) (fun _ _ _ h => h) (Or.inl ⟨by rfl, ?hyq160x⟩) hHeld ?_
      case hyq160x =>
        intro W hSw
        clear hSw
        (go_simp; try with_reducible rfl)
      simp only [List.setIfInBounds_toArray, List.set_cons_zero, List.set_cons_succ]
      refine wpAnyH_takeAt (i := 17) (d := 22) (v := undef) rfl rfl (by kernel_rfl) (by kernel_rfl) (by kernel_rfl) (fun _ _ _ h => h) (Or.inr ⟨by rfl, rfl⟩) hHeld ?_
      simp only [List.setIfInBounds_toArray, List.set_cons_zero, List.set_cons_succ]
      refine wpAnyH_takeAt (i := 18) (d := 23) (v := undef) rfl rfl (by kernel_rfl) (by kernel_rfl) (by kernel_rfl) (fun _ _ _ h => h) (Or.inr ⟨by rfl, rfl⟩) hHeld ?_
      simp only [List.setIfInBounds_toArray, List.set_cons_zero, List.set_cons_succ]
      refine wpAnyH_takeAt (i := 19) (d := 24) (v := undef) rfl rfl (by kernel_rfl) (by kernel_rfl) (by kernel_rfl) (fun _ _ _ h => h) (Or.inr ⟨by rfl, rfl⟩) hHeld ?_
      simp only [List.setIfInBounds_toArray, List.set_cons_zero, List.set_cons_succ]
      refine wpAnyH_takeAt (i := 20) (d := 25) (v := undef) rfl rfl (by kernel_rfl) (by kernel_rfl) (by kernel_rfl) (fun _ _ _ h => h) (Or.inr ⟨by rfl, rfl⟩) hHeld ?_
      simp only [List.setIfInBounds_toArray, List.set_cons_zero, List.set_cons_succ]
      refine wpAnyH_takeAt (i := 21) (d := 26) (v := ?vq161x) rfl rfl (by kernel_rfl) (by kernel_rfl) (by kernel_rfl) (fun _ _ _ h => h) (Or.inl ⟨by rfl, ?hyq161x⟩) hHeld ?_
      case hyq161x =>
        intro W hSw
        clear hSw
        (go_simp; try with_reducible rfl)
      simp only [List.setIfInBounds_toArray, List.set_cons_zero, List.set_cons_succ]
      refine wpAnyH_takeAt (i := 22) (d := 4) (v := ?vq162x) rfl rfl (by kernel_rfl) (by kernel_rfl) (by kernel_rfl) (fun _ _ _ h => h) (Or.inl ⟨by rfl, ?hyq162x⟩) hHeld ?_
      case hyq162x =>
        intro W hSw
        clear hSw
        (go_simp; try with_reducible rfl)
      simp only [List.setIfInBounds_toArray, List.set_cons_zero, List.set_cons_succ]
      refine wpAnyH_done (by kernel_rfl) ?_ _
      have HB := Lib.hid hHeld
      clear hHeld
      go_wp2_with fail
      go_ret
      exact ⟨by rw [HF.out]; rfl, HB.out⟩
    | true =>
      refine wpAnyH_takeAt (i := 0) (d := 5) (v := ?vq163x) rfl rfl (by kernel_rfl) (by kernel_rfl) (by kernel_rfl) (fun _ _ _ h => h) (Or.inl ⟨by rfl, ?hyq163x⟩) hHeld ?_
      case hyq163x =>
        intro W hSw
        have hh := HC.out.below hSw; obtain ⟨q0, q1, q2, q3, q4⟩ := hh; have xHY := (hSw.cell (p := ⟨_, 0, none⟩) (block_lt_of_cell HY.out)).trans HY.out; have xHS := (hSw.cell (p := ⟨_, 0, none⟩) (block_lt_of_cell HS.out)).trans HS.out; clear hSw
        (go_simp; try with_reducible rfl)
      simp only [List.setIfInBounds_toArray, List.set_cons_zero, List.set_cons_succ]
      refine wpAnyH_takeAt (i := 1) (d := 6) (v := ?vq164x) rfl rfl (by kernel_rfl) (by kernel_rfl) (by kernel_rfl) (fun _ _ _ h => h) (Or.inl ⟨by rfl, ?hyq164x⟩) hHeld ?_
      case hyq164x =>
        intro W hSw
        clear hSw
        (go_simp; try with_reducible rfl)
      simp only [List.setIfInBounds_toArray, List.set_cons_zero, List.set_cons_succ]
      refine wpAnyH_takeAt (i := 2) (d := 7) (v := ?vq165x) rfl rfl (by kernel_rfl) (by kernel_rfl) (by kernel_rfl) (fun _ _ _ h => h) (Or.inl ⟨by rfl, ?hyq165x⟩) hHeld ?_
      case hyq165x =>
        intro W hSw
        clear hSw
        (go_simp; try with_reducible rfl)
      simp only [List.setIfInBounds_toArray, List.set_cons_zero, List.set_cons_succ]
      refine wpAnyH_takeAt (i := 3) (d := 8) (v := ?vq166x) rfl rfl (by kernel_rfl) (by kernel_rfl) (by kernel_rfl) (fun _ _ _ h => h) (Or.inl ⟨by rfl, ?hyq166x⟩) hHeld ?_
      case hyq166x =>
        intro W hSw
        have hh := HC.out.below hSw; obtain ⟨q0, q1, q2, q3, q4⟩ := hh; have xHY := (hSw.cell (p := ⟨_, 0, none⟩) (block_lt_of_cell HY.out)).trans HY.out; have xHS := (hSw.cell (p := ⟨_, 0, none⟩) (block_lt_of_cell HS.out)).trans HS.out; clear hSw
        (go_simp; try with_reducible rfl)
      simp only [List.setIfInBounds_toArray, List.set_cons_zero, List.set_cons_succ]
      refine wpAnyH_takeAt (i := 4) (d := 9) (v := ?vq167x) rfl rfl (by kernel_rfl) (by kernel_rfl) (by kernel_rfl) (fun _ _ _ h => h) (Or.inl ⟨by rfl, ?hyq167x⟩) hHeld ?_
      case hyq167x =>
        intro W hSw
        have hh := HC.out.below hSw; obtain ⟨q0, q1, q2, q3, q4⟩ := hh; have xHY := (hSw.cell (p := ⟨_, 0, none⟩) (block_lt_of_cell HY.out)).trans HY.out; have xHS := (hSw.cell (p := ⟨_, 0, none⟩) (block_lt_of_cell HS.out)).trans HS.out; clear hSw
        (go_simp; try with_reducible rfl)
      simp only [List.setIfInBounds_toArray, List.set_cons_zero, List.set_cons_succ]
      refine wpAnyH_ready (rs := [5]) (by kernel_rfl) (by simp) (AllReadyH.cons rfl (fun K hK => ?_) AllReadyH.nil)
      go_simp
      have hq := hasPart_any V0 a b c x
      unfold frm at hq
      rw [HD1.out] at hq
      refine hq.mono ?_
      rintro r V1 ⟨rfl, hb1⟩
      dsimp only
      refine hK.out _ _ (hHeld.trans (hb1.mono hHeld.size)) (fun hHeld => ?_)
      clear hK K hq hb1
      try simp only [List.setIfInBounds_toArray, List.set_cons_zero, List.set_cons_succ]
      refine wpAnyH_takeAt (i := 6) (d := 11) (v := ?vq168x) rfl rfl (by kernel_rfl) (by kernel_rfl) (by kernel_rfl) (fun _ _ _ h => h) (Or.inl ⟨by rfl, ?hyq168x⟩) hHeld ?_
      case hyq168x =>
        intro W hSw
        clear hSw
        (go_simp; try with_reducible rfl)
      simp only [List.setIfInBounds_toArray, List.set_cons_zero, List.set_cons_succ]
      refine wpAnyH_takeAt (i := 7) (d := 12) (v := ?vq169x) rfl rfl (by kernel_rfl) (by kernel_rfl) (by kernel_rfl) (fun _ _ _ h => h) (Or.inl ⟨by rfl, ?hyq169x⟩) hHeld ?_
      case hyq169x =>
        intro W hSw
        clear hSw
        (go_simp; try with_reducible rfl)
      simp only [List.setIfInBounds_toArray, List.set_cons_zero, List.set_cons_succ]
      refine wpAnyH_takeAt (i := 8) (d := 13) (v := ?vq170x) rfl rfl (by kernel_rfl) (by kernel_rfl) (by kernel_rfl) (fun _ _ _ h => h) (Or.inl ⟨by rfl, ?hyq170x⟩) hHeld ?_
      case hyq170x =>
        intro W hSw
        have hh := HC.out.below hSw; obtain ⟨q0, q1, q2, q3, q4⟩ := hh; have xHY := (hSw.cell (p := ⟨_, 0, none⟩) (block_lt_of_cell HY.out)).trans HY.out; have xHS := (hSw.cell (p := ⟨_, 0, none⟩) (block_lt_of_cell HS.out)).trans HS.out; clear hSw
        (go_simp; try with_reducible rfl)
      simp only [List.setIfInBounds_toArray, List.set_cons_zero, List.set_cons_succ]
      refine wpAnyH_takeAt (i := 9) (d := 14) (v := ?vq171x) rfl rfl (by kernel_rfl) (by kernel_rfl) (by kernel_rfl) (fun _ _ _ h => h) (Or.inl ⟨by rfl, ?hyq171x⟩) hHeld ?_
      case hyq171x =>
        intro W hSw
        clear hSw
        (go_simp; try with_reducible rfl)
      simp only [List.setIfInBounds_toArray, List.set_cons_zero, List.set_cons_succ]
      refine wpAnyH_takeAt (i := 10) (d := 15) (v := ?vq172x) rfl rfl (by kernel_rfl) (by kernel_rfl) (by kernel_rfl) (fun _ _ _ h => h) (Or.inl ⟨by rfl, ?hyq172x⟩) hHeld ?_
      case hyq172x =>
        intro W hSw
        clear hSw
        (go_simp; try with_reducible rfl)
      simp only [List.setIfInBounds_toArray, List.set_cons_zero, List.set_cons_succ]
      refine wpAnyH_takeAt (i := 11) (d := 16) (v := ?vq173x) rfl rfl (by kernel_rfl) (by kernel_rfl) (by kernel_rfl) (fun _ _ _ h => h) (Or.inl ⟨by rfl, ?hyq173x⟩) hHeld ?_
      case hyq173x =>
        intro W hSw
        have hh := HC.out.below hSw; obtain ⟨q0, q1, q2, q3, q4⟩ := hh; have xHY := (hSw.cell (p := ⟨_, 0, none⟩) (block_lt_of_cell HY.out)).trans HY.out; have xHS := (hSw.cell (p := ⟨_, 0, none⟩) (block_lt_of_cell HS.out)).trans HS.out; clear hSw
        (go_simp; try with_reducible rfl)
      simp only [List.setIfInBounds_toArray, List.set_cons_zero, List.set_cons_succ]
      refine wpAnyH_takeAt (i := 12) (d := 17) (v := ?vq174x) rfl rfl (by kernel_rfl) (by kernel_rfl) (by kernel_rfl) (fun _ _ _ h => h) (Or.inl ⟨by rfl, ?hyq174x⟩) hHeld ?_
      case hyq174x =>
        intro W hSw
        have hh := HC.out.below hSw; obtain ⟨q0, q1, q2, q3, q4⟩ := hh; have xHY := (hSw.cell (p := ⟨_, 0, none⟩) (block_lt_of_cell HY.out)).trans HY.out; have xHS := (hSw.cell (p := ⟨_, 0, none⟩) (block_lt_of_cell HS.out)).trans HS.out; clear hSw
        (go_simp; try with_reducible rfl)
      simp only [List.setIfInBounds_toArray, List.set_cons_zero, List.set_cons_succ]
      refine wpAnyH_ready (rs := [13]) (by kernel_rfl) (by simp) (AllReadyH.cons rfl (fun K hK => ?_) AllReadyH.nil)
      go_simp
      have hq := areBrokers_any (k := k) (HR.out.below hHeld) HA.out.2 a b c HA.out.1
      unfold frm at hq
      refine hq.mono ?_
      rintro r V2 ⟨d9, rfl, hd9, hb1⟩
      have e9 : d9 = true := by
        have := HD2.out
        rw [← this]
        cases d9 with
        | true => exact (decide_eq_true (hd9.1 rfl)).symm
        | false => exact (decide_eq_false (fun q => nomatch hd9.2 q)).symm
      subst e9
      dsimp only
      refine hK.out _ _ (hHeld.trans (hb1.mono hHeld.size)) (fun hHeld => ?_)
      clear hK K hq hb1 hd9
      try simp only [List.setIfInBounds_toArray, List.set_cons_zero, List.set_cons_succ]
      refine wpAnyH_takeAt (i := 14) (d := 19) (v := ?vq175x) rfl rfl (by kernel_rfl) (by kernel_rfl) (by kernel_rfl) (fun _ _ _ h => h) (Or.inl ⟨by rfl, ?hyq175x⟩) hHeld ?_
      case hyq175x =>
        intro W hSw
        clear hSw
        (go_simp; try with_reducible rfl)
      simp only [List.setIfInBounds_toArray, List.set_cons_zero, List.set_cons_succ]
      refine wpAnyH_takeAt (i := 15) (d := 20) (v := ?vq176x) rfl rfl (by kernel_rfl) (by kernel_rfl) (by kernel_rfl) (fun _ _ _ h => h) (Or.inl ⟨by rfl, ?hyq176x⟩) hHeld ?_
      case hyq176x =>
        intro W hSw
        clear hSw
        (go_simp; try with_reducible rfl)
      simp only [List.setIfInBounds_toArray, List.set_cons_zero, List.set_cons_succ]
      refine wpAnyH_takeAt (i := 16) (d := 21) (v := ?vq177x) rfl rfl (by kernel_rfl) (by kernel_rfl) (by kernel_rfl) (fun _ _ _ h => h) (Or.inl ⟨by rfl, ?hyq177x⟩) hHeld ?_
      case hyq177x =>
        intro W hSw
        clear hSw
        (go_simp; try with_reducible rfl)
      simp only [List.setIfInBounds_toArray, List.set_cons_zero, List.set_cons_succ]
      refine wpAnyH_takeAt (i := 17) (d := 22) (v := ?vq178x) rfl rfl (by kernel_rfl) (by kernel_rfl) (by kernel_rfl) (fun _ _ _ h => h) (Or.inl ⟨by rfl, ?hyq178x⟩) hHeld ?_
      case hyq178x =>
        intro W hSw
        have hh := HC.out.below hSw; obtain ⟨q0, q1, q2, q3, q4⟩ := hh; have xHY := (hSw.cell (p := ⟨_, 0, none⟩) (block_lt_of_cell HY.out)).trans HY.out; have xHS := (hSw.cell (p := ⟨_, 0, none⟩) (block_lt_of_cell HS.out)).trans HS.out; clear hSw
        (go_simp; try with_reducible rfl)
      simp only [List.setIfInBounds_toArray, List.set_cons_zero, List.set_cons_succ]
      refine wpAnyH_takeAt (i := 18) (d := 23) (v := ?vq179x) rfl rfl (by kernel_rfl) (by kernel_rfl) (by kernel_rfl) (fun _ _ _ h => h) (Or.inl ⟨by rfl, ?hyq179x⟩) hHeld ?_
      case hyq179x =>
        intro W hSw
        have hh := HC.out.below hSw; obtain ⟨q0, q1, q2, q3, q4⟩ := hh; have xHY := (hSw.cell (p := ⟨_, 0, none⟩) (block_lt_of_cell HY.out)).trans HY.out; have xHS := (hSw.cell (p := ⟨_, 0, none⟩) (block_lt_of_cell HS.out)).trans HS.out; clear hSw
        (go_simp; try with_reducible rfl)
      simp only [List.setIfInBounds_toArray, List.set_cons_zero, List.set_cons_succ]
      refine wpAnyH_ready (rs := [19]) (by kernel_rfl) (by simp) (AllReadyH.cons rfl (fun K hK => ?_) AllReadyH.nil)
      go_simp
      have hq := contains_any (c := k) (HR.out.below hHeld) HA.out.2 y
      rw [HD3.out] at hq
      refine hq.mono ?_
      rintro r V3 ⟨rfl, rfl⟩
      dsimp only
      refine hK.out _ _ hHeld (fun hHeld => ?_)
      clear hK K hq
      try simp only [List.setIfInBounds_toArray, List.set_cons_zero, List.set_cons_succ]
      refine wpAnyH_takeAt (i := 20) (d := 25) (v := ?vq180x) rfl rfl (by kernel_rfl) (by kernel_rfl) (by kernel_rfl) (fun _ _ _ h => h) (Or.inl ⟨by rfl, ?hyq180x⟩) hHeld ?_
      case hyq180x =>
        intro W hSw
        clear hSw
        (go_simp; try with_reducible rfl)
      simp only [List.setIfInBounds_toArray, List.set_cons_zero, List.set_cons_succ]
      refine wpAnyH_takeAt (i := 21) (d := 26) (v := ?vq181x) rfl rfl (by kernel_rfl) (by kernel_rfl) (by kernel_rfl) (fun _ _ _ h => h) (Or.inl ⟨by rfl, ?hyq181x⟩) hHeld ?_
      case hyq181x =>
        intro W hSw
        clear hSw
        (go_simp; try with_reducible rfl)
      simp only [List.setIfInBounds_toArray, List.set_cons_zero, List.set_cons_succ]
      refine wpAnyH_takeAt (i := 22) (d := 4) (v := ?vq182x) rfl rfl (by kernel_rfl) (by kernel_rfl) (by kernel_rfl) (fun _ _ _ h => h) (Or.inl ⟨by rfl, ?hyq182x⟩) hHeld ?_
      case hyq182x =>
        intro W hSw
        clear hSw
        (go_simp; try with_reducible rfl)
      simp only [List.setIfInBounds_toArray, List.set_cons_zero, List.set_cons_succ]
      refine wpAnyH_done (by kernel_rfl) ?_ _
      have HB := Lib.hid hHeld
      clear hHeld
      go_wp2_with fail
      go_ret
      exact ⟨by rw [HF.out]; rfl, HB.out⟩
set_option maxRecDepth 100000 in
set_option maxHeartbeats 2000000 in
theorem arg89_any {l e v : Int} (h : Cap w bm bi g a b c (p : Int)) (hm : Mm w S g M) (hp : p < 4) (hl : w.cell? ⟨be, 0, none⟩ = some (.int .i64 l)) (he : w.cell? ⟨bu, 0, none⟩ = some (.int .i64 e)) (hv : w.cell? ⟨bo, 0, none⟩ = some (.int .i64 v)) : Calls Tryz.prog 89 #[.pointer (some ⟨bm, 0, none⟩), .pointer (some ⟨bi, 0, none⟩), .pointer (some ⟨be, 0, none⟩), .pointer (some ⟨bu, 0, none⟩), .pointer (some ⟨bo, 0, none⟩)] w fun r w' => r = .returned (.bool (!decide ((M.views p).leader = l ∧ (M.views p).epoch = e ∧ (M.views p).version = v))) ∧ Below w.heap.size w w' := by
  have HC := Lib.hid h
  have HM := Lib.hid hm
  have HL := Lib.hid hl
  have HE := Lib.hid he
  have HV := Lib.hid hv
  have hpi : (p : Int) < 4 := by omega
  clear h hm hl he hv
  obtain ⟨d1, hd1⟩ : ∃ d, decide ((M.views p).leader = l ∧ (M.views p).epoch = e ∧ (M.views p).version = v) = d := ⟨_, rfl⟩
  have HF : Hid (decide ((M.views p).leader = l ∧ (M.views p).epoch = e ∧ (M.views p).version = v) = d1) := Lib.hid hd1
  clear hd1
  go_enter Tryz.func89, Tryz.ntmps89
  go_upto_region 1 with fail
  refine wp_region_np ?_
  refine wp_region_held_drew (S := fun W => Below w.heap.size w W) (by kernel_rfl) (show Below w.heap.size w w.drew from (Below.refl _ _).drew) (fun hHeld => ?_)
  generalize hv0 : w.drew = V0 at *
  clear hv0
  refine wpAnyH_takeAt (i := 0) (d := 6) (v := ?vq183x) rfl rfl (by kernel_rfl) (by kernel_rfl) (by kernel_rfl) (fun _ _ _ h => h) (Or.inl ⟨by rfl, ?hyq183x⟩) hHeld ?_
  case hyq183x =>
    intro W hSw
    have hh := HC.out.below hSw; obtain ⟨q0, q1, q2, q3, q4⟩ := hh; have xHL := (hSw.cell (p := ⟨_, 0, none⟩) (block_lt_of_cell HL.out)).trans HL.out; have xHE := (hSw.cell (p := ⟨_, 0, none⟩) (block_lt_of_cell HE.out)).trans HE.out; have xHV := (hSw.cell (p := ⟨_, 0, none⟩) (block_lt_of_cell HV.out)).trans HV.out; clear hSw
    (go_simp; try with_reducible rfl)
  simp only [List.setIfInBounds_toArray, List.set_cons_zero, List.set_cons_succ]
  refine wpAnyH_takeAt (i := 1) (d := 7) (v := ?vq184x) rfl rfl (by kernel_rfl) (by kernel_rfl) (by kernel_rfl) (fun _ _ _ h => h) (Or.inl ⟨by rfl, ?hyq184x⟩) hHeld ?_
  case hyq184x =>
    intro W hSw
    have hh := HC.out.below hSw; obtain ⟨q0, q1, q2, q3, q4⟩ := hh; have xHL := (hSw.cell (p := ⟨_, 0, none⟩) (block_lt_of_cell HL.out)).trans HL.out; have xHE := (hSw.cell (p := ⟨_, 0, none⟩) (block_lt_of_cell HE.out)).trans HE.out; have xHV := (hSw.cell (p := ⟨_, 0, none⟩) (block_lt_of_cell HV.out)).trans HV.out; clear hSw
    (go_simp; try with_reducible rfl)
  simp only [List.setIfInBounds_toArray, List.set_cons_zero, List.set_cons_succ]
  refine wpAnyH_takeAt (i := 2) (d := 8) (v := ?vq185x) rfl rfl (by kernel_rfl) (by kernel_rfl) (by kernel_rfl) (fun _ _ _ h => h) (Or.inl ⟨by rfl, ?hyq185x⟩) hHeld ?_
  case hyq185x =>
    intro W hSw
    clear hSw
    (go_simp; try with_reducible rfl)
  simp only [List.setIfInBounds_toArray, List.set_cons_zero, List.set_cons_succ]
  refine wpAnyH_takeAt (i := 3) (d := 9) (v := ?vq186x) rfl rfl (by kernel_rfl) (by kernel_rfl) (by kernel_rfl) (fun _ _ _ h => h) (Or.inl ⟨by rfl, ?hyq186x⟩) hHeld ?_
  case hyq186x =>
    intro W hSw
    clear hSw
    (go_simp; try with_reducible rfl)
  simp only [List.setIfInBounds_toArray, List.set_cons_zero, List.set_cons_succ]
  refine wpAnyH_takeAt (i := 4) (d := 10) (v := ?vq187x) rfl rfl (by kernel_rfl) (by kernel_rfl) (by kernel_rfl) (fun _ _ _ h => h) (Or.inl ⟨by rfl, ?hyq187x⟩) hHeld ?_
  case hyq187x =>
    intro W hSw
    clear hSw
    (go_simp; try with_reducible rfl)
  simp only [List.setIfInBounds_toArray, List.set_cons_zero, List.set_cons_succ]
  refine wpAnyH_takeAt (i := 5) (d := 11) (v := ?vq188x) rfl rfl (by kernel_rfl) (by kernel_rfl) (by kernel_rfl) (fun _ _ _ h => h) (Or.inl ⟨by rfl, ?hyq188x⟩) hHeld ?_
  case hyq188x =>
    intro W hSw
    have hh := HC.out.below hSw; obtain ⟨q0, q1, q2, q3, q4⟩ := hh; have xHL := (hSw.cell (p := ⟨_, 0, none⟩) (block_lt_of_cell HL.out)).trans HL.out; have xHE := (hSw.cell (p := ⟨_, 0, none⟩) (block_lt_of_cell HE.out)).trans HE.out; have xHV := (hSw.cell (p := ⟨_, 0, none⟩) (block_lt_of_cell HV.out)).trans HV.out; clear hSw
    (go_simp; try with_reducible rfl)
  simp only [List.setIfInBounds_toArray, List.set_cons_zero, List.set_cons_succ]
  refine wpAnyH_takeAt (i := 6) (d := 12) (v := ?vq189x) rfl rfl (by kernel_rfl) (by kernel_rfl) (by kernel_rfl) (fun _ _ _ h => h) (Or.inl ⟨by rfl, ?hyq189x⟩) hHeld ?_
  case hyq189x =>
    intro W hSw
    have hh := HC.out.below hSw; obtain ⟨q0, q1, q2, q3, q4⟩ := hh; have xHL := (hSw.cell (p := ⟨_, 0, none⟩) (block_lt_of_cell HL.out)).trans HL.out; have xHE := (hSw.cell (p := ⟨_, 0, none⟩) (block_lt_of_cell HE.out)).trans HE.out; have xHV := (hSw.cell (p := ⟨_, 0, none⟩) (block_lt_of_cell HV.out)).trans HV.out; clear hSw
    (go_simp; try with_reducible rfl)
  simp only [List.setIfInBounds_toArray, List.set_cons_zero, List.set_cons_succ]
  refine wpAnyH_takeAt (i := 7) (d := 13) (v := ?vq190x) rfl rfl (by kernel_rfl) (by kernel_rfl) (by kernel_rfl) (fun _ _ _ h => h) (Or.inl ⟨by rfl, ?hyq190x⟩) hHeld ?_
  case hyq190x =>
    intro W hSw
    have hh := HC.out.below hSw; obtain ⟨q0, q1, q2, q3, q4⟩ := hh; have xHL := (hSw.cell (p := ⟨_, 0, none⟩) (block_lt_of_cell HL.out)).trans HL.out; have xHE := (hSw.cell (p := ⟨_, 0, none⟩) (block_lt_of_cell HE.out)).trans HE.out; have xHV := (hSw.cell (p := ⟨_, 0, none⟩) (block_lt_of_cell HV.out)).trans HV.out; clear hSw
    (go_simp; try with_reducible rfl)
  simp only [List.setIfInBounds_toArray, List.set_cons_zero, List.set_cons_succ]
  refine wpAnyH_ready (rs := [8]) (by kernel_rfl) (by simp) (AllReadyH.cons rfl (fun K hK => ?_) AllReadyH.nil)
  go_simp
  obtain ⟨cs, rv, hMx, -, -⟩ := HM.out.below hHeld
  have hq := is_any hMx.blk (hMx.lay.vw p hp) l e v
  rw [HF.out] at hq
  clear hMx
  refine hq.mono ?_
  rintro r V1 ⟨rfl, rfl⟩
  dsimp only
  refine hK.out _ _ hHeld (fun hHeld => ?_)
  clear hK K hq
  try simp only [List.setIfInBounds_toArray, List.set_cons_zero, List.set_cons_succ]
  refine wpAnyH_takeAt (i := 9) (d := 15) (v := ?vq191x) rfl rfl (by kernel_rfl) (by kernel_rfl) (by kernel_rfl) (fun _ _ _ h => h) (Or.inl ⟨by rfl, ?hyq191x⟩) hHeld ?_
  case hyq191x =>
    intro W hSw
    clear hSw
    (go_simp; try with_reducible rfl)
  simp only [List.setIfInBounds_toArray, List.set_cons_zero, List.set_cons_succ]
  refine wpAnyH_takeAt (i := 10) (d := 5) (v := ?vq192x) rfl rfl (by kernel_rfl) (by kernel_rfl) (by kernel_rfl) (fun _ _ _ h => h) (Or.inl ⟨by rfl, ?hyq192x⟩) hHeld ?_
  case hyq192x =>
    intro W hSw
    clear hSw
    (go_simp; try with_reducible rfl)
  simp only [List.setIfInBounds_toArray, List.set_cons_zero, List.set_cons_succ]
  refine wpAnyH_done (by kernel_rfl) ?_ _
  have HB := Lib.hid hHeld
  clear hHeld
  go_wp2_with fail
  go_ret
  exact ⟨by rw [HF.out]; rfl, HB.out⟩
set_option maxRecDepth 100000 in
set_option maxHeartbeats 2000000 in
theorem arg97_any {num : Int} (h : Cap w bm bi g a b c (p : Int)) (hm : Mm w S g M) (hp : p < 4) (hl : (M.wrs p).parts.length ≤ 1000000) (he : w.cell? ⟨bu, 0, none⟩ = some (.int .i64 num)) (hy : w.cell? ⟨be, 0, none⟩ = some (.int .i64 y)) : Calls Tryz.prog 97 #[.pointer (some ⟨bm, 0, none⟩), .pointer (some ⟨bi, 0, none⟩), .pointer (some ⟨bu, 0, none⟩), .pointer (some ⟨be, 0, none⟩)] w fun r w' => r = .returned (.bool (!(M.wrs p).wants num y)) ∧ Below w.heap.size w w' := by
  have HC := Lib.hid h
  have HM := Lib.hid hm
  have HL := Lib.hid hl
  have HE := Lib.hid he
  have HY := Lib.hid hy
  have hpi : (p : Int) < 4 := by omega
  clear h hm hl he hy
  obtain ⟨d1, hd1⟩ : ∃ d, (M.wrs p).wants num y = d := ⟨_, rfl⟩
  have HF : Hid ((M.wrs p).wants num y = d1) := Lib.hid hd1
  clear hd1
  go_enter Tryz.func97, Tryz.ntmps97
  go_upto_region 1 with fail
  refine wp_region_np ?_
  refine wp_region_held_drew (S := fun W => Below w.heap.size w W) (by kernel_rfl) (show Below w.heap.size w w.drew from (Below.refl _ _).drew) (fun hHeld => ?_)
  generalize hv0 : w.drew = V0 at *
  clear hv0
  refine wpAnyH_takeAt (i := 0) (d := 5) (v := ?vq193x) rfl rfl (by kernel_rfl) (by kernel_rfl) (by kernel_rfl) (fun _ _ _ h => h) (Or.inl ⟨by rfl, ?hyq193x⟩) hHeld ?_
  case hyq193x =>
    intro W hSw
    have hh := HC.out.below hSw; obtain ⟨q0, q1, q2, q3, q4⟩ := hh; have xHE := (hSw.cell (p := ⟨_, 0, none⟩) (block_lt_of_cell HE.out)).trans HE.out; have xHY := (hSw.cell (p := ⟨_, 0, none⟩) (block_lt_of_cell HY.out)).trans HY.out; clear hSw
    (go_simp; try with_reducible rfl)
  simp only [List.setIfInBounds_toArray, List.set_cons_zero, List.set_cons_succ]
  refine wpAnyH_takeAt (i := 1) (d := 6) (v := ?vq194x) rfl rfl (by kernel_rfl) (by kernel_rfl) (by kernel_rfl) (fun _ _ _ h => h) (Or.inl ⟨by rfl, ?hyq194x⟩) hHeld ?_
  case hyq194x =>
    intro W hSw
    have hh := HC.out.below hSw; obtain ⟨q0, q1, q2, q3, q4⟩ := hh; have xHE := (hSw.cell (p := ⟨_, 0, none⟩) (block_lt_of_cell HE.out)).trans HE.out; have xHY := (hSw.cell (p := ⟨_, 0, none⟩) (block_lt_of_cell HY.out)).trans HY.out; clear hSw
    (go_simp; try with_reducible rfl)
  simp only [List.setIfInBounds_toArray, List.set_cons_zero, List.set_cons_succ]
  refine wpAnyH_takeAt (i := 2) (d := 7) (v := ?vq195x) rfl rfl (by kernel_rfl) (by kernel_rfl) (by kernel_rfl) (fun _ _ _ h => h) (Or.inl ⟨by rfl, ?hyq195x⟩) hHeld ?_
  case hyq195x =>
    intro W hSw
    clear hSw
    (go_simp; try with_reducible rfl)
  simp only [List.setIfInBounds_toArray, List.set_cons_zero, List.set_cons_succ]
  refine wpAnyH_takeAt (i := 3) (d := 8) (v := ?vq196x) rfl rfl (by kernel_rfl) (by kernel_rfl) (by kernel_rfl) (fun _ _ _ h => h) (Or.inl ⟨by rfl, ?hyq196x⟩) hHeld ?_
  case hyq196x =>
    intro W hSw
    clear hSw
    (go_simp; try with_reducible rfl)
  simp only [List.setIfInBounds_toArray, List.set_cons_zero, List.set_cons_succ]
  refine wpAnyH_takeAt (i := 4) (d := 9) (v := ?vq197x) rfl rfl (by kernel_rfl) (by kernel_rfl) (by kernel_rfl) (fun _ _ _ h => h) (Or.inl ⟨by rfl, ?hyq197x⟩) hHeld ?_
  case hyq197x =>
    intro W hSw
    clear hSw
    (go_simp; try with_reducible rfl)
  simp only [List.setIfInBounds_toArray, List.set_cons_zero, List.set_cons_succ]
  refine wpAnyH_takeAt (i := 5) (d := 10) (v := ?vq198x) rfl rfl (by kernel_rfl) (by kernel_rfl) (by kernel_rfl) (fun _ _ _ h => h) (Or.inl ⟨by rfl, ?hyq198x⟩) hHeld ?_
  case hyq198x =>
    intro W hSw
    have hh := HC.out.below hSw; obtain ⟨q0, q1, q2, q3, q4⟩ := hh; have xHE := (hSw.cell (p := ⟨_, 0, none⟩) (block_lt_of_cell HE.out)).trans HE.out; have xHY := (hSw.cell (p := ⟨_, 0, none⟩) (block_lt_of_cell HY.out)).trans HY.out; clear hSw
    (go_simp; try with_reducible rfl)
  simp only [List.setIfInBounds_toArray, List.set_cons_zero, List.set_cons_succ]
  refine wpAnyH_takeAt (i := 6) (d := 11) (v := ?vq199x) rfl rfl (by kernel_rfl) (by kernel_rfl) (by kernel_rfl) (fun _ _ _ h => h) (Or.inl ⟨by rfl, ?hyq199x⟩) hHeld ?_
  case hyq199x =>
    intro W hSw
    have hh := HC.out.below hSw; obtain ⟨q0, q1, q2, q3, q4⟩ := hh; have xHE := (hSw.cell (p := ⟨_, 0, none⟩) (block_lt_of_cell HE.out)).trans HE.out; have xHY := (hSw.cell (p := ⟨_, 0, none⟩) (block_lt_of_cell HY.out)).trans HY.out; clear hSw
    (go_simp; try with_reducible rfl)
  simp only [List.setIfInBounds_toArray, List.set_cons_zero, List.set_cons_succ]
  refine wpAnyH_ready (rs := [7]) (by kernel_rfl) (by simp) (AllReadyH.cons rfl (fun K hK => ?_) AllReadyH.nil)
  go_simp
  obtain ⟨cs, rv, hMx, -, -⟩ := HM.out.below hHeld
  have ho := hMx.own (4 + p) (by omega)
  rw [show M.row (4 + p) = (M.wrs p).parts by unfold Mt.row; rw [if_neg (by omega)]; congr 2; omega] at ho
  obtain ⟨A9, k9, hv9, -⟩ := ints_form ho
  have hs9 := hMx.lay.wr p hp
  rw [hv9] at hs9 ho
  have hq := wants_any hMx.blk hs9 (ho.rd (X := No) (fun _ _ q => q)) HL.out num y
  rw [HF.out] at hq
  clear hMx ho hv9 hs9
  refine hq.mono ?_
  rintro r V1 ⟨rfl, rfl⟩
  dsimp only
  refine hK.out _ _ hHeld (fun hHeld => ?_)
  clear hK K hq
  try simp only [List.setIfInBounds_toArray, List.set_cons_zero, List.set_cons_succ]
  refine wpAnyH_takeAt (i := 8) (d := 13) (v := ?vq200x) rfl rfl (by kernel_rfl) (by kernel_rfl) (by kernel_rfl) (fun _ _ _ h => h) (Or.inl ⟨by rfl, ?hyq200x⟩) hHeld ?_
  case hyq200x =>
    intro W hSw
    clear hSw
    (go_simp; try with_reducible rfl)
  simp only [List.setIfInBounds_toArray, List.set_cons_zero, List.set_cons_succ]
  refine wpAnyH_takeAt (i := 9) (d := 4) (v := ?vq201x) rfl rfl (by kernel_rfl) (by kernel_rfl) (by kernel_rfl) (fun _ _ _ h => h) (Or.inl ⟨by rfl, ?hyq201x⟩) hHeld ?_
  case hyq201x =>
    intro W hSw
    clear hSw
    (go_simp; try with_reducible rfl)
  simp only [List.setIfInBounds_toArray, List.set_cons_zero, List.set_cons_succ]
  refine wpAnyH_done (by kernel_rfl) ?_ _
  have HB := Lib.hid hHeld
  clear hHeld
  go_wp2_with fail
  go_ret
  exact ⟨by rw [HF.out]; rfl, HB.out⟩
set_option maxRecDepth 100000 in
set_option maxHeartbeats 2000000 in
theorem isDead_any {y : Int} (hm : Mm w S g M) (hy : 0 ≤ y ∧ y < 4) : Calls Tryz.prog 93 #[.pointer (some ⟨g, 0, none⟩), .int .i64 y] w fun r w' => r = .returned (.bool (!M.lives y.toNat)) ∧ w' = w := by
  obtain ⟨p, rfl⟩ : ∃ p : Nat, y = (p : Int) := ⟨y.toNat, by omega⟩
  have hp : p < 4 := by omega
  have r0 : w.cell? ⟨g, 3 + p, none⟩ = some (.bool (M.lives p)) := by
    obtain ⟨cs, rv, h1, -⟩ := hm
    rw [h1.blk.cell]; exact h1.lay.lv p hp
  have hpi : (p : Int) < 4 := by omega
  have HT : Hid (M.lives (p : Int).toNat = M.lives p) := Lib.hid (by rw [Int.toNat_natCast])
  clear hm hy
  generalize M.lives p = d at *
  go_enter Tryz.func93, Tryz.ntmps93
  go_wp2_with fail
  go_ret
  exact ⟨by rw [HT.out]; rfl, rfl⟩
set_option maxRecDepth 100000 in
set_option maxHeartbeats 2000000 in
theorem indexDead_any (h : Rd w X 1 A n (intsOf I)) (hn : n ≤ 1000000) (hm : Mm w S g M) (hI : ∀ y ∈ I, 0 ≤ y ∧ y < 4) : Calls Tryz.prog 113 #[.slice A n k, .func (.func 93) #[.pointer (some ⟨g, 0, none⟩)] #[]] w fun r w' => r = .returned (.int .i64 (idxP I fun x => !M.lives x.toNat)) ∧ w' = w := by
  have hl1 := h.lenI
  have HR := Lib.hid h
  have HM := Lib.hid hm
  have HI := Lib.hid hI
  clear h hm hI
  go_enter Tryz.func113, Tryz.ntmps113
  go_wp2_with fail
  go_loopw [8] (fun i wv => ∃ q : Nat, q ≤ n ∧ i = .int .i64 q ∧ wv = w ∧ Hid (∀ (j : Nat) (z : Int), j < q → I[j]? = some z → (!M.lives z.toNat) = false)) (fun i _ => n - (iOf i).toNat)
  case atStart => exact ⟨0, by omega, rfl, rfl, Lib.hid (fun j z hj => by omega)⟩
  case round =>
    obtain ⟨q, hk, rfl, rfl, HNO⟩ := hrel
    by_cases hlt : q < n
    case neg =>
      have hd1 : decide (q < n) = false := by simpa using hlt
      have HF : Hid (idxP I (fun x => !M.lives x.toNat) = -1) := Lib.hid (idxP_no (fun j z hj => HNO.out j z (by have := (List.getElem?_eq_some_iff.1 hj).1; omega) hj))
      clear hlt
      go_wp2_with fail
      go_ret
      exact ⟨by rw [HF.out]; rfl, rfl⟩
    case pos =>
      have hd1 : decide (q < n) = true := by simpa using hlt
      obtain ⟨y, hy⟩ : ∃ y, I[q]? = some y := ⟨_, List.getElem?_eq_getElem (by omega)⟩
      obtain ⟨ad, rfl, hc⟩ := HR.out.intAt hy
      have HY := Lib.hid hy
      have hde := isDead_any HM.out (HI.out y (List.mem_iff_getElem?.2 ⟨q, hy⟩))
      clear hy
      cases hl : M.lives y.toNat with
      | false =>
        have HF : Hid (idxP I (fun x => !M.lives x.toNat) = (q : Int)) := Lib.hid (idxP_at HY.out (by rw [hl]; rfl) HNO.out)
        rw [hl] at hde
        clear hl
        go_wp2_with fail
        refine hde.mono ?_
        rintro r w1 ⟨rfl, rfl⟩
        clear hde
        go_wp2_with fail
        go_ret
        exact ⟨by rw [HF.out]; rfl, rfl⟩
      | true =>
        rw [hl] at hde
        have HNO2 : Hid (∀ (j : Nat) (z : Int), j < q + 1 → I[j]? = some z → (!M.lives z.toNat) = false) := Lib.hid (fun j z hj e => by
          by_cases hjk : j < q
          · exact HNO.out j z hjk e
          · obtain rfl : j = q := by omega
            rw [HY.out] at e; injection e with e; rw [← e, hl]; rfl)
        clear hl
        go_wp2_with fail
        refine hde.mono ?_
        rintro r w1 ⟨rfl, rfl⟩
        clear hde
        go_wp2_with fail
        go_round
        case rel => exact ⟨q + 1, by omega, by go_num, (by first | rfl | trivial), HNO2⟩
        case measure => simp [iOf]; omega
theorem containsDead_any (h : Rd w X 1 A n (intsOf I)) (hn : n ≤ 1000000) (hm : Mm w S g M) (hI : ∀ y ∈ I, 0 ≤ y ∧ y < 4) : Calls Tryz.prog 92 #[.slice A n k, .func (.func 93) #[.pointer (some ⟨g, 0, none⟩)] #[]] w fun r w' => r = .returned (.bool (I.any fun x => !M.lives x.toNat)) ∧ w' = w := by
  have hq := indexDead_any (k := k) h hn hm hI
  rw [← idxP_in]
  clear h hm hI
  generalize idxP I (fun x => !M.lives x.toNat) = z at *
  obtain ⟨d, hd⟩ : ∃ d, decide (0 ≤ z) = d := ⟨_, rfl⟩
  rw [hd]
  go_enter Tryz.func92, Tryz.ntmps92
  go_wp2_with fail
  refine hq.mono ?_
  rintro r w1 ⟨rfl, rfl⟩
  clear hq
  go_wp2_with fail
  go_ret
  exact ⟨rfl, rfl⟩
set_option maxRecDepth 100000 in
set_option maxHeartbeats 2000000 in
theorem arg91_any (h : Rd w X 1 A n (intsOf I)) (hn : n ≤ 1000000) (hm : Mm w S g M) (hI : ∀ y ∈ I, 0 ≤ y ∧ y < 4) (hs : w.cell? ⟨bs, 0, none⟩ = some (.slice A n k)) (hb : w.cell? ⟨bm, 0, none⟩ = some (.pointer (some ⟨g, 0, none⟩))) : Calls Tryz.prog 91 #[.pointer (some ⟨bs, 0, none⟩), .pointer (some ⟨bm, 0, none⟩)] w fun r w' => r = .returned (.bool (I.any fun x => !M.lives x.toNat)) ∧ Below w.heap.size w w' := by
  have hq := containsDead_any (k := k) h hn hm hI
  clear h hm hI
  generalize (I.any fun x => !M.lives x.toNat) = d at *
  go_enter Tryz.func91, Tryz.ntmps91
  go_wp2_with fail
  refine hq.mono ?_
  rintro r w1 ⟨rfl, rfl⟩
  clear hq
  go_wp2_with fail
  go_ret
  exact ⟨rfl, Below.refl _ _⟩
end
end Go.Proofs.YtpmdicbhliclcaaGreat
