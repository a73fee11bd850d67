/-
  The later faults of the calls of a writer. Conditions: a controller that New made, an ID of its own.
-/
import Derived.Test.YtpmdicbhliclcaaGreatWriting
namespace Go.Proofs.YtpmdicbhliclcaaGreat
open Go.RowKit Go.Maps
set_option linter.unusedVariables false
section
variable {w : World} {bm bi g : Nat} {a b c : Int} {S : Nat → Prop} {M : Mt} {p : Nat}
set_option maxRecDepth 100000 in
set_option maxHeartbeats 1000000 in
theorem arg59_any (h : Cap w bm bi g a b c (p : Int)) (hm : Mm w S g M) (hp : p < 4) : Calls Tryz.prog 59 #[.pointer (some ⟨bm, 0, none⟩), .pointer (some ⟨bi, 0, none⟩)] w fun r w' => r = .returned (.bool (M.wrs p).ending) ∧ Below w.heap.size w w' := by
  have HC := Lib.hid h
  have HM := Lib.hid hm
  have hpi : (p : Int) < 4 := by omega
  clear h hm
  go_enter Tryz.func59, Tryz.ntmps59
  go_upto_region 1 with fail
  refine wp_region_np ?_
  refine wp_region_held_drew (S := fun W => Below w.heap.size w W) (by kernel_rfl) (show Below w.heap.size w w.drew from (Below.refl _ _).drew) (fun hHeld => ?_)
  generalize hv0 : w.drew = V0 at *
  clear hv0
  refine wpAnyH_takeAt (i := 0) (d := 3) (v := ?vq0x) rfl rfl (by kernel_rfl) (by kernel_rfl) (by kernel_rfl) (fun _ _ _ h => h) (Or.inl ⟨by rfl, ?hyq0x⟩) hHeld ?_
  case hyq0x =>
    intro W hSw
    have hh := HC.out.below hSw; obtain ⟨q0, q1, q2, q3, q4⟩ := hh; clear hSw
    (go_simp; try with_reducible rfl)
  simp only [List.setIfInBounds_toArray, List.set_cons_zero, List.set_cons_succ]
  refine wpAnyH_takeAt (i := 1) (d := 4) (v := ?vq1x) rfl rfl (by kernel_rfl) (by kernel_rfl) (by kernel_rfl) (fun _ _ _ h => h) (Or.inl ⟨by rfl, ?hyq1x⟩) hHeld ?_
  case hyq1x =>
    intro W hSw
    have hh := HC.out.below hSw; obtain ⟨q0, q1, q2, q3, q4⟩ := hh; clear hSw
    (go_simp; try with_reducible rfl)
  simp only [List.setIfInBounds_toArray, List.set_cons_zero, List.set_cons_succ]
  refine wpAnyH_takeAt (i := 2) (d := 5) (v := ?vq2x) rfl rfl (by kernel_rfl) (by kernel_rfl) (by kernel_rfl) (fun _ _ _ h => h) (Or.inl ⟨by rfl, ?hyq2x⟩) hHeld ?_
  case hyq2x =>
    intro W hSw
    clear hSw
    (go_simp; try with_reducible rfl)
  simp only [List.setIfInBounds_toArray, List.set_cons_zero, List.set_cons_succ]
  refine wpAnyH_takeAt (i := 3) (d := 6) (v := ?vq3x) rfl rfl (by kernel_rfl) (by kernel_rfl) (by kernel_rfl) (fun _ _ _ h => h) (Or.inl ⟨by rfl, ?hyq3x⟩) hHeld ?_
  case hyq3x =>
    intro W hSw
    clear hSw
    (go_simp; try with_reducible rfl)
  simp only [List.setIfInBounds_toArray, List.set_cons_zero, List.set_cons_succ]
  refine wpAnyH_takeAt (i := 4) (d := 7) (v := ?vq4x) rfl rfl (by kernel_rfl) (by kernel_rfl) (by kernel_rfl) (fun _ _ _ h => h) (Or.inl ⟨by rfl, ?hyq4x⟩) hHeld ?_
  case hyq4x =>
    intro W hSw
    clear hSw
    (go_simp; try with_reducible rfl)
  simp only [List.setIfInBounds_toArray, List.set_cons_zero, List.set_cons_succ]
  refine wpAnyH_ready (rs := [5]) (by kernel_rfl) (by simp) (AllReadyH.cons rfl (fun K hK => ?_) AllReadyH.nil)
  go_simp
  obtain ⟨cs, rv, hMx, -, -⟩ := HM.out.below hHeld
  have hq := ending_any hMx.blk (hMx.lay.wr p hp)
  refine hq.mono ?_
  rintro r V1 ⟨rfl, rfl⟩
  dsimp only
  refine hK.out _ _ hHeld (fun hHeld => ?_)
  clear hK K hq hMx
  try simp only [List.setIfInBounds_toArray, List.set_cons_zero, List.set_cons_succ]
  refine wpAnyH_takeAt (i := 6) (d := 2) (v := ?vq5x) rfl rfl (by kernel_rfl) (by kernel_rfl) (by kernel_rfl) (fun _ _ _ h => h) (Or.inl ⟨by rfl, ?hyq5x⟩) hHeld ?_
  case hyq5x =>
    intro W hSw
    clear hSw
    (go_simp; try with_reducible rfl)
  simp only [List.setIfInBounds_toArray, List.set_cons_zero, List.set_cons_succ]
  refine wpAnyH_done (by kernel_rfl) ?_ _
  have HB := Lib.hid hHeld
  clear hHeld
  go_wp2_with fail
  go_ret
  exact ⟨rfl, HB.out⟩
set_option maxRecDepth 100000 in
set_option maxHeartbeats 1000000 in
theorem arg65_any (h : Cap w bm bi g a b c (p : Int)) (hm : Mm w S g M) (hp : p < 4) : Calls Tryz.prog 65 #[.pointer (some ⟨bm, 0, none⟩), .pointer (some ⟨bi, 0, none⟩)] w fun r w' => r = .returned (.bool (M.wrs p).ending) ∧ Below w.heap.size w w' := by
  have HC := Lib.hid h
  have HM := Lib.hid hm
  have hpi : (p : Int) < 4 := by omega
  clear h hm
  go_enter Tryz.func65, Tryz.ntmps65
  go_upto_region 1 with fail
  refine wp_region_np ?_
  refine wp_region_held_drew (S := fun W => Below w.heap.size w W) (by kernel_rfl) (show Below w.heap.size w w.drew from (Below.refl _ _).drew) (fun hHeld => ?_)
  generalize hv0 : w.drew = V0 at *
  clear hv0
  refine wpAnyH_takeAt (i := 0) (d := 3) (v := ?vq6x) rfl rfl (by kernel_rfl) (by kernel_rfl) (by kernel_rfl) (fun _ _ _ h => h) (Or.inl ⟨by rfl, ?hyq6x⟩) hHeld ?_
  case hyq6x =>
    intro W hSw
    have hh := HC.out.below hSw; obtain ⟨q0, q1, q2, q3, q4⟩ := hh; clear hSw
    (go_simp; try with_reducible rfl)
  simp only [List.setIfInBounds_toArray, List.set_cons_zero, List.set_cons_succ]
  refine wpAnyH_takeAt (i := 1) (d := 4) (v := ?vq7x) rfl rfl (by kernel_rfl) (by kernel_rfl) (by kernel_rfl) (fun _ _ _ h => h) (Or.inl ⟨by rfl, ?hyq7x⟩) hHeld ?_
  case hyq7x =>
    intro W hSw
    have hh := HC.out.below hSw; obtain ⟨q0, q1, q2, q3, q4⟩ := hh; clear hSw
    (go_simp; try with_reducible rfl)
  simp only [List.setIfInBounds_toArray, List.set_cons_zero, List.set_cons_succ]
  refine wpAnyH_takeAt (i := 2) (d := 5) (v := ?vq8x) rfl rfl (by kernel_rfl) (by kernel_rfl) (by kernel_rfl) (fun _ _ _ h => h) (Or.inl ⟨by rfl, ?hyq8x⟩) hHeld ?_
  case hyq8x =>
    intro W hSw
    clear hSw
    (go_simp; try with_reducible rfl)
  simp only [List.setIfInBounds_toArray, List.set_cons_zero, List.set_cons_succ]
  refine wpAnyH_takeAt (i := 3) (d := 6) (v := ?vq9x) rfl rfl (by kernel_rfl) (by kernel_rfl) (by kernel_rfl) (fun _ _ _ h => h) (Or.inl ⟨by rfl, ?hyq9x⟩) hHeld ?_
  case hyq9x =>
    intro W hSw
    clear hSw
    (go_simp; try with_reducible rfl)
  simp only [List.setIfInBounds_toArray, List.set_cons_zero, List.set_cons_succ]
  refine wpAnyH_takeAt (i := 4) (d := 7) (v := ?vq10x) rfl rfl (by kernel_rfl) (by kernel_rfl) (by kernel_rfl) (fun _ _ _ h => h) (Or.inl ⟨by rfl, ?hyq10x⟩) hHeld ?_
  case hyq10x =>
    intro W hSw
    clear hSw
    (go_simp; try with_reducible rfl)
  simp only [List.setIfInBounds_toArray, List.set_cons_zero, List.set_cons_succ]
  refine wpAnyH_ready (rs := [5]) (by kernel_rfl) (by simp) (AllReadyH.cons rfl (fun K hK => ?_) AllReadyH.nil)
  go_simp
  obtain ⟨cs, rv, hMx, -, -⟩ := HM.out.below hHeld
  have hq := ending_any hMx.blk (hMx.lay.wr p hp)
  refine hq.mono ?_
  rintro r V1 ⟨rfl, rfl⟩
  dsimp only
  refine hK.out _ _ hHeld (fun hHeld => ?_)
  clear hK K hq hMx
  try simp only [List.setIfInBounds_toArray, List.set_cons_zero, List.set_cons_succ]
  refine wpAnyH_takeAt (i := 6) (d := 2) (v := ?vq11x) rfl rfl (by kernel_rfl) (by kernel_rfl) (by kernel_rfl) (fun _ _ _ h => h) (Or.inl ⟨by rfl, ?hyq11x⟩) hHeld ?_
  case hyq11x =>
    intro W hSw
    clear hSw
    (go_simp; try with_reducible rfl)
  simp only [List.setIfInBounds_toArray, List.set_cons_zero, List.set_cons_succ]
  refine wpAnyH_done (by kernel_rfl) ?_ _
  have HB := Lib.hid hHeld
  clear hHeld
  go_wp2_with fail
  go_ret
  exact ⟨rfl, HB.out⟩
set_option maxRecDepth 100000 in
set_option maxHeartbeats 1000000 in
theorem arg70_any (h : Cap w bm bi g a b c (p : Int)) (hm : Mm w S g M) (hp : p < 4) : Calls Tryz.prog 70 #[.pointer (some ⟨bm, 0, none⟩), .pointer (some ⟨bi, 0, none⟩)] w fun r w' => r = .returned (.bool (M.wrs p).ending) ∧ Below w.heap.size w w' := by
  have HC := Lib.hid h
  have HM := Lib.hid hm
  have hpi : (p : Int) < 4 := by omega
  clear h hm
  go_enter Tryz.func70, Tryz.ntmps70
  go_upto_region 1 with fail
  refine wp_region_np ?_
  refine wp_region_held_drew (S := fun W => Below w.heap.size w W) (by kernel_rfl) (show Below w.heap.size w w.drew from (Below.refl _ _).drew) (fun hHeld => ?_)
  generalize hv0 : w.drew = V0 at *
  clear hv0
  refine wpAnyH_takeAt (i := 0) (d := 3) (v := ?vq12x) rfl rfl (by kernel_rfl) (by kernel_rfl) (by kernel_rfl) (fun _ _ _ h => h) (Or.inl ⟨by rfl, ?hyq12x⟩) hHeld ?_
  case hyq12x =>
    intro W hSw
    have hh := HC.out.below hSw; obtain ⟨q0, q1, q2, q3, q4⟩ := hh; clear hSw
    (go_simp; try with_reducible rfl)
  simp only [List.setIfInBounds_toArray, List.set_cons_zero, List.set_cons_succ]
  refine wpAnyH_takeAt (i := 1) (d := 4) (v := ?vq13x) rfl rfl (by kernel_rfl) (by kernel_rfl) (by kernel_rfl) (fun _ _ _ h => h) (Or.inl ⟨by rfl, ?hyq13x⟩) hHeld ?_
  case hyq13x =>
    intro W hSw
    have hh := HC.out.below hSw; obtain ⟨q0, q1, q2, q3, q4⟩ := hh; clear hSw
    (go_simp; try with_reducible rfl)
  simp only [List.setIfInBounds_toArray, List.set_cons_zero, List.set_cons_succ]
  refine wpAnyH_takeAt (i := 2) (d := 5) (v := ?vq14x) rfl rfl (by kernel_rfl) (by kernel_rfl) (by kernel_rfl) (fun _ _ _ h => h) (Or.inl ⟨by rfl, ?hyq14x⟩) hHeld ?_
  case hyq14x =>
    intro W hSw
    clear hSw
    (go_simp; try with_reducible rfl)
  simp only [List.setIfInBounds_toArray, List.set_cons_zero, List.set_cons_succ]
  refine wpAnyH_takeAt (i := 3) (d := 6) (v := ?vq15x) rfl rfl (by kernel_rfl) (by kernel_rfl) (by kernel_rfl) (fun _ _ _ h => h) (Or.inl ⟨by rfl, ?hyq15x⟩) hHeld ?_
  case hyq15x =>
    intro W hSw
    clear hSw
    (go_simp; try with_reducible rfl)
  simp only [List.setIfInBounds_toArray, List.set_cons_zero, List.set_cons_succ]
  refine wpAnyH_takeAt (i := 4) (d := 7) (v := ?vq16x) rfl rfl (by kernel_rfl) (by kernel_rfl) (by kernel_rfl) (fun _ _ _ h => h) (Or.inl ⟨by rfl, ?hyq16x⟩) hHeld ?_
  case hyq16x =>
    intro W hSw
    clear hSw
    (go_simp; try with_reducible rfl)
  simp only [List.setIfInBounds_toArray, List.set_cons_zero, List.set_cons_succ]
  refine wpAnyH_ready (rs := [5]) (by kernel_rfl) (by simp) (AllReadyH.cons rfl (fun K hK => ?_) AllReadyH.nil)
  go_simp
  obtain ⟨cs, rv, hMx, -, -⟩ := HM.out.below hHeld
  have hq := ending_any hMx.blk (hMx.lay.wr p hp)
  refine hq.mono ?_
  rintro r V1 ⟨rfl, rfl⟩
  dsimp only
  refine hK.out _ _ hHeld (fun hHeld => ?_)
  clear hK K hq hMx
  try simp only [List.setIfInBounds_toArray, List.set_cons_zero, List.set_cons_succ]
  refine wpAnyH_takeAt (i := 6) (d := 2) (v := ?vq17x) rfl rfl (by kernel_rfl) (by kernel_rfl) (by kernel_rfl) (fun _ _ _ h => h) (Or.inl ⟨by rfl, ?hyq17x⟩) hHeld ?_
  case hyq17x =>
    intro W hSw
    clear hSw
    (go_simp; try with_reducible rfl)
  simp only [List.setIfInBounds_toArray, List.set_cons_zero, List.set_cons_succ]
  refine wpAnyH_done (by kernel_rfl) ?_ _
  have HB := Lib.hid hHeld
  clear hHeld
  go_wp2_with fail
  go_ret
  exact ⟨rfl, HB.out⟩
set_option maxRecDepth 100000 in
set_option maxHeartbeats 1000000 in
theorem arg61_any (h : Cap w bm bi g a b c (p : Int)) (hm : Mm w S g M) (hp : p < 4) : Calls Tryz.prog 61 #[.pointer (some ⟨bm, 0, none⟩), .pointer (some ⟨bi, 0, none⟩)] w fun r w' => r = .returned (.bool ((M.wrs p).session == 2147483647)) ∧ Below w.heap.size w w' := by
  obtain ⟨q0, q1, -, -, -⟩ := h
  obtain ⟨A, k, ⟨r0, r1, r2, -, -, -⟩, -⟩ := hm.atWriting hp
  have hpi : (p : Int) < 4 := by omega
  clear hm
  go_enter Tryz.func61, Tryz.ntmps61
  go_wp2_with fail
  go_quiet (fail)
  go_wp2_with fail
  go_ret
  exact ⟨by first | rfl | (simp; done) | (congr 2; simp; done), below_drewN (Below.refl _ _) _⟩
set_option maxRecDepth 100000 in
set_option maxHeartbeats 1000000 in
theorem arg64_any (h : Cap w bm bi g a b c (p : Int)) (hm : Mm w S g M) (hp : p < 4) {be : Nat} {x : Int} (hx : w.cell? ⟨be, 0, none⟩ = some (.int .i64 x)) : Calls Tryz.prog 64 #[.pointer (some ⟨bm, 0, none⟩), .pointer (some ⟨bi, 0, none⟩), .pointer (some ⟨be, 0, none⟩)] w fun r w' => r = .returned (.bool ((M.wrs p).session != x)) ∧ Below w.heap.size w w' := by
  obtain ⟨q0, q1, -, -, -⟩ := h
  obtain ⟨A, k, ⟨r0, r1, r2, -, -, -⟩, -⟩ := hm.atWriting hp
  have hpi : (p : Int) < 4 := by omega
  clear hm
  go_enter Tryz.func64, Tryz.ntmps64
  go_wp2_with fail
  go_quiet (fail)
  go_wp2_with fail
  go_ret
  exact ⟨by first | rfl | (simp; done) | (congr 2; simp; done), below_drewN (Below.refl _ _) _⟩
set_option maxRecDepth 100000 in
set_option maxHeartbeats 1000000 in
theorem arg69_any (h : Cap w bm bi g a b c (p : Int)) (hm : Mm w S g M) (hp : p < 4) {be : Nat} {x : Int} (hx : w.cell? ⟨be, 0, none⟩ = some (.int .i64 x)) : Calls Tryz.prog 69 #[.pointer (some ⟨bm, 0, none⟩), .pointer (some ⟨bi, 0, none⟩), .pointer (some ⟨be, 0, none⟩)] w fun r w' => r = .returned (.bool ((M.wrs p).session != x)) ∧ Below w.heap.size w w' := by
  obtain ⟨q0, q1, -, -, -⟩ := h
  obtain ⟨A, k, ⟨r0, r1, r2, -, -, -⟩, -⟩ := hm.atWriting hp
  have hpi : (p : Int) < 4 := by omega
  clear hm
  go_enter Tryz.func69, Tryz.ntmps69
  go_wp2_with fail
  go_quiet (fail)
  go_wp2_with fail
  go_ret
  exact ⟨by first | rfl | (simp; done) | (congr 2; simp; done), below_drewN (Below.refl _ _) _⟩
set_option maxRecDepth 100000 in
set_option maxHeartbeats 1000000 in
theorem arg66_any (h : Cap w bm bi g a b c (p : Int)) (hm : Mm w S g M) (hp : p < 4) : Calls Tryz.prog 66 #[.pointer (some ⟨bm, 0, none⟩), .pointer (some ⟨bi, 0, none⟩)] w fun r w' => r = .returned (.bool ((M.wrs p).state == 1 && (M.wrs p).num == 2147483647)) ∧ Below w.heap.size w w' := by
  obtain ⟨q0, q1, -, -, -⟩ := h
  obtain ⟨A, k, ⟨r0, r1, r2, -, -, -⟩, -⟩ := hm.atWriting hp
  have hpi : (p : Int) < 4 := by omega
  clear hm
  obtain ⟨st, hst⟩ : ∃ st, (M.wrs p).state = st := ⟨_, rfl⟩
  rw [hst] at r2 ⊢
  by_cases e : st = 1
  · subst e
    go_enter Tryz.func66, Tryz.ntmps66
    go_wp2_with fail
    go_quiet (fail)
    go_wp2_with fail
    go_ret
    exact ⟨by first | rfl | (simp; done) | (congr 2; simp; done), below_drewN (Below.refl _ _) _⟩
  · have e2 : (st == 1) = false := by simpa using e
    rw [e2]
    go_enter Tryz.func66, Tryz.ntmps66
    go_wp2_with fail
    go_quiet (fail)
    go_wp2_with fail
    go_ret
    exact ⟨by first | rfl | (simp; done) | (congr 2; simp; done), below_drewN (Below.refl _ _) _⟩
end
end Go.Proofs.YtpmdicbhliclcaaGreat
