/-
  A copy of a reader: of the same, in memory of its own. Conditions: at most 1000000 places were told.
-/
import Derived.Test.YthcphoijanebhaaDoorReader9
import Derived.Shelf.SlMaps.Clone
import Derived.Test.YthcphoijanebhaaDoorProg
namespace Go.Proofs
open Go.Shelf
/- The library's maps.Clone, at this program's map type: as the kit's shelf lays it. -/
def Tryd.clone66_ren : Go.Shelf.Ren := ⟨fun | 5 => 66 | 7 => 76 | n => n, fun | 23 => 60 | 25 => 83 | 3 => 3 | 4 => 4 | 20 => 20 | n => n, fun | n => n⟩
theorem Tryd.clone66 : Go.Proofs.SlLaysW.n5 Tryd.prog Tryd.clone66_ren := {
  mixed := by kernel_rfl
  f5 := ⟨Tryd.f66.name, by decide, Tryd.func66.trans (congrArg some (by kernel_rfl))⟩
  f7 := Tryd.func76.trans (congrArg some (by kernel_rfl))
  t4 := Tryd.underlying4
  a4 := Tryd.isAgg4
  z4 := Tryd.sizeOf4
  v4 := Tryd.zeroValue4
  t20 := Tryd.underlying20
  a20 := Tryd.isAgg20
  z20 := Tryd.sizeOf20
  v20 := Tryd.zeroValue20
  t23 := Tryd.underlying60
  a23 := Tryd.isAgg60
  z23 := Tryd.sizeOf60
  v23 := Tryd.zeroValue60 }
end Go.Proofs
namespace Go.Proofs.YthcphoijanebhaaDoor
open Go.RowKit Go.Maps
set_option linter.unusedVariables false
theorem cloneM_any {w : World} {m n : Nat} {f : Int × Int → Option Nat} (h : PM w m n f) : Calls Tryd.prog 66 #[.map (some m)] w fun e w' => e = .returned (.map (some w.heap.size)) ∧ PM w' w.heap.size n f ∧ w.heap.size < w'.heap.size ∧ Below w.heap.size w w' := by
  obtain ⟨D, hown, h2⟩ := h
  have hcon := AnyW.maps_Clone_owns Tryd.clone66 83 hv m n D w hown
  change Calls Tryd.prog 66 _ _ _ at hcon
  refine hcon.mono ?_
  rintro e w' ⟨rfl, h1, _, hB⟩
  exact ⟨rfl, ⟨D, h1, h2⟩, h1.lt, hB⟩
section
variable {w : World} {r b g m1 m2 k : Nat} {S : Nat → Prop} {l : List Ent} {V : List Nat}
set_option maxRecDepth 100000 in
set_option maxHeartbeats 4000000 in
theorem vtcopy_any (h : VT w b g m1 m2 S l) : Calls Tryd.prog 50 #[.pointer (some ⟨b, 0, none⟩)] w fun r w' => ∃ S' g' m1' m2', r = .returned (Tv g' m1' m2') ∧ TW w' S' g' m1' m2' l ∧ (∀ x, OwnT S' m1' m2' x → w.heap.size ≤ x ∧ x < w'.heap.size) ∧ Below w.heap.size w w' := by
  have hal := (Below.refl w.heap.size w).alloc (Nat.le_refl _) (.cells #[.pointer none, .map none, .map none] 62)
  have HZ1 : Hid (Blk (w.alloc (.cells #[.pointer none, .map none, .map none] 62)) w.heap.size 62 #[.pointer none, .map none, .map none]) := Lib.hid (Blk.new w 62 _)
  have HT1 := Lib.hid (h.tp.below hal)
  have HV1 := Lib.hid (h.below hal)
  have HB1 := Lib.hid hal
  have HBL := Lib.hid h.blt
  clear h hal
  go_enter Tryd.func50, Tryd.ntmps50
  go_upto_region 1 with fail
  generalize hw1 : w.alloc (.cells #[.pointer none, .map none, .map none] 62) = w1 at *
  clear hw1
  refine wp_region_np ?_
  refine wp_region_held_drew (S := fun W => W.cell? ⟨b, 0, none⟩ = some (.pointer (some ⟨g, 0, none⟩)) ∧ W.cell? ⟨b, 1, none⟩ = some (.map (some m1)) ∧ W.cell? ⟨b, 2, none⟩ = some (.map (some m2))) (by kernel_rfl) (show (fun W => W.cell? ⟨b, 0, none⟩ = some (.pointer (some ⟨g, 0, none⟩)) ∧ W.cell? ⟨b, 1, none⟩ = some (.map (some m1)) ∧ W.cell? ⟨b, 2, none⟩ = some (.map (some m2))) w1.drew from ⟨HV1.out.c0, HV1.out.vr.c1, HV1.out.vr.c2⟩) (fun hHeld => ?_)
  have hb0 : Below w1.heap.size w1 w1.drew := (Below.refl _ _).drew
  generalize hv0 : w1.drew = V0 at *
  clear hv0
  refine wpAnyH_takeAt (i := 0) (d := 3) (v := ?vq0x) rfl rfl (by kernel_rfl) (by kernel_rfl) (by kernel_rfl) (fun _ _ _ h => h) (Or.inl ⟨by rfl, ?hyq0x⟩) hHeld ?_
  case hyq0x =>
    intro W hSw
    clear hSw
    (go_simp; try with_reducible rfl)
  simp only [List.setIfInBounds_toArray, List.set_cons_zero, List.set_cons_succ]
  refine wpAnyH_takeAt (i := 1) (d := 4) (v := ?vq1x) rfl rfl (by kernel_rfl) (by kernel_rfl) (by kernel_rfl) (fun _ _ _ h => h) (Or.inl ⟨by rfl, ?hyq1x⟩) hHeld ?_
  case hyq1x =>
    intro W hSw
    clear hSw
    (go_simp; try with_reducible rfl)
  simp only [List.setIfInBounds_toArray, List.set_cons_zero, List.set_cons_succ]
  refine wpAnyH_takeAt (i := 2) (d := 5) (v := ?vq2x) rfl rfl (by kernel_rfl) (by kernel_rfl) (by kernel_rfl) (fun _ _ _ h => h) (Or.inl ⟨by rfl, ?hyq2x⟩) hHeld ?_
  case hyq2x =>
    intro W hSw
    clear hSw
    (go_simp; try with_reducible rfl)
  simp only [List.setIfInBounds_toArray, List.set_cons_zero, List.set_cons_succ]
  refine wpAnyH_takeAt (i := 3) (d := 6) (v := ?vq3x) rfl rfl (by kernel_rfl) (by kernel_rfl) (by kernel_rfl) (fun _ _ _ h => h) (Or.inl ⟨by rfl, ?hyq3x⟩) hHeld ?_
  case hyq3x =>
    intro W hSw
    have hh := hSw; obtain ⟨r0, r1, r2⟩ := hh; clear hSw
    (go_simp; try with_reducible rfl)
  simp only [List.setIfInBounds_toArray, List.set_cons_zero, List.set_cons_succ]
  refine wpAnyH_takeAt (i := 5) (d := 8) (v := ?vq4x) rfl rfl (by kernel_rfl) (by kernel_rfl) (by kernel_rfl) (fun _ _ _ h => h) (Or.inl ⟨by rfl, ?hyq4x⟩) hHeld ?_
  case hyq4x =>
    intro W hSw
    clear hSw
    (go_simp; try with_reducible rfl)
  simp only [List.setIfInBounds_toArray, List.set_cons_zero, List.set_cons_succ]
  refine wpAnyH_takeAt (i := 6) (d := 9) (v := ?vq5x) rfl rfl (by kernel_rfl) (by kernel_rfl) (by kernel_rfl) (fun _ _ _ h => h) (Or.inl ⟨by rfl, ?hyq5x⟩) hHeld ?_
  case hyq5x =>
    intro W hSw
    clear hSw
    (go_simp; try with_reducible rfl)
  simp only [List.setIfInBounds_toArray, List.set_cons_zero, List.set_cons_succ]
  refine wpAnyH_takeAt (i := 7) (d := 10) (v := ?vq6x) rfl rfl (by kernel_rfl) (by kernel_rfl) (by kernel_rfl) (fun _ _ _ h => h) (Or.inl ⟨by rfl, ?hyq6x⟩) hHeld ?_
  case hyq6x =>
    intro W hSw
    clear hSw
    (go_simp; try with_reducible rfl)
  simp only [List.setIfInBounds_toArray, List.set_cons_zero, List.set_cons_succ]
  refine wpAnyH_takeAt (i := 8) (d := 11) (v := ?vq7x) rfl rfl (by kernel_rfl) (by kernel_rfl) (by kernel_rfl) (fun _ _ _ h => h) (Or.inl ⟨by rfl, ?hyq7x⟩) hHeld ?_
  case hyq7x =>
    intro W hSw
    have hh := hSw; obtain ⟨r0, r1, r2⟩ := hh; clear hSw
    (go_simp; try with_reducible rfl)
  simp only [List.setIfInBounds_toArray, List.set_cons_zero, List.set_cons_succ]
  refine wpAnyH_takeAt (i := 10) (d := 13) (v := ?vq8x) rfl rfl (by kernel_rfl) (by kernel_rfl) (by kernel_rfl) (fun _ _ _ h => h) (Or.inl ⟨by rfl, ?hyq8x⟩) hHeld ?_
  case hyq8x =>
    intro W hSw
    clear hSw
    (go_simp; try with_reducible rfl)
  simp only [List.setIfInBounds_toArray, List.set_cons_zero, List.set_cons_succ]
  refine wpAnyH_takeAt (i := 11) (d := 14) (v := ?vq9x) rfl rfl (by kernel_rfl) (by kernel_rfl) (by kernel_rfl) (fun _ _ _ h => h) (Or.inl ⟨by rfl, ?hyq9x⟩) hHeld ?_
  case hyq9x =>
    intro W hSw
    clear hSw
    (go_simp; try with_reducible rfl)
  simp only [List.setIfInBounds_toArray, List.set_cons_zero, List.set_cons_succ]
  refine wpAnyH_takeAt (i := 12) (d := 15) (v := ?vq10x) rfl rfl (by kernel_rfl) (by kernel_rfl) (by kernel_rfl) (fun _ _ _ h => h) (Or.inl ⟨by rfl, ?hyq10x⟩) hHeld ?_
  case hyq10x =>
    intro W hSw
    clear hSw
    (go_simp; try with_reducible rfl)
  simp only [List.setIfInBounds_toArray, List.set_cons_zero, List.set_cons_succ]
  refine wpAnyH_takeAt (i := 13) (d := 16) (v := ?vq11x) rfl rfl (by kernel_rfl) (by kernel_rfl) (by kernel_rfl) (fun _ _ _ h => h) (Or.inl ⟨by rfl, ?hyq11x⟩) hHeld ?_
  case hyq11x =>
    intro W hSw
    have hh := hSw; obtain ⟨r0, r1, r2⟩ := hh; clear hSw
    (go_simp; try with_reducible rfl)
  simp only [List.setIfInBounds_toArray, List.set_cons_zero, List.set_cons_succ]
  refine wpAnyH_ready (rs := [4]) (by kernel_rfl) (by simp) (AllReadyH.cons rfl (fun K hK => ?_) AllReadyH.nil)
  go_simp
  refine (copy_any (HT1.out.tb.below hb0)).mono ?_
  rintro x V1 ⟨z, rfl, hz, hb1⟩
  dsimp only
  have hblt : b < V0.heap.size := by have := HBL.out; have := HB1.out.size; have := hb0.size; omega
  have hHeld2 : (fun W => W.cell? ⟨b, 0, none⟩ = some (.pointer (some ⟨g, 0, none⟩)) ∧ W.cell? ⟨b, 1, none⟩ = some (.map (some m1)) ∧ W.cell? ⟨b, 2, none⟩ = some (.map (some m2))) V1 := ⟨(hb1.cell (p := ⟨b, 0, none⟩) hblt).trans hHeld.1, (hb1.cell (p := ⟨b, 1, none⟩) hblt).trans hHeld.2.1, (hb1.cell (p := ⟨b, 2, none⟩) hblt).trans hHeld.2.2⟩
  refine hK.out _ _ hHeld2 (fun hHeld => ?_)
  clear hK K hHeld2
  try simp only [List.setIfInBounds_toArray, List.set_cons_zero, List.set_cons_succ]
  refine wpAnyH_ready (rs := [9]) (by kernel_rfl) (by simp) (AllReadyH.cons rfl (fun K hK => ?_) AllReadyH.nil)
  go_simp
  refine (cloneM_any (HT1.out.e1.below (hb0.trans (hb1.mono hb0.size)))).mono ?_
  rintro x V2 ⟨rfl, hp2, hl2, hb2⟩
  dsimp only
  have hblt : b < V1.heap.size := by have := hb1.size; omega
  have hHeld2 : (fun W => W.cell? ⟨b, 0, none⟩ = some (.pointer (some ⟨g, 0, none⟩)) ∧ W.cell? ⟨b, 1, none⟩ = some (.map (some m1)) ∧ W.cell? ⟨b, 2, none⟩ = some (.map (some m2))) V2 := ⟨(hb2.cell (p := ⟨b, 0, none⟩) hblt).trans hHeld.1, (hb2.cell (p := ⟨b, 1, none⟩) hblt).trans hHeld.2.1, (hb2.cell (p := ⟨b, 2, none⟩) hblt).trans hHeld.2.2⟩
  refine hK.out _ _ hHeld2 (fun hHeld => ?_)
  clear hK K hHeld2
  generalize hn1 : V1.heap.size = n1 at *
  try simp only [List.setIfInBounds_toArray, List.set_cons_zero, List.set_cons_succ]
  refine wpAnyH_ready (rs := [14]) (by kernel_rfl) (by simp) (AllReadyH.cons rfl (fun K hK => ?_) AllReadyH.nil)
  go_simp
  have hb02 : Below w1.heap.size w1 V2 := (hb0.trans (hb1.mono hb0.size)).trans (hb2.mono (by have := hb0.size; have := hb1.size; omega))
  refine (cloneM_any (HT1.out.e2.below hb02)).mono ?_
  rintro x V3 ⟨rfl, hp3, hl3, hb3⟩
  dsimp only
  have hblt : b < V2.heap.size := by have := hb2.size; omega
  have hHeld2 : (fun W => W.cell? ⟨b, 0, none⟩ = some (.pointer (some ⟨g, 0, none⟩)) ∧ W.cell? ⟨b, 1, none⟩ = some (.map (some m1)) ∧ W.cell? ⟨b, 2, none⟩ = some (.map (some m2))) V3 := ⟨(hb3.cell (p := ⟨b, 0, none⟩) hblt).trans hHeld.1, (hb3.cell (p := ⟨b, 1, none⟩) hblt).trans hHeld.2.1, (hb3.cell (p := ⟨b, 2, none⟩) hblt).trans hHeld.2.2⟩
  refine hK.out _ _ hHeld2 (fun hHeld => ?_)
  clear hK K hHeld2
  generalize hn2 : V2.heap.size = n2 at *
  try simp only [List.setIfInBounds_toArray, List.set_cons_zero, List.set_cons_succ]
  refine wpAnyH_takeAt (i := 15) (d := 18) (v := ?vq12x) rfl rfl (by kernel_rfl) (by kernel_rfl) (by kernel_rfl) (fun _ _ _ h => h) (Or.inl ⟨by rfl, ?hyq12x⟩) hHeld ?_
  case hyq12x =>
    intro W hSw
    clear hSw
    (go_simp; try with_reducible rfl)
  simp only [List.setIfInBounds_toArray, List.set_cons_zero, List.set_cons_succ]
  refine wpAnyH_ready (rs := [16]) (by kernel_rfl) (by simp) (AllReadyH.cons rfl (fun K hK => ?_) AllReadyH.nil)
  have hb03 : Below w1.heap.size w1 V3 := hb02.trans (hb3.mono (by have := hb02.size; omega))
  have hZ3 := HZ1.out.below hb03 HZ1.out.lt
  refine step_store_blk (by rfl) (by rfl) 62 _ _ (by rfl) w.heap.size _ #[.pointer (some ⟨z, 0, none⟩), .map (some n1), .map (some n2)] (by rfl) (by rfl) 62 hZ3 (by rfl) (by kernel_rfl) (by simp [Value.oneCell']) ?_
  intro V4 hX hg hs
  have hTx : Turn (fun x => x = w.heap.size) V3 V4 := Turn.of_grown hg (fun r e => by injection e with e; exact e.symm)
  have hwl := HZ1.out.lt
  have hs1 := hb0.size
  have hs2 := hb1.size
  have hs3 := hb2.size
  have hs4 := hb3.size
  have hs5 := hTx.size
  have hblt := HBL.out
  have HF : Hid (Blk V4 w.heap.size 62 #[.pointer (some ⟨z, 0, none⟩), .map (some n1), .map (some n2)] ∧ TW V4 (NewB V0 V1) z n1 n2 l ∧ (∀ x, OwnT (NewB V0 V1) n1 n2 x → w.heap.size ≤ x ∧ x < V4.heap.size) ∧ Below w.heap.size w V4) := Lib.hid (by
    refine ⟨hX, ⟨?_, ?_, ?_, by omega, fun q => by have := q.2; omega, fun q => by have := q.2; omega⟩, fun x hx => ?_, (HB1.out.trans (hb03.mono (by omega))).trans (hTx.below (by have := HB1.out.size; omega) (fun x e => by omega))⟩
    · exact ((hz.below (hn1 ▸ hb2)).below (hn2 ▸ hb3)).keep hTx (fun x _ hx e => by have := hx.1; omega)
    · exact (hp2.below (hn2 ▸ hb3)).keep hTx (by omega)
    · exact hp3.keep hTx (by omega)
    · rcases hx with q | q | q
      · have h1 := q.1; have h2 := q.2; exact ⟨by omega, by omega⟩
      · exact ⟨by omega, by omega⟩
      · exact ⟨by omega, by omega⟩)
  have hHeld2 : (fun W => W.cell? ⟨b, 0, none⟩ = some (.pointer (some ⟨g, 0, none⟩)) ∧ W.cell? ⟨b, 1, none⟩ = some (.map (some m1)) ∧ W.cell? ⟨b, 2, none⟩ = some (.map (some m2))) V4 := ⟨(hTx.cell (p := ⟨b, 0, none⟩) (by show b < _; omega) (by show ¬ b = _; omega)).trans hHeld.1, (hTx.cell (p := ⟨b, 1, none⟩) (by show b < _; omega) (by show ¬ b = _; omega)).trans hHeld.2.1, (hTx.cell (p := ⟨b, 2, none⟩) (by show b < _; omega) (by show ¬ b = _; omega)).trans hHeld.2.2⟩
  refine hK.out _ _ hHeld2 (fun hHeld => ?_)
  clear hK K hHeld2 hX hg hs hTx hb03 hZ3 hz hp2 hp3 hb0 hb1 hb2 hb3 hb02
  refine wpAnyH_done (by kernel_rfl) ?_ _
  clear hHeld
  go_wp2_with fail
  refine bodyPost_ret (v := Tv z n1 n2) (results_cell_row (by rfl) _ _ w.heap.size 62 _ (0, 0) _ (by rfl) HF.out.1 und62 (by rfl) (by kernel_rfl)) rfl ?_
  exact ⟨NewB V0 V1, z, n1, n2, rfl, HF.out.2.1, HF.out.2.2.1, HF.out.2.2.2⟩
set_option maxRecDepth 100000 in
set_option maxHeartbeats 4000000 in
theorem rcopy_any (h : Rr w S r l k V) (hV : V.length ≤ 1000000) : Calls Tryd.prog 30 #[.pointer (some ⟨r, 0, none⟩)] w fun x w' => ∃ z, x = .returned (.pointer (some ⟨z, 0, none⟩)) ∧ Rr w' (NewB w w') z l k V ∧ Below w.heap.size w w' := by
  obtain ⟨g, m1, m2, S0, v, hX, hS⟩ := h
  have HX := Lib.hid hX
  have c0 : w.cell? ⟨r, 0, none⟩ = some (.pointer (some ⟨g, 0, none⟩)) := hX.blk.cell 0
  obtain ⟨Av, cv, rfl, -⟩ := ints_form hX.row
  clear hX hS
  go_enter Tryd.func30, Tryd.ntmps30
  go_wp2_with fail
  refine (vthere_yes c0).mono ?_
  rintro x w9 ⟨rfl, rfl⟩
  go_upto_region 3 with fail
  refine wp_region_np ?_
  refine wp_region_held_drew (S := fun W => Below w.heap.size w W) (by kernel_rfl) (show Below w.heap.size w w.drew from (Below.refl _ _).drew) (fun hHeld => ?_)
  have hb0 : Below w.heap.size w w.drew := (Below.refl _ _).drew
  generalize hv0 : w.drew = V0 at *
  clear hv0
  refine wpAnyH_takeAt (i := 0) (d := 6) (v := ?vq13x) rfl rfl (by kernel_rfl) (by kernel_rfl) (by kernel_rfl) (fun _ _ _ h => h) (Or.inl ⟨by rfl, ?hyq13x⟩) hHeld ?_
  case hyq13x =>
    intro W hSw
    clear hSw
    (go_simp; try with_reducible rfl)
  simp only [List.setIfInBounds_toArray, List.set_cons_zero, List.set_cons_succ]
  refine wpAnyH_takeAt (i := 1) (d := 7) (v := ?vq14x) rfl rfl (by kernel_rfl) (by kernel_rfl) (by kernel_rfl) (fun _ _ _ h => h) (Or.inl ⟨by rfl, ?hyq14x⟩) hHeld ?_
  case hyq14x =>
    intro W hSw
    clear hSw
    (go_simp; try with_reducible rfl)
  simp only [List.setIfInBounds_toArray, List.set_cons_zero, List.set_cons_succ]
  refine wpAnyH_takeAt (i := 2) (d := 8) (v := ?vq15x) rfl rfl (by kernel_rfl) (by kernel_rfl) (by kernel_rfl) (fun _ _ _ h => h) (Or.inl ⟨by rfl, ?hyq15x⟩) hHeld ?_
  case hyq15x =>
    intro W hSw
    clear hSw
    (go_simp; try with_reducible rfl)
  simp only [List.setIfInBounds_toArray, List.set_cons_zero, List.set_cons_succ]
  refine wpAnyH_takeAt (i := 4) (d := 10) (v := ?vq16x) rfl rfl (by kernel_rfl) (by kernel_rfl) (by kernel_rfl) (fun _ _ _ h => h) (Or.inl ⟨by rfl, ?hyq16x⟩) hHeld ?_
  case hyq16x =>
    intro W hSw
    clear hSw
    (go_simp; try with_reducible rfl)
  simp only [List.setIfInBounds_toArray, List.set_cons_zero, List.set_cons_succ]
  refine wpAnyH_takeAt (i := 5) (d := 11) (v := ?vq17x) rfl rfl (by kernel_rfl) (by kernel_rfl) (by kernel_rfl) (fun _ _ _ h => h) (Or.inl ⟨by rfl, ?hyq17x⟩) hHeld ?_
  case hyq17x =>
    intro W hSw
    clear hSw
    (go_simp; try with_reducible rfl)
  simp only [List.setIfInBounds_toArray, List.set_cons_zero, List.set_cons_succ]
  refine wpAnyH_takeAt (i := 6) (d := 12) (v := ?vq18x) rfl rfl (by kernel_rfl) (by kernel_rfl) (by kernel_rfl) (fun _ _ _ h => h) (Or.inl ⟨by rfl, ?hyq18x⟩) hHeld ?_
  case hyq18x =>
    intro W hSw
    clear hSw
    (go_simp; try with_reducible rfl)
  simp only [List.setIfInBounds_toArray, List.set_cons_zero, List.set_cons_succ]
  refine wpAnyH_takeAt (i := 7) (d := 13) (v := ?vq19x) rfl rfl (by kernel_rfl) (by kernel_rfl) (by kernel_rfl) (fun _ _ _ h => h) (Or.inl ⟨by rfl, ?hyq19x⟩) hHeld ?_
  case hyq19x =>
    intro W hSw
    have r3 : W.cell? ⟨r, 3, none⟩ = some (.int .i64 (k : Int)) := (HX.out.below hSw).blk.cell 3; clear hSw
    (go_simp; try with_reducible rfl)
  simp only [List.setIfInBounds_toArray, List.set_cons_zero, List.set_cons_succ]
  refine wpAnyH_takeAt (i := 8) (d := 14) (v := ?vq20x) rfl rfl (by kernel_rfl) (by kernel_rfl) (by kernel_rfl) (fun _ _ _ h => h) (Or.inl ⟨by rfl, ?hyq20x⟩) hHeld ?_
  case hyq20x =>
    intro W hSw
    clear hSw
    (go_simp; try with_reducible rfl)
  simp only [List.setIfInBounds_toArray, List.set_cons_zero, List.set_cons_succ]
  refine wpAnyH_takeAt (i := 9) (d := 15) (v := ?vq21x) rfl rfl (by kernel_rfl) (by kernel_rfl) (by kernel_rfl) (fun _ _ _ h => h) (Or.inl ⟨by rfl, ?hyq21x⟩) hHeld ?_
  case hyq21x =>
    intro W hSw
    clear hSw
    (go_simp; try with_reducible rfl)
  simp only [List.setIfInBounds_toArray, List.set_cons_zero, List.set_cons_succ]
  refine wpAnyH_takeAt (i := 10) (d := 16) (v := ?vq22x) rfl rfl (by kernel_rfl) (by kernel_rfl) (by kernel_rfl) (fun _ _ _ h => h) (Or.inl ⟨by rfl, ?hyq22x⟩) hHeld ?_
  case hyq22x =>
    intro W hSw
    clear hSw
    (go_simp; try with_reducible rfl)
  simp only [List.setIfInBounds_toArray, List.set_cons_zero, List.set_cons_succ]
  refine wpAnyH_takeAt (i := 11) (d := 17) (v := ?vq23x) rfl rfl (by kernel_rfl) (by kernel_rfl) (by kernel_rfl) (fun _ _ _ h => h) (Or.inl ⟨by rfl, ?hyq23x⟩) hHeld ?_
  case hyq23x =>
    intro W hSw
    have r4 : W.cell? ⟨r, 4, none⟩ = some (.slice Av V.length cv) := (HX.out.below hSw).blk.cell 4; clear hSw
    (go_simp; try with_reducible rfl)
  simp only [List.setIfInBounds_toArray, List.set_cons_zero, List.set_cons_succ]
  refine wpAnyH_ready (rs := [3]) (by kernel_rfl) (by simp) (AllReadyH.cons rfl (fun K hK => ?_) AllReadyH.nil)
  go_simp
  refine (vtcopy_any (HX.out.below hb0).vt).mono ?_
  rintro x V1 ⟨S1, g1, n1, n2, rfl, hT1, hS1, hb1⟩
  dsimp only
  refine hK.out _ _ (hHeld.trans (hb1.mono hHeld.size)) (fun hHeld => ?_)
  clear hK K
  unfold Tv
  try simp only [List.setIfInBounds_toArray, List.set_cons_zero, List.set_cons_succ]
  refine wpAnyH_ready (rs := [12]) (by kernel_rfl) (by simp) (AllReadyH.cons rfl (fun K hK => ?_) AllReadyH.nil)
  go_simp
  refine (cloneI_any ((HX.out.below hHeld).row) hV).mono ?_
  rintro x V2 ⟨v2, rfl, ho2, hv2, hb2⟩
  dsimp only
  refine hK.out _ _ (hHeld.trans (hb2.mono hHeld.size)) (fun hHeld => ?_)
  clear hK K
  obtain ⟨A2, c2, rfl, -⟩ := ints_form ho2
  try simp only [List.setIfInBounds_toArray, List.set_cons_zero, List.set_cons_succ]
  refine wpAnyH_takeAt (i := 13) (d := 19) (v := ?vq24x) rfl rfl (by kernel_rfl) (by kernel_rfl) (by kernel_rfl) (fun _ _ _ h => h) (Or.inl ⟨by rfl, ?hyq24x⟩) hHeld ?_
  case hyq24x =>
    intro W hSw
    clear hSw
    (go_simp; try with_reducible rfl)
  simp only [List.setIfInBounds_toArray, List.set_cons_zero, List.set_cons_succ]
  refine wpAnyH_ready (rs := [14]) (by kernel_rfl) (by simp) (AllReadyH.cons rfl (fun K hK => ?_) AllReadyH.nil)
  go_simp
  have HF : Hid (Rr (V2.alloc (.cells #[.pointer (some ⟨g1, 0, none⟩), .map (some n1), .map (some n2), .int .i64 (k : Int), .slice A2 V.length c2] 80)) (NewB w (V2.alloc (.cells #[.pointer (some ⟨g1, 0, none⟩), .map (some n1), .map (some n2), .int .i64 (k : Int), .slice A2 V.length c2] 80))) V2.heap.size l k V ∧ Below w.heap.size w (V2.alloc (.cells #[.pointer (some ⟨g1, 0, none⟩), .map (some n1), .map (some n2), .int .i64 (k : Int), .slice A2 V.length c2] 80))) := Lib.hid (by
    have hs0 := hb0.size
    have hs1 := hb1.size
    have hs2 := hb2.size
    have hal := (Below.refl V2.heap.size V2).alloc (Nat.le_refl _) (.cells #[.pointer (some ⟨g1, 0, none⟩), .map (some n1), .map (some n2), .int .i64 (k : Int), .slice A2 V.length c2] 80)
    have hlt := (Blk.new V2 80 #[.pointer (some ⟨g1, 0, none⟩), .map (some n1), .map (some n2), .int .i64 (k : Int), .slice A2 V.length c2]).lt
    have hT3 := (hT1.below hb2).below hal
    refine ⟨⟨g1, n1, n2, S1, .slice A2 V.length c2, ⟨Blk.new _ _ _, hT3, ho2.below hal, fun x hx => ⟨by have := hS1 x hx; omega, by have := hS1 x hx; omega, fun e => by have h1 := hS1 x hx; have h2 := hv2 x e; omega⟩, fun e => by have := ho2.lt e; omega⟩, fun x hx => ?_⟩, hHeld.alloc hHeld.size _⟩
    rcases hx with e | e | e
    · exact ⟨by omega, by omega⟩
    · have := hS1 x e; exact ⟨by omega, by omega⟩
    · have h1 := hv2 x e; have h2 := ho2.lt e; exact ⟨by omega, by omega⟩)
  refine hK.out _ _ (hHeld.alloc hHeld.size _) (fun hHeld => ?_)
  clear hK K hT1 hS1 ho2 hv2 hb2
  generalize hzz : V2.heap.size = zz at *
  generalize hvv : V2.alloc (.cells #[.pointer (some ⟨g1, 0, none⟩), .map (some n1), .map (some n2), .int .i64 (k : Int), .slice A2 V.length c2] 80) = V3 at *
  try simp only [List.setIfInBounds_toArray, List.set_cons_zero, List.set_cons_succ]
  refine wpAnyH_takeAt (i := 15) (d := 2) (v := ?vq25x) rfl rfl (by kernel_rfl) (by kernel_rfl) (by kernel_rfl) (fun _ _ _ h => h) (Or.inl ⟨by rfl, ?hyq25x⟩) hHeld ?_
  case hyq25x =>
    intro W hSw
    clear hSw
    (go_simp; try with_reducible rfl)
  simp only [List.setIfInBounds_toArray, List.set_cons_zero, List.set_cons_succ]
  refine wpAnyH_done (by kernel_rfl) ?_ _
  clear hHeld hzz hvv hb0 hb1
  go_wp2_with fail
  go_ret
  exact ⟨_, rfl, HF.out.1, HF.out.2⟩
end
end Go.Proofs.YthcphoijanebhaaDoor
