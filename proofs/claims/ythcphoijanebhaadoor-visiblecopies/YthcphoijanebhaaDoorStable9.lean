/-
  What is told one by one: the entries of a log that are stable, from a place on: how it is made. Conditions: a length that is there.
-/
import Derived.Test.YthcphoijanebhaaDoorSees9
import Derived.Test.YthcphoijanebhaaDoorMisc
import Derived.Test.YthcphoijanebhaaDoorSame
import Derived.Deep.Cut
namespace Go.Proofs.YthcphoijanebhaaDoor
open Go.RowKit Go.Maps
set_option linter.unusedVariables false
theorem slice22_to (a : Option Addr) (n c k : Nat) (hk : k ≤ c) (W : World) : (Instr.slice 22 (.slice a n c) none (some (.int .i64 (k : Int))) none).run Tryd.prog W = .ok (.slice a k c) W := by
  obtain ⟨j, hj, hz0, hz1, hz2⟩ := info_parts el22.info
  have ha : a.map (fun x : Addr => x.add 0) = a := by cases a <;> simp [Addr.add]
  simp [Instr.slice, run_underlying Tryd.underlying22, Instr.sliceBounds, Instr.sliceBound, asIntOf, hk, sizeOf, typeInfo, hj, ha]
theorem OwnK.take {w : World} {e k n c : Nat} {A : Option Addr} {css : List (Array Value)} (h : OwnK w e k (.slice A n c) css) {q : Nat} (hq : q ≤ css.length) : OwnK w e k (.slice A q c) (css.take q) := by
  have hlen : (css.take q).length = q := by rw [List.length_take]; omega
  refine ⟨⟨?_, ?_⟩, h.2.take q⟩
  · exact length_flatA (h.2.take q)
  · rw [hlen]
    rcases h.1.2 with ⟨e1, h0⟩ | ⟨g, cap, cur, e1, h1, h2, h3, h4, h5, h6⟩
    · injection e1 with e1 e2 e3
      subst e1 e2 e3
      left
      exact ⟨by rw [show q = 0 by omega], by omega⟩
    · injection e1 with e1 e2 e3
      subst e1 e3
      refine .inr ⟨g, c, cur, rfl, h1, h2, by omega, h4, h5, ?_⟩
      have hfl : flatA css = flatA (css.take q) ++ flatA (css.drop q) := by rw [← flatA_append, List.take_append_drop]
      have hl1 : (flatA (css.take q)).length = q * k := by rw [length_flatA (h.2.take q), hlen]
      have hle : q * k ≤ css.length * k := Nat.mul_le_mul_right k hq
      have := congrArg (fun z => z.take (q * k)) h6
      simp only [List.take_take, Nat.min_eq_left hle] at this
      rw [this, hfl, List.take_append_of_le_length (by omega), List.take_of_length_le (by omega)]
/-- The iterator's own cells: where it begins, up to where, the table, the first n entries. -/
structure ItS (w : World) (B : Nat) (b bf bn bt bl : Nat) (fr n : Nat) (l : List Ent) : Prop where
  cf : w.cell? ⟨bf, 0, none⟩ = some (.int .i64 (fr : Int))
  cn : w.cell? ⟨bn, 0, none⟩ = some (.int .i64 (n : Int))
  ct : w.cell? ⟨bt, 0, none⟩ = some (.pointer (some ⟨b, 0, none⟩))
  cl : ∃ A c, w.cell? ⟨bl, 0, none⟩ = some (.slice A n c) ∧ Rd w No 6 A n (cellsOf (l.take n)) ∧ ∀ ad, A = some ad → B ≤ ad.block
  lo : B ≤ bf ∧ B ≤ bn ∧ B ≤ bt ∧ B ≤ bl
theorem ItS.below {w w' : World} {B b bf bn bt bl fr n : Nat} {l : List Ent} (h : ItS w B b bf bn bt bl fr n l) (hb : Below w.heap.size w w') : ItS w' B b bf bn bt bl fr n l := by
  obtain ⟨h1, h2, h3, ⟨A, c, h4, h5, h7⟩, h6⟩ := h
  exact ⟨(World.cell?_of_block (hb.block bf (block_lt_of_cell h1))).trans h1, (World.cell?_of_block (hb.block bn (block_lt_of_cell h2))).trans h2, (World.cell?_of_block (hb.block bt (block_lt_of_cell h3))).trans h3, ⟨A, c, (World.cell?_of_block (hb.block bl (block_lt_of_cell h4))).trans h4, h5.below hb, h7⟩, h6⟩
/-- The iterator that stable tells. -/
def StF (bf bn bt bl : Nat) : Value := .func (.func 56) #[] #[.pointer (some ⟨bf, 0, none⟩), .pointer (some ⟨bn, 0, none⟩), .pointer (some ⟨bt, 0, none⟩), .pointer (some ⟨bl, 0, none⟩)]
section
variable {w : World} {b g m1 m2 : Nat} {S : Nat → Prop} {l : List Ent}
set_option maxRecDepth 100000 in
set_option maxHeartbeats 4000000 in
theorem stable_any (h : VT w b g m1 m2 S l) (fr n : Nat) (hn : n ≤ l.length) : Calls Tryd.prog 36 #[.pointer (some ⟨b, 0, none⟩), .int .i64 (fr : Int), .int .i64 (n : Int)] w fun r w' =>
    ∃ bf bn bt bl, r = .returned (StF bf bn bt bl) ∧ ItS w' w.heap.size b bf bn bt bl fr n l ∧ Below w.heap.size w w' := by
  obtain ⟨w3, hw3⟩ : ∃ w3, w3 = ((w.alloc (.cells #[.pointer (some ⟨b, 0, none⟩)] 89)).alloc (.cells #[.int .i64 (fr : Int)] 3)).alloc (.cells #[.int .i64 (n : Int)] 3) := ⟨_, rfl⟩
  have HB3 : Hid (Below w.heap.size w w3) := Lib.hid (by subst hw3; exact (((Below.refl _ _).alloc (Nat.le_refl _) _).alloc (by simp) _).alloc (by simp; omega) _)
  have HX : Hid (w3.cell? ⟨w.heap.size, 0, none⟩ = some (.pointer (some ⟨b, 0, none⟩)) ∧ w3.cell? ⟨w.heap.size + 1, 0, none⟩ = some (.int .i64 (fr : Int)) ∧ w3.cell? ⟨w.heap.size + 1 + 1, 0, none⟩ = some (.int .i64 (n : Int)) ∧ w.heap.size + 3 = w3.heap.size) := Lib.hid (by
    subst hw3
    have k0 := (Blk.new w 89 #[.pointer (some ⟨b, 0, none⟩)])
    have k1 := (Blk.new (w.alloc (.cells #[.pointer (some ⟨b, 0, none⟩)] 89)) 3 #[.int .i64 (fr : Int)])
    have k2 := (Blk.new ((w.alloc (.cells #[.pointer (some ⟨b, 0, none⟩)] 89)).alloc (.cells #[.int .i64 (fr : Int)] 3)) 3 #[.int .i64 (n : Int)])
    simp only [World.size_alloc] at k1 k2
    refine ⟨((k0.alloc _).alloc _).cell 0, (k1.alloc _).cell 0, k2.cell 0, by simp⟩)
  have HV := Lib.hid (h.below HB3.out)
  have HN := Lib.hid hn
  clear h hn
  go_enter Tryd.func36, Tryd.ntmps36
  go_upto_region 1 with fail
  rw [← hw3]
  generalize hz0 : w.heap.size = z0 at *
  clear hw3
  have HLT : Hid (z0 < w3.heap.size ∧ z0 + 1 < w3.heap.size ∧ z0 + 1 + 1 < w3.heap.size ∧ b < w3.heap.size ∧ z0 ≤ w3.heap.size) := Lib.hid (by have := HX.out.2.2.2; have := HV.out.blt; omega)
  have HC0 : Hid (w3.cell? ⟨b, 0, none⟩ = some (.pointer (some ⟨g, 0, none⟩))) := Lib.hid HV.out.c0
  have hlog : ∀ W, Below w3.heap.size w3 W → Calls Tryd.prog 55 #[.pointer (some ⟨g, 0, none⟩)] W (NewL W l) := fun W hW => log_any (HV.out.tb.below hW)
  refine wp_region_np ?_
  refine wp_region_held_drew (S := fun W => Below w3.heap.size w3 W) (by kernel_rfl) (show Below w3.heap.size w3 w3.drew from (Below.refl _ _).drew) (fun hHeld => ?_)
  have hd4 : Below w3.heap.size w3 w3.drew := (Below.refl _ _).drew
  generalize w3.drew = w4 at *
  refine wpAnyH_takeAt (i := 0) (d := 8) (v := ?vq0x) rfl rfl (by kernel_rfl) (by kernel_rfl) (by kernel_rfl) (fun _ _ _ h => h) (Or.inl ⟨by rfl, ?hyq0x⟩) hHeld ?_
  case hyq0x =>
    intro W hSw
    have qc := (hSw.cell (p := ⟨z0, 0, none⟩) HLT.out.1).trans HX.out.1; clear hSw
    (go_simp; try with_reducible rfl)
  simp only [List.setIfInBounds_toArray, List.set_cons_zero, List.set_cons_succ]
  refine wpAnyH_takeAt (i := 1) (d := 9) (v := ?vq1x) rfl rfl (by kernel_rfl) (by kernel_rfl) (by kernel_rfl) (fun _ _ _ h => h) (Or.inl ⟨by rfl, ?hyq1x⟩) hHeld ?_
  case hyq1x =>
    intro W hSw
    clear hSw
    (go_simp; try with_reducible rfl)
  simp only [List.setIfInBounds_toArray, List.set_cons_zero, List.set_cons_succ]
  refine wpAnyH_takeAt (i := 2) (d := 10) (v := ?vq2x) rfl rfl (by kernel_rfl) (by kernel_rfl) (by kernel_rfl) (fun _ _ _ h => h) (Or.inl ⟨by rfl, ?hyq2x⟩) hHeld ?_
  case hyq2x =>
    intro W hSw
    clear hSw
    (go_simp; try with_reducible rfl)
  simp only [List.setIfInBounds_toArray, List.set_cons_zero, List.set_cons_succ]
  refine wpAnyH_takeAt (i := 3) (d := 11) (v := ?vq3x) rfl rfl (by kernel_rfl) (by kernel_rfl) (by kernel_rfl) (fun _ _ _ h => h) (Or.inl ⟨by rfl, ?hyq3x⟩) hHeld ?_
  case hyq3x =>
    intro W hSw
    have qc := (hSw.cell (p := ⟨b, 0, none⟩) HLT.out.2.2.2.1).trans HC0.out; clear hSw
    (go_simp; try with_reducible rfl)
  simp only [List.setIfInBounds_toArray, List.set_cons_zero, List.set_cons_succ]
  refine wpAnyH_takeAt (i := 5) (d := 13) (v := ?vq4x) rfl rfl (by kernel_rfl) (by kernel_rfl) (by kernel_rfl) (fun _ _ _ h => h) (Or.inl ⟨by rfl, ?hyq4x⟩) hHeld ?_
  case hyq4x =>
    intro W hSw
    have qc := (hSw.cell (p := ⟨z0 + 1 + 1, 0, none⟩) HLT.out.2.2.1).trans HX.out.2.2.1; clear hSw
    (go_simp; try with_reducible rfl)
  simp only [List.setIfInBounds_toArray, List.set_cons_zero, List.set_cons_succ]
  refine wpAnyH_ready (rs := [4, 7]) (by kernel_rfl) (by simp) (AllReadyH.cons rfl (fun K hK => ?_) (AllReadyH.cons rfl (fun K hK => ?_) AllReadyH.nil))
  · go_simp
    refine (hlog w4 hd4).mono ?_
    rintro r w5 ⟨v5, rfl, hO5, hv5, hb5⟩
    obtain ⟨A, q, c, rfl, hq, hcc, -⟩ := hO5.form
    have hq' : q = l.length := by rw [hq]; simp [cellsOf]
    subst hq'
    have hnl := HN.out
    have HO5 := Lib.hid hO5
    have HV5 := Lib.hid hv5
    have HV3 : Hid (∀ bb, Value.ownBlock (.slice A l.length c) = some bb → w3.heap.size ≤ bb) := Lib.hid (fun bb eb => Nat.le_trans (Below.size hd4) (hv5 bb eb))
    have hc5 : Below w3.heap.size w3 w5 := hd4.trans (hb5.mono (Below.size hd4))
    dsimp only
    clear hO5 hv5 hq hb5
    refine hK.out _ _ (show Below w3.heap.size w3 w5 from hc5) (fun hHeld => ?_)
    clear hK K
    try simp only [List.setIfInBounds_toArray, List.set_cons_zero, List.set_cons_succ]
    refine wpAnyH_takeAt (i := 6) (d := 14) (v := ?vq5x) rfl rfl (by kernel_rfl) (by kernel_rfl) (by kernel_rfl) (fun _ _ _ h => h) (Or.inl ⟨by rfl, ?hyq5x⟩) hHeld ?_
    case hyq5x =>
      intro W hSw
      have qs := slice22_to A l.length c n (by omega); clear hSw
      (go_simp; try with_reducible rfl)
    simp only [List.setIfInBounds_toArray, List.set_cons_zero, List.set_cons_succ]
    refine wpAnyH_ready (rs := [7]) (by kernel_rfl) (by simp) (AllReadyH.cons rfl (fun K hK => ?_) AllReadyH.nil)
    go_simp
    have hc6 : Below w3.heap.size w3 (w5.alloc (.cells #[.slice none 0 0] 22)) := hc5.alloc (Below.size hc5) _
    have HBL : Hid (Blk (w5.alloc (.cells #[.slice none 0 0] 22)) w5.heap.size 22 #[.slice none 0 0]) := Lib.hid (Blk.new _ _ _)
    have HZL : Hid (w3.heap.size ≤ w5.heap.size) := Lib.hid (Below.size hc5)
    have HO6 := Lib.hid (HO5.out.alloc (.cells #[.slice none 0 0] 22))
    have HNE : Hid (∀ bb, Value.ownBlock (.slice A l.length c) = some bb → bb ≠ w5.heap.size) := Lib.hid (fun bb eb e => by have := HO5.out.lt eb; omega)
    refine hK.out _ _ hc6 (fun hHeld => ?_)
    clear hK K
    try simp only [List.setIfInBounds_toArray, List.set_cons_zero, List.set_cons_succ]
    generalize w5.alloc (.cells #[.slice none 0 0] 22) = w6 at *
    generalize hz6 : w5.heap.size = z6 at *
    refine wpAnyH_ready (rs := [8]) (by kernel_rfl) (by simp) (AllReadyH.cons rfl (fun K hK => ?_) AllReadyH.nil)
    have qc := HBL.out.cell 0
    have qf : w6.frozen? ⟨z6, 0, none⟩ = false := by have := HBL.out; unfold Blk at this; simp [World.frozen?, this]
    go_simp
    have hst := HBL.out.set_ 0 (.slice A n c)
    have hc8 : Below w3.heap.size w3 (w6.setCell ⟨z6, 0, none⟩ (.slice A n c)) := hc6.setCell (p := ⟨z6, 0, none⟩) HZL.out _
    have HO8 : Hid (OwnK (w6.setCell ⟨z6, 0, none⟩ (.slice A n c)) 45 6 (.slice A l.length c) (cellsOf l)) := Lib.hid (HO6.out.keepB (fun bb eb => Below.heap_setCell w6 _ _ bb (HNE.out bb eb)))
    have HST := Lib.hid hst
    clear hst qc qf
    refine hK.out _ _ hc8 (fun hHeld => ?_)
    clear hK K
    try simp only [List.setIfInBounds_toArray, List.set_cons_zero, List.set_cons_succ]
    generalize w6.setCell ⟨z6, 0, none⟩ (.slice A n c) = w8 at *
    refine wpAnyH_done (by kernel_rfl) ?_ _
    have hct : (cellsOf l).take n = cellsOf (l.take n) := by unfold cellsOf; rw [List.map_take]
    have HRD : Hid (Rd w8 No 6 A n (cellsOf (l.take n))) := Lib.hid (hct ▸ ((HO8.out.take (q := n) (by simp [cellsOf]; omega)).rd (X := No) (fun _ _ h => h)))
    have HHC := Lib.hid hc8
    have HAB : Hid (∀ ad, A = some ad → z0 ≤ ad.block) := Lib.hid (fun ad e => by
      subst e
      have h := HO8.out.1.2
      rcases h with ⟨e, -⟩ | ⟨gg, cap, cur, e, -⟩
      · cases e
      · injection e with e
        injection e with e
        have := HV3.out gg (by subst e; rfl)
        have := HLT.out.2.2.2.2
        subst e
        show z0 ≤ gg
        omega)
    clear hHeld hct hc8
    go_wp2_with fail
    go_ret
    subst hz0
    exact ⟨_, _, _, _, rfl, ⟨(HHC.out.cell (p := ⟨w.heap.size + 1, 0, none⟩) HLT.out.2.1).trans HX.out.2.1, (HHC.out.cell (p := ⟨w.heap.size + 1 + 1, 0, none⟩) HLT.out.2.2.1).trans HX.out.2.2.1, (HHC.out.cell (p := ⟨w.heap.size, 0, none⟩) HLT.out.1).trans HX.out.1, ⟨A, c, HST.out.cell 0, HRD.out, HAB.out⟩, ⟨by omega, by omega, by omega, by have := HZL.out; have := HLT.out.2.2.2.2; omega⟩⟩, HB3.out.trans (HHC.out.mono HLT.out.2.2.2.2)⟩
  · go_simp
    have hc6 : Below w3.heap.size w3 (w4.alloc (.cells #[.slice none 0 0] 22)) := hd4.alloc (Below.size hd4) _
    have HBL : Hid (Blk (w4.alloc (.cells #[.slice none 0 0] 22)) w4.heap.size 22 #[.slice none 0 0]) := Lib.hid (Blk.new _ _ _)
    have HZL : Hid (w3.heap.size ≤ w4.heap.size) := Lib.hid (Below.size hd4)
    refine hK.out _ _ hc6 (fun hHeld => ?_)
    clear hK K
    try simp only [List.setIfInBounds_toArray, List.set_cons_zero, List.set_cons_succ]
    generalize w4.alloc (.cells #[.slice none 0 0] 22) = w6 at *
    generalize hz6 : w4.heap.size = z6 at *
    refine wpAnyH_ready (rs := [4]) (by kernel_rfl) (by simp) (AllReadyH.cons rfl (fun K hK => ?_) AllReadyH.nil)
    go_simp
    refine (hlog w6 hc6).mono ?_
    rintro r w5 ⟨v5, rfl, hO5, hv5, hb5⟩
    obtain ⟨A, q, c, rfl, hq, hcc, -⟩ := hO5.form
    have hq' : q = l.length := by rw [hq]; simp [cellsOf]
    subst hq'
    have hnl := HN.out
    have HO5 := Lib.hid hO5
    have HV5 := Lib.hid hv5
    have HV3 : Hid (∀ bb, Value.ownBlock (.slice A l.length c) = some bb → w3.heap.size ≤ bb) := Lib.hid (fun bb eb => Nat.le_trans (Below.size hc6) (hv5 bb eb))
    have hc5 : Below w3.heap.size w3 w5 := hc6.trans (hb5.mono (Below.size hc6))
    dsimp only
    have HBL5 := Lib.hid (HBL.out.below hb5 HBL.out.lt)
    clear hO5 hv5 hq hb5
    refine hK.out _ _ (show Below w3.heap.size w3 w5 from hc5) (fun hHeld => ?_)
    clear hK K
    try simp only [List.setIfInBounds_toArray, List.set_cons_zero, List.set_cons_succ]
    refine wpAnyH_takeAt (i := 6) (d := 14) (v := ?vq6x) rfl rfl (by kernel_rfl) (by kernel_rfl) (by kernel_rfl) (fun _ _ _ h => h) (Or.inl ⟨by rfl, ?hyq6x⟩) hHeld ?_
    case hyq6x =>
      intro W hSw
      have qs := slice22_to A l.length c n (by omega); clear hSw
      (go_simp; try with_reducible rfl)
    simp only [List.setIfInBounds_toArray, List.set_cons_zero, List.set_cons_succ]
    refine wpAnyH_ready (rs := [8]) (by kernel_rfl) (by simp) (AllReadyH.cons rfl (fun K hK => ?_) AllReadyH.nil)
    have qc := HBL5.out.cell 0
    have qf : w5.frozen? ⟨z6, 0, none⟩ = false := by have := HBL5.out; unfold Blk at this; simp [World.frozen?, this]
    go_simp
    have hst := HBL5.out.set_ 0 (.slice A n c)
    have hc8 : Below w3.heap.size w3 (w5.setCell ⟨z6, 0, none⟩ (.slice A n c)) := hc5.setCell (p := ⟨z6, 0, none⟩) HZL.out _
    have HO8 : Hid (OwnK (w5.setCell ⟨z6, 0, none⟩ (.slice A n c)) 45 6 (.slice A l.length c) (cellsOf l)) := Lib.hid (HO5.out.keepB (fun bb eb => Below.heap_setCell w5 _ _ bb ((fun e => by have e2 : bb = z6 := e; have := HV5.out bb eb; have := HBL.out.lt; omega))))
    have HST := Lib.hid hst
    clear hst qc qf
    refine hK.out _ _ hc8 (fun hHeld => ?_)
    clear hK K
    try simp only [List.setIfInBounds_toArray, List.set_cons_zero, List.set_cons_succ]
    generalize w5.setCell ⟨z6, 0, none⟩ (.slice A n c) = w8 at *
    refine wpAnyH_done (by kernel_rfl) ?_ _
    have hct : (cellsOf l).take n = cellsOf (l.take n) := by unfold cellsOf; rw [List.map_take]
    have HRD : Hid (Rd w8 No 6 A n (cellsOf (l.take n))) := Lib.hid (hct ▸ ((HO8.out.take (q := n) (by simp [cellsOf]; omega)).rd (X := No) (fun _ _ h => h)))
    have HHC := Lib.hid hc8
    have HAB : Hid (∀ ad, A = some ad → z0 ≤ ad.block) := Lib.hid (fun ad e => by
      subst e
      have h := HO8.out.1.2
      rcases h with ⟨e, -⟩ | ⟨gg, cap, cur, e, -⟩
      · cases e
      · injection e with e
        injection e with e
        have := HV3.out gg (by subst e; rfl)
        have := HLT.out.2.2.2.2
        subst e
        show z0 ≤ gg
        omega)
    clear hHeld hct hc8
    go_wp2_with fail
    go_ret
    subst hz0
    exact ⟨_, _, _, _, rfl, ⟨(HHC.out.cell (p := ⟨w.heap.size + 1, 0, none⟩) HLT.out.2.1).trans HX.out.2.1, (HHC.out.cell (p := ⟨w.heap.size + 1 + 1, 0, none⟩) HLT.out.2.2.1).trans HX.out.2.2.1, (HHC.out.cell (p := ⟨w.heap.size, 0, none⟩) HLT.out.1).trans HX.out.1, ⟨A, c, HST.out.cell 0, HRD.out, HAB.out⟩, ⟨by omega, by omega, by omega, by have := HZL.out; have := HLT.out.2.2.2.2; omega⟩⟩, HB3.out.trans (HHC.out.mono HLT.out.2.2.2.2)⟩
end
end Go.Proofs.YthcphoijanebhaaDoor
