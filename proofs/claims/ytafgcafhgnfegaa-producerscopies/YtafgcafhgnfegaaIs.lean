/-
  A table stands as the document's. Conditions: none.
-/
import Derived.Test.YtafgcafhgnfegaaWorks
import Derived.Test.YtafgcafhgnfegaaTrunc
import Derived.Test.YtafgcafhgnfegaaRefS
namespace Go.Proofs.Ytafgcafhgnfegaa
open Go.RowKit Go.Maps
set_option linter.unusedVariables false
section
variable {w w' : World} {X : Nat → Prop} {S : Nat → Prop} {A : Option Addr} {g n c : Nat} {l : List Ent} {e : Ent}
set_option maxRecDepth 100000 in
set_option maxHeartbeats 8000000 in
theorem is_any (h : Tb w S g l) (hr : Rd w X 6 A n (cellsOf l)) : Calls Try.prog 17 #[.pointer (some ⟨g, 0, none⟩), .slice A n c] w fun r w' => r = .returned (.bool true) ∧ Below w.heap.size w w' := by
  have hlen : l.length = n := by have := hr.1; simpa [cellsOf] using this
  have hn : n ≤ 4096 := by have := h.len; omega
  have HT := Lib.hid h
  have HR := Lib.hid hr
  have HLEN := Lib.hid hlen
  have HAR := Lib.hid h.right
  clear h hr hlen
  go_enter Try.func17, Try.ntmps17
  go_wp2_with fail
  go_loopw [5] (fun i wv => ∃ k : Nat, k ≤ 4 ∧ i = .int .i64 k ∧ Below w.heap.size w wv) (fun i _ => 4 - (iOf i).toNat)
  case atStart => exact ⟨0, by omega, rfl, Below.refl _ _⟩
  case round =>
    obtain ⟨k, hk, rfl, hb⟩ := hrel
    have HB := Lib.hid hb
    clear hb
    by_cases hlt : k < 4
    case pos =>
      have hd : decide ((k : Int) < 4) = true := decide_eq_true (by omega)
      have hwr := writer_yes (HT.out.below HB.out) (i := k) hlt
      go_wp2_with fail
      refine hwr.mono ?_
      rintro r w1 ⟨A1, c1, rfl, hO1, hv1, hb1⟩
      have HB1 := Lib.hid (HB.out.trans (hb1.mono HB.out.size))
      have HO1 := Lib.hid hO1
      have hrw := fun W (hbW : Below w.heap.size w W) => refWriter_any (c := c) (HR.out.below hbW) (by omega) HAR.out (k : Int)
      have hol : (Go.Proofs.Ytafgcafhgnfegaa.wr (k : Int) l).opens.length ≤ 5000 := by have := (wr_lens (k : Int) l).1; have := HLEN.out; omega
      clear hwr hO1 hv1 hb1
      generalize Go.Proofs.Ytafgcafhgnfegaa.wr (k : Int) l = x at *
      go_upto_region 5 with fail
      have hX2 := Blk.new w1 41 #[.int .i64 x.high, .int .i64 x.next, .int .i64 x.marked, .slice A1 x.opens.length c1]
      have hO2 := HO1.out.alloc (.cells #[.int .i64 x.high, .int .i64 x.next, .int .i64 x.marked, .slice A1 x.opens.length c1] 41)
      have hb2 := HB1.out.alloc HB1.out.size (.cells #[.int .i64 x.high, .int .i64 x.next, .int .i64 x.marked, .slice A1 x.opens.length c1] 41)
      generalize hw2 : w1.alloc (.cells #[.int .i64 x.high, .int .i64 x.next, .int .i64 x.marked, .slice A1 x.opens.length c1] 41) = w2 at *
      generalize hbx : w1.heap.size = bx at *
      clear hw2 hbx
      have HX2 := Lib.hid hX2
      have HO2 := Lib.hid hO2
      have HB2 := Lib.hid hb2
      clear hX2 hO2 hb2
      refine wp_region_np ?_
      refine wp_region_held_drew (S := fun W => Below w2.heap.size w2 W) (by kernel_rfl) (show Below w2.heap.size w2 w2.drew from (Below.refl _ _).drew) (fun hHeld => ?_)
      refine wpAnyH_takeAt (i := 0) (d := 18) (v := ?vq0x) rfl rfl (by kernel_rfl) (by kernel_rfl) (by kernel_rfl) (fun _ _ _ h => h) (Or.inl ⟨by rfl, ?hyq0x⟩) hHeld ?_
      case hyq0x =>
        intro W hSw
        clear hSw
        (go_simp; try with_reducible rfl)
      simp only [List.setIfInBounds_toArray, List.set_cons_zero, List.set_cons_succ]
      refine wpAnyH_ready (rs := [1]) (by kernel_rfl) (by simp) (AllReadyH.cons rfl (fun K hK => ?_) AllReadyH.nil)
      go_simp
      refine (num_any _ _).mono ?_
      rintro r w3 ⟨rfl, rfl⟩
      dsimp only
      refine hK.out _ _ (show Below w2.heap.size w2 w2.drew from (Below.refl _ _).drew) (fun hHeld => ?_)
      clear hK K
      try simp only [List.setIfInBounds_toArray, List.set_cons_zero, List.set_cons_succ]
      refine wpAnyH_takeAt (i := 2) (d := 20) (v := ?vq1x) rfl rfl (by kernel_rfl) (by kernel_rfl) (by kernel_rfl) (fun _ _ _ h => h) (Or.inl ⟨by rfl, ?hyq1x⟩) hHeld ?_
      case hyq1x =>
        intro W hSw
        clear hSw
        (go_simp; try with_reducible rfl)
      simp only [List.setIfInBounds_toArray, List.set_cons_zero, List.set_cons_succ]
      refine wpAnyH_takeAt (i := 3) (d := 21) (v := ?vq2x) rfl rfl (by kernel_rfl) (by kernel_rfl) (by kernel_rfl) (fun _ _ _ h => h) (Or.inl ⟨by rfl, ?hyq2x⟩) hHeld ?_
      case hyq2x =>
        intro W hSw
        clear hSw
        (go_simp; try with_reducible rfl)
      simp only [List.setIfInBounds_toArray, List.set_cons_zero, List.set_cons_succ]
      refine wpAnyH_takeAt (i := 4) (d := 22) (v := ?vq3x) rfl rfl (by kernel_rfl) (by kernel_rfl) (by kernel_rfl) (fun _ _ _ h => h) (Or.inl ⟨by rfl, ?hyq3x⟩) hHeld ?_
      case hyq3x =>
        intro W hSw
        have hX := HX2.out.below (show Below w2.heap.size w2 W from hSw) HX2.out.lt; have x0 : W.cell? ⟨bx, 0, none⟩ = some (.int .i64 x.high) := hX.cell 0; have x1 : W.cell? ⟨bx, 1, none⟩ = some (.int .i64 x.next) := hX.cell 1; have x2 : W.cell? ⟨bx, 2, none⟩ = some (.int .i64 x.marked) := hX.cell 2; have x3 : W.cell? ⟨bx, 3, none⟩ = some (.slice A1 x.opens.length c1) := hX.cell 3; clear hX hSw
        (go_simp; try with_reducible rfl)
      simp only [List.setIfInBounds_toArray, List.set_cons_zero, List.set_cons_succ]
      refine wpAnyH_takeAt (i := 5) (d := 23) (v := ?vq4x) rfl rfl (by kernel_rfl) (by kernel_rfl) (by kernel_rfl) (fun _ _ _ h => h) (Or.inl ⟨by rfl, ?hyq4x⟩) hHeld ?_
      case hyq4x =>
        intro W hSw
        clear hSw
        (go_simp; try with_reducible rfl)
      simp only [List.setIfInBounds_toArray, List.set_cons_zero, List.set_cons_succ]
      refine wpAnyH_takeAt (i := 6) (d := 24) (v := ?vq5x) rfl rfl (by kernel_rfl) (by kernel_rfl) (by kernel_rfl) (fun _ _ _ h => h) (Or.inl ⟨by rfl, ?hyq5x⟩) hHeld ?_
      case hyq5x =>
        intro W hSw
        clear hSw
        (go_simp; try with_reducible rfl)
      simp only [List.setIfInBounds_toArray, List.set_cons_zero, List.set_cons_succ]
      refine wpAnyH_ready (rs := [7]) (by kernel_rfl) (by simp) (AllReadyH.cons rfl (fun K hK => ?_) AllReadyH.nil)
      go_simp
      refine (hrw _ (HB2.out.trans ((show Below w2.heap.size w2 w2.drew from (Below.refl _ _).drew).mono HB2.out.size))).mono ?_
      rintro r w4 ⟨A4, c4, rfl, hO4, hv4, hb4⟩
      dsimp only
      have hb24 : Below w2.heap.size w2 w4 := (show Below w2.heap.size w2 w2.drew from (Below.refl _ _).drew).trans hb4
      refine hK.out _ _ (show Below w2.heap.size w2 w4 from hb24) (fun hHeld => ?_)
      clear hK K
      try simp only [List.setIfInBounds_toArray, List.set_cons_zero, List.set_cons_succ]
      refine wpAnyH_ready (rs := [8]) (by kernel_rfl) (by simp) (AllReadyH.cons rfl (fun K hK => ?_) AllReadyH.nil)
      go_simp
      refine (sameWriter_yes x.high x.next x.marked ((HO2.out.below hb24).rd (X := No) (fun _ _ h => h)) (hO4.rd (X := No) (fun _ _ h => h)) hol).mono ?_
      rintro r w5 ⟨rfl, hb5⟩
      dsimp only
      have hb25 : Below w2.heap.size w2 w5 := hb24.trans (hb5.mono hb24.size)
      refine hK.out _ _ (show Below w2.heap.size w2 w5 from hb25) (fun hHeld => ?_)
      clear hK K
      try simp only [List.setIfInBounds_toArray, List.set_cons_zero, List.set_cons_succ]
      refine wpAnyH_takeAt (i := 9) (d := 27) (v := ?vq6x) rfl rfl (by kernel_rfl) (by kernel_rfl) (by kernel_rfl) (fun _ _ _ h => h) (Or.inl ⟨by rfl, ?hyq6x⟩) hHeld ?_
      case hyq6x =>
        intro W hSw
        clear hSw
        (go_simp; try with_reducible rfl)
      simp only [List.setIfInBounds_toArray, List.set_cons_zero, List.set_cons_succ]
      refine wpAnyH_takeAt (i := 10) (d := 28) (v := ?vq7x) rfl rfl (by kernel_rfl) (by kernel_rfl) (by kernel_rfl) (fun _ _ _ h => h) (Or.inl ⟨by rfl, ?hyq7x⟩) hHeld ?_
      case hyq7x =>
        intro W hSw
        clear hSw
        (go_simp; try with_reducible rfl)
      simp only [List.setIfInBounds_toArray, List.set_cons_zero, List.set_cons_succ]
      refine wpAnyH_done (by kernel_rfl) ?_ _
      have HB5 := Lib.hid (HB2.out.trans (hb25.mono HB2.out.size))
      clear hb25 hb24 hb4 hb5 hO4 hv4 hrw
      go_wp2_with fail
      go_round
      case rel => exact ⟨k + 1, by omega, by go_num, HB5.out⟩
      case measure => simp [iOf]; omega
    case neg =>
      obtain rfl : k = 4 := by omega
      have hln := len_any (HT.out.below HB.out)
      rw [HLEN.out] at hln
      have hst := stable_any (HT.out.below HB.out)
      clear hlt hk
      go_wp2_with fail
      refine hln.mono ?_
      rintro r w1 ⟨rfl, rfl⟩
      clear hln
      go_wp2_with fail
      refine hst.mono ?_
      rintro r w2 ⟨rfl, hb2⟩
      have HB2 := Lib.hid (HB.out.trans (hb2.mono HB.out.size))
      clear hst hb2
      go_wp2_with fail
      refine (refStable_any (c := c) (HR.out.below HB2.out) (by omega) HAR.out).mono ?_
      rintro r w3 ⟨rfl, hb3⟩
      have HB3 := Lib.hid (HB2.out.trans (hb3.mono HB2.out.size))
      clear hb3
      go_wp2_with fail
      refine (log_any (HT.out.below HB3.out)).mono ?_
      rintro r w4 ⟨v, rfl, hO4, hv4, hb4⟩
      have HB4 := Lib.hid (HB3.out.trans (hb4.mono HB3.out.size))
      obtain ⟨A4, q4, c4, rfl, hq4, -, -⟩ := hO4.form
      have hq4' : q4 = n := by rw [hq4]; have := HLEN.out; simp [cellsOf]; omega
      subst hq4'
      have HO4 := Lib.hid hO4
      clear hb4 hv4 hq4 hO4
      go_wp2_with fail
      refine (refSame_any (c := c4) (d := c) (HO4.out.rd (X := No) (fun _ _ h => h)) (HR.out.below HB4.out) (by omega) (by omega)).mono ?_
      rintro r w5 ⟨rfl, q, rfl⟩
      have HS : Hid (decide (l = l) = true) := Lib.hid (decide_eq_true rfl)
      rw [HS.out]
      go_wp2_with fail
      go_ret
      exact ⟨rfl, HB4.out.trans ((below_drewN (Below.refl _ _) q).mono HB4.out.size)⟩
end
end Go.Proofs.Ytafgcafhgnfegaa
