/-
  Whether an entry is of an open transaction. Conditions: an entry that may be.
-/
import Derived.Test.YthcphoijanebhaaDoorVis
import Derived.BigQuiet
namespace Go.Proofs.YthcphoijanebhaaDoor
open Go.RowKit Go.Maps
set_option linter.unusedVariables false
theorem Blk.six9 {w : World} {g : Nat} {e : Ent} (h : Blk w g 45 #[.int .i64 e.epoch, .int .i64 e.id, .int .i64 e.num, .int .i64 e.seq, .int .i64 e.kind, .int .i64 e.value]) : w.cell? ⟨g, 0, none⟩ = some (.int .i64 e.epoch) ∧ w.cell? ⟨g, 1, none⟩ = some (.int .i64 e.id) ∧ w.cell? ⟨g, 2, none⟩ = some (.int .i64 e.num) ∧ w.cell? ⟨g, 3, none⟩ = some (.int .i64 e.seq) ∧ w.cell? ⟨g, 4, none⟩ = some (.int .i64 e.kind) ∧ w.cell? ⟨g, 5, none⟩ = some (.int .i64 e.value) :=
  ⟨h.cell 0, h.cell 1, h.cell 2, h.cell 3, h.cell 4, h.cell 5⟩
theorem equalIn83 {p q : Int × Int} (hp : In64P p) (hq : In64P q) (w : World) : (Op.equalIn 10000 83 (pr p) (pr q)).run Tryd.prog w = .ok (decide (p = q)) w := by
  have := equal83 hp hq w
  unfold Op.equal Op.maxDepth at this
  exact this
section
variable {w : World} {b m1 m2 : Nat} {l : List Ent} {e : Ent}
set_option maxRecDepth 100000 in
set_option maxHeartbeats 4000000 in
theorem open_any (hN : Nob w) (h : VR w b m1 m2 l) (he : In64P e.key) (n : Nat) : Calls Tryd.prog 57 #[.pointer (some ⟨b, 0, none⟩), e.val, .int .i64 (n : Int)] w fun r w' => r = .returned (.bool (opn l n e)) ∧ Below w.heap.size w w' := by
  have HB := Lib.hid ((Below.refl w.heap.size w).alloc (Nat.le_refl _) (.cells e.cells 45))
  have HBX : Hid (Blk (w.alloc (.cells e.cells 45)) w.heap.size 45 e.cells) := Lib.hid (Blk.new w 45 _)
  have HNB := Lib.hid (hN.low HB.out)
  have HV := Lib.hid (h.below HB.out)
  have HE := Lib.hid he
  clear hN h he
  have hwh : ∀ W, Calls Tryd.prog 43 #[.agg #[.int .i64 e.epoch, .int .i64 e.id, .int .i64 e.num, .int .i64 e.seq, .int .i64 e.kind, .int .i64 e.value]] W fun r w' => r = .returned (.agg #[.int .i64 e.id, .int .i64 e.num]) ∧ Below W.heap.size W w' := fun W => whose_any e W
  have hg83 := guard83
  unfold Ent.val
  unfold Ent.cells at HB HBX HNB HV ⊢
  by_cases hk : e.key = nob
  case pos =>
    have hne := fun W => equalIn83 HE.out nob_in W
    rw [decide_eq_true hk] at hne
    unfold pr nob Ent.key at hne
    have hres : opn l n e = false := by unfold opn; simp [hk]
    rw [hres]
    go_enter Tryd.func57, Tryd.ntmps57
    go_wp2_with fail
    generalize hw1 : w.alloc (.cells #[.int .i64 e.epoch, .int .i64 e.id, .int .i64 e.num, .int .i64 e.seq, .int .i64 e.kind, .int .i64 e.value] 45) = w1 at *
    generalize hbx : w.heap.size = bx at *
    clear hw1
    have HB1 : Hid (b < w1.heap.size) := Lib.hid HV.out.blt
    have HC1 : Hid (w1.cell? ⟨b, 1, none⟩ = some (.map (some m1))) := Lib.hid HV.out.c1
    refine wp_region_np ?_
    refine wp_region_held_drew (S := fun W => Below w1.heap.size w1 W) (by kernel_rfl) (show Below w1.heap.size w1 w1.drew from (Below.refl _ _).drew) (fun hHeld => ?_)
    refine wpAnyH_takeAt (i := 0) (d := 7) (v := ?vq0x) rfl rfl (by kernel_rfl) (by kernel_rfl) (by kernel_rfl) (fun _ _ _ h => h) (Or.inl ⟨by rfl, ?hyq0x⟩) hHeld ?_
    case hyq0x =>
      intro W hSw
      obtain ⟨s0, s1, s2, s3, s4, s5⟩ := (HBX.out.below hSw HBX.out.lt).six9; clear hSw
      (go_simp; try with_reducible rfl)
    simp only [List.setIfInBounds_toArray, List.set_cons_zero, List.set_cons_succ]
    refine wpAnyH_takeAt (i := 2) (d := 9) (v := ?vq1x) rfl rfl (by kernel_rfl) (by kernel_rfl) (by kernel_rfl) (fun _ _ _ h => h) (Or.inl ⟨by rfl, ?hyq1x⟩) hHeld ?_
    case hyq1x =>
      intro W hSw
      have q0 := (HNB.out.low hSw).1; have q1 := (HNB.out.low hSw).2.1; clear hSw
      (go_simp; try with_reducible rfl)
    simp only [List.setIfInBounds_toArray, List.set_cons_zero, List.set_cons_succ]
    refine wpAnyH_ready (rs := [1]) (by kernel_rfl) (by simp) (AllReadyH.cons rfl (fun K hK => ?_) AllReadyH.nil)
    go_simp
    refine (hwh w1.drew).mono ?_
    rintro r w2 ⟨rfl, hbw2⟩
    dsimp only
    have hcw2 : Below w1.heap.size w1 w2 := (Below.refl _ _).drew.trans (hbw2.mono (Below.size (Below.refl w1.heap.size w1).drew))
    refine hK.out _ _ (show Below w1.heap.size w1 w2 from hcw2) (fun hHeld => ?_)
    clear hK K
    try simp only [List.setIfInBounds_toArray, List.set_cons_zero, List.set_cons_succ]
    refine wpAnyH_takeAt (i := 3) (d := 10) (v := ?vq2x) rfl rfl (by kernel_rfl) (by kernel_rfl) (by kernel_rfl) (fun _ _ _ h => h) (Or.inl ⟨by rfl, ?hyq2x⟩) hHeld ?_
    case hyq2x =>
      intro W hSw
      clear hSw
      (go_simp; try with_reducible rfl)
    simp only [List.setIfInBounds_toArray, List.set_cons_zero, List.set_cons_succ]
    refine wpAnyH_takeAt (i := 4) (d := 11) (v := ?vq3x) rfl rfl (by kernel_rfl) (by kernel_rfl) (by kernel_rfl) (fun _ _ _ h => h) (Or.inl ⟨by rfl, ?hyq3x⟩) hHeld ?_
    case hyq3x =>
      intro W hSw
      clear hSw
      (go_simp; try with_reducible rfl)
    simp only [List.setIfInBounds_toArray, List.set_cons_zero, List.set_cons_succ]
    refine wpAnyH_takeAt (i := 5) (d := 12) (v := undef) rfl rfl (by kernel_rfl) (by kernel_rfl) (by kernel_rfl) (fun _ _ _ h => h) (Or.inr ⟨by rfl, rfl⟩) hHeld ?_
    simp only [List.setIfInBounds_toArray, List.set_cons_zero, List.set_cons_succ]
    refine wpAnyH_takeAt (i := 6) (d := 13) (v := undef) rfl rfl (by kernel_rfl) (by kernel_rfl) (by kernel_rfl) (fun _ _ _ h => h) (Or.inr ⟨by rfl, rfl⟩) hHeld ?_
    simp only [List.setIfInBounds_toArray, List.set_cons_zero, List.set_cons_succ]
    refine wpAnyH_takeAt (i := 7) (d := 14) (v := undef) rfl rfl (by kernel_rfl) (by kernel_rfl) (by kernel_rfl) (fun _ _ _ h => h) (Or.inr ⟨by rfl, rfl⟩) hHeld ?_
    simp only [List.setIfInBounds_toArray, List.set_cons_zero, List.set_cons_succ]
    refine wpAnyH_takeAt (i := 8) (d := 15) (v := undef) rfl rfl (by kernel_rfl) (by kernel_rfl) (by kernel_rfl) (fun _ _ _ h => h) (Or.inr ⟨by rfl, rfl⟩) hHeld ?_
    simp only [List.setIfInBounds_toArray, List.set_cons_zero, List.set_cons_succ]
    refine wpAnyH_takeAt (i := 9) (d := 16) (v := undef) rfl rfl (by kernel_rfl) (by kernel_rfl) (by kernel_rfl) (fun _ _ _ h => h) (Or.inr ⟨by rfl, rfl⟩) hHeld ?_
    simp only [List.setIfInBounds_toArray, List.set_cons_zero, List.set_cons_succ]
    refine wpAnyH_takeAt (i := 10) (d := 17) (v := undef) rfl rfl (by kernel_rfl) (by kernel_rfl) (by kernel_rfl) (fun _ _ _ h => h) (Or.inr ⟨by rfl, rfl⟩) hHeld ?_
    simp only [List.setIfInBounds_toArray, List.set_cons_zero, List.set_cons_succ]
    refine wpAnyH_takeAt (i := 11) (d := 18) (v := undef) rfl rfl (by kernel_rfl) (by kernel_rfl) (by kernel_rfl) (fun _ _ _ h => h) (Or.inr ⟨by rfl, rfl⟩) hHeld ?_
    simp only [List.setIfInBounds_toArray, List.set_cons_zero, List.set_cons_succ]
    refine wpAnyH_takeAt (i := 12) (d := 19) (v := undef) rfl rfl (by kernel_rfl) (by kernel_rfl) (by kernel_rfl) (fun _ _ _ h => h) (Or.inr ⟨by rfl, rfl⟩) hHeld ?_
    simp only [List.setIfInBounds_toArray, List.set_cons_zero, List.set_cons_succ]
    refine wpAnyH_takeAt (i := 13) (d := 20) (v := undef) rfl rfl (by kernel_rfl) (by kernel_rfl) (by kernel_rfl) (fun _ _ _ h => h) (Or.inr ⟨by rfl, rfl⟩) hHeld ?_
    simp only [List.setIfInBounds_toArray, List.set_cons_zero, List.set_cons_succ]
    refine wpAnyH_takeAt (i := 14) (d := 21) (v := ?vq4x) rfl rfl (by kernel_rfl) (by kernel_rfl) (by kernel_rfl) (fun _ _ _ h => h) (Or.inl ⟨by rfl, ?hyq4x⟩) hHeld ?_
    case hyq4x =>
      intro W hSw
      clear hSw
      (go_simp; try with_reducible rfl)
    simp only [List.setIfInBounds_toArray, List.set_cons_zero, List.set_cons_succ]
    refine wpAnyH_takeAt (i := 15) (d := 6) (v := ?vq5x) rfl rfl (by kernel_rfl) (by kernel_rfl) (by kernel_rfl) (fun _ _ _ h => h) (Or.inl ⟨by rfl, ?hyq5x⟩) hHeld ?_
    case hyq5x =>
      intro W hSw
      clear hSw
      (go_simp; try with_reducible rfl)
    simp only [List.setIfInBounds_toArray, List.set_cons_zero, List.set_cons_succ]
    refine wpAnyH_done (by kernel_rfl) ?_ _
    go_wp2_with fail
    go_ret
    exact ⟨rfl, hbx ▸ HB.out.trans (hcw2.mono (hbx ▸ HB.out.size))⟩
  case neg =>
    have hne := fun W => equalIn83 HE.out nob_in W
    rw [decide_eq_false hk] at hne
    unfold pr nob Ent.key at hne
    have hres : opn l n e = !anyK mkE l n e.key := by unfold opn; simp [hk]
    rw [hres, ← hasAt_fst]
    have hha : ∀ W, Below (w.alloc (.cells #[.int .i64 e.epoch, .int .i64 e.id, .int .i64 e.num, .int .i64 e.seq, .int .i64 e.kind, .int .i64 e.value] 45)).heap.size (w.alloc (.cells #[.int .i64 e.epoch, .int .i64 e.id, .int .i64 e.num, .int .i64 e.seq, .int .i64 e.kind, .int .i64 e.value] 45)) W → Calls Tryd.prog 42 #[.map (some m1), .agg #[.int .i64 e.id, .int .i64 e.num], .int .i64 (n : Int)] W fun r w' => r = .returned (.bool (hasAt (fstF mkE l) e.key n)) ∧ Below W.heap.size W w' := fun W hW => has_any (HV.out.e1.below hW) HE.out n
    generalize hasAt (fstF mkE l) e.key n = rr at *
    go_enter Tryd.func57, Tryd.ntmps57
    go_wp2_with fail
    generalize hw1 : w.alloc (.cells #[.int .i64 e.epoch, .int .i64 e.id, .int .i64 e.num, .int .i64 e.seq, .int .i64 e.kind, .int .i64 e.value] 45) = w1 at *
    generalize hbx : w.heap.size = bx at *
    clear hw1
    have HB1 : Hid (b < w1.heap.size) := Lib.hid HV.out.blt
    have HC1 : Hid (w1.cell? ⟨b, 1, none⟩ = some (.map (some m1))) := Lib.hid HV.out.c1
    refine wp_region_np ?_
    refine wp_region_held_drew (S := fun W => Below w1.heap.size w1 W) (by kernel_rfl) (show Below w1.heap.size w1 w1.drew from (Below.refl _ _).drew) (fun hHeld => ?_)
    refine wpAnyH_takeAt (i := 0) (d := 7) (v := ?vq6x) rfl rfl (by kernel_rfl) (by kernel_rfl) (by kernel_rfl) (fun _ _ _ h => h) (Or.inl ⟨by rfl, ?hyq6x⟩) hHeld ?_
    case hyq6x =>
      intro W hSw
      obtain ⟨s0, s1, s2, s3, s4, s5⟩ := (HBX.out.below hSw HBX.out.lt).six9; clear hSw
      (go_simp; try with_reducible rfl)
    simp only [List.setIfInBounds_toArray, List.set_cons_zero, List.set_cons_succ]
    refine wpAnyH_takeAt (i := 2) (d := 9) (v := ?vq7x) rfl rfl (by kernel_rfl) (by kernel_rfl) (by kernel_rfl) (fun _ _ _ h => h) (Or.inl ⟨by rfl, ?hyq7x⟩) hHeld ?_
    case hyq7x =>
      intro W hSw
      have q0 := (HNB.out.low hSw).1; have q1 := (HNB.out.low hSw).2.1; clear hSw
      (go_simp; try with_reducible rfl)
    simp only [List.setIfInBounds_toArray, List.set_cons_zero, List.set_cons_succ]
    refine wpAnyH_ready (rs := [1]) (by kernel_rfl) (by simp) (AllReadyH.cons rfl (fun K hK => ?_) AllReadyH.nil)
    go_simp
    refine (hwh w1.drew).mono ?_
    rintro r w2 ⟨rfl, hbw2⟩
    dsimp only
    have hcw2 : Below w1.heap.size w1 w2 := (Below.refl _ _).drew.trans (hbw2.mono (Below.size (Below.refl w1.heap.size w1).drew))
    refine hK.out _ _ (show Below w1.heap.size w1 w2 from hcw2) (fun hHeld => ?_)
    clear hK K
    try simp only [List.setIfInBounds_toArray, List.set_cons_zero, List.set_cons_succ]
    refine wpAnyH_takeAt (i := 3) (d := 10) (v := ?vq8x) rfl rfl (by kernel_rfl) (by kernel_rfl) (by kernel_rfl) (fun _ _ _ h => h) (Or.inl ⟨by rfl, ?hyq8x⟩) hHeld ?_
    case hyq8x =>
      intro W hSw
      clear hSw
      (go_simp; try with_reducible rfl)
    simp only [List.setIfInBounds_toArray, List.set_cons_zero, List.set_cons_succ]
    refine wpAnyH_takeAt (i := 4) (d := 11) (v := ?vq9x) rfl rfl (by kernel_rfl) (by kernel_rfl) (by kernel_rfl) (fun _ _ _ h => h) (Or.inl ⟨by rfl, ?hyq9x⟩) hHeld ?_
    case hyq9x =>
      intro W hSw
      clear hSw
      (go_simp; try with_reducible rfl)
    simp only [List.setIfInBounds_toArray, List.set_cons_zero, List.set_cons_succ]
    refine wpAnyH_takeAt (i := 5) (d := 12) (v := ?vq10x) rfl rfl (by kernel_rfl) (by kernel_rfl) (by kernel_rfl) (fun _ _ _ h => h) (Or.inl ⟨by rfl, ?hyq10x⟩) hHeld ?_
    case hyq10x =>
      intro W hSw
      clear hSw
      (go_simp; try with_reducible rfl)
    simp only [List.setIfInBounds_toArray, List.set_cons_zero, List.set_cons_succ]
    refine wpAnyH_takeAt (i := 6) (d := 13) (v := ?vq11x) rfl rfl (by kernel_rfl) (by kernel_rfl) (by kernel_rfl) (fun _ _ _ h => h) (Or.inl ⟨by rfl, ?hyq11x⟩) hHeld ?_
    case hyq11x =>
      intro W hSw
      clear hSw
      (go_simp; try with_reducible rfl)
    simp only [List.setIfInBounds_toArray, List.set_cons_zero, List.set_cons_succ]
    refine wpAnyH_takeAt (i := 7) (d := 14) (v := ?vq12x) rfl rfl (by kernel_rfl) (by kernel_rfl) (by kernel_rfl) (fun _ _ _ h => h) (Or.inl ⟨by rfl, ?hyq12x⟩) hHeld ?_
    case hyq12x =>
      intro W hSw
      clear hSw
      (go_simp; try with_reducible rfl)
    simp only [List.setIfInBounds_toArray, List.set_cons_zero, List.set_cons_succ]
    refine wpAnyH_takeAt (i := 8) (d := 15) (v := ?vq13x) rfl rfl (by kernel_rfl) (by kernel_rfl) (by kernel_rfl) (fun _ _ _ h => h) (Or.inl ⟨by rfl, ?hyq13x⟩) hHeld ?_
    case hyq13x =>
      intro W hSw
      have qc := (hSw.cell (p := ⟨b, 1, none⟩) HB1.out).trans HC1.out; clear hSw
      (go_simp; try with_reducible rfl)
    simp only [List.setIfInBounds_toArray, List.set_cons_zero, List.set_cons_succ]
    refine wpAnyH_takeAt (i := 9) (d := 16) (v := ?vq14x) rfl rfl (by kernel_rfl) (by kernel_rfl) (by kernel_rfl) (fun _ _ _ h => h) (Or.inl ⟨by rfl, ?hyq14x⟩) hHeld ?_
    case hyq14x =>
      intro W hSw
      obtain ⟨s0, s1, s2, s3, s4, s5⟩ := (HBX.out.below hSw HBX.out.lt).six9; clear hSw
      (go_simp; try with_reducible rfl)
    simp only [List.setIfInBounds_toArray, List.set_cons_zero, List.set_cons_succ]
    refine wpAnyH_takeAt (i := 11) (d := 18) (v := ?vq15x) rfl rfl (by kernel_rfl) (by kernel_rfl) (by kernel_rfl) (fun _ _ _ h => h) (Or.inl ⟨by rfl, ?hyq15x⟩) hHeld ?_
    case hyq15x =>
      intro W hSw
      clear hSw
      (go_simp; try with_reducible rfl)
    simp only [List.setIfInBounds_toArray, List.set_cons_zero, List.set_cons_succ]
    refine wpAnyH_ready (rs := [10]) (by kernel_rfl) (by simp) (AllReadyH.cons rfl (fun K hK => ?_) AllReadyH.nil)
    go_simp
    refine (hwh w2).mono ?_
    rintro r w3 ⟨rfl, hbw3⟩
    dsimp only
    have hcw3 : Below w1.heap.size w1 w3 := hcw2.trans (hbw3.mono (Below.size hcw2))
    refine hK.out _ _ (show Below w1.heap.size w1 w3 from hcw3) (fun hHeld => ?_)
    clear hK K
    try simp only [List.setIfInBounds_toArray, List.set_cons_zero, List.set_cons_succ]
    refine wpAnyH_ready (rs := [12]) (by kernel_rfl) (by simp) (AllReadyH.cons rfl (fun K hK => ?_) AllReadyH.nil)
    go_simp
    refine (hha w3 hcw3).mono ?_
    rintro r w4 ⟨rfl, hbw4⟩
    dsimp only
    have hcw4 : Below w1.heap.size w1 w4 := hcw3.trans (hbw4.mono (Below.size hcw3))
    refine hK.out _ _ (show Below w1.heap.size w1 w4 from hcw4) (fun hHeld => ?_)
    clear hK K
    try simp only [List.setIfInBounds_toArray, List.set_cons_zero, List.set_cons_succ]
    refine wpAnyH_takeAt (i := 13) (d := 20) (v := ?vq16x) rfl rfl (by kernel_rfl) (by kernel_rfl) (by kernel_rfl) (fun _ _ _ h => h) (Or.inl ⟨by rfl, ?hyq16x⟩) hHeld ?_
    case hyq16x =>
      intro W hSw
      clear hSw
      (go_simp; try with_reducible rfl)
    simp only [List.setIfInBounds_toArray, List.set_cons_zero, List.set_cons_succ]
    refine wpAnyH_takeAt (i := 14) (d := 21) (v := ?vq17x) rfl rfl (by kernel_rfl) (by kernel_rfl) (by kernel_rfl) (fun _ _ _ h => h) (Or.inl ⟨by rfl, ?hyq17x⟩) hHeld ?_
    case hyq17x =>
      intro W hSw
      clear hSw
      (go_simp; try with_reducible rfl)
    simp only [List.setIfInBounds_toArray, List.set_cons_zero, List.set_cons_succ]
    refine wpAnyH_takeAt (i := 15) (d := 6) (v := ?vq18x) rfl rfl (by kernel_rfl) (by kernel_rfl) (by kernel_rfl) (fun _ _ _ h => h) (Or.inl ⟨by rfl, ?hyq18x⟩) hHeld ?_
    case hyq18x =>
      intro W hSw
      clear hSw
      (go_simp; try with_reducible rfl)
    simp only [List.setIfInBounds_toArray, List.set_cons_zero, List.set_cons_succ]
    refine wpAnyH_done (by kernel_rfl) ?_ _
    go_wp2_with fail
    go_ret
    exact ⟨rfl, hbx ▸ HB.out.trans (hcw4.mono (hbx ▸ HB.out.size))⟩
end
end Go.Proofs.YthcphoijanebhaaDoor
