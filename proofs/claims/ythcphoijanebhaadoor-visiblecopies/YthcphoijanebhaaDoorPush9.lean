/-
  An entry is pushed to a reader. Conditions: its ID and its Num are numbers of 64 bits.
-/
import Derived.Test.YthcphoijanebhaaDoorRead9
import Derived.Deep.Cut
namespace Go.Proofs.YthcphoijanebhaaDoor
open Go.RowKit Go.Maps
set_option linter.unusedVariables false
def whyE (l : List Ent) (e : Ent) : Int := if checkE l e = 2 ∨ checkE l e = 3 ∨ checkE l e = 180 then checkE l e else 190
/-- Is there a marker of an entry's transaction? -/
def endd (l : List Ent) (e : Ent) : Bool := anyK mkE l l.length e.key
def pushE (l : List Ent) (e : Ent) : Int := if endd l e = true then whyE l e else appendE l e
def push1 (l : List Ent) (e : Ent) : List Ent := if endd l e = true then l else keep1 l e
section
variable {w : World} {r b g k : Nat} {S : Nat → Prop} {l : List Ent} {V : List Nat} {e : Ent}
set_option maxRecDepth 100000 in
set_option maxHeartbeats 4000000 in
theorem why_any (c0 : w.cell? ⟨b, 0, none⟩ = some (.pointer (some ⟨g, 0, none⟩))) (h : Tb w S g l) (e : Ent) : Calls Tryd.prog 45 #[.pointer (some ⟨b, 0, none⟩), e.val] w fun r w' => r = .returned (.int .i64 (whyE l e)) ∧ Below w.heap.size w w' := by
  have HB := Lib.hid ((Below.refl w.heap.size w).alloc (Nat.le_refl _) (.cells e.cells 45))
  have HBX : Hid (Blk (w.alloc (.cells e.cells 45)) w.heap.size 45 e.cells) := Lib.hid (Blk.new w 45 _)
  have HT := Lib.hid (h.below HB.out)
  have HC := Lib.hid ((HB.out.cell (p := ⟨b, 0, none⟩) (block_lt_of_cell c0)).trans c0)
  clear h c0
  unfold Ent.val
  unfold Ent.cells at HB HBX HT HC ⊢
  go_enter Tryd.func45, Tryd.ntmps45
  go_wp2_with fail
  generalize hw1 : w.alloc (.cells #[.int .i64 e.epoch, .int .i64 e.id, .int .i64 e.num, .int .i64 e.seq, .int .i64 e.kind, .int .i64 e.value] 45) = w1 at *
  generalize hbx : w.heap.size = bx at *
  clear hw1
  have HB1 : Hid (b < w1.heap.size) := Lib.hid (block_lt_of_cell HC.out)
  have hck : ∀ W, Below w1.heap.size w1 W → Calls Tryd.prog 62 #[.pointer (some ⟨g, 0, none⟩), .agg #[.int .i64 e.epoch, .int .i64 e.id, .int .i64 e.num, .int .i64 e.seq, .int .i64 e.kind, .int .i64 e.value]] W (fun r w' => r = .returned (.int .i64 (checkE l e)) ∧ Below W.heap.size W w') := fun W hW => checks_any (HT.out.below hW) e
  refine wp_region_np ?_
  refine wp_region_held_drew (S := fun W => Below w1.heap.size w1 W) (by kernel_rfl) (show Below w1.heap.size w1 w1.drew from (Below.refl _ _).drew) (fun hHeld => ?_)
  refine wpAnyH_takeAt (i := 0) (d := 6) (v := ?vq0x) rfl rfl (by kernel_rfl) (by kernel_rfl) (by kernel_rfl) (fun _ _ _ h => h) (Or.inl ⟨by rfl, ?hyq0x⟩) hHeld ?_
  case hyq0x =>
    intro W hSw
    clear hSw
    (go_simp; try with_reducible rfl)
  simp only [List.setIfInBounds_toArray, List.set_cons_zero, List.set_cons_succ]
  refine wpAnyH_takeAt (i := 1) (d := 7) (v := ?vq1x) rfl rfl (by kernel_rfl) (by kernel_rfl) (by kernel_rfl) (fun _ _ _ h => h) (Or.inl ⟨by rfl, ?hyq1x⟩) hHeld ?_
  case hyq1x =>
    intro W hSw
    clear hSw
    (go_simp; try with_reducible rfl)
  simp only [List.setIfInBounds_toArray, List.set_cons_zero, List.set_cons_succ]
  refine wpAnyH_takeAt (i := 2) (d := 8) (v := ?vq2x) rfl rfl (by kernel_rfl) (by kernel_rfl) (by kernel_rfl) (fun _ _ _ h => h) (Or.inl ⟨by rfl, ?hyq2x⟩) hHeld ?_
  case hyq2x =>
    intro W hSw
    clear hSw
    (go_simp; try with_reducible rfl)
  simp only [List.setIfInBounds_toArray, List.set_cons_zero, List.set_cons_succ]
  refine wpAnyH_takeAt (i := 3) (d := 9) (v := ?vq3x) rfl rfl (by kernel_rfl) (by kernel_rfl) (by kernel_rfl) (fun _ _ _ h => h) (Or.inl ⟨by rfl, ?hyq3x⟩) hHeld ?_
  case hyq3x =>
    intro W hSw
    have qc := (hSw.cell (p := ⟨b, 0, none⟩) HB1.out).trans HC.out; clear hSw
    (go_simp; try with_reducible rfl)
  simp only [List.setIfInBounds_toArray, List.set_cons_zero, List.set_cons_succ]
  refine wpAnyH_takeAt (i := 4) (d := 10) (v := ?vq4x) rfl rfl (by kernel_rfl) (by kernel_rfl) (by kernel_rfl) (fun _ _ _ h => h) (Or.inl ⟨by rfl, ?hyq4x⟩) hHeld ?_
  case hyq4x =>
    intro W hSw
    obtain ⟨s0, s1, s2, s3, s4, s5⟩ := (HBX.out.below hSw HBX.out.lt).six9; clear hSw
    (go_simp; try with_reducible rfl)
  simp only [List.setIfInBounds_toArray, List.set_cons_zero, List.set_cons_succ]
  refine wpAnyH_ready (rs := [5]) (by kernel_rfl) (by simp) (AllReadyH.cons rfl (fun K hK => ?_) AllReadyH.nil)
  go_simp
  refine (hck w1.drew (Below.refl w1.heap.size w1).drew).mono ?_
  rintro x w2 ⟨rfl, hbw2⟩
  dsimp only
  have hcw2 : Below w1.heap.size w1 w2 := (Below.refl w1.heap.size w1).drew.trans (hbw2.mono (Below.size (Below.refl w1.heap.size w1).drew))
  refine hK.out _ _ (show Below w1.heap.size w1 w2 from hcw2) (fun hHeld => ?_)
  clear hK K
  try simp only [List.setIfInBounds_toArray, List.set_cons_zero, List.set_cons_succ]
  refine wpAnyH_takeAt (i := 6) (d := 5) (v := ?vq5x) rfl rfl (by kernel_rfl) (by kernel_rfl) (by kernel_rfl) (fun _ _ _ h => h) (Or.inl ⟨by rfl, ?hyq5x⟩) hHeld ?_
  case hyq5x =>
    intro W hSw
    clear hSw
    (go_simp; try with_reducible rfl)
  simp only [List.setIfInBounds_toArray, List.set_cons_zero, List.set_cons_succ]
  refine wpAnyH_done (by kernel_rfl) ?_ _
  generalize hce : checkE l e = ce at *
  have HCE := Lib.hid hce
  have HBW := Lib.hid (show Below bx w w2 from HB.out.trans (hcw2.mono (by have := HB.out.size; omega)))
  clear hce hHeld hck hbw2 hcw2
  by_cases a1 : ce = 2
  · have d1 := eqb a1
    have HR : Hid (whyE l e = ce) := Lib.hid (by unfold whyE; rw [HCE.out, if_pos (.inl a1)])
    clear a1
    go_wp2_with fail
    go_ret
    exact ⟨by rw [HR.out]; rfl, by rw [hbx]; exact HBW.out⟩
  by_cases a2 : ce = 3
  · have d1 := neb a1
    have d2 := eqb a2
    have HR : Hid (whyE l e = ce) := Lib.hid (by unfold whyE; rw [HCE.out, if_pos (.inr (.inl a2))])
    clear a1 a2
    go_wp2_with fail
    go_ret
    exact ⟨by rw [HR.out]; rfl, by rw [hbx]; exact HBW.out⟩
  by_cases a3 : ce = 180
  · have d1 := neb a1
    have d2 := neb a2
    have d3 := eqb a3
    have HR : Hid (whyE l e = ce) := Lib.hid (by unfold whyE; rw [HCE.out, if_pos (.inr (.inr a3))])
    clear a1 a2 a3
    go_wp2_with fail
    go_ret
    exact ⟨by rw [HR.out]; rfl, by rw [hbx]; exact HBW.out⟩
  · have d1 := neb a1
    have d2 := neb a2
    have d3 := neb a3
    have HR : Hid (whyE l e = 190) := Lib.hid (by unfold whyE; rw [HCE.out, if_neg (by omega)])
    clear a1 a2 a3
    go_wp2_with fail
    go_ret
    exact ⟨by rw [HR.out]; rfl, by rw [hbx]; exact HBW.out⟩
set_option maxRecDepth 100000 in
set_option maxHeartbeats 4000000 in
theorem push_any (h : Rr w S r l k V) (he : In64P e.key) (hSl : ∀ x, S x → x < w.heap.size) : Calls Tryd.prog 23 #[.pointer (some ⟨r, 0, none⟩), e.val] w fun x w' => x = .returned (.int .i64 (pushE l e)) ∧ Rr w' (More S w w') r (push1 l e) k V ∧ Turn S w w' := by
  obtain ⟨g, m1, m2, S0, v, hX, hS⟩ := h
  have HB := Lib.hid ((Below.refl w.heap.size w).alloc (Nat.le_refl _) (.cells e.cells 45))
  have HBX : Hid (Blk (w.alloc (.cells e.cells 45)) w.heap.size 45 e.cells) := Lib.hid (Blk.new w 45 _)
  have HX := Lib.hid (hX.below HB.out)
  have HX0 := Lib.hid hX
  have HS := Lib.hid (And.intro hS hSl)
  have HE := Lib.hid he
  clear hX hS hSl he
  have hwh : ∀ W, Calls Tryd.prog 43 #[.agg #[.int .i64 e.epoch, .int .i64 e.id, .int .i64 e.num, .int .i64 e.seq, .int .i64 e.kind, .int .i64 e.value]] W fun r w' => r = .returned (.agg #[.int .i64 e.id, .int .i64 e.num]) ∧ Below W.heap.size W w' := fun W => whose_any e W
  unfold Ent.val
  unfold Ent.cells at HB HBX HX ⊢
  go_enter Tryd.func23, Tryd.ntmps23
  go_wp2_with fail
  generalize hw1 : w.alloc (.cells #[.int .i64 e.epoch, .int .i64 e.id, .int .i64 e.num, .int .i64 e.seq, .int .i64 e.kind, .int .i64 e.value] 45) = w1 at *
  generalize hbx : w.heap.size = bx at *
  clear hw1
  have HC : Hid (w1.cell? ⟨r, 0, none⟩ = some (.pointer (some ⟨g, 0, none⟩)) ∧ w1.cell? ⟨r, 1, none⟩ = some (.map (some m1)) ∧ r < w1.heap.size) := Lib.hid ⟨HX.out.blk.cell 0, HX.out.blk.cell 1, HX.out.blk.lt⟩
  refine (vthere_yes HC.out.1).mono ?_
  rintro x w9 ⟨rfl, rfl⟩
  have hha : ∀ W, Below w1.heap.size w1 W → Calls Tryd.prog 42 #[.map (some m1), .agg #[.int .i64 e.id, .int .i64 e.num], .int .i64 (l.length : Int)] W fun r w' => r = .returned (.bool (endd l e)) ∧ Below W.heap.size W w' := fun W hW => by
    have := has_any (HX.out.tw.e1.below hW) HE.out (l.length : Int)
    rwa [hasAt_fst] at this
  have hln : ∀ W, Below w1.heap.size w1 W → Calls Tryd.prog 44 #[.pointer (some ⟨r, 0, none⟩)] W fun r w' => r = .returned (.int .i64 (l.length : Int)) ∧ W = w' := fun W hW => vlen_any ((hW.cell (p := ⟨r, 0, none⟩) HC.out.2.2).trans HC.out.1) (HX.out.tw.tb.below hW)
  go_upto_region 3 with fail
  refine wp_region_np ?_
  refine wp_region_held_drew (S := fun W => Below w1.heap.size w1 W) (by kernel_rfl) (show Below w1.heap.size w1 w1.drew from (Below.refl _ _).drew) (fun hHeld => ?_)
  refine wpAnyH_takeAt (i := 0) (d := 10) (v := ?vq6x) rfl rfl (by kernel_rfl) (by kernel_rfl) (by kernel_rfl) (fun _ _ _ h => h) (Or.inl ⟨by rfl, ?hyq6x⟩) hHeld ?_
  case hyq6x =>
    intro W hSw
    clear hSw
    (go_simp; try with_reducible rfl)
  simp only [List.setIfInBounds_toArray, List.set_cons_zero, List.set_cons_succ]
  refine wpAnyH_takeAt (i := 1) (d := 11) (v := ?vq7x) rfl rfl (by kernel_rfl) (by kernel_rfl) (by kernel_rfl) (fun _ _ _ h => h) (Or.inl ⟨by rfl, ?hyq7x⟩) hHeld ?_
  case hyq7x =>
    intro W hSw
    clear hSw
    (go_simp; try with_reducible rfl)
  simp only [List.setIfInBounds_toArray, List.set_cons_zero, List.set_cons_succ]
  refine wpAnyH_takeAt (i := 2) (d := 12) (v := ?vq8x) rfl rfl (by kernel_rfl) (by kernel_rfl) (by kernel_rfl) (fun _ _ _ h => h) (Or.inl ⟨by rfl, ?hyq8x⟩) hHeld ?_
  case hyq8x =>
    intro W hSw
    clear hSw
    (go_simp; try with_reducible rfl)
  simp only [List.setIfInBounds_toArray, List.set_cons_zero, List.set_cons_succ]
  refine wpAnyH_takeAt (i := 3) (d := 13) (v := ?vq9x) rfl rfl (by kernel_rfl) (by kernel_rfl) (by kernel_rfl) (fun _ _ _ h => h) (Or.inl ⟨by rfl, ?hyq9x⟩) hHeld ?_
  case hyq9x =>
    intro W hSw
    clear hSw
    (go_simp; try with_reducible rfl)
  simp only [List.setIfInBounds_toArray, List.set_cons_zero, List.set_cons_succ]
  refine wpAnyH_takeAt (i := 4) (d := 14) (v := ?vq10x) rfl rfl (by kernel_rfl) (by kernel_rfl) (by kernel_rfl) (fun _ _ _ h => h) (Or.inl ⟨by rfl, ?hyq10x⟩) hHeld ?_
  case hyq10x =>
    intro W hSw
    have qc := (hSw.cell (p := ⟨r, 1, none⟩) HC.out.2.2).trans HC.out.2.1; clear hSw
    (go_simp; try with_reducible rfl)
  simp only [List.setIfInBounds_toArray, List.set_cons_zero, List.set_cons_succ]
  refine wpAnyH_takeAt (i := 5) (d := 15) (v := ?vq11x) rfl rfl (by kernel_rfl) (by kernel_rfl) (by kernel_rfl) (fun _ _ _ h => h) (Or.inl ⟨by rfl, ?hyq11x⟩) hHeld ?_
  case hyq11x =>
    intro W hSw
    obtain ⟨s0, s1, s2, s3, s4, s5⟩ := (HBX.out.below hSw HBX.out.lt).six9; clear hSw
    (go_simp; try with_reducible rfl)
  simp only [List.setIfInBounds_toArray, List.set_cons_zero, List.set_cons_succ]
  refine wpAnyH_takeAt (i := 7) (d := 17) (v := ?vq12x) rfl rfl (by kernel_rfl) (by kernel_rfl) (by kernel_rfl) (fun _ _ _ h => h) (Or.inl ⟨by rfl, ?hyq12x⟩) hHeld ?_
  case hyq12x =>
    intro W hSw
    clear hSw
    (go_simp; try with_reducible rfl)
  simp only [List.setIfInBounds_toArray, List.set_cons_zero, List.set_cons_succ]
  refine wpAnyH_takeAt (i := 8) (d := 18) (v := ?vq13x) rfl rfl (by kernel_rfl) (by kernel_rfl) (by kernel_rfl) (fun _ _ _ h => h) (Or.inl ⟨by rfl, ?hyq13x⟩) hHeld ?_
  case hyq13x =>
    intro W hSw
    clear hSw
    (go_simp; try with_reducible rfl)
  simp only [List.setIfInBounds_toArray, List.set_cons_zero, List.set_cons_succ]
  refine wpAnyH_takeAt (i := 9) (d := 19) (v := ?vq14x) rfl rfl (by kernel_rfl) (by kernel_rfl) (by kernel_rfl) (fun _ _ _ h => h) (Or.inl ⟨by rfl, ?hyq14x⟩) hHeld ?_
  case hyq14x =>
    intro W hSw
    clear hSw
    (go_simp; try with_reducible rfl)
  simp only [List.setIfInBounds_toArray, List.set_cons_zero, List.set_cons_succ]
  refine wpAnyH_ready (rs := [6]) (by kernel_rfl) (by simp) (AllReadyH.cons rfl (fun K hK => ?_) AllReadyH.nil)
  go_simp
  refine (hwh w1.drew).mono ?_
  rintro x w2 ⟨rfl, hbw2⟩
  dsimp only
  have hcw2 : Below w1.heap.size w1 w2 := (Below.refl w1.heap.size w1).drew.trans (hbw2.mono (Below.size (Below.refl w1.heap.size w1).drew))
  refine hK.out _ _ (show Below w1.heap.size w1 w2 from hcw2) (fun hHeld => ?_)
  clear hK K
  try simp only [List.setIfInBounds_toArray, List.set_cons_zero, List.set_cons_succ]
  refine wpAnyH_ready (rs := [10]) (by kernel_rfl) (by simp) (AllReadyH.cons rfl (fun K hK => ?_) AllReadyH.nil)
  go_simp
  refine (hln w2 hcw2).mono ?_
  rintro x w8 ⟨rfl, rfl⟩
  dsimp only
  refine hK.out _ _ (show Below w1.heap.size w1 w2 from hcw2) (fun hHeld => ?_)
  clear hK K
  try simp only [List.setIfInBounds_toArray, List.set_cons_zero, List.set_cons_succ]
  refine wpAnyH_ready (rs := [11]) (by kernel_rfl) (by simp) (AllReadyH.cons rfl (fun K hK => ?_) AllReadyH.nil)
  go_simp
  refine (hha w2 hcw2).mono ?_
  rintro x w3 ⟨rfl, hbw3⟩
  dsimp only
  have hcw3 : Below w1.heap.size w1 w3 := hcw2.trans (hbw3.mono (Below.size hcw2))
  refine hK.out _ _ (show Below w1.heap.size w1 w3 from hcw3) (fun hHeld => ?_)
  clear hK K
  try simp only [List.setIfInBounds_toArray, List.set_cons_zero, List.set_cons_succ]
  refine wpAnyH_takeAt (i := 12) (d := 9) (v := ?vq15x) rfl rfl (by kernel_rfl) (by kernel_rfl) (by kernel_rfl) (fun _ _ _ h => h) (Or.inl ⟨by rfl, ?hyq15x⟩) hHeld ?_
  case hyq15x =>
    intro W hSw
    clear hSw
    (go_simp; try with_reducible rfl)
  simp only [List.setIfInBounds_toArray, List.set_cons_zero, List.set_cons_succ]
  refine wpAnyH_done (by kernel_rfl) ?_ _
  have HBW := Lib.hid hcw3
  have HX3 := Lib.hid (HX.out.below hcw3)
  have HBX3 := Lib.hid (HBX.out.below hcw3 HBX.out.lt)
  have HSZ : Hid (bx ≤ w1.heap.size ∧ w1.heap.size ≤ w3.heap.size) := Lib.hid ⟨by have := HB.out.size; omega, hcw3.size⟩
  clear hHeld hha hln hbw2 hcw2 hbw3 hcw3
  by_cases hen : endd l e = true
  case pos =>
    have hen' := hen
    have HP : Hid (pushE l e = whyE l e ∧ push1 l e = l) := Lib.hid ⟨by unfold pushE; rw [if_pos hen], by unfold push1; rw [if_pos hen]⟩
    rw [hen']
    clear hen hen'
    have hwy : ∀ W, Below w3.heap.size w3 W → Calls Tryd.prog 45 #[.pointer (some ⟨r, 0, none⟩), .agg #[.int .i64 e.epoch, .int .i64 e.id, .int .i64 e.num, .int .i64 e.seq, .int .i64 e.kind, .int .i64 e.value]] W (fun r w' => r = .returned (.int .i64 (whyE l e)) ∧ Below W.heap.size W w') := fun W hW => why_any ((HX3.out.below hW).blk.cell 0) (HX3.out.below hW).tw.tb e
    go_upto_region 4 with fail
    refine wp_region_np ?_
    refine wp_region_held_drew (S := fun W => Below w3.heap.size w3 W) (by kernel_rfl) (show Below w3.heap.size w3 w3.drew from (Below.refl _ _).drew) (fun hHeld => ?_)
    refine wpAnyH_takeAt (i := 0) (d := 22) (v := ?vq16x) rfl rfl (by kernel_rfl) (by kernel_rfl) (by kernel_rfl) (fun _ _ _ h => h) (Or.inl ⟨by rfl, ?hyq16x⟩) hHeld ?_
    case hyq16x =>
      intro W hSw
      clear hSw
      (go_simp; try with_reducible rfl)
    simp only [List.setIfInBounds_toArray, List.set_cons_zero, List.set_cons_succ]
    refine wpAnyH_takeAt (i := 1) (d := 23) (v := ?vq17x) rfl rfl (by kernel_rfl) (by kernel_rfl) (by kernel_rfl) (fun _ _ _ h => h) (Or.inl ⟨by rfl, ?hyq17x⟩) hHeld ?_
    case hyq17x =>
      intro W hSw
      clear hSw
      (go_simp; try with_reducible rfl)
    simp only [List.setIfInBounds_toArray, List.set_cons_zero, List.set_cons_succ]
    refine wpAnyH_takeAt (i := 2) (d := 24) (v := ?vq18x) rfl rfl (by kernel_rfl) (by kernel_rfl) (by kernel_rfl) (fun _ _ _ h => h) (Or.inl ⟨by rfl, ?hyq18x⟩) hHeld ?_
    case hyq18x =>
      intro W hSw
      clear hSw
      (go_simp; try with_reducible rfl)
    simp only [List.setIfInBounds_toArray, List.set_cons_zero, List.set_cons_succ]
    refine wpAnyH_takeAt (i := 3) (d := 25) (v := ?vq19x) rfl rfl (by kernel_rfl) (by kernel_rfl) (by kernel_rfl) (fun _ _ _ h => h) (Or.inl ⟨by rfl, ?hyq19x⟩) hHeld ?_
    case hyq19x =>
      intro W hSw
      obtain ⟨s0, s1, s2, s3, s4, s5⟩ := (HBX3.out.below hSw HBX3.out.lt).six9; clear hSw
      (go_simp; try with_reducible rfl)
    simp only [List.setIfInBounds_toArray, List.set_cons_zero, List.set_cons_succ]
    refine wpAnyH_ready (rs := [4]) (by kernel_rfl) (by simp) (AllReadyH.cons rfl (fun K hK => ?_) AllReadyH.nil)
    go_simp
    refine (hwy w3.drew (Below.refl _ _).drew).mono ?_
    rintro x w4 ⟨rfl, hb4⟩
    dsimp only
    have hc4 : Below w3.heap.size w3 w4 := ((Below.refl _ _).drew).trans hb4
    refine hK.out _ _ hc4 (fun hHeld => ?_)
    clear hK K
    try simp only [List.setIfInBounds_toArray, List.set_cons_zero, List.set_cons_succ]
    refine wpAnyH_takeAt (i := 5) (d := 4) (v := ?vq20x) rfl rfl (by kernel_rfl) (by kernel_rfl) (by kernel_rfl) (fun _ _ _ h => h) (Or.inl ⟨by rfl, ?hyq20x⟩) hHeld ?_
    case hyq20x =>
      intro W hSw
      clear hSw
      (go_simp; try with_reducible rfl)
    simp only [List.setIfInBounds_toArray, List.set_cons_zero, List.set_cons_succ]
    refine wpAnyH_done (by kernel_rfl) ?_ _
    have HF : Hid (Below bx w w4) := Lib.hid (HB.out.trans ((HBW.out.trans (hc4.mono HSZ.out.2)).mono HSZ.out.1))
    clear hHeld hwy hb4 hc4
    go_wp2_with fail
    go_ret
    have hbb : Below w.heap.size w w4 := by rw [hbx]; exact HF.out
    refine ⟨by rw [HP.out.1]; rfl, ?_, Turn.of_below hbb S⟩
    rw [HP.out.2]
    exact ⟨g, m1, m2, S0, v, HX0.out.below hbb, fun x hx => .inl (HS.out.1 x hx)⟩
  case neg =>
    have hen' : endd l e = false := by simpa using hen
    have HP : Hid (pushE l e = appendE l e ∧ push1 l e = keep1 l e) := Lib.hid ⟨by unfold pushE; rw [if_neg hen], by unfold push1; rw [if_neg hen]⟩
    rw [hen']
    clear hen hen'
    have hap : ∀ W, Below w3.heap.size w3 W → Calls Tryd.prog 46 #[.pointer (some ⟨r, 0, none⟩), .agg #[.int .i64 e.epoch, .int .i64 e.id, .int .i64 e.num, .int .i64 e.seq, .int .i64 e.kind, .int .i64 e.value]] W (VApp W S0 r g m1 m2 l e) := fun W hW => vapp_any (HX3.out.below hW).vt (fun q => ((HX3.out.below hW).ap r q).2.1 rfl) (fun x hx => ((HX3.out.below hW).ap x (.inl hx)).1) e
    go_upto_region 5 with fail
    refine wp_region_np ?_
    refine wp_region_held_drew (S := fun W => Turn (OwnT S0 m1 m2) w3 W) (by kernel_rfl) (show Turn (OwnT S0 m1 m2) w3 w3.drew from (Turn.refl _ _).drew) (fun hHeld => ?_)
    refine wpAnyH_takeAt (i := 0) (d := 27) (v := ?vq21x) rfl rfl (by kernel_rfl) (by kernel_rfl) (by kernel_rfl) (fun _ _ _ h => h) (Or.inl ⟨by rfl, ?hyq21x⟩) hHeld ?_
    case hyq21x =>
      intro W hSw
      clear hSw
      (go_simp; try with_reducible rfl)
    simp only [List.setIfInBounds_toArray, List.set_cons_zero, List.set_cons_succ]
    refine wpAnyH_takeAt (i := 1) (d := 28) (v := ?vq22x) rfl rfl (by kernel_rfl) (by kernel_rfl) (by kernel_rfl) (fun _ _ _ h => h) (Or.inl ⟨by rfl, ?hyq22x⟩) hHeld ?_
    case hyq22x =>
      intro W hSw
      clear hSw
      (go_simp; try with_reducible rfl)
    simp only [List.setIfInBounds_toArray, List.set_cons_zero, List.set_cons_succ]
    refine wpAnyH_takeAt (i := 2) (d := 29) (v := ?vq23x) rfl rfl (by kernel_rfl) (by kernel_rfl) (by kernel_rfl) (fun _ _ _ h => h) (Or.inl ⟨by rfl, ?hyq23x⟩) hHeld ?_
    case hyq23x =>
      intro W hSw
      clear hSw
      (go_simp; try with_reducible rfl)
    simp only [List.setIfInBounds_toArray, List.set_cons_zero, List.set_cons_succ]
    refine wpAnyH_takeAt (i := 3) (d := 30) (v := ?vq24x) rfl rfl (by kernel_rfl) (by kernel_rfl) (by kernel_rfl) (fun _ _ _ h => h) (Or.inl ⟨by rfl, ?hyq24x⟩) hHeld ?_
    case hyq24x =>
      intro W hSw
      obtain ⟨s0, s1, s2, s3, s4, s5⟩ := (HBX3.out.keep hSw (fun q => by have := (HX3.out.ap _ q).1; exact absurd ((HX0.out.ap _ q).1) (by omega))).six9; clear hSw
      (go_simp; try with_reducible rfl)
    simp only [List.setIfInBounds_toArray, List.set_cons_zero, List.set_cons_succ]
    refine wpAnyH_ready (rs := [4]) (by kernel_rfl) (by simp) (AllReadyH.cons rfl (fun K hK => ?_) AllReadyH.nil)
    go_simp
    refine (hap w3.drew (Below.refl _ _).drew).mono ?_
    rintro x w4 ⟨rfl, hV4, hU4⟩
    dsimp only
    have HV4 := Lib.hid hV4
    have hu4 : Turn (OwnT S0 m1 m2) w3 w4 := (show Turn (OwnT S0 m1 m2) w3 w3.drew from (Turn.refl _ _).drew).trans hU4 (fun _ _ q => q)
    have HU4 := Lib.hid hu4
    clear hV4 hU4
    refine hK.out _ _ hu4 (fun hHeld => ?_)
    clear hK K hu4
    try simp only [List.setIfInBounds_toArray, List.set_cons_zero, List.set_cons_succ]
    refine wpAnyH_takeAt (i := 5) (d := 4) (v := ?vq25x) rfl rfl (by kernel_rfl) (by kernel_rfl) (by kernel_rfl) (fun _ _ _ h => h) (Or.inl ⟨by rfl, ?hyq25x⟩) hHeld ?_
    case hyq25x =>
      intro W hSw
      clear hSw
      (go_simp; try with_reducible rfl)
    simp only [List.setIfInBounds_toArray, List.set_cons_zero, List.set_cons_succ]
    refine wpAnyH_done (by kernel_rfl) ?_ _
    clear hHeld hap
    go_wp2_with fail
    go_ret
    have hb3 : Below w.heap.size w w3 := by rw [hbx]; exact HB.out.trans (HBW.out.mono HSZ.out.1)
    have hT : Turn S w w4 := (Turn.of_below hb3 S).trans HU4.out (fun x _ q => HS.out.1 x (.inr (.inl q)))
    refine ⟨by rw [HP.out.1]; rfl, ?_, hT⟩
    rw [HP.out.2]
    have hv := HV4.out
    have hx3 := HX3.out
    have hU := HU4.out
    have hsz := hT.size
    have hsz3 := hb3.size
    have hown : ∀ x, OwnT (More S0 w3.drew w4) m1 m2 x → OwnT S0 m1 m2 x ∨ (w3.heap.size ≤ x ∧ x < w4.heap.size) := fun x hx => by
      rcases hx with (q | q) | q | q
      · exact .inl (.inl q)
      · exact .inr q
      · exact .inl (.inr (.inl q))
      · exact .inl (.inr (.inr q))
    refine ⟨g, m1, m2, More S0 w3.drew w4, v, ⟨hx3.blk.keep hU (fun q => (hx3.ap r q).2.1 rfl), hv.tp, hx3.row.keep hU (fun x hx q => (hx3.ap x q).2.2 hx), fun x hx => ?_, hx3.vr⟩, fun x hx => ?_⟩
    · rcases hown x hx with q | q
      · exact ⟨Nat.lt_of_lt_of_le (hx3.ap x q).1 hU.size, (hx3.ap x q).2⟩
      · exact ⟨q.2, fun e => by have := hx3.blk.lt; omega, fun e => by have := hx3.row.lt e; omega⟩
    · rcases hx with q | q | q
      · exact .inl (HS.out.1 x (.inl q))
      · rcases hown x q with q | q
        · exact .inl (HS.out.1 x (.inr (.inl q)))
        · exact .inr ⟨by omega, q.2⟩
      · exact .inl (HS.out.1 x (.inr (.inr q)))
end
end Go.Proofs.YthcphoijanebhaaDoor
