/-
  The document's Append: the log behind an entry, or why it is none. Conditions: bounds.
-/
import Derived.Test.YtafgcafhgnfegaaRefA
import Derived.Test.YtafgcafhgnfegaaAppend
namespace Go.Proofs.Ytafgcafhgnfegaa
open Go.RowKit Go.Maps
set_option linter.unusedVariables false
section
variable {w w' : World} {X : Nat → Prop} {A : Option Addr} {n c : Nat} {l : List Ent} {e : Ent}
theorem below_grew {B : Nat} {a V V' : World} {v v' : Value} (hb : Below B a V) (hg : Grew v V v' V') (hv : ∀ g, v.ownBlock = some g → B ≤ g) (hB : B ≤ V.heap.size) : Below B a V' :=
  ⟨hg.1.os.trans hb.os, hg.1.tape.trans hb.tape, hg.1.output.trans hb.output, Nat.le_trans hb.size hg.1.size, fun k hk => (hg.1.block k (by omega) (fun e => by have := hv k e.symm; omega)).trans (hb.block k hk)⟩
/-- What is known behind the document's Append. -/
def RAppP (w : World) (A : Option Addr) (n c : Nat) (l : List Ent) (e : Ent) (r : Ending) (w' : World) : Prop :=
  Below w.heap.size w w' ∧ ((appendE l e ≠ 0 ∧ r = .returned (.tuple #[.slice A n c, .int .i64 (appendE l e)])) ∨
    (appendE l e = 0 ∧ ∃ A' c', r = .returned (.tuple #[.slice A' (n + 1) c', .int .i64 0]) ∧ OwnK w' 26 6 (.slice A' (n + 1) c') (cellsOf (l ++ [e])) ∧ ∀ b, Value.ownBlock (.slice A' (n + 1) c') = some b → w.heap.size ≤ b))
theorem appendE_no (h : ¬ Right e) : appendE l e = 2 := if_neg h
theorem appendE_full (h : Right e) (h2 : 4096 ≤ l.length) : appendE l e = 3 := by unfold appendE; rw [if_pos h, if_pos h2]
theorem appendE_fine (h : Right e) (h2 : ¬ 4096 ≤ l.length) : appendE l e = fallsE l e := by unfold appendE; rw [if_pos h, if_neg h2]
theorem own_is (z b : Nat) (h : Value.ownBlock (.slice (some ⟨z, 0, none⟩) 0 0) = some b) : b = z := by
  have : z = b := by simpa [Value.ownBlock] using h
  exact this.symm
set_option maxRecDepth 100000 in
set_option maxHeartbeats 4000000 in
theorem refAppend_err (h : Rd w X 6 A n (cellsOf l)) (hn : n ≤ 1000000) (hz : appendE l e ≠ 0) : Calls Try.prog 15 #[.slice A n c, e.val] w (RAppP w A n c l e) := by
  have hlen := h.lenE
  have hright := right_any e (w.alloc (.cells e.cells 26))
  have HB := Lib.hid ((Below.refl w.heap.size w).alloc (Nat.le_refl _) (.cells e.cells 26))
  have HH := Lib.hid (h.below ((Below.refl w.heap.size w).alloc (Nat.le_refl _) (.cells e.cells 26)))
  have HZ := Lib.hid hz
  clear hz h
  unfold Ent.val at *
  unfold Ent.cells at hright HB HH ⊢
  by_cases h1 : Right e
  case neg =>
    have HE : Hid (appendE l e = 2) := Lib.hid (appendE_no h1)
    rw [decide_eq_false h1] at hright
    clear h1 hlen
    go_enter Try.func15, Try.ntmps15
    go_wp2_with fail
    refine hright.mono ?_
    rintro r w1 ⟨rfl, hb⟩
    have HB1 := Lib.hid (HB.out.trans (hb.mono HB.out.size))
    clear hb hright
    go_wp2_with fail
    go_ret2
    exact ⟨HB1.out, .inl ⟨HZ.out, by rw [HE.out]; rfl⟩⟩
  case pos =>
  rw [decide_eq_true h1] at hright
  by_cases h2 : 4096 ≤ n
  case pos =>
    have HE : Hid (appendE l e = 3) := Lib.hid (appendE_full h1 (by omega))
    have hd : decide ((4096 : Int) ≤ (n : Int)) = true := decide_eq_true (by omega)
    clear h1 hlen h2
    go_enter Try.func15, Try.ntmps15
    go_wp2_with fail
    refine hright.mono ?_
    rintro r w1 ⟨rfl, hb⟩
    have HB1 := Lib.hid (HB.out.trans (hb.mono HB.out.size))
    clear hb hright
    go_wp2_with fail
    go_ret2
    exact ⟨HB1.out, .inl ⟨HZ.out, by rw [HE.out]; rfl⟩⟩
  case neg =>
  have hfe := appendE_fine (l := l) h1 (by omega)
  have h3 : e.epoch < lastE l := by
    have hz := HZ.out
    rw [hfe] at hz
    unfold fallsE at hz
    by_cases q : e.epoch < lastE l
    · exact q
    · rw [if_neg q] at hz; exact absurd rfl hz
  have HE : Hid (appendE l e = 180) := Lib.hid (by rw [hfe]; exact if_pos h3)
  have h0 : n ≠ 0 := fun q => by
    have : l = [] := List.eq_nil_of_length_eq_zero (by omega)
    subst this
    unfold Right at h1
    rw [lastE_nil] at h3
    omega
  have hd : decide ((4096 : Int) ≤ (n : Int)) = false := decide_eq_false (by omega)
  have hd0 : decide ((0 : Int) < (n : Int)) = true := decide_eq_true (by omega)
  have hd0' : decide (0 < n) = true := decide_eq_true (by omega)
  obtain ⟨x, hx⟩ : ∃ x, l[l.length - 1]? = some x := ⟨_, List.getElem?_eq_getElem (by omega)⟩
  have h3' : e.epoch < x.epoch := by rwa [lastE_at hx] at h3
  rw [hlen] at hx
  have hd3 : decide (e.epoch < x.epoch) = true := decide_eq_true h3'
  have e1 : IntKind.i64.wrap ((n : Int) - 1) = ((n - 1 : Nat) : Int) := by rw [IntWalk.i64_in _ (by omega)]; omega
  have b1 : ((n - 1 : Nat) : Int) < (n : Int) := by omega
  have b2 : (0 : Int) ≤ ((n - 1 : Nat) : Int) := by omega
  have b4 : n - 1 < n := by omega
  have HX := Lib.hid hx
  clear hfe h3 h3' h1 h2 hlen hx h0
  go_enter Try.func15, Try.ntmps15
  go_wp2_with fail
  refine hright.mono ?_
  rintro r w1 ⟨rfl, hb⟩
  have HB1 := Lib.hid (HB.out.trans (hb.mono HB.out.size))
  obtain ⟨ad, rfl, hadl, -, c0, -⟩ := (HH.out.below hb).ent HX.out
  obtain ⟨k0, -⟩ := ((Blk.new w 26 #[.int .i64 e.epoch, .int .i64 e.id, .int .i64 e.num, .int .i64 e.seq, .int .i64 e.kind, .int .i64 e.value]).below hb (by simp)).six'
  clear hb hright
  go_wp2_with fail
  go_quiet (fail)
  go_wp2_with fail
  go_ret2
  exact ⟨below_drewN HB1.out _, .inl ⟨HZ.out, by rw [HE.out]; rfl⟩⟩
set_option maxRecDepth 100000 in
set_option maxHeartbeats 4000000 in
theorem refAppend_ok (h : Rd w X 6 A n (cellsOf l)) (hz : appendE l e = 0) : Calls Try.prog 15 #[.slice A n c, e.val] w (RAppP w A n c l e) := by
  have HLEN := Lib.hid h.lenE
  obtain ⟨h1, h2⟩ := append_zero hz
  have hright := right_any e (w.alloc (.cells e.cells 26))
  have HB := Lib.hid ((Below.refl w.heap.size w).alloc (Nat.le_refl _) (.cells e.cells 26))
  have HH := Lib.hid (h.below ((Below.refl w.heap.size w).alloc (Nat.le_refl _) (.cells e.cells 26)))
  have HBX : Hid (Blk (w.alloc (.cells e.cells 26)) w.heap.size 26 e.cells) := Lib.hid (Blk.new w 26 _)
  have HRD : Hid (Rd w No 6 A n (cellsOf l)) := Lib.hid (h.wide (fun _ _ h => h.elim))
  have HZ := Lib.hid hz
  have hnf : ¬ e.epoch < lastE l := fun q => by
    rw [appendE_fine h1 (by omega)] at hz
    unfold fallsE at hz
    rw [if_pos q] at hz
    omega
  have HNF := Lib.hid hnf
  have hlt : n < 4096 := by have := HLEN.out; omega
  clear hz h hnf
  unfold Ent.val at *
  unfold Ent.cells at hright HB HH HBX ⊢
  rw [decide_eq_true h1] at hright
  have hd : decide ((4096 : Int) ≤ (n : Int)) = false := decide_eq_false (by omega)
  clear h1 h2
  have tail : ∀ (W1 : World) (Q : Exit → Act → World → Prop) (a : Act), True := fun _ _ _ => trivial
  by_cases h0 : n = 0
  case pos =>
    have hd0 : decide ((0 : Int) < (n : Int)) = false := decide_eq_false (by omega)
    have hd0' : decide (0 < n) = false := decide_eq_false (by omega)
    clear h0
    go_enter Try.func15, Try.ntmps15
    go_wp2_with fail
    refine hright.mono ?_
    rintro r w1 ⟨rfl, hb⟩
    have HB1 := Lib.hid (HB.out.trans (hb.mono HB.out.size))
    have hbx := HBX.out.below hb (by simp)
    have hH1 := HH.out.below hb
    have HBX1 := Lib.hid hbx
    obtain ⟨k0, -⟩ := hbx.six'
    clear hb hright hH1 hbx
    go_wp2_with fail
    go_quiet (fail)
    have hb : Below w.heap.size w (w1.drewN nq) := below_drewN HB1.out _
    have hHB : Blk (w1.drewN nq) w.heap.size 26 #[.int .i64 e.epoch, .int .i64 e.id, .int .i64 e.num, .int .i64 e.seq, .int .i64 e.kind, .int .i64 e.value] := HBX1.out.drewN _
    have HSR : Hid (w.heap.size ≤ w.heap.size ∧ Blk (w1.drewN nq) w.heap.size 26 #[.int .i64 e.epoch, .int .i64 e.id, .int .i64 e.num, .int .i64 e.seq, .int .i64 e.kind, .int .i64 e.value]) := Lib.hid ⟨Nat.le_refl _, hHB⟩
    clear k0 
    go_wp2_with fail
    generalize w1.drewN nq = w2 at *
    have hHD : Blk w2.drew w.heap.size 26 #[.int .i64 e.epoch, .int .i64 e.id, .int .i64 e.num, .int .i64 e.seq, .int .i64 e.kind, .int .i64 e.value] := hHB
    have hb : Below w.heap.size w w2.drew := hb.drew
    refine wp_region_np ?_
    refine wp_region_held_drew (S := fun W => Blk W w.heap.size 26 #[.int .i64 e.epoch, .int .i64 e.id, .int .i64 e.num, .int .i64 e.seq, .int .i64 e.kind, .int .i64 e.value]) (by kernel_rfl) hHD (fun hHeld => ?_)
    generalize hv0 : w2.drew = V0 at *
    clear hv0
    refine wpAnyH_takeAt (i := 1) (d := 31) (v := ?vq0x) rfl rfl (by kernel_rfl) (by kernel_rfl) (by kernel_rfl) (fun _ _ _ h => h) (Or.inl ⟨by rfl, ?hyq0x⟩) hHeld ?_
    case hyq0x =>
      intro W hSw
      clear hSw
      (go_simp; try with_reducible rfl)
    simp only [List.setIfInBounds_toArray, List.set_cons_zero, List.set_cons_succ]
    refine wpAnyH_takeAt (i := 3) (d := 33) (v := ?vq1x) rfl rfl (by kernel_rfl) (by kernel_rfl) (by kernel_rfl) (fun _ _ _ h => h) (Or.inl ⟨by rfl, ?hyq1x⟩) hHeld ?_
    case hyq1x =>
      intro W hSw
      obtain ⟨b0, b1, b2, b3, b4, b5⟩ := Blk.six' (show Blk W w.heap.size 26 #[.int .i64 e.epoch, .int .i64 e.id, .int .i64 e.num, .int .i64 e.seq, .int .i64 e.kind, .int .i64 e.value] from hSw); clear hSw
      (go_simp; try with_reducible rfl)
    simp only [List.setIfInBounds_toArray, List.set_cons_zero, List.set_cons_succ]
    refine wpAnyH_ready (rs := [0, 4]) (by kernel_rfl) (by simp) (AllReadyH.cons rfl (fun K hK => ?_) (AllReadyH.cons rfl (fun K hK => ?_) AllReadyH.nil))
    · go_simp
      have hO := OwnK.made V0
      have hzO : w.heap.size < V0.heap.size := hHeld.lt
      have hzN : V0.heap.size < (V0.alloc (.cells #[] 26)).heap.size := by simp
      have hb := hb.alloc hb.size (.cells #[] 26)
      refine hK.out _ _ (Blk.alloc hHeld _) (fun hHeld => ?_)
      clear hK K
      generalize V0.alloc (.cells #[] 26) = V1 at *
      refine wpAnyH_ready (rs := [2, 4]) (by kernel_rfl) (by simp) (AllReadyH.cons rfl (fun K hK => ?_) (AllReadyH.cons rfl (fun K hK => ?_) AllReadyH.nil))
      · refine step_append_k el22 (by rfl) (by rfl) _ _ (by rfl) (.slice (some ⟨V0.heap.size, 0, none⟩) 0 0) [] (by rfl) hO No A n c (cellsOf l) (by rfl) (HRD.out.below hb) (by simp) (by omega) ?_
        intro v2 V2 hO2 hg2
        rw [List.nil_append] at hO2
        have hv2 : ∀ b, v2.ownBlock = some b → w.heap.size < b := fun b eb => by
          rcases hg2.2 b eb with h | h
          · have := own_is V0.heap.size b h; omega
          · have := hHeld.lt; omega
        have hb := below_grew hb hg2 (fun b eb => by have := own_is V0.heap.size b eb; omega) hb.size
        refine hK.out _ _ (show Blk V2 w.heap.size 26 #[.int .i64 e.epoch, .int .i64 e.id, .int .i64 e.num, .int .i64 e.seq, .int .i64 e.kind, .int .i64 e.value] from Blk.grown_o hHeld hg2.1 (fun b eb => by have := own_is V0.heap.size b eb; omega)) (fun hHeld => ?_)
        clear hK K
        have hzG := hg2.1.size
        obtain ⟨A2, q2, c2, rfl, -, -, -⟩ := hO2.form
        have hO := hO2
        try simp only [List.setIfInBounds_toArray, List.set_cons_zero, List.set_cons_succ]
        refine wpAnyH_ready (rs := [4]) (by kernel_rfl) (by simp) (AllReadyH.cons rfl (fun K hK => ?_) AllReadyH.nil)
        go_simp
        have hR : Rd (V2.alloc (.cells #[.int .i64 e.epoch, .int .i64 e.id, .int .i64 e.num, .int .i64 e.seq, .int .i64 e.kind, .int .i64 e.value] 26)) (fun b => b = V0.heap.size) 6 (some ⟨V2.heap.size, 0, none⟩) 1 [e.cells] := rd_one V2 26 e.cells rfl (by simp [Ent.cells, Value.oneCell']) (fun h => by have h' : V2.heap.size = V0.heap.size := h; omega)
        have hO := hO.alloc (.cells #[.int .i64 e.epoch, .int .i64 e.id, .int .i64 e.num, .int .i64 e.seq, .int .i64 e.kind, .int .i64 e.value] 26)
        have hb := hb.alloc hb.size (.cells #[.int .i64 e.epoch, .int .i64 e.id, .int .i64 e.num, .int .i64 e.seq, .int .i64 e.kind, .int .i64 e.value] 26)
        have hzM : V2.heap.size < (V2.alloc (.cells #[.int .i64 e.epoch, .int .i64 e.id, .int .i64 e.num, .int .i64 e.seq, .int .i64 e.kind, .int .i64 e.value] 26)).heap.size := by simp
        refine hK.out _ _ (Blk.alloc hHeld _) (fun hHeld => ?_)
        clear hK K
        generalize V2.alloc (.cells #[.int .i64 e.epoch, .int .i64 e.id, .int .i64 e.num, .int .i64 e.seq, .int .i64 e.kind, .int .i64 e.value] 26) = V3 at *
        refine wpAnyH_ready (rs := [5]) (by kernel_rfl) (by simp) (AllReadyH.cons rfl (fun K hK => ?_) AllReadyH.nil)
        refine step_append_k el22 (by rfl) (by rfl) _ _ (by rfl) (.slice A2 q2 c2) (cellsOf l) (by rfl) hO _ _ 1 _ [e.cells] (by rfl) hR (by simp [cellsOf]; have := HLEN.out; omega) (by omega) ?_
        intro v9 V4 hO9 hg9
        have hv9 : ∀ b, v9.ownBlock = some b → w.heap.size ≤ b := fun b eb => by
          rcases hg9.2 b eb with h | h
          · exact Nat.le_of_lt (hv2 b h)
          · have := hb.size; omega
        have hb := below_grew hb hg9 (fun b eb => Nat.le_of_lt (hv2 b eb)) hb.size
        have hHeld9 : Blk V4 w.heap.size 26 #[.int .i64 e.epoch, .int .i64 e.id, .int .i64 e.num, .int .i64 e.seq, .int .i64 e.kind, .int .i64 e.value] := Blk.grown_o hHeld hg9.1 (fun b eb => by have := hv2 b eb; omega)
        refine hK.out _ _ hHeld9 (fun hHeld => ?_)
        clear hK K
        try simp only [List.setIfInBounds_toArray, List.set_cons_zero, List.set_cons_succ]
        refine wpAnyH_takeAt (i := 6) (d := 4) (v := ?vq2x) rfl rfl (by kernel_rfl) (by kernel_rfl) (by kernel_rfl) (fun _ _ _ h => h) (Or.inl ⟨by rfl, ?hyq2x⟩) hHeld ?_
        case hyq2x =>
          intro W hSw
          clear hSw
          (go_simp; try with_reducible rfl)
        simp only [List.setIfInBounds_toArray, List.set_cons_zero, List.set_cons_succ]
        refine wpAnyH_takeAt (i := 7) (d := 5) (v := ?vq3x) rfl rfl (by kernel_rfl) (by kernel_rfl) (by kernel_rfl) (fun _ _ _ h => h) (Or.inl ⟨by rfl, ?hyq3x⟩) hHeld ?_
        case hyq3x =>
          intro W hSw
          clear hSw
          (go_simp; try with_reducible rfl)
        simp only [List.setIfInBounds_toArray, List.set_cons_zero, List.set_cons_succ]
        refine wpAnyH_done (by kernel_rfl) ?_ _
        have hO9' : OwnK V4 26 6 v9 (cellsOf (l ++ [e])) := by unfold cellsOf at hO9 ⊢; rw [List.map_append]; exact hO9
        obtain ⟨A9, q9, c9, rfl, hq9, -, -⟩ := hO9'.form
        have hq9' : q9 = n + 1 := by rw [hq9]; simp [cellsOf]; exact HLEN.out
        clear hq9
        subst hq9'
        have HF : Hid (RAppP w A n c l e (.returned (.tuple #[.slice A9 (n + 1) c9, .int .i64 0])) V4) := Lib.hid ⟨hb, .inr ⟨HZ.out, A9, c9, rfl, hO9', hv9⟩⟩
        clear hO9 hO9' hv9 hb hO hR hv2 hO2 hg2 hg9 hHeld
        go_wp2_with fail
        go_ret2
        exact HF.out
      · go_simp
        have hR : Rd (V1.alloc (.cells #[.int .i64 e.epoch, .int .i64 e.id, .int .i64 e.num, .int .i64 e.seq, .int .i64 e.kind, .int .i64 e.value] 26)) (fun b => b = V0.heap.size) 6 (some ⟨V1.heap.size, 0, none⟩) 1 [e.cells] := rd_one V1 26 e.cells rfl (by simp [Ent.cells, Value.oneCell']) (fun h => by have h' : V1.heap.size = V0.heap.size := h; omega)
        have hO := hO.alloc (.cells #[.int .i64 e.epoch, .int .i64 e.id, .int .i64 e.num, .int .i64 e.seq, .int .i64 e.kind, .int .i64 e.value] 26)
        have hb := hb.alloc hb.size (.cells #[.int .i64 e.epoch, .int .i64 e.id, .int .i64 e.num, .int .i64 e.seq, .int .i64 e.kind, .int .i64 e.value] 26)
        have hzM : V1.heap.size < (V1.alloc (.cells #[.int .i64 e.epoch, .int .i64 e.id, .int .i64 e.num, .int .i64 e.seq, .int .i64 e.kind, .int .i64 e.value] 26)).heap.size := by simp
        refine hK.out _ _ (Blk.alloc hHeld _) (fun hHeld => ?_)
        clear hK K
        generalize V1.alloc (.cells #[.int .i64 e.epoch, .int .i64 e.id, .int .i64 e.num, .int .i64 e.seq, .int .i64 e.kind, .int .i64 e.value] 26) = V2 at *
        refine wpAnyH_ready (rs := [2]) (by kernel_rfl) (by simp) (AllReadyH.cons rfl (fun K hK => ?_) AllReadyH.nil)
        refine step_append_k el22 (by rfl) (by rfl) _ _ (by rfl) (.slice (some ⟨V0.heap.size, 0, none⟩) 0 0) [] (by rfl) hO No A n c (cellsOf l) (by rfl) (HRD.out.below hb) (by simp) (by omega) ?_
        intro v2 V3 hO2 hg2
        rw [List.nil_append] at hO2
        have hR := hR.keep (hg2.turn (S := fun b => b = V0.heap.size) (own_is V0.heap.size)) (fun b _ h => h)
        have hv2 : ∀ b, v2.ownBlock = some b → w.heap.size < b := fun b eb => by
          rcases hg2.2 b eb with h | h
          · have := own_is V0.heap.size b h; omega
          · have := hHeld.lt; omega
        have hb := below_grew hb hg2 (fun b eb => by have := own_is V0.heap.size b eb; omega) hb.size
        refine hK.out _ _ (show Blk V3 w.heap.size 26 #[.int .i64 e.epoch, .int .i64 e.id, .int .i64 e.num, .int .i64 e.seq, .int .i64 e.kind, .int .i64 e.value] from Blk.grown_o hHeld hg2.1 (fun b eb => by have := own_is V0.heap.size b eb; omega)) (fun hHeld => ?_)
        clear hK K
        have hzG := hg2.1.size
        obtain ⟨A2, q2, c2, rfl, -, -, -⟩ := hO2.form
        have hO := hO2
        try simp only [List.setIfInBounds_toArray, List.set_cons_zero, List.set_cons_succ]
        refine wpAnyH_ready (rs := [5]) (by kernel_rfl) (by simp) (AllReadyH.cons rfl (fun K hK => ?_) AllReadyH.nil)
        refine step_append_k el22 (by rfl) (by rfl) _ _ (by rfl) (.slice A2 q2 c2) (cellsOf l) (by rfl) hO _ _ 1 _ [e.cells] (by rfl) hR (by simp [cellsOf]; have := HLEN.out; omega) (by omega) ?_
        intro v9 V4 hO9 hg9
        have hv9 : ∀ b, v9.ownBlock = some b → w.heap.size ≤ b := fun b eb => by
          rcases hg9.2 b eb with h | h
          · exact Nat.le_of_lt (hv2 b h)
          · have := hb.size; omega
        have hb := below_grew hb hg9 (fun b eb => Nat.le_of_lt (hv2 b eb)) hb.size
        have hHeld9 : Blk V4 w.heap.size 26 #[.int .i64 e.epoch, .int .i64 e.id, .int .i64 e.num, .int .i64 e.seq, .int .i64 e.kind, .int .i64 e.value] := Blk.grown_o hHeld hg9.1 (fun b eb => by have := hv2 b eb; omega)
        refine hK.out _ _ hHeld9 (fun hHeld => ?_)
        clear hK K
        try simp only [List.setIfInBounds_toArray, List.set_cons_zero, List.set_cons_succ]
        refine wpAnyH_takeAt (i := 6) (d := 4) (v := ?vq4x) rfl rfl (by kernel_rfl) (by kernel_rfl) (by kernel_rfl) (fun _ _ _ h => h) (Or.inl ⟨by rfl, ?hyq4x⟩) hHeld ?_
        case hyq4x =>
          intro W hSw
          clear hSw
          (go_simp; try with_reducible rfl)
        simp only [List.setIfInBounds_toArray, List.set_cons_zero, List.set_cons_succ]
        refine wpAnyH_takeAt (i := 7) (d := 5) (v := ?vq5x) rfl rfl (by kernel_rfl) (by kernel_rfl) (by kernel_rfl) (fun _ _ _ h => h) (Or.inl ⟨by rfl, ?hyq5x⟩) hHeld ?_
        case hyq5x =>
          intro W hSw
          clear hSw
          (go_simp; try with_reducible rfl)
        simp only [List.setIfInBounds_toArray, List.set_cons_zero, List.set_cons_succ]
        refine wpAnyH_done (by kernel_rfl) ?_ _
        have hO9' : OwnK V4 26 6 v9 (cellsOf (l ++ [e])) := by unfold cellsOf at hO9 ⊢; rw [List.map_append]; exact hO9
        obtain ⟨A9, q9, c9, rfl, hq9, -, -⟩ := hO9'.form
        have hq9' : q9 = n + 1 := by rw [hq9]; simp [cellsOf]; exact HLEN.out
        clear hq9
        subst hq9'
        have HF : Hid (RAppP w A n c l e (.returned (.tuple #[.slice A9 (n + 1) c9, .int .i64 0])) V4) := Lib.hid ⟨hb, .inr ⟨HZ.out, A9, c9, rfl, hO9', hv9⟩⟩
        clear hO9 hO9' hv9 hb hO hR hv2 hO2 hg2 hg9 hHeld
        go_wp2_with fail
        go_ret2
        exact HF.out
    · go_simp
      have hR : Rd (V0.alloc (.cells #[.int .i64 e.epoch, .int .i64 e.id, .int .i64 e.num, .int .i64 e.seq, .int .i64 e.kind, .int .i64 e.value] 26)) No 6 (some ⟨V0.heap.size, 0, none⟩) 1 [e.cells] := rd_one V0 26 e.cells rfl (by simp [Ent.cells, Value.oneCell']) (fun h => h)
      have hb := hb.alloc hb.size (.cells #[.int .i64 e.epoch, .int .i64 e.id, .int .i64 e.num, .int .i64 e.seq, .int .i64 e.kind, .int .i64 e.value] 26)
      have hzM : V0.heap.size < (V0.alloc (.cells #[.int .i64 e.epoch, .int .i64 e.id, .int .i64 e.num, .int .i64 e.seq, .int .i64 e.kind, .int .i64 e.value] 26)).heap.size := by simp
      refine hK.out _ _ (Blk.alloc hHeld _) (fun hHeld => ?_)
      clear hK K
      generalize V0.alloc (.cells #[.int .i64 e.epoch, .int .i64 e.id, .int .i64 e.num, .int .i64 e.seq, .int .i64 e.kind, .int .i64 e.value] 26) = V1 at *
      refine wpAnyH_ready (rs := [0]) (by kernel_rfl) (by simp) (AllReadyH.cons rfl (fun K hK => ?_) AllReadyH.nil)
      go_simp
      have hO := OwnK.made V1
      have hR := ((hR.wide (X' := fun b => b = V1.heap.size) (fun b hb e => by have e' : b = V1.heap.size := e; omega)).alloc (.cells #[] 26))
      have hzO : w.heap.size < V1.heap.size := hHeld.lt
      have hzN : V1.heap.size < (V1.alloc (.cells #[] 26)).heap.size := by simp
      have hb := hb.alloc hb.size (.cells #[] 26)
      refine hK.out _ _ (Blk.alloc hHeld _) (fun hHeld => ?_)
      clear hK K
      generalize V1.alloc (.cells #[] 26) = V2 at *
      refine wpAnyH_ready (rs := [2]) (by kernel_rfl) (by simp) (AllReadyH.cons rfl (fun K hK => ?_) AllReadyH.nil)
      refine step_append_k el22 (by rfl) (by rfl) _ _ (by rfl) (.slice (some ⟨V1.heap.size, 0, none⟩) 0 0) [] (by rfl) hO No A n c (cellsOf l) (by rfl) (HRD.out.below hb) (by simp) (by omega) ?_
      intro v2 V3 hO2 hg2
      rw [List.nil_append] at hO2
      have hR := hR.keep (hg2.turn (S := fun b => b = V1.heap.size) (own_is V1.heap.size)) (fun b _ h => h)
      have hv2 : ∀ b, v2.ownBlock = some b → w.heap.size < b := fun b eb => by
        rcases hg2.2 b eb with h | h
        · have := own_is V1.heap.size b h; omega
        · have := hHeld.lt; omega
      have hb := below_grew hb hg2 (fun b eb => by have := own_is V1.heap.size b eb; omega) hb.size
      refine hK.out _ _ (show Blk V3 w.heap.size 26 #[.int .i64 e.epoch, .int .i64 e.id, .int .i64 e.num, .int .i64 e.seq, .int .i64 e.kind, .int .i64 e.value] from Blk.grown_o hHeld hg2.1 (fun b eb => by have := own_is V1.heap.size b eb; omega)) (fun hHeld => ?_)
      clear hK K
      have hzG := hg2.1.size
      obtain ⟨A2, q2, c2, rfl, -, -, -⟩ := hO2.form
      have hO := hO2
      try simp only [List.setIfInBounds_toArray, List.set_cons_zero, List.set_cons_succ]
      refine wpAnyH_ready (rs := [5]) (by kernel_rfl) (by simp) (AllReadyH.cons rfl (fun K hK => ?_) AllReadyH.nil)
      refine step_append_k el22 (by rfl) (by rfl) _ _ (by rfl) (.slice A2 q2 c2) (cellsOf l) (by rfl) hO _ _ 1 _ [e.cells] (by rfl) hR (by simp [cellsOf]; have := HLEN.out; omega) (by omega) ?_
      intro v9 V4 hO9 hg9
      have hv9 : ∀ b, v9.ownBlock = some b → w.heap.size ≤ b := fun b eb => by
        rcases hg9.2 b eb with h | h
        · exact Nat.le_of_lt (hv2 b h)
        · have := hb.size; omega
      have hb := below_grew hb hg9 (fun b eb => Nat.le_of_lt (hv2 b eb)) hb.size
      have hHeld9 : Blk V4 w.heap.size 26 #[.int .i64 e.epoch, .int .i64 e.id, .int .i64 e.num, .int .i64 e.seq, .int .i64 e.kind, .int .i64 e.value] := Blk.grown_o hHeld hg9.1 (fun b eb => by have := hv2 b eb; omega)
      refine hK.out _ _ hHeld9 (fun hHeld => ?_)
      clear hK K
      try simp only [List.setIfInBounds_toArray, List.set_cons_zero, List.set_cons_succ]
      refine wpAnyH_takeAt (i := 6) (d := 4) (v := ?vq6x) rfl rfl (by kernel_rfl) (by kernel_rfl) (by kernel_rfl) (fun _ _ _ h => h) (Or.inl ⟨by rfl, ?hyq6x⟩) hHeld ?_
      case hyq6x =>
        intro W hSw
        clear hSw
        (go_simp; try with_reducible rfl)
      simp only [List.setIfInBounds_toArray, List.set_cons_zero, List.set_cons_succ]
      refine wpAnyH_takeAt (i := 7) (d := 5) (v := ?vq7x) rfl rfl (by kernel_rfl) (by kernel_rfl) (by kernel_rfl) (fun _ _ _ h => h) (Or.inl ⟨by rfl, ?hyq7x⟩) hHeld ?_
      case hyq7x =>
        intro W hSw
        clear hSw
        (go_simp; try with_reducible rfl)
      simp only [List.setIfInBounds_toArray, List.set_cons_zero, List.set_cons_succ]
      refine wpAnyH_done (by kernel_rfl) ?_ _
      have hO9' : OwnK V4 26 6 v9 (cellsOf (l ++ [e])) := by unfold cellsOf at hO9 ⊢; rw [List.map_append]; exact hO9
      obtain ⟨A9, q9, c9, rfl, hq9, -, -⟩ := hO9'.form
      have hq9' : q9 = n + 1 := by rw [hq9]; simp [cellsOf]; exact HLEN.out
      clear hq9
      subst hq9'
      have HF : Hid (RAppP w A n c l e (.returned (.tuple #[.slice A9 (n + 1) c9, .int .i64 0])) V4) := Lib.hid ⟨hb, .inr ⟨HZ.out, A9, c9, rfl, hO9', hv9⟩⟩
      clear hO9 hO9' hv9 hb hO hR hv2 hO2 hg2 hg9 hHeld
      go_wp2_with fail
      go_ret2
      exact HF.out
  case neg =>
    have hd0 : decide ((0 : Int) < (n : Int)) = true := decide_eq_true (by omega)
    have hd0' : decide (0 < n) = true := decide_eq_true (by omega)
    obtain ⟨x, hx⟩ : ∃ x, l[l.length - 1]? = some x := ⟨_, List.getElem?_eq_getElem (by have := HLEN.out; omega)⟩
    have h3' : ¬ e.epoch < x.epoch := by have := HNF.out; rwa [lastE_at hx] at this
    have hd3 : decide (e.epoch < x.epoch) = false := decide_eq_false h3'
    rw [HLEN.out] at hx
    have e1 : IntKind.i64.wrap ((n : Int) - 1) = ((n - 1 : Nat) : Int) := by rw [IntWalk.i64_in _ (by omega)]; omega
    have b1 : ((n - 1 : Nat) : Int) < (n : Int) := by omega
    have b2 : (0 : Int) ≤ ((n - 1 : Nat) : Int) := by omega
    have b4 : n - 1 < n := by omega
    have HX := Lib.hid hx
    clear h0 hx h3'
    go_enter Try.func15, Try.ntmps15
    go_wp2_with fail
    refine hright.mono ?_
    rintro r w1 ⟨rfl, hb⟩
    have HB1 := Lib.hid (HB.out.trans (hb.mono HB.out.size))
    have hbx := HBX.out.below hb (by simp)
    have hH1 := HH.out.below hb
    obtain ⟨ad, rfl, hadl, -, c0, -⟩ := hH1.ent HX.out
    have HBX1 := Lib.hid hbx
    obtain ⟨k0, -⟩ := hbx.six'
    clear hb hright hH1 hbx
    go_wp2_with fail
    go_quiet (fail)
    have hb : Below w.heap.size w (w1.drewN nq) := below_drewN HB1.out _
    have hHB : Blk (w1.drewN nq) w.heap.size 26 #[.int .i64 e.epoch, .int .i64 e.id, .int .i64 e.num, .int .i64 e.seq, .int .i64 e.kind, .int .i64 e.value] := HBX1.out.drewN _
    have HSR : Hid (w.heap.size ≤ w.heap.size ∧ Blk (w1.drewN nq) w.heap.size 26 #[.int .i64 e.epoch, .int .i64 e.id, .int .i64 e.num, .int .i64 e.seq, .int .i64 e.kind, .int .i64 e.value]) := Lib.hid ⟨Nat.le_refl _, hHB⟩
    clear k0 c0
    go_wp2_with fail
    generalize w1.drewN nq = w2 at *
    have hHD : Blk w2.drew w.heap.size 26 #[.int .i64 e.epoch, .int .i64 e.id, .int .i64 e.num, .int .i64 e.seq, .int .i64 e.kind, .int .i64 e.value] := hHB
    have hb : Below w.heap.size w w2.drew := hb.drew
    refine wp_region_np ?_
    refine wp_region_held_drew (S := fun W => Blk W w.heap.size 26 #[.int .i64 e.epoch, .int .i64 e.id, .int .i64 e.num, .int .i64 e.seq, .int .i64 e.kind, .int .i64 e.value]) (by kernel_rfl) hHD (fun hHeld => ?_)
    generalize hv0 : w2.drew = V0 at *
    clear hv0
    refine wpAnyH_takeAt (i := 1) (d := 31) (v := ?vq8x) rfl rfl (by kernel_rfl) (by kernel_rfl) (by kernel_rfl) (fun _ _ _ h => h) (Or.inl ⟨by rfl, ?hyq8x⟩) hHeld ?_
    case hyq8x =>
      intro W hSw
      clear hSw
      (go_simp; try with_reducible rfl)
    simp only [List.setIfInBounds_toArray, List.set_cons_zero, List.set_cons_succ]
    refine wpAnyH_takeAt (i := 3) (d := 33) (v := ?vq9x) rfl rfl (by kernel_rfl) (by kernel_rfl) (by kernel_rfl) (fun _ _ _ h => h) (Or.inl ⟨by rfl, ?hyq9x⟩) hHeld ?_
    case hyq9x =>
      intro W hSw
      obtain ⟨b0, b1, b2, b3, b4, b5⟩ := Blk.six' (show Blk W w.heap.size 26 #[.int .i64 e.epoch, .int .i64 e.id, .int .i64 e.num, .int .i64 e.seq, .int .i64 e.kind, .int .i64 e.value] from hSw); clear hSw
      (go_simp; try with_reducible rfl)
    simp only [List.setIfInBounds_toArray, List.set_cons_zero, List.set_cons_succ]
    refine wpAnyH_ready (rs := [0, 4]) (by kernel_rfl) (by simp) (AllReadyH.cons rfl (fun K hK => ?_) (AllReadyH.cons rfl (fun K hK => ?_) AllReadyH.nil))
    · go_simp
      have hO := OwnK.made V0
      have hzO : w.heap.size < V0.heap.size := hHeld.lt
      have hzN : V0.heap.size < (V0.alloc (.cells #[] 26)).heap.size := by simp
      have hb := hb.alloc hb.size (.cells #[] 26)
      refine hK.out _ _ (Blk.alloc hHeld _) (fun hHeld => ?_)
      clear hK K
      generalize V0.alloc (.cells #[] 26) = V1 at *
      refine wpAnyH_ready (rs := [2, 4]) (by kernel_rfl) (by simp) (AllReadyH.cons rfl (fun K hK => ?_) (AllReadyH.cons rfl (fun K hK => ?_) AllReadyH.nil))
      · refine step_append_k el22 (by rfl) (by rfl) _ _ (by rfl) (.slice (some ⟨V0.heap.size, 0, none⟩) 0 0) [] (by rfl) hO No (some ad) n c (cellsOf l) (by rfl) (HRD.out.below hb) (by simp) (by omega) ?_
        intro v2 V2 hO2 hg2
        rw [List.nil_append] at hO2
        have hv2 : ∀ b, v2.ownBlock = some b → w.heap.size < b := fun b eb => by
          rcases hg2.2 b eb with h | h
          · have := own_is V0.heap.size b h; omega
          · have := hHeld.lt; omega
        have hb := below_grew hb hg2 (fun b eb => by have := own_is V0.heap.size b eb; omega) hb.size
        refine hK.out _ _ (show Blk V2 w.heap.size 26 #[.int .i64 e.epoch, .int .i64 e.id, .int .i64 e.num, .int .i64 e.seq, .int .i64 e.kind, .int .i64 e.value] from Blk.grown_o hHeld hg2.1 (fun b eb => by have := own_is V0.heap.size b eb; omega)) (fun hHeld => ?_)
        clear hK K
        have hzG := hg2.1.size
        obtain ⟨A2, q2, c2, rfl, -, -, -⟩ := hO2.form
        have hO := hO2
        try simp only [List.setIfInBounds_toArray, List.set_cons_zero, List.set_cons_succ]
        refine wpAnyH_ready (rs := [4]) (by kernel_rfl) (by simp) (AllReadyH.cons rfl (fun K hK => ?_) AllReadyH.nil)
        go_simp
        have hR : Rd (V2.alloc (.cells #[.int .i64 e.epoch, .int .i64 e.id, .int .i64 e.num, .int .i64 e.seq, .int .i64 e.kind, .int .i64 e.value] 26)) (fun b => b = V0.heap.size) 6 (some ⟨V2.heap.size, 0, none⟩) 1 [e.cells] := rd_one V2 26 e.cells rfl (by simp [Ent.cells, Value.oneCell']) (fun h => by have h' : V2.heap.size = V0.heap.size := h; omega)
        have hO := hO.alloc (.cells #[.int .i64 e.epoch, .int .i64 e.id, .int .i64 e.num, .int .i64 e.seq, .int .i64 e.kind, .int .i64 e.value] 26)
        have hb := hb.alloc hb.size (.cells #[.int .i64 e.epoch, .int .i64 e.id, .int .i64 e.num, .int .i64 e.seq, .int .i64 e.kind, .int .i64 e.value] 26)
        have hzM : V2.heap.size < (V2.alloc (.cells #[.int .i64 e.epoch, .int .i64 e.id, .int .i64 e.num, .int .i64 e.seq, .int .i64 e.kind, .int .i64 e.value] 26)).heap.size := by simp
        refine hK.out _ _ (Blk.alloc hHeld _) (fun hHeld => ?_)
        clear hK K
        generalize V2.alloc (.cells #[.int .i64 e.epoch, .int .i64 e.id, .int .i64 e.num, .int .i64 e.seq, .int .i64 e.kind, .int .i64 e.value] 26) = V3 at *
        refine wpAnyH_ready (rs := [5]) (by kernel_rfl) (by simp) (AllReadyH.cons rfl (fun K hK => ?_) AllReadyH.nil)
        refine step_append_k el22 (by rfl) (by rfl) _ _ (by rfl) (.slice A2 q2 c2) (cellsOf l) (by rfl) hO _ _ 1 _ [e.cells] (by rfl) hR (by simp [cellsOf]; have := HLEN.out; omega) (by omega) ?_
        intro v9 V4 hO9 hg9
        have hv9 : ∀ b, v9.ownBlock = some b → w.heap.size ≤ b := fun b eb => by
          rcases hg9.2 b eb with h | h
          · exact Nat.le_of_lt (hv2 b h)
          · have := hb.size; omega
        have hb := below_grew hb hg9 (fun b eb => Nat.le_of_lt (hv2 b eb)) hb.size
        have hHeld9 : Blk V4 w.heap.size 26 #[.int .i64 e.epoch, .int .i64 e.id, .int .i64 e.num, .int .i64 e.seq, .int .i64 e.kind, .int .i64 e.value] := Blk.grown_o hHeld hg9.1 (fun b eb => by have := hv2 b eb; omega)
        refine hK.out _ _ hHeld9 (fun hHeld => ?_)
        clear hK K
        try simp only [List.setIfInBounds_toArray, List.set_cons_zero, List.set_cons_succ]
        refine wpAnyH_takeAt (i := 6) (d := 4) (v := ?vq10x) rfl rfl (by kernel_rfl) (by kernel_rfl) (by kernel_rfl) (fun _ _ _ h => h) (Or.inl ⟨by rfl, ?hyq10x⟩) hHeld ?_
        case hyq10x =>
          intro W hSw
          clear hSw
          (go_simp; try with_reducible rfl)
        simp only [List.setIfInBounds_toArray, List.set_cons_zero, List.set_cons_succ]
        refine wpAnyH_takeAt (i := 7) (d := 5) (v := ?vq11x) rfl rfl (by kernel_rfl) (by kernel_rfl) (by kernel_rfl) (fun _ _ _ h => h) (Or.inl ⟨by rfl, ?hyq11x⟩) hHeld ?_
        case hyq11x =>
          intro W hSw
          clear hSw
          (go_simp; try with_reducible rfl)
        simp only [List.setIfInBounds_toArray, List.set_cons_zero, List.set_cons_succ]
        refine wpAnyH_done (by kernel_rfl) ?_ _
        have hO9' : OwnK V4 26 6 v9 (cellsOf (l ++ [e])) := by unfold cellsOf at hO9 ⊢; rw [List.map_append]; exact hO9
        obtain ⟨A9, q9, c9, rfl, hq9, -, -⟩ := hO9'.form
        have hq9' : q9 = n + 1 := by rw [hq9]; simp [cellsOf]; exact HLEN.out
        clear hq9
        subst hq9'
        have HF : Hid (RAppP w (some ad) n c l e (.returned (.tuple #[.slice A9 (n + 1) c9, .int .i64 0])) V4) := Lib.hid ⟨hb, .inr ⟨HZ.out, A9, c9, rfl, hO9', hv9⟩⟩
        clear hO9 hO9' hv9 hb hO hR hv2 hO2 hg2 hg9 hHeld
        go_wp2_with fail
        go_ret2
        exact HF.out
      · go_simp
        have hR : Rd (V1.alloc (.cells #[.int .i64 e.epoch, .int .i64 e.id, .int .i64 e.num, .int .i64 e.seq, .int .i64 e.kind, .int .i64 e.value] 26)) (fun b => b = V0.heap.size) 6 (some ⟨V1.heap.size, 0, none⟩) 1 [e.cells] := rd_one V1 26 e.cells rfl (by simp [Ent.cells, Value.oneCell']) (fun h => by have h' : V1.heap.size = V0.heap.size := h; omega)
        have hO := hO.alloc (.cells #[.int .i64 e.epoch, .int .i64 e.id, .int .i64 e.num, .int .i64 e.seq, .int .i64 e.kind, .int .i64 e.value] 26)
        have hb := hb.alloc hb.size (.cells #[.int .i64 e.epoch, .int .i64 e.id, .int .i64 e.num, .int .i64 e.seq, .int .i64 e.kind, .int .i64 e.value] 26)
        have hzM : V1.heap.size < (V1.alloc (.cells #[.int .i64 e.epoch, .int .i64 e.id, .int .i64 e.num, .int .i64 e.seq, .int .i64 e.kind, .int .i64 e.value] 26)).heap.size := by simp
        refine hK.out _ _ (Blk.alloc hHeld _) (fun hHeld => ?_)
        clear hK K
        generalize V1.alloc (.cells #[.int .i64 e.epoch, .int .i64 e.id, .int .i64 e.num, .int .i64 e.seq, .int .i64 e.kind, .int .i64 e.value] 26) = V2 at *
        refine wpAnyH_ready (rs := [2]) (by kernel_rfl) (by simp) (AllReadyH.cons rfl (fun K hK => ?_) AllReadyH.nil)
        refine step_append_k el22 (by rfl) (by rfl) _ _ (by rfl) (.slice (some ⟨V0.heap.size, 0, none⟩) 0 0) [] (by rfl) hO No (some ad) n c (cellsOf l) (by rfl) (HRD.out.below hb) (by simp) (by omega) ?_
        intro v2 V3 hO2 hg2
        rw [List.nil_append] at hO2
        have hR := hR.keep (hg2.turn (S := fun b => b = V0.heap.size) (own_is V0.heap.size)) (fun b _ h => h)
        have hv2 : ∀ b, v2.ownBlock = some b → w.heap.size < b := fun b eb => by
          rcases hg2.2 b eb with h | h
          · have := own_is V0.heap.size b h; omega
          · have := hHeld.lt; omega
        have hb := below_grew hb hg2 (fun b eb => by have := own_is V0.heap.size b eb; omega) hb.size
        refine hK.out _ _ (show Blk V3 w.heap.size 26 #[.int .i64 e.epoch, .int .i64 e.id, .int .i64 e.num, .int .i64 e.seq, .int .i64 e.kind, .int .i64 e.value] from Blk.grown_o hHeld hg2.1 (fun b eb => by have := own_is V0.heap.size b eb; omega)) (fun hHeld => ?_)
        clear hK K
        have hzG := hg2.1.size
        obtain ⟨A2, q2, c2, rfl, -, -, -⟩ := hO2.form
        have hO := hO2
        try simp only [List.setIfInBounds_toArray, List.set_cons_zero, List.set_cons_succ]
        refine wpAnyH_ready (rs := [5]) (by kernel_rfl) (by simp) (AllReadyH.cons rfl (fun K hK => ?_) AllReadyH.nil)
        refine step_append_k el22 (by rfl) (by rfl) _ _ (by rfl) (.slice A2 q2 c2) (cellsOf l) (by rfl) hO _ _ 1 _ [e.cells] (by rfl) hR (by simp [cellsOf]; have := HLEN.out; omega) (by omega) ?_
        intro v9 V4 hO9 hg9
        have hv9 : ∀ b, v9.ownBlock = some b → w.heap.size ≤ b := fun b eb => by
          rcases hg9.2 b eb with h | h
          · exact Nat.le_of_lt (hv2 b h)
          · have := hb.size; omega
        have hb := below_grew hb hg9 (fun b eb => Nat.le_of_lt (hv2 b eb)) hb.size
        have hHeld9 : Blk V4 w.heap.size 26 #[.int .i64 e.epoch, .int .i64 e.id, .int .i64 e.num, .int .i64 e.seq, .int .i64 e.kind, .int .i64 e.value] := Blk.grown_o hHeld hg9.1 (fun b eb => by have := hv2 b eb; omega)
        refine hK.out _ _ hHeld9 (fun hHeld => ?_)
        clear hK K
        try simp only [List.setIfInBounds_toArray, List.set_cons_zero, List.set_cons_succ]
        refine wpAnyH_takeAt (i := 6) (d := 4) (v := ?vq12x) rfl rfl (by kernel_rfl) (by kernel_rfl) (by kernel_rfl) (fun _ _ _ h => h) (Or.inl ⟨by rfl, ?hyq12x⟩) hHeld ?_
        case hyq12x =>
          intro W hSw
          clear hSw
          (go_simp; try with_reducible rfl)
        simp only [List.setIfInBounds_toArray, List.set_cons_zero, List.set_cons_succ]
        refine wpAnyH_takeAt (i := 7) (d := 5) (v := ?vq13x) rfl rfl (by kernel_rfl) (by kernel_rfl) (by kernel_rfl) (fun _ _ _ h => h) (Or.inl ⟨by rfl, ?hyq13x⟩) hHeld ?_
        case hyq13x =>
          intro W hSw
          clear hSw
          (go_simp; try with_reducible rfl)
        simp only [List.setIfInBounds_toArray, List.set_cons_zero, List.set_cons_succ]
        refine wpAnyH_done (by kernel_rfl) ?_ _
        have hO9' : OwnK V4 26 6 v9 (cellsOf (l ++ [e])) := by unfold cellsOf at hO9 ⊢; rw [List.map_append]; exact hO9
        obtain ⟨A9, q9, c9, rfl, hq9, -, -⟩ := hO9'.form
        have hq9' : q9 = n + 1 := by rw [hq9]; simp [cellsOf]; exact HLEN.out
        clear hq9
        subst hq9'
        have HF : Hid (RAppP w (some ad) n c l e (.returned (.tuple #[.slice A9 (n + 1) c9, .int .i64 0])) V4) := Lib.hid ⟨hb, .inr ⟨HZ.out, A9, c9, rfl, hO9', hv9⟩⟩
        clear hO9 hO9' hv9 hb hO hR hv2 hO2 hg2 hg9 hHeld
        go_wp2_with fail
        go_ret2
        exact HF.out
    · go_simp
      have hR : Rd (V0.alloc (.cells #[.int .i64 e.epoch, .int .i64 e.id, .int .i64 e.num, .int .i64 e.seq, .int .i64 e.kind, .int .i64 e.value] 26)) No 6 (some ⟨V0.heap.size, 0, none⟩) 1 [e.cells] := rd_one V0 26 e.cells rfl (by simp [Ent.cells, Value.oneCell']) (fun h => h)
      have hb := hb.alloc hb.size (.cells #[.int .i64 e.epoch, .int .i64 e.id, .int .i64 e.num, .int .i64 e.seq, .int .i64 e.kind, .int .i64 e.value] 26)
      have hzM : V0.heap.size < (V0.alloc (.cells #[.int .i64 e.epoch, .int .i64 e.id, .int .i64 e.num, .int .i64 e.seq, .int .i64 e.kind, .int .i64 e.value] 26)).heap.size := by simp
      refine hK.out _ _ (Blk.alloc hHeld _) (fun hHeld => ?_)
      clear hK K
      generalize V0.alloc (.cells #[.int .i64 e.epoch, .int .i64 e.id, .int .i64 e.num, .int .i64 e.seq, .int .i64 e.kind, .int .i64 e.value] 26) = V1 at *
      refine wpAnyH_ready (rs := [0]) (by kernel_rfl) (by simp) (AllReadyH.cons rfl (fun K hK => ?_) AllReadyH.nil)
      go_simp
      have hO := OwnK.made V1
      have hR := ((hR.wide (X' := fun b => b = V1.heap.size) (fun b hb e => by have e' : b = V1.heap.size := e; omega)).alloc (.cells #[] 26))
      have hzO : w.heap.size < V1.heap.size := hHeld.lt
      have hzN : V1.heap.size < (V1.alloc (.cells #[] 26)).heap.size := by simp
      have hb := hb.alloc hb.size (.cells #[] 26)
      refine hK.out _ _ (Blk.alloc hHeld _) (fun hHeld => ?_)
      clear hK K
      generalize V1.alloc (.cells #[] 26) = V2 at *
      refine wpAnyH_ready (rs := [2]) (by kernel_rfl) (by simp) (AllReadyH.cons rfl (fun K hK => ?_) AllReadyH.nil)
      refine step_append_k el22 (by rfl) (by rfl) _ _ (by rfl) (.slice (some ⟨V1.heap.size, 0, none⟩) 0 0) [] (by rfl) hO No (some ad) n c (cellsOf l) (by rfl) (HRD.out.below hb) (by simp) (by omega) ?_
      intro v2 V3 hO2 hg2
      rw [List.nil_append] at hO2
      have hR := hR.keep (hg2.turn (S := fun b => b = V1.heap.size) (own_is V1.heap.size)) (fun b _ h => h)
      have hv2 : ∀ b, v2.ownBlock = some b → w.heap.size < b := fun b eb => by
        rcases hg2.2 b eb with h | h
        · have := own_is V1.heap.size b h; omega
        · have := hHeld.lt; omega
      have hb := below_grew hb hg2 (fun b eb => by have := own_is V1.heap.size b eb; omega) hb.size
      refine hK.out _ _ (show Blk V3 w.heap.size 26 #[.int .i64 e.epoch, .int .i64 e.id, .int .i64 e.num, .int .i64 e.seq, .int .i64 e.kind, .int .i64 e.value] from Blk.grown_o hHeld hg2.1 (fun b eb => by have := own_is V1.heap.size b eb; omega)) (fun hHeld => ?_)
      clear hK K
      have hzG := hg2.1.size
      obtain ⟨A2, q2, c2, rfl, -, -, -⟩ := hO2.form
      have hO := hO2
      try simp only [List.setIfInBounds_toArray, List.set_cons_zero, List.set_cons_succ]
      refine wpAnyH_ready (rs := [5]) (by kernel_rfl) (by simp) (AllReadyH.cons rfl (fun K hK => ?_) AllReadyH.nil)
      refine step_append_k el22 (by rfl) (by rfl) _ _ (by rfl) (.slice A2 q2 c2) (cellsOf l) (by rfl) hO _ _ 1 _ [e.cells] (by rfl) hR (by simp [cellsOf]; have := HLEN.out; omega) (by omega) ?_
      intro v9 V4 hO9 hg9
      have hv9 : ∀ b, v9.ownBlock = some b → w.heap.size ≤ b := fun b eb => by
        rcases hg9.2 b eb with h | h
        · exact Nat.le_of_lt (hv2 b h)
        · have := hb.size; omega
      have hb := below_grew hb hg9 (fun b eb => Nat.le_of_lt (hv2 b eb)) hb.size
      have hHeld9 : Blk V4 w.heap.size 26 #[.int .i64 e.epoch, .int .i64 e.id, .int .i64 e.num, .int .i64 e.seq, .int .i64 e.kind, .int .i64 e.value] := Blk.grown_o hHeld hg9.1 (fun b eb => by have := hv2 b eb; omega)
      refine hK.out _ _ hHeld9 (fun hHeld => ?_)
      clear hK K
      try simp only [List.setIfInBounds_toArray, List.set_cons_zero, List.set_cons_succ]
      refine wpAnyH_takeAt (i := 6) (d := 4) (v := ?vq14x) rfl rfl (by kernel_rfl) (by kernel_rfl) (by kernel_rfl) (fun _ _ _ h => h) (Or.inl ⟨by rfl, ?hyq14x⟩) hHeld ?_
      case hyq14x =>
        intro W hSw
        clear hSw
        (go_simp; try with_reducible rfl)
      simp only [List.setIfInBounds_toArray, List.set_cons_zero, List.set_cons_succ]
      refine wpAnyH_takeAt (i := 7) (d := 5) (v := ?vq15x) rfl rfl (by kernel_rfl) (by kernel_rfl) (by kernel_rfl) (fun _ _ _ h => h) (Or.inl ⟨by rfl, ?hyq15x⟩) hHeld ?_
      case hyq15x =>
        intro W hSw
        clear hSw
        (go_simp; try with_reducible rfl)
      simp only [List.setIfInBounds_toArray, List.set_cons_zero, List.set_cons_succ]
      refine wpAnyH_done (by kernel_rfl) ?_ _
      have hO9' : OwnK V4 26 6 v9 (cellsOf (l ++ [e])) := by unfold cellsOf at hO9 ⊢; rw [List.map_append]; exact hO9
      obtain ⟨A9, q9, c9, rfl, hq9, -, -⟩ := hO9'.form
      have hq9' : q9 = n + 1 := by rw [hq9]; simp [cellsOf]; exact HLEN.out
      clear hq9
      subst hq9'
      have HF : Hid (RAppP w (some ad) n c l e (.returned (.tuple #[.slice A9 (n + 1) c9, .int .i64 0])) V4) := Lib.hid ⟨hb, .inr ⟨HZ.out, A9, c9, rfl, hO9', hv9⟩⟩
      clear hO9 hO9' hv9 hb hO hR hv2 hO2 hg2 hg9 hHeld
      go_wp2_with fail
      go_ret2
      exact HF.out
end
end Go.Proofs.Ytafgcafhgnfegaa
