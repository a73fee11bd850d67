/-
  An entry is appended to a table of visible. Conditions: the table's own blocks apart from the place where it lies.
-/
import Derived.Test.YthcphoijanebhaaDoorNew9
import Derived.Test.YthcphoijanebhaaDoorOpen9
import Derived.Test.YthcphoijanebhaaDoorOf
import Derived.Deep.Cut
namespace Go.Proofs.YthcphoijanebhaaDoor
open Go.RowKit Go.Maps
set_option linter.unusedVariables false
def keep1 (a : List Ent) (e : Ent) : List Ent := if appendE a e = 0 then a ++ [e] else a
theorem PM.more {w : World} {m n : Nat} {f : Int × Int → Option Nat} (h : PM w m n f) {k : Nat} (hk : n ≤ k) : PM w m k f := by
  obtain ⟨D, hown, h2⟩ := h
  exact ⟨D, hown.mono hk, h2⟩
/-- The blocks that an append may turn. -/
def OwnT (S : Nat → Prop) (m1 m2 : Nat) : Nat → Prop := fun x => S x ∨ x = m1 ∨ x = m2
section
variable {w : World} {b g m1 m2 : Nat} {S : Nat → Prop} {l : List Ent} {e : Ent}
/-- What is known behind append. -/
def VApp (w : World) (S : Nat → Prop) (b g m1 m2 : Nat) (l : List Ent) (e : Ent) (r : Ending) (w' : World) : Prop :=
  r = .returned (.int .i64 (appendE l e)) ∧ VT w' b g m1 m2 (More S w w') (keep1 l e) ∧ Turn (OwnT S m1 m2) w w'
set_option maxRecDepth 100000 in
set_option maxHeartbeats 4000000 in
theorem vapp_any (h : VT w b g m1 m2 S l) (hb : ¬ OwnT S m1 m2 b) (hSl : ∀ x, S x → x < w.heap.size) (e : Ent) : Calls Tryd.prog 46 #[.pointer (some ⟨b, 0, none⟩), e.val] w (VApp w S b g m1 m2 l e) := by
  have HB := Lib.hid ((Below.refl w.heap.size w).alloc (Nat.le_refl _) (.cells e.cells 45))
  have HBX : Hid (Blk (w.alloc (.cells e.cells 45)) w.heap.size 45 e.cells) := Lib.hid (Blk.new w 45 _)
  have HV := Lib.hid (h.below HB.out)
  have HNB := Lib.hid hb
  have HOLD : Hid (b < w.heap.size ∧ m1 < w.heap.size ∧ m2 < w.heap.size) := Lib.hid ⟨h.blt, h.vr.e1.lt, h.vr.e2.lt⟩
  have HLEN : Hid (l.length ≤ 4096) := Lib.hid h.tb.len
  have HSL : Hid (¬ OwnT S m1 m2 w.heap.size) := Lib.hid (fun q => by
    rcases q with q | q | q
    · have := hSl _ q; omega
    · have := h.vr.e1.lt; omega
    · have := h.vr.e2.lt; omega)
  clear h hb hSl
  have hwh : ∀ W, Calls Tryd.prog 43 #[.agg #[.int .i64 e.epoch, .int .i64 e.id, .int .i64 e.num, .int .i64 e.seq, .int .i64 e.kind, .int .i64 e.value]] W fun r w' => r = .returned (.agg #[.int .i64 e.id, .int .i64 e.num]) ∧ Below W.heap.size W w' := fun W => whose_any e W
  unfold Ent.val
  unfold Ent.cells at HB HBX HV ⊢
  have key : In64P e.key ∨ appendE l e ≠ 0 := by
    by_cases h : appendE l e = 0
    · exact .inl (right_key (append_zero h).1)
    · exact .inr h
  have HKEY := Lib.hid key
  clear key
  go_enter Tryd.func46, Tryd.ntmps46
  go_upto_region 1 with fail
  generalize hw1 : w.alloc (.cells #[.int .i64 e.epoch, .int .i64 e.id, .int .i64 e.num, .int .i64 e.seq, .int .i64 e.kind, .int .i64 e.value] 45) = w1 at *
  generalize hbx : w.heap.size = bx at *
  clear hw1
  have c0 := HV.out.c0
  go_wp2_with fail
  refine (vlen_any c0 HV.out.tb).mono ?_
  rintro r w9 ⟨rfl, rfl⟩
  have HBS := Lib.hid HB.out.size
  have HC : Hid (w1.cell? ⟨b, 0, none⟩ = some (.pointer (some ⟨g, 0, none⟩)) ∧ w1.cell? ⟨b, 1, none⟩ = some (.map (some m1)) ∧ w1.cell? ⟨b, 2, none⟩ = some (.map (some m2)) ∧ b < w1.heap.size) := Lib.hid ⟨HV.out.c0, HV.out.vr.c1, HV.out.vr.c2, HV.out.blt⟩
  have hap : ∀ W, Below w1.heap.size w1 W → Calls Tryd.prog 63 #[.pointer (some ⟨g, 0, none⟩), .agg #[.int .i64 e.epoch, .int .i64 e.id, .int .i64 e.num, .int .i64 e.seq, .int .i64 e.kind, .int .i64 e.value]] W (fun r w' => r = .returned (.int .i64 (appendE l e)) ∧ Tb w' (More S W w') g (keep1 l e) ∧ Turn S W w') := fun W hW => append_any (HV.out.tb.below hW) e
  clear c0
  go_upto_region 2 with fail
  refine wp_region_np ?_
  refine wp_region_held_drew (S := fun W => Turn (OwnT S m1 m2) w1 W) (by kernel_rfl) (show Turn (OwnT S m1 m2) w1 w1.drew from (Turn.refl _ _).drew) (fun hHeld => ?_)
  refine wpAnyH_takeAt (i := 0) (d := 9) (v := ?vq0x) rfl rfl (by kernel_rfl) (by kernel_rfl) (by kernel_rfl) (fun _ _ _ h => h) (Or.inl ⟨by rfl, ?hyq0x⟩) hHeld ?_
  case hyq0x =>
    intro W hSw
    clear hSw
    (go_simp; try with_reducible rfl)
  simp only [List.setIfInBounds_toArray, List.set_cons_zero, List.set_cons_succ]
  refine wpAnyH_takeAt (i := 1) (d := 10) (v := ?vq1x) rfl rfl (by kernel_rfl) (by kernel_rfl) (by kernel_rfl) (fun _ _ _ h => h) (Or.inl ⟨by rfl, ?hyq1x⟩) hHeld ?_
  case hyq1x =>
    intro W hSw
    clear hSw
    (go_simp; try with_reducible rfl)
  simp only [List.setIfInBounds_toArray, List.set_cons_zero, List.set_cons_succ]
  refine wpAnyH_takeAt (i := 2) (d := 11) (v := ?vq2x) rfl rfl (by kernel_rfl) (by kernel_rfl) (by kernel_rfl) (fun _ _ _ h => h) (Or.inl ⟨by rfl, ?hyq2x⟩) hHeld ?_
  case hyq2x =>
    intro W hSw
    clear hSw
    (go_simp; try with_reducible rfl)
  simp only [List.setIfInBounds_toArray, List.set_cons_zero, List.set_cons_succ]
  refine wpAnyH_takeAt (i := 3) (d := 12) (v := ?vq3x) rfl rfl (by kernel_rfl) (by kernel_rfl) (by kernel_rfl) (fun _ _ _ h => h) (Or.inl ⟨by rfl, ?hyq3x⟩) hHeld ?_
  case hyq3x =>
    intro W hSw
    have qc := (hSw.cell (p := ⟨b, 0, none⟩) HC.out.2.2.2 HNB.out).trans HC.out.1; clear hSw
    (go_simp; try with_reducible rfl)
  simp only [List.setIfInBounds_toArray, List.set_cons_zero, List.set_cons_succ]
  refine wpAnyH_takeAt (i := 4) (d := 13) (v := ?vq4x) rfl rfl (by kernel_rfl) (by kernel_rfl) (by kernel_rfl) (fun _ _ _ h => h) (Or.inl ⟨by rfl, ?hyq4x⟩) hHeld ?_
  case hyq4x =>
    intro W hSw
    obtain ⟨s0, s1, s2, s3, s4, s5⟩ := (HBX.out.keep hSw HSL.out).six9; clear hSw
    (go_simp; try with_reducible rfl)
  simp only [List.setIfInBounds_toArray, List.set_cons_zero, List.set_cons_succ]
  refine wpAnyH_ready (rs := [5]) (by kernel_rfl) (by simp) (AllReadyH.cons rfl (fun K hK => ?_) AllReadyH.nil)
  go_simp
  refine (hap w1.drew (Below.refl _ _).drew).mono ?_
  rintro r w2 ⟨rfl, hT2, hU2⟩
  dsimp only
  have hu2 : Turn S w1 w2 := (show Turn S w1 w1.drew from (Turn.refl _ _).drew).trans hU2 (fun _ _ h => h)
  have hv2 : Turn (OwnT S m1 m2) w1 w2 := hu2.mono (fun _ _ h => .inl h)
  have HT2 : Hid (Tb w2 (More S w1 w2) g (keep1 l e)) := Lib.hid hT2
  have HU2 := Lib.hid hu2
  refine hK.out _ _ hv2 (fun hHeld => ?_)
  clear hK K hT2 hU2 hu2 hv2
  try simp only [List.setIfInBounds_toArray, List.set_cons_zero, List.set_cons_succ]
  refine wpAnyH_takeAt (i := 6) (d := 6) (v := ?vq5x) rfl rfl (by kernel_rfl) (by kernel_rfl) (by kernel_rfl) (fun _ _ _ h => h) (Or.inl ⟨by rfl, ?hyq5x⟩) hHeld ?_
  case hyq5x =>
    intro W hSw
    clear hSw
    (go_simp; try with_reducible rfl)
  simp only [List.setIfInBounds_toArray, List.set_cons_zero, List.set_cons_succ]
  refine wpAnyH_done (by kernel_rfl) ?_ _
  have HV2 : Hid (Turn (OwnT S m1 m2) w1 w2) := Lib.hid hHeld
  have HBX2 := Lib.hid (HBX.out.keep HV2.out HSL.out)
  have HP : Hid (PM w2 m1 l.length (fstF mkE l) ∧ PM w2 m2 l.length (fstF cmE l)) := Lib.hid ⟨HV.out.vr.e1.keep HU2.out HV.out.d.2.1, HV.out.vr.e2.keep HU2.out HV.out.d.2.2⟩
  have HC2 : Hid (w2.cell? ⟨b, 0, none⟩ = some (.pointer (some ⟨g, 0, none⟩)) ∧ w2.cell? ⟨b, 1, none⟩ = some (.map (some m1)) ∧ w2.cell? ⟨b, 2, none⟩ = some (.map (some m2)) ∧ b < w2.heap.size) := Lib.hid ⟨(HV2.out.cell (p := ⟨b, 0, none⟩) HC.out.2.2.2 HNB.out).trans HC.out.1, (HV2.out.cell (p := ⟨b, 1, none⟩) HC.out.2.2.2 HNB.out).trans HC.out.2.1, (HV2.out.cell (p := ⟨b, 2, none⟩) HC.out.2.2.2 HNB.out).trans HC.out.2.2.1, Nat.lt_of_lt_of_le HC.out.2.2.2 HV2.out.size⟩
  have HD : Hid (m1 ≠ m2 ∧ ∀ w', w2.heap.size ≤ w'.heap.size → ¬ More S w w' m1 ∧ ¬ More S w w' m2 ∧ ∀ x, More S w1 w2 x → More S w w' x) := Lib.hid ⟨HV.out.d.1, fun w' hw' => ⟨fun q => by
    rcases q with q | q
    · exact HV.out.d.2.1 q
    · have := HOLD.out; have := q.1; omega, fun q => by
    rcases q with q | q
    · exact HV.out.d.2.2 q
    · have := HOLD.out; have := q.1; omega, fun x q => by
    rcases q with q | q
    · exact .inl q
    · exact .inr ⟨by have := HBS.out; have := q.1; omega, Nat.lt_of_lt_of_le q.2 hw'⟩⟩⟩
  have HTW : Hid (Turn (OwnT S m1 m2) w w2) := Lib.hid ((Turn.of_below (show Below w.heap.size w w1 from by rw [hbx]; exact HB.out) _).trans HV2.out (fun _ _ h => h))
  clear hHeld hap
  by_cases hz : appendE l e = 0
  case neg =>
    have hz1 := nen hz
    have hkk : keep1 l e = l := by unfold keep1; rw [if_neg hz]
    have HKK := Lib.hid hkk
    clear hkk hz
    go_wp2_with fail
    go_ret
    refine ⟨rfl, ?_, HTW.out⟩
    rw [HKK.out]
    have h2 := HT2.out
    rw [HKK.out] at h2
    exact ⟨HC2.out.1, ⟨HC2.out.2.1, HC2.out.2.2.1, HP.out.1, HP.out.2⟩, h2.wide (fun x _ q => (HD.out.2 w2 (Nat.le_refl _)).2.2 x q), HD.out.1, (HD.out.2 w2 (Nat.le_refl _)).1, (HD.out.2 w2 (Nat.le_refl _)).2.1⟩
  case pos =>
  have hz1 := eqn hz
  have hkk : keep1 l e = l ++ [e] := by unfold keep1; rw [if_pos hz]
  have HKK := Lib.hid hkk
  have HKY : Hid (In64P e.key) := Lib.hid (HKEY.out.resolve_right (fun q => q hz))
  have HK3 : Hid (e.kind = 1 ∨ e.kind = 2 ∨ e.kind = 3) := Lib.hid (right_kind (append_zero hz).1)
  have HZ0 := Lib.hid hz
  clear hkk
  obtain ⟨s0, s1, s2, s3, s4, s5⟩ := HBX2.out.six9
  by_cases hk : e.kind = 1
  case pos =>
    have hk1 := eqn hk
    have hk2 : (e.kind == 2) = false := neb (by omega)
    have HM : Hid (fstF mkE (l ++ [e]) = fstF mkE l ∧ fstF cmE (l ++ [e]) = fstF cmE l) := Lib.hid ⟨by rw [fstF_snoc, if_neg (by simp [mkE, hk])], by rw [fstF_snoc, if_neg (by simp [cmE, hk])]⟩
    clear hk
    go_wp2_with fail
    go_ret
    refine ⟨by rw [HZ0.out]; rfl, ?_, HTW.out⟩
    have h2 := HT2.out
    rw [HKK.out] at h2 ⊢
    exact ⟨HC2.out.1, ⟨HC2.out.2.1, HC2.out.2.2.1, by rw [HM.out.1]; exact HP.out.1.more (by simp), by rw [HM.out.2]; exact HP.out.2.more (by simp)⟩, h2.wide (fun x _ q => (HD.out.2 w2 (Nat.le_refl _)).2.2 x q), HD.out.1, (HD.out.2 w2 (Nat.le_refl _)).1, (HD.out.2 w2 (Nat.le_refl _)).2.1⟩
  case neg =>
  have hk1 := nen hk
  have hadd : ∀ W, Turn (OwnT S m1 m2) w2 W → PM W m1 l.length (fstF mkE l) → Calls Tryd.prog 64 #[.map (some m1), .agg #[.int .i64 e.id, .int .i64 e.num], .int .i64 (l.length : Int)] W fun r w' => r = .returned (.tuple #[]) ∧ PM w' m1 (l.length + 1) (setF (fstF mkE l) e.key l.length) ∧ Turn (fun x => x = m1) W w' := fun W _ hp => add_any hp HKY.out l.length (by have := HLEN.out; unfold maxLen; omega)
  clear s0 s1 s2 s3 s5
  go_upto_region 6 with fail
  clear s4
  refine wp_region_np ?_
  refine wp_region_held_drew (S := fun W => Turn (OwnT S m1 m2) w2 W) (by kernel_rfl) (show Turn (OwnT S m1 m2) w2 w2.drew from (Turn.refl _ _).drew) (fun hHeld => ?_)
  refine wpAnyH_takeAt (i := 0) (d := 21) (v := ?vq6x) rfl rfl (by kernel_rfl) (by kernel_rfl) (by kernel_rfl) (fun _ _ _ h => h) (Or.inl ⟨by rfl, ?hyq6x⟩) hHeld ?_
  case hyq6x =>
    intro W hSw
    clear hSw
    (go_simp; try with_reducible rfl)
  simp only [List.setIfInBounds_toArray, List.set_cons_zero, List.set_cons_succ]
  refine wpAnyH_takeAt (i := 1) (d := 22) (v := ?vq7x) rfl rfl (by kernel_rfl) (by kernel_rfl) (by kernel_rfl) (fun _ _ _ h => h) (Or.inl ⟨by rfl, ?hyq7x⟩) hHeld ?_
  case hyq7x =>
    intro W hSw
    clear hSw
    (go_simp; try with_reducible rfl)
  simp only [List.setIfInBounds_toArray, List.set_cons_zero, List.set_cons_succ]
  refine wpAnyH_takeAt (i := 2) (d := 23) (v := ?vq8x) rfl rfl (by kernel_rfl) (by kernel_rfl) (by kernel_rfl) (fun _ _ _ h => h) (Or.inl ⟨by rfl, ?hyq8x⟩) hHeld ?_
  case hyq8x =>
    intro W hSw
    clear hSw
    (go_simp; try with_reducible rfl)
  simp only [List.setIfInBounds_toArray, List.set_cons_zero, List.set_cons_succ]
  refine wpAnyH_takeAt (i := 3) (d := 24) (v := ?vq9x) rfl rfl (by kernel_rfl) (by kernel_rfl) (by kernel_rfl) (fun _ _ _ h => h) (Or.inl ⟨by rfl, ?hyq9x⟩) hHeld ?_
  case hyq9x =>
    intro W hSw
    have qc := (hSw.cell (p := ⟨b, 1, none⟩) HC2.out.2.2.2 HNB.out).trans HC2.out.2.1; clear hSw
    (go_simp; try with_reducible rfl)
  simp only [List.setIfInBounds_toArray, List.set_cons_zero, List.set_cons_succ]
  refine wpAnyH_takeAt (i := 4) (d := 25) (v := ?vq10x) rfl rfl (by kernel_rfl) (by kernel_rfl) (by kernel_rfl) (fun _ _ _ h => h) (Or.inl ⟨by rfl, ?hyq10x⟩) hHeld ?_
  case hyq10x =>
    intro W hSw
    obtain ⟨s0, s1, s2, s3, s4, s5⟩ := (HBX2.out.keep hSw HSL.out).six9; clear hSw
    (go_simp; try with_reducible rfl)
  simp only [List.setIfInBounds_toArray, List.set_cons_zero, List.set_cons_succ]
  refine wpAnyH_takeAt (i := 6) (d := 27) (v := ?vq11x) rfl rfl (by kernel_rfl) (by kernel_rfl) (by kernel_rfl) (fun _ _ _ h => h) (Or.inl ⟨by rfl, ?hyq11x⟩) hHeld ?_
  case hyq11x =>
    intro W hSw
    clear hSw
    (go_simp; try with_reducible rfl)
  simp only [List.setIfInBounds_toArray, List.set_cons_zero, List.set_cons_succ]
  refine wpAnyH_ready (rs := [5]) (by kernel_rfl) (by simp) (AllReadyH.cons rfl (fun K hK => ?_) AllReadyH.nil)
  go_simp
  refine (hwh w2.drew).mono ?_
  rintro r w3 ⟨rfl, hbw3⟩
  dsimp only
  have hcw3 : Below w2.heap.size w2 w3 := ((Below.refl _ _).drew).trans hbw3
  refine hK.out _ _ (Turn.of_below hcw3 _) (fun hHeld => ?_)
  clear hK K
  try simp only [List.setIfInBounds_toArray, List.set_cons_zero, List.set_cons_succ]
  refine wpAnyH_ready (rs := [7]) (by kernel_rfl) (by simp) (AllReadyH.cons rfl (fun K hK => ?_) AllReadyH.nil)
  go_simp
  refine (hadd w3 (Turn.of_below hcw3 _) (HP.out.1.below hcw3)).mono ?_
  rintro r w4 ⟨rfl, hpw4, htw4⟩
  dsimp only
  have huw4 : Turn (OwnT S m1 m2) w2 w4 := (Turn.of_below hcw3 _).trans htw4 (fun x _ q => .inr (by first | exact .inl q | exact .inr q))
  refine hK.out _ _ huw4 (fun hHeld => ?_)
  clear hK K
  try simp only [List.setIfInBounds_toArray, List.set_cons_zero, List.set_cons_succ]
  refine wpAnyH_done (by kernel_rfl) ?_ _
  have hsm : ∀ x, x < w2.heap.size → x ≠ m1 → w4.heap[x]? = w2.heap[x]? := fun x hx hne => (htw4.block x (Nat.lt_of_lt_of_le hx hcw3.size) hne).trans (hcw3.block x hx)
  have HU4 := Lib.hid huw4
  have HP4 : Hid (PM w4 m1 (l.length + 1) (setF (fstF mkE l) e.key l.length) ∧ PM w4 m2 l.length (fstF cmE l)) := Lib.hid ⟨hpw4, HP.out.2.keepB (hsm m2 HP.out.2.lt (fun q => HD.out.1 q.symm))⟩
  have HT4 : Hid (Tb w4 (More S w1 w2) g (keep1 l e)) := Lib.hid ((HT2.out.below hcw3).keep htw4 (fun x hx q r => by
    subst r
    rcases q with q | q
    · exact HV.out.d.2.1 q
    · have := HOLD.out; have := HBS.out; have := q.1; omega))
  have HC4 : Hid (w4.cell? ⟨b, 0, none⟩ = some (.pointer (some ⟨g, 0, none⟩)) ∧ w4.cell? ⟨b, 1, none⟩ = some (.map (some m1)) ∧ w4.cell? ⟨b, 2, none⟩ = some (.map (some m2)) ∧ b < w4.heap.size) := Lib.hid ⟨(HU4.out.cell (p := ⟨b, 0, none⟩) HC2.out.2.2.2 HNB.out).trans HC2.out.1, (HU4.out.cell (p := ⟨b, 1, none⟩) HC2.out.2.2.2 HNB.out).trans HC2.out.2.1, (HU4.out.cell (p := ⟨b, 2, none⟩) HC2.out.2.2.2 HNB.out).trans HC2.out.2.2.1, Nat.lt_of_lt_of_le HC2.out.2.2.2 HU4.out.size⟩
  have HBX4 := Lib.hid (HBX2.out.keep HU4.out HSL.out)
  have HTW4 : Hid (Turn (OwnT S m1 m2) w w4) := Lib.hid (HTW.out.trans HU4.out (fun _ _ h => h))
  have HM1 : Hid (fstF mkE (l ++ [e]) = setF (fstF mkE l) e.key l.length) := Lib.hid (by rw [fstF_snoc, if_pos (by simp [mkE, hk])])
  obtain ⟨s0, s1, s2, s3, s4, s5⟩ := HBX4.out.six9
  have hadd2 : ∀ W, Turn (OwnT S m1 m2) w4 W → PM W m2 l.length (fstF cmE l) → Calls Tryd.prog 64 #[.map (some m2), .agg #[.int .i64 e.id, .int .i64 e.num], .int .i64 (l.length : Int)] W fun r w' => r = .returned (.tuple #[]) ∧ PM w' m2 (l.length + 1) (setF (fstF cmE l) e.key l.length) ∧ Turn (fun x => x = m2) W w' := fun W _ hp => add_any hp HKY.out l.length (by have := HLEN.out; unfold maxLen; omega)
  clear hsm huw4 hpw4 htw4 hHeld hbw3 hcw3 hadd
  by_cases hk2 : e.kind = 2
  case neg =>
    have hk3 := neb hk2
    have HM2 : Hid (fstF cmE (l ++ [e]) = fstF cmE l) := Lib.hid (by rw [fstF_snoc, if_neg (by simp [cmE, hk2])])
    clear hk2 hk
    go_wp2_with fail
    go_ret
    refine ⟨by rw [HZ0.out]; rfl, ?_, HTW4.out⟩
    have h2 := HT4.out
    rw [HKK.out] at h2 ⊢
    exact ⟨HC4.out.1, ⟨HC4.out.2.1, HC4.out.2.2.1, by rw [HM1.out]; exact HP4.out.1.more (by simp), by rw [HM2.out]; exact HP4.out.2.more (by simp)⟩, h2.wide (fun x _ q => (HD.out.2 w4 HU4.out.size).2.2 x q), HD.out.1, (HD.out.2 w4 HU4.out.size).1, (HD.out.2 w4 HU4.out.size).2.1⟩
  case pos =>
  have hk3 := eqb hk2
  have HM2 : Hid (fstF cmE (l ++ [e]) = setF (fstF cmE l) e.key l.length) := Lib.hid (by rw [fstF_snoc, if_pos (by simp [cmE, hk2])])
  clear hk2 hk s0 s1 s2 s3 s5
  go_upto_region 8 with fail
  clear s4
  refine wp_region_np ?_
  refine wp_region_held_drew (S := fun W => Turn (OwnT S m1 m2) w4 W) (by kernel_rfl) (show Turn (OwnT S m1 m2) w4 w4.drew from (Turn.refl _ _).drew) (fun hHeld => ?_)
  refine wpAnyH_takeAt (i := 0) (d := 32) (v := ?vq12x) rfl rfl (by kernel_rfl) (by kernel_rfl) (by kernel_rfl) (fun _ _ _ h => h) (Or.inl ⟨by rfl, ?hyq12x⟩) hHeld ?_
  case hyq12x =>
    intro W hSw
    clear hSw
    (go_simp; try with_reducible rfl)
  simp only [List.setIfInBounds_toArray, List.set_cons_zero, List.set_cons_succ]
  refine wpAnyH_takeAt (i := 1) (d := 33) (v := ?vq13x) rfl rfl (by kernel_rfl) (by kernel_rfl) (by kernel_rfl) (fun _ _ _ h => h) (Or.inl ⟨by rfl, ?hyq13x⟩) hHeld ?_
  case hyq13x =>
    intro W hSw
    clear hSw
    (go_simp; try with_reducible rfl)
  simp only [List.setIfInBounds_toArray, List.set_cons_zero, List.set_cons_succ]
  refine wpAnyH_takeAt (i := 2) (d := 34) (v := ?vq14x) rfl rfl (by kernel_rfl) (by kernel_rfl) (by kernel_rfl) (fun _ _ _ h => h) (Or.inl ⟨by rfl, ?hyq14x⟩) hHeld ?_
  case hyq14x =>
    intro W hSw
    clear hSw
    (go_simp; try with_reducible rfl)
  simp only [List.setIfInBounds_toArray, List.set_cons_zero, List.set_cons_succ]
  refine wpAnyH_takeAt (i := 3) (d := 35) (v := ?vq15x) rfl rfl (by kernel_rfl) (by kernel_rfl) (by kernel_rfl) (fun _ _ _ h => h) (Or.inl ⟨by rfl, ?hyq15x⟩) hHeld ?_
  case hyq15x =>
    intro W hSw
    have qc := (hSw.cell (p := ⟨b, 2, none⟩) HC4.out.2.2.2 HNB.out).trans HC4.out.2.2.1; clear hSw
    (go_simp; try with_reducible rfl)
  simp only [List.setIfInBounds_toArray, List.set_cons_zero, List.set_cons_succ]
  refine wpAnyH_takeAt (i := 4) (d := 36) (v := ?vq16x) rfl rfl (by kernel_rfl) (by kernel_rfl) (by kernel_rfl) (fun _ _ _ h => h) (Or.inl ⟨by rfl, ?hyq16x⟩) hHeld ?_
  case hyq16x =>
    intro W hSw
    obtain ⟨s0, s1, s2, s3, s4, s5⟩ := (HBX4.out.keep hSw HSL.out).six9; clear hSw
    (go_simp; try with_reducible rfl)
  simp only [List.setIfInBounds_toArray, List.set_cons_zero, List.set_cons_succ]
  refine wpAnyH_takeAt (i := 6) (d := 38) (v := ?vq17x) rfl rfl (by kernel_rfl) (by kernel_rfl) (by kernel_rfl) (fun _ _ _ h => h) (Or.inl ⟨by rfl, ?hyq17x⟩) hHeld ?_
  case hyq17x =>
    intro W hSw
    clear hSw
    (go_simp; try with_reducible rfl)
  simp only [List.setIfInBounds_toArray, List.set_cons_zero, List.set_cons_succ]
  refine wpAnyH_ready (rs := [5]) (by kernel_rfl) (by simp) (AllReadyH.cons rfl (fun K hK => ?_) AllReadyH.nil)
  go_simp
  refine (hwh w4.drew).mono ?_
  rintro r w5 ⟨rfl, hbw5⟩
  dsimp only
  have hcw5 : Below w4.heap.size w4 w5 := ((Below.refl _ _).drew).trans hbw5
  refine hK.out _ _ (Turn.of_below hcw5 _) (fun hHeld => ?_)
  clear hK K
  try simp only [List.setIfInBounds_toArray, List.set_cons_zero, List.set_cons_succ]
  refine wpAnyH_ready (rs := [7]) (by kernel_rfl) (by simp) (AllReadyH.cons rfl (fun K hK => ?_) AllReadyH.nil)
  go_simp
  refine (hadd2 w5 (Turn.of_below hcw5 _) (HP4.out.2.below hcw5)).mono ?_
  rintro r w6 ⟨rfl, hpw6, htw6⟩
  dsimp only
  have huw6 : Turn (OwnT S m1 m2) w4 w6 := (Turn.of_below hcw5 _).trans htw6 (fun x _ q => .inr (by first | exact .inl q | exact .inr q))
  refine hK.out _ _ huw6 (fun hHeld => ?_)
  clear hK K
  try simp only [List.setIfInBounds_toArray, List.set_cons_zero, List.set_cons_succ]
  refine wpAnyH_done (by kernel_rfl) ?_ _
  have hsm : ∀ x, x < w4.heap.size → x ≠ m2 → w6.heap[x]? = w4.heap[x]? := fun x hx hne => (htw6.block x (Nat.lt_of_lt_of_le hx hcw5.size) hne).trans (hcw5.block x hx)
  have HU6 := Lib.hid huw6
  have HP6 : Hid (PM w6 m1 (l.length + 1) (setF (fstF mkE l) e.key l.length) ∧ PM w6 m2 (l.length + 1) (setF (fstF cmE l) e.key l.length)) := Lib.hid ⟨HP4.out.1.keepB (hsm m1 HP4.out.1.lt HD.out.1), hpw6⟩
  have HT6 : Hid (Tb w6 (More S w1 w2) g (keep1 l e)) := Lib.hid ((HT4.out.below hcw5).keep htw6 (fun x hx q r => by
    subst r
    rcases q with q | q
    · exact HV.out.d.2.2 q
    · have := HOLD.out; have := HBS.out; have := q.1; omega))
  have HC6 : Hid (w6.cell? ⟨b, 0, none⟩ = some (.pointer (some ⟨g, 0, none⟩)) ∧ w6.cell? ⟨b, 1, none⟩ = some (.map (some m1)) ∧ w6.cell? ⟨b, 2, none⟩ = some (.map (some m2)) ∧ b < w6.heap.size) := Lib.hid ⟨(HU6.out.cell (p := ⟨b, 0, none⟩) HC4.out.2.2.2 HNB.out).trans HC4.out.1, (HU6.out.cell (p := ⟨b, 1, none⟩) HC4.out.2.2.2 HNB.out).trans HC4.out.2.1, (HU6.out.cell (p := ⟨b, 2, none⟩) HC4.out.2.2.2 HNB.out).trans HC4.out.2.2.1, Nat.lt_of_lt_of_le HC4.out.2.2.2 HU6.out.size⟩
  have HTW6 : Hid (Turn (OwnT S m1 m2) w w6) := Lib.hid (HTW4.out.trans HU6.out (fun _ _ h => h))
  have HSS : Hid (w2.heap.size ≤ w6.heap.size) := Lib.hid (Nat.le_trans HU4.out.size HU6.out.size)
  clear hsm huw6 hpw6 htw6 hHeld hbw5 hcw5 hadd2
  go_wp2_with fail
  go_ret
  refine ⟨by rw [HZ0.out]; rfl, ?_, HTW6.out⟩
  have h2 := HT6.out
  rw [HKK.out] at h2 ⊢
  exact ⟨HC6.out.1, ⟨HC6.out.2.1, HC6.out.2.2.1, by rw [HM1.out]; exact HP6.out.1.more (by simp), by rw [HM2.out]; exact HP6.out.2.more (by simp)⟩, h2.wide (fun x _ q => (HD.out.2 w6 HSS.out).2.2 x q), HD.out.1, (HD.out.2 w6 HSS.out).1, (HD.out.2 w6 HSS.out).2.1⟩
end
end Go.Proofs.YthcphoijanebhaaDoor
