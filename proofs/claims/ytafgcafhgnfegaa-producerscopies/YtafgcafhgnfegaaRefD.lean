/-
  The document's Check. Conditions: at most 4096 entries, all of which may be.
-/
import Derived.Test.YtafgcafhgnfegaaRefC
namespace Go.Proofs.Ytafgcafhgnfegaa
open Go.RowKit Go.Maps
set_option linter.unusedVariables false
section
variable {w w' : World} {X Y : Nat → Prop} {A B : Option Addr} {n c d : Nat} {l : List Ent} {e : Ent} {o : List (Int × Nat)}
theorem check_err (h : appendE l e ≠ 0) : checkE l e = appendE l e := by rw [checkE_eq, if_neg h]
theorem check_nobody (h : appendE l e = 0) (hid : e.id = -1) : checkE l e = 0 := by
  rw [checkE_eq, if_pos h]
  unfold byW
  rw [if_pos hid]; rfl
theorem check_mark (h : appendE l e = 0) (hid : e.id ≠ -1) (hk : e.kind ≠ 1) : checkE l e = if e.num ≤ (wr e.id l).marked then 183 else if e.num < (wr e.id l).high ∨ other (wr e.id l).opens e.num = true then 181 else 0 := by
  rw [checkE_eq, if_pos h]
  unfold byW
  rw [if_neg hid, if_neg hk]
  unfold first first first
  simp only [why, if_true, if_false, Nat.reduceEqDiff]
  unfold doubleM elderM
  by_cases h1 : e.num ≤ (wr e.id l).marked
  · simp [h1]
  · by_cases h2 : e.num < (wr e.id l).high ∨ other (wr e.id l).opens e.num = true
    · simp [h1, h2]
    · simp [h1, h2]
theorem check_data (h : appendE l e = 0) (hid : e.id ≠ -1) (hk : e.kind = 1) : checkE l e = if e.num ≤ (wr e.id l).marked ∨ e.num < (wr e.id l).high then 181 else if other (wr e.id l).opens e.num = true then 182 else
    if e.num = (wr e.id l).high ∧ e.seq < (wr e.id l).next then 183 else if e.seq = nextOf (wr e.id l) e.num then 0 else 184 := by
  rw [checkE_eq, if_pos h]
  unfold byW
  rw [if_neg hid, if_pos hk]
  unfold first first first first first
  simp only [why, if_true, if_false, Nat.reduceEqDiff]
  unfold elderD besideO doubleD notNext
  by_cases h1 : e.num ≤ (wr e.id l).marked ∨ e.num < (wr e.id l).high
  · simp [h1]
  · by_cases h2 : other (wr e.id l).opens e.num = true
    · simp [h1, h2]
    · by_cases h3 : e.num = (wr e.id l).high ∧ e.seq < (wr e.id l).next
      · rw [if_neg h1, if_neg h1, if_neg h2, if_neg h2, if_pos h3, if_pos h3]; simp
      · by_cases h4 : e.seq = nextOf (wr e.id l) e.num
        · simp [h1, h2, h4]
        · simp [h1, h2, h3, h4]
set_option maxRecDepth 100000 in
set_option maxHeartbeats 8000000 in
theorem refCheck_any (h : Rd w X 6 A n (cellsOf l)) (hn : n ≤ 4096) (hr : AllR l) (e : Ent) : Calls Try.prog 28 #[.slice A n c, e.val] w fun r w' => r = .returned (.int .i64 (checkE l e)) ∧ Below w.heap.size w w' := by
  have hlen := h.lenE
  have hb1 := (Below.refl w.heap.size w).alloc (Nat.le_refl _) (.cells e.cells 26)
  have hB1 := Blk.new w 26 e.cells
  have HLEN := Lib.hid hlen
  have HH := Lib.hid h
  have HR := Lib.hid hr
  have HB1 := Lib.hid (And.intro hB1 hb1)
  by_cases hz : appendE l e = 0
  case neg =>
    have hcall := refAppend_err (c := c) (h.below hb1) (by omega) hz
    have HC := Lib.hid (check_err hz)
    have hzb := nen hz
    have HZ := Lib.hid hz
    generalize hv : appendE l e = v at *
    have HV := Lib.hid hv
    clear h hr hb1 hB1 hlen hz hv
    unfold Ent.val at *
    unfold Ent.cells at *
    go_enter Try.func28, Try.ntmps28
    go_wp2_with fail
    refine hcall.mono ?_
    rintro r w2 ⟨hb2, hr2⟩
    rcases hr2 with ⟨-, rfl⟩ | ⟨h0, -⟩
    · rw [HV.out]
      have HB2 := Lib.hid (HB1.out.2.trans (hb2.mono HB1.out.2.size))
      clear hb2 hcall
      go_wp2_with fail
      go_ret
      exact ⟨ret_i64 HC.out.symm, HB2.out⟩
    · exact absurd (HV.out ▸ h0) HZ.out
  case pos =>
  have hcall := refAppend_ok (c := c) (h.below hb1) hz
  have HZ := Lib.hid hz
  have hri := (append_zero hz).1
  have HRI := Lib.hid hri
  clear h hr hb1 hB1 hlen hz hri
  unfold Ent.val at *
  unfold Ent.cells at *
  by_cases hid : e.id = -1
  case pos =>
    have HC := Lib.hid (check_nobody HZ.out hid)
    have hd : decide (e.id < 0) = true := decide_eq_true (by omega)
    clear hid
    go_enter Try.func28, Try.ntmps28
    go_wp2_with fail
    refine hcall.mono ?_
    rintro r w2 ⟨hb2, hr2⟩
    rcases hr2 with ⟨h0, -⟩ | ⟨-, A', c', rfl, -, -⟩
    · exact absurd HZ.out h0
    have HB2 := Lib.hid (HB1.out.2.trans (hb2.mono HB1.out.2.size))
    obtain ⟨s0, s1, s2, s3, s4, s5⟩ := (HB1.out.1.below hb2 HB1.out.1.lt).six'
    clear hb2 hcall
    go_wp2_with fail
    go_ret
    exact ⟨ret_i64 HC.out.symm, HB2.out⟩
  case neg =>
  have hd : decide (e.id < 0) = false := decide_eq_false (by have := HRI.out; unfold Right at this; omega)
  have hsq : 0 ≤ e.seq := by have := HRI.out; unfold Right at this; omega
  have HID := Lib.hid hid
  clear hid
  go_enter Try.func28, Try.ntmps28
  go_wp2_with fail
  refine hcall.mono ?_
  rintro r w2 ⟨hb2, hr2⟩
  rcases hr2 with ⟨h0, -⟩ | ⟨-, A', c', rfl, -, -⟩
  · exact absurd HZ.out h0
  have HB2 := Lib.hid (HB1.out.2.trans (hb2.mono HB1.out.2.size))
  have hB2 := HB1.out.1.below hb2 HB1.out.1.lt
  obtain ⟨s0, s1, s2, s3, s4, s5⟩ := hB2.six'
  have HBB2 := Lib.hid hB2
  have hcall2 := refWriter_any (c := c) (HH.out.below HB2.out) (by omega) HR.out e.id
  clear hb2 hcall hB2
  go_wp2_with fail
  refine hcall2.mono ?_
  rintro r w3 ⟨A3, c3, rfl, hO, hv, hb3⟩
  have HB3 := Lib.hid (HB2.out.trans (hb3.mono HB2.out.size))
  have hB3 := (HBB2.out.below hb3 HBB2.out.lt).alloc (.cells #[.int .i64 (wr e.id l).high, .int .i64 (wr e.id l).next, .int .i64 (wr e.id l).marked, .slice A3 (wr e.id l).opens.length c3] 41)
  have hW3 := Blk.new w3 41 #[.int .i64 (wr e.id l).high, .int .i64 (wr e.id l).next, .int .i64 (wr e.id l).marked, .slice A3 (wr e.id l).opens.length c3]
  have HB4 := Lib.hid (HB3.out.alloc HB3.out.size (.cells #[.int .i64 (wr e.id l).high, .int .i64 (wr e.id l).next, .int .i64 (wr e.id l).marked, .slice A3 (wr e.id l).opens.length c3] 41))
  have hol : (wr e.id l).opens.length ≤ 5000 := by have := (wr_lens e.id l).1; have := HLEN.out; omega
  have hR4 := (hO.rd (X := No) (fun _ _ h => h)).alloc (.cells #[.int .i64 (wr e.id l).high, .int .i64 (wr e.id l).next, .int .i64 (wr e.id l).marked, .slice A3 (wr e.id l).opens.length c3] 41)
  have hoth := refOther_any (c := c3) (wr e.id l).high (wr e.id l).next (wr e.id l).marked e.num hR4 hol
  have HCM := Lib.hid (fun hk => check_mark HZ.out HID.out hk)
  have HCD := Lib.hid (fun hk => check_data HZ.out HID.out hk)
  clear s0 s1 s2 s3 s4 s5 hO hv hb3 hcall2 hR4
  obtain ⟨s0, s1, s2, s3, s4, s5⟩ := hB3.six'
  generalize wr e.id l = x at *
  have v0 : (w3.alloc (.cells #[.int .i64 x.high, .int .i64 x.next, .int .i64 x.marked, .slice A3 x.opens.length c3] 41)).cell? ⟨w3.heap.size, 0, none⟩ = some (.int .i64 x.high) := hW3.cell 0
  have v1 : (w3.alloc (.cells #[.int .i64 x.high, .int .i64 x.next, .int .i64 x.marked, .slice A3 x.opens.length c3] 41)).cell? ⟨w3.heap.size, 1, none⟩ = some (.int .i64 x.next) := hW3.cell 1
  have v2 : (w3.alloc (.cells #[.int .i64 x.high, .int .i64 x.next, .int .i64 x.marked, .slice A3 x.opens.length c3] 41)).cell? ⟨w3.heap.size, 2, none⟩ = some (.int .i64 x.marked) := hW3.cell 2
  have v3 : (w3.alloc (.cells #[.int .i64 x.high, .int .i64 x.next, .int .i64 x.marked, .slice A3 x.opens.length c3] 41)).cell? ⟨w3.heap.size, 3, none⟩ = some (.slice A3 x.opens.length c3) := hW3.cell 3
  have HW3 := Lib.hid hW3
  have HB3b := Lib.hid hB3
  clear hW3 hB3
  have hk3 : e.kind = 1 ∨ 1 < e.kind := by have := HRI.out; unfold Right at this; omega
  go_upto_region 5 with fail
  generalize hw4 : w3.alloc (.cells #[.int .i64 x.high, .int .i64 x.next, .int .i64 x.marked, .slice A3 x.opens.length c3] 41) = w4 at *
  generalize hz3 : w3.heap.size = z3 at *
  clear hw4 hz3
  rcases hk3 with hk | hk
  · have hkd : decide (1 < e.kind) = false := decide_eq_false (by omega)
    have HCD := Lib.hid (HCD.out hk)
    have hk3 : True := trivial
    by_cases h1 : e.num ≤ x.marked
    · have d1 : decide (e.num ≤ x.marked) = true := decide_eq_true h1
      have HV : Hid (checkE l e = 181) := Lib.hid (by rw [HCD.out, if_pos (.inl h1)])
      clear hk3 hk
      clear hoth
      go_wp2_with fail
      go_ret
      exact ⟨ret_i64 HV.out.symm, HB4.out⟩
    have d1 : decide (e.num ≤ x.marked) = false := decide_eq_false h1
    by_cases h2 : e.num < x.high
    · have d2 : decide (e.num < x.high) = true := decide_eq_true h2
      have HV : Hid (checkE l e = 181) := Lib.hid (by rw [HCD.out, if_pos (.inr h2)])
      clear hk3 hk
      clear hoth
      go_wp2_with fail
      go_ret
      exact ⟨ret_i64 HV.out.symm, HB4.out⟩
    have d2 : decide (e.num < x.high) = false := decide_eq_false h2
    have h12 : ¬ (e.num ≤ x.marked ∨ e.num < x.high) := by omega
    by_cases h3 : other x.opens e.num = true
    · have HV : Hid (checkE l e = 182) := Lib.hid (by rw [HCD.out, if_neg h12, if_pos h3])
      rw [h3] at hoth
      clear hk3 hk h3
      go_wp2_with fail
      refine hoth.mono ?_
      rintro r w5 ⟨rfl, hb5⟩
      obtain ⟨s0', s1', s2', s3', s4', s5'⟩ := (HB3b.out.below hb5 HB3b.out.lt).six'
      have v0' : w5.cell? ⟨z3, 0, none⟩ = some (.int .i64 x.high) := (HW3.out.below hb5 HW3.out.lt).cell 0
      have v1' : w5.cell? ⟨z3, 1, none⟩ = some (.int .i64 x.next) := (HW3.out.below hb5 HW3.out.lt).cell 1
      have v2' : w5.cell? ⟨z3, 2, none⟩ = some (.int .i64 x.marked) := (HW3.out.below hb5 HW3.out.lt).cell 2
      have HB5 := Lib.hid (HB4.out.trans (hb5.mono HB4.out.size))
      clear hb5 hoth s0 s1 s2 s3 s4 s5 v0 v1 v2 v3
      go_wp2_with fail
      go_ret
      exact ⟨ret_i64 HV.out.symm, HB5.out⟩
    have h3' : other x.opens e.num = false := by simpa using h3
    by_cases h4 : e.num = x.high
    · have d4 := eqb h4
      by_cases h5 : e.seq < x.next
      · have d5 : decide (e.seq < x.next) = true := decide_eq_true h5
        have HV : Hid (checkE l e = 183) := Lib.hid (by rw [HCD.out, if_neg h12, if_neg h3, if_pos ⟨h4, h5⟩])
        rw [h3'] at hoth
        clear hk3 hk h4 h3 h3'
        go_wp2_with fail
        refine hoth.mono ?_
        rintro r w5 ⟨rfl, hb5⟩
        obtain ⟨s0', s1', s2', s3', s4', s5'⟩ := (HB3b.out.below hb5 HB3b.out.lt).six'
        have v0' : w5.cell? ⟨z3, 0, none⟩ = some (.int .i64 x.high) := (HW3.out.below hb5 HW3.out.lt).cell 0
        have v1' : w5.cell? ⟨z3, 1, none⟩ = some (.int .i64 x.next) := (HW3.out.below hb5 HW3.out.lt).cell 1
        have v2' : w5.cell? ⟨z3, 2, none⟩ = some (.int .i64 x.marked) := (HW3.out.below hb5 HW3.out.lt).cell 2
        have HB5 := Lib.hid (HB4.out.trans (hb5.mono HB4.out.size))
        clear hb5 hoth s0 s1 s2 s3 s4 s5 v0 v1 v2 v3
        go_wp2_with fail
        go_ret
        exact ⟨ret_i64 HV.out.symm, HB5.out⟩
      have d5 : decide (e.seq < x.next) = false := decide_eq_false h5
      have hno : nextOf x e.num = x.next := by unfold nextOf; rw [if_neg (by omega)]
      by_cases h6 : e.seq = x.next
      · have d6 : decide (x.next < e.seq) = false := decide_eq_false (by omega)
        have HV : Hid (checkE l e = 0) := Lib.hid (by rw [HCD.out, if_neg h12, if_neg h3, if_neg (fun q => h5 q.2), hno, if_pos h6])
        rw [h3'] at hoth
        clear hk3 hk h4 h3 h6 hno h3'
        go_wp2_with fail
        refine hoth.mono ?_
        rintro r w5 ⟨rfl, hb5⟩
        obtain ⟨s0', s1', s2', s3', s4', s5'⟩ := (HB3b.out.below hb5 HB3b.out.lt).six'
        have v0' : w5.cell? ⟨z3, 0, none⟩ = some (.int .i64 x.high) := (HW3.out.below hb5 HW3.out.lt).cell 0
        have v1' : w5.cell? ⟨z3, 1, none⟩ = some (.int .i64 x.next) := (HW3.out.below hb5 HW3.out.lt).cell 1
        have v2' : w5.cell? ⟨z3, 2, none⟩ = some (.int .i64 x.marked) := (HW3.out.below hb5 HW3.out.lt).cell 2
        have HB5 := Lib.hid (HB4.out.trans (hb5.mono HB4.out.size))
        clear hb5 hoth s0 s1 s2 s3 s4 s5 v0 v1 v2 v3
        go_wp2_with fail
        go_ret
        exact ⟨ret_i64 HV.out.symm, HB5.out⟩
      have d6 : decide (x.next < e.seq) = true := decide_eq_true (by omega)
      have HV : Hid (checkE l e = 184) := Lib.hid (by rw [HCD.out, if_neg h12, if_neg h3, if_neg (fun q => h5 q.2), hno, if_neg h6])
      rw [h3'] at hoth
      clear hk3 hk h4 h3 h6 hno h3'
      go_wp2_with fail
      refine hoth.mono ?_
      rintro r w5 ⟨rfl, hb5⟩
      obtain ⟨s0', s1', s2', s3', s4', s5'⟩ := (HB3b.out.below hb5 HB3b.out.lt).six'
      have v0' : w5.cell? ⟨z3, 0, none⟩ = some (.int .i64 x.high) := (HW3.out.below hb5 HW3.out.lt).cell 0
      have v1' : w5.cell? ⟨z3, 1, none⟩ = some (.int .i64 x.next) := (HW3.out.below hb5 HW3.out.lt).cell 1
      have v2' : w5.cell? ⟨z3, 2, none⟩ = some (.int .i64 x.marked) := (HW3.out.below hb5 HW3.out.lt).cell 2
      have HB5 := Lib.hid (HB4.out.trans (hb5.mono HB4.out.size))
      clear hb5 hoth s0 s1 s2 s3 s4 s5 v0 v1 v2 v3
      go_wp2_with fail
      go_ret
      exact ⟨ret_i64 HV.out.symm, HB5.out⟩
    have d4 := neb h4
    have hno : nextOf x e.num = 0 := by unfold nextOf; rw [if_pos (by omega)]
    have d5 : decide (e.seq < 0) = false := decide_eq_false (by omega)
    by_cases h6 : e.seq = 0
    · have d6 : decide (0 < e.seq) = false := decide_eq_false (by omega)
      have HV : Hid (checkE l e = 0) := Lib.hid (by rw [HCD.out, if_neg h12, if_neg h3, if_neg (fun q => h4 q.1), hno, if_pos h6])
      rw [h3'] at hoth
      clear hk3 hk h4 h3 h6 hno h3'
      go_wp2_with fail
      refine hoth.mono ?_
      rintro r w5 ⟨rfl, hb5⟩
      obtain ⟨s0', s1', s2', s3', s4', s5'⟩ := (HB3b.out.below hb5 HB3b.out.lt).six'
      have v0' : w5.cell? ⟨z3, 0, none⟩ = some (.int .i64 x.high) := (HW3.out.below hb5 HW3.out.lt).cell 0
      have v1' : w5.cell? ⟨z3, 1, none⟩ = some (.int .i64 x.next) := (HW3.out.below hb5 HW3.out.lt).cell 1
      have v2' : w5.cell? ⟨z3, 2, none⟩ = some (.int .i64 x.marked) := (HW3.out.below hb5 HW3.out.lt).cell 2
      have HB5 := Lib.hid (HB4.out.trans (hb5.mono HB4.out.size))
      clear hb5 hoth s0 s1 s2 s3 s4 s5 v0 v1 v2 v3
      go_wp2_with fail
      go_ret
      exact ⟨ret_i64 HV.out.symm, HB5.out⟩
    have d6 : decide (0 < e.seq) = true := decide_eq_true (by omega)
    have HV : Hid (checkE l e = 184) := Lib.hid (by rw [HCD.out, if_neg h12, if_neg h3, if_neg (fun q => h4 q.1), hno, if_neg h6])
    rw [h3'] at hoth
    clear hk3 hk h4 h3 h6 hno h3'
    go_wp2_with fail
    refine hoth.mono ?_
    rintro r w5 ⟨rfl, hb5⟩
    obtain ⟨s0', s1', s2', s3', s4', s5'⟩ := (HB3b.out.below hb5 HB3b.out.lt).six'
    have v0' : w5.cell? ⟨z3, 0, none⟩ = some (.int .i64 x.high) := (HW3.out.below hb5 HW3.out.lt).cell 0
    have v1' : w5.cell? ⟨z3, 1, none⟩ = some (.int .i64 x.next) := (HW3.out.below hb5 HW3.out.lt).cell 1
    have v2' : w5.cell? ⟨z3, 2, none⟩ = some (.int .i64 x.marked) := (HW3.out.below hb5 HW3.out.lt).cell 2
    have HB5 := Lib.hid (HB4.out.trans (hb5.mono HB4.out.size))
    clear hb5 hoth s0 s1 s2 s3 s4 s5 v0 v1 v2 v3
    go_wp2_with fail
    go_ret
    exact ⟨ret_i64 HV.out.symm, HB5.out⟩
  · have hkd : decide (1 < e.kind) = true := decide_eq_true (by omega)
    have HCM := Lib.hid (HCM.out (by omega))
    have hk3 : True := trivial
    by_cases h1 : e.num ≤ x.marked
    · have d1 : decide (e.num ≤ x.marked) = true := decide_eq_true h1
      have HV : Hid (checkE l e = 183) := Lib.hid (by rw [HCM.out, if_pos h1])
      clear hk3 hk
      clear hoth
      go_wp2_with fail
      go_ret
      exact ⟨ret_i64 HV.out.symm, HB4.out⟩
    have d1 : decide (e.num ≤ x.marked) = false := decide_eq_false h1
    by_cases h2 : e.num < x.high
    · have d2 : decide (e.num < x.high) = true := decide_eq_true h2
      have HV : Hid (checkE l e = 181) := Lib.hid (by rw [HCM.out, if_neg h1, if_pos (.inl h2)])
      clear hk3 hk
      clear hoth
      go_wp2_with fail
      go_ret
      exact ⟨ret_i64 HV.out.symm, HB4.out⟩
    have d2 : decide (e.num < x.high) = false := decide_eq_false h2
    by_cases h3 : other x.opens e.num = true
    · have HV : Hid (checkE l e = 181) := Lib.hid (by rw [HCM.out, if_neg h1, if_pos (.inr h3)])
      rw [h3] at hoth
      clear hk3 hk h3
      go_wp2_with fail
      refine hoth.mono ?_
      rintro r w5 ⟨rfl, hb5⟩
      obtain ⟨s0', s1', s2', s3', s4', s5'⟩ := (HB3b.out.below hb5 HB3b.out.lt).six'
      have v0' : w5.cell? ⟨z3, 0, none⟩ = some (.int .i64 x.high) := (HW3.out.below hb5 HW3.out.lt).cell 0
      have v1' : w5.cell? ⟨z3, 1, none⟩ = some (.int .i64 x.next) := (HW3.out.below hb5 HW3.out.lt).cell 1
      have v2' : w5.cell? ⟨z3, 2, none⟩ = some (.int .i64 x.marked) := (HW3.out.below hb5 HW3.out.lt).cell 2
      have HB5 := Lib.hid (HB4.out.trans (hb5.mono HB4.out.size))
      clear hb5 hoth s0 s1 s2 s3 s4 s5 v0 v1 v2 v3
      go_wp2_with fail
      go_ret
      exact ⟨ret_i64 HV.out.symm, HB5.out⟩
    have h3' : other x.opens e.num = false := by simpa using h3
    have HV : Hid (checkE l e = 0) := Lib.hid (by rw [HCM.out, if_neg h1, if_neg (fun q => q.elim h2 h3)])
    rw [h3'] at hoth
    clear hk3 hk h3 h3'
    go_wp2_with fail
    refine hoth.mono ?_
    rintro r w5 ⟨rfl, hb5⟩
    obtain ⟨s0', s1', s2', s3', s4', s5'⟩ := (HB3b.out.below hb5 HB3b.out.lt).six'
    have v0' : w5.cell? ⟨z3, 0, none⟩ = some (.int .i64 x.high) := (HW3.out.below hb5 HW3.out.lt).cell 0
    have v1' : w5.cell? ⟨z3, 1, none⟩ = some (.int .i64 x.next) := (HW3.out.below hb5 HW3.out.lt).cell 1
    have v2' : w5.cell? ⟨z3, 2, none⟩ = some (.int .i64 x.marked) := (HW3.out.below hb5 HW3.out.lt).cell 2
    have HB5 := Lib.hid (HB4.out.trans (hb5.mono HB4.out.size))
    clear hb5 hoth s0 s1 s2 s3 s4 s5 v0 v1 v2 v3
    go_wp2_with fail
    go_ret
    exact ⟨ret_i64 HV.out.symm, HB5.out⟩
end
end Go.Proofs.Ytafgcafhgnfegaa
