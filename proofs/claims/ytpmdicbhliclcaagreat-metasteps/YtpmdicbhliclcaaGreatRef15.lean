/-
  The document: Right, and what is the same. Conditions: a controller as it is between two calls.
-/
import Derived.Test.YtpmdicbhliclcaaGreatRef16
namespace Go.Proofs.YtpmdicbhliclcaaGreat
open Go.RowKit Go.Maps
set_option linter.unusedVariables false
set_option linter.unusedSimpArgs false
section
variable {w : World} {X Y : Nat → Prop}
set_option maxRecDepth 100000 in
set_option maxHeartbeats 4000000 in
theorem right15_any (w : World) (a b c : Int) : Calls Tryz.prog 15 #[frm a b c] w fun r w' => r = .returned (.bool (decide (FormOk a b c))) ∧ Below w.heap.size w w' := by
  have HB := Lib.hid ((Below.refl w.heap.size w).alloc (Nat.le_refl _) (.cells #[.int .i64 a, .int .i64 b, .int .i64 c] 23))
  unfold frm
  by_cases h0 : 1 ≤ a
  case neg =>
    have d0 : decide (1 ≤ a) = false := decide_eq_false h0
    have HF : Hid (decide (FormOk a b c) = false) := Lib.hid (decide_eq_false fun q => h0 (by have := q.1; have := q.2.1; have := q.2.2; omega))
    clear h0
    go_enter Tryz.func15, Tryz.ntmps15
    go_wp2_with fail
    go_ret
    exact ⟨by rw [HF.out]; rfl, HB.out⟩
  case pos =>
  have d0 : decide (1 ≤ a) = true := decide_eq_true h0
  by_cases h1 : a ≤ 4
  case neg =>
    have d1 : decide (a ≤ 4) = false := decide_eq_false h1
    have HF : Hid (decide (FormOk a b c) = false) := Lib.hid (decide_eq_false fun q => h1 (by have := q.1; have := q.2.1; have := q.2.2; omega))
    clear h0 h1
    go_enter Tryz.func15, Tryz.ntmps15
    go_wp2_with fail
    go_ret
    exact ⟨by rw [HF.out]; rfl, HB.out⟩
  case pos =>
  have d1 : decide (a ≤ 4) = true := decide_eq_true h1
  by_cases h2 : 1 ≤ b
  case neg =>
    have d2 : decide (1 ≤ b) = false := decide_eq_false h2
    have HF : Hid (decide (FormOk a b c) = false) := Lib.hid (decide_eq_false fun q => h2 (by have := q.1; have := q.2.1; have := q.2.2; omega))
    clear h0 h1 h2
    go_enter Tryz.func15, Tryz.ntmps15
    go_wp2_with fail
    go_ret
    exact ⟨by rw [HF.out]; rfl, HB.out⟩
  case pos =>
  have d2 : decide (1 ≤ b) = true := decide_eq_true h2
  by_cases h3 : b ≤ 4
  case neg =>
    have d3 : decide (b ≤ 4) = false := decide_eq_false h3
    have HF : Hid (decide (FormOk a b c) = false) := Lib.hid (decide_eq_false fun q => h3 (by have := q.1; have := q.2.1; have := q.2.2; omega))
    clear h0 h1 h2 h3
    go_enter Tryz.func15, Tryz.ntmps15
    go_wp2_with fail
    go_ret
    exact ⟨by rw [HF.out]; rfl, HB.out⟩
  case pos =>
  have d3 : decide (b ≤ 4) = true := decide_eq_true h3
  by_cases h4 : 1 ≤ c
  case neg =>
    have d4 : decide (1 ≤ c) = false := decide_eq_false h4
    have HF : Hid (decide (FormOk a b c) = false) := Lib.hid (decide_eq_false fun q => h4 (by have := q.1; have := q.2.1; have := q.2.2; omega))
    clear h0 h1 h2 h3 h4
    go_enter Tryz.func15, Tryz.ntmps15
    go_wp2_with fail
    go_ret
    exact ⟨by rw [HF.out]; rfl, HB.out⟩
  case pos =>
  have d4 : decide (1 ≤ c) = true := decide_eq_true h4
  by_cases h5 : c ≤ 4
  case neg =>
    have d5 : decide (c ≤ 4) = false := decide_eq_false h5
    have HF : Hid (decide (FormOk a b c) = false) := Lib.hid (decide_eq_false fun q => h5 (by have := q.1; have := q.2.1; have := q.2.2; omega))
    clear h0 h1 h2 h3 h4 h5
    go_enter Tryz.func15, Tryz.ntmps15
    go_wp2_with fail
    go_ret
    exact ⟨by rw [HF.out]; rfl, HB.out⟩
  case pos =>
  have d5 : decide (c ≤ 4) = true := decide_eq_true h5
  have HF : Hid (decide (FormOk a b c) = true) := Lib.hid (decide_eq_true ⟨⟨h0, h1⟩, ⟨h2, h3⟩, h4, h5⟩)
  clear h0 h1 h2 h3 h4 h5
  go_enter Tryz.func15, Tryz.ntmps15
  go_wp2_with fail
  go_ret
  exact ⟨by rw [HF.out]; rfl, HB.out⟩
set_option maxRecDepth 100000 in
set_option maxHeartbeats 4000000 in
theorem sameView_any {V U : Vw} {s1 s2 : Value} (h1 : IsR w X s1 V.isr) (h2 : IsR w Y s2 U.isr) (hv : V.isr.length ≤ 1000000) (hu : U.isr.length ≤ 1000000) : Calls Tryz.prog 37 #[.agg (vArr V s1), .agg (vArr U s2)] w fun r w' => r = .returned (.bool (decide (V.leader = U.leader ∧ V.epoch = U.epoch ∧ V.version = U.version ∧ V.isr = U.isr))) ∧ Below w.heap.size w w' := by
  obtain ⟨A, k1, rfl, hr1⟩ := h1
  obtain ⟨B, k2, rfl, hr2⟩ := h2
  have hal := ((Below.refl w.heap.size w).alloc (Nat.le_refl _) (.cells #[.int .i64 V.leader, .int .i64 V.epoch, .int .i64 V.version, .slice A V.isr.length k1] 47)).alloc (le_alloc (Nat.le_refl _) _) (.cells #[.int .i64 U.leader, .int .i64 U.epoch, .int .i64 U.version, .slice B U.isr.length k2] 47)
  have hb0 : Blk ((w.alloc (.cells #[.int .i64 V.leader, .int .i64 V.epoch, .int .i64 V.version, .slice A V.isr.length k1] 47)).alloc (.cells #[.int .i64 U.leader, .int .i64 U.epoch, .int .i64 U.version, .slice B U.isr.length k2] 47)) w.heap.size 47 #[.int .i64 V.leader, .int .i64 V.epoch, .int .i64 V.version, .slice A V.isr.length k1] := (Blk.new w 47 _).alloc _
  have hb1 : Blk ((w.alloc (.cells #[.int .i64 V.leader, .int .i64 V.epoch, .int .i64 V.version, .slice A V.isr.length k1] 47)).alloc (.cells #[.int .i64 U.leader, .int .i64 U.epoch, .int .i64 U.version, .slice B U.isr.length k2] 47)) (w.heap.size + 1) 47 #[.int .i64 U.leader, .int .i64 U.epoch, .int .i64 U.version, .slice B U.isr.length k2] := blk_new (w.alloc (.cells #[.int .i64 V.leader, .int .i64 V.epoch, .int .i64 V.version, .slice A V.isr.length k1] 47)) 47 _ (by simp)
  have HAL := Lib.hid hal
  have HEQ := Lib.hid (refInts_any (w := ((w.alloc (.cells #[.int .i64 V.leader, .int .i64 V.epoch, .int .i64 V.version, .slice A V.isr.length k1] 47)).alloc (.cells #[.int .i64 U.leader, .int .i64 U.epoch, .int .i64 U.version, .slice B U.isr.length k2] 47))) (c := k1) (d := k2) (hr1.below hal) (hr2.below hal) hv hu)
  have H0 := Lib.hid hb0
  have H1 := Lib.hid hb1
  clear hal hb0 hb1 hr1 hr2
  unfold vArr
  obtain ⟨dd, hdd⟩ : ∃ dd, decide (V.leader = U.leader ∧ V.epoch = U.epoch ∧ V.version = U.version ∧ V.isr = U.isr) = dd := ⟨_, rfl⟩
  rw [hdd]
  have HD := Lib.hid hdd
  clear hdd
  go_enter Tryz.func37, Tryz.ntmps37
  go_upto_region 1 with fail
  generalize hw2 : ((w.alloc (.cells #[.int .i64 V.leader, .int .i64 V.epoch, .int .i64 V.version, .slice A V.isr.length k1] 47)).alloc (.cells #[.int .i64 U.leader, .int .i64 U.epoch, .int .i64 U.version, .slice B U.isr.length k2] 47)) = w2 at *
  clear hw2
  have a0 : w2.cell? ⟨w.heap.size, 0, none⟩ = some (.int .i64 V.leader) := H0.out.cell 0
  have b0 : w2.cell? ⟨w.heap.size + 1, 0, none⟩ = some (.int .i64 U.leader) := H1.out.cell 0
  have a1 : w2.cell? ⟨w.heap.size, 1, none⟩ = some (.int .i64 V.epoch) := H0.out.cell 1
  have b1 : w2.cell? ⟨w.heap.size + 1, 1, none⟩ = some (.int .i64 U.epoch) := H1.out.cell 1
  have a2 : w2.cell? ⟨w.heap.size, 2, none⟩ = some (.int .i64 V.version) := H0.out.cell 2
  have b2 : w2.cell? ⟨w.heap.size + 1, 2, none⟩ = some (.int .i64 U.version) := H1.out.cell 2
  have a3 : w2.cell? ⟨w.heap.size, 3, none⟩ = some (.slice A V.isr.length k1) := H0.out.cell 3
  have b3 : w2.cell? ⟨w.heap.size + 1, 3, none⟩ = some (.slice B U.isr.length k2) := H1.out.cell 3
  by_cases e0 : V.leader = U.leader
  case neg =>
    have d0 := neb e0
    have HF : Hid (dd = false) := Lib.hid (by rw [← HD.out]; exact decide_eq_false (fun q => e0 (by simp only [q])))
    clear e0
    go_wp2_with fail
    go_ret
    exact ⟨by rw [HF.out]; rfl, HAL.out⟩
  case pos =>
  have d0 := eqb e0
  by_cases e1 : V.epoch = U.epoch
  case neg =>
    have d1 := neb e1
    have HF : Hid (dd = false) := Lib.hid (by rw [← HD.out]; exact decide_eq_false (fun q => e1 (by simp only [q])))
    clear e0 e1
    go_wp2_with fail
    go_ret
    exact ⟨by rw [HF.out]; rfl, HAL.out⟩
  case pos =>
  have d1 := eqb e1
  by_cases e2 : V.version = U.version
  case neg =>
    have d2 := neb e2
    have HF : Hid (dd = false) := Lib.hid (by rw [← HD.out]; exact decide_eq_false (fun q => e2 (by simp only [q])))
    clear e0 e1 e2
    go_wp2_with fail
    go_ret
    exact ⟨by rw [HF.out]; rfl, HAL.out⟩
  case pos =>
  have d2 := eqb e2
  have heq := HEQ.out
  by_cases e3 : V.isr = U.isr
  case neg =>
    rw [decide_eq_false e3] at heq
    have HF : Hid (dd = false) := Lib.hid (by rw [← HD.out]; exact decide_eq_false (fun q => e3 (by simp only [q])))
    clear e0 e1 e2 e3
    go_wp2_with fail
    refine heq.mono ?_
    rintro r w3 ⟨rfl, q, rfl⟩
    clear heq
    go_wp2_with fail
    go_ret
    exact ⟨by rw [HF.out]; rfl, below_drewN HAL.out q⟩
  case pos =>
  rw [decide_eq_true e3] at heq
  have HF : Hid (dd = true) := Lib.hid (by rw [← HD.out]; exact decide_eq_true ⟨e0, e1, e2, e3⟩)
  clear e0 e1 e2 e3
  go_wp2_with fail
  refine heq.mono ?_
  rintro r w3 ⟨rfl, q, rfl⟩
  clear heq
  go_wp2_with fail
  go_ret
  exact ⟨by rw [HF.out]; rfl, below_drewN HAL.out q⟩
set_option maxRecDepth 100000 in
set_option maxHeartbeats 4000000 in
theorem sameWriting_any {V U : Wt} {s1 s2 : Value} (h1 : IsR w X s1 V.parts) (h2 : IsR w Y s2 U.parts) (hv : V.parts.length ≤ 1000000) (hu : U.parts.length ≤ 1000000) : Calls Tryz.prog 38 #[.agg (wArr V s1), .agg (wArr U s2)] w fun r w' => r = .returned (.bool (decide (V.session = U.session ∧ V.num = U.num ∧ V.state = U.state ∧ V.parts = U.parts ∧ V.offset = U.offset ∧ V.next = U.next))) ∧ Below w.heap.size w w' := by
  obtain ⟨A, k1, rfl, hr1⟩ := h1
  obtain ⟨B, k2, rfl, hr2⟩ := h2
  have hal := ((Below.refl w.heap.size w).alloc (Nat.le_refl _) (.cells #[.int .i64 V.session, .int .i64 V.num, .int .i64 V.state, .slice A V.parts.length k1, .int .i64 V.offset, .int .i64 V.next] 55)).alloc (le_alloc (Nat.le_refl _) _) (.cells #[.int .i64 U.session, .int .i64 U.num, .int .i64 U.state, .slice B U.parts.length k2, .int .i64 U.offset, .int .i64 U.next] 55)
  have hb0 : Blk ((w.alloc (.cells #[.int .i64 V.session, .int .i64 V.num, .int .i64 V.state, .slice A V.parts.length k1, .int .i64 V.offset, .int .i64 V.next] 55)).alloc (.cells #[.int .i64 U.session, .int .i64 U.num, .int .i64 U.state, .slice B U.parts.length k2, .int .i64 U.offset, .int .i64 U.next] 55)) w.heap.size 55 #[.int .i64 V.session, .int .i64 V.num, .int .i64 V.state, .slice A V.parts.length k1, .int .i64 V.offset, .int .i64 V.next] := (Blk.new w 55 _).alloc _
  have hb1 : Blk ((w.alloc (.cells #[.int .i64 V.session, .int .i64 V.num, .int .i64 V.state, .slice A V.parts.length k1, .int .i64 V.offset, .int .i64 V.next] 55)).alloc (.cells #[.int .i64 U.session, .int .i64 U.num, .int .i64 U.state, .slice B U.parts.length k2, .int .i64 U.offset, .int .i64 U.next] 55)) (w.heap.size + 1) 55 #[.int .i64 U.session, .int .i64 U.num, .int .i64 U.state, .slice B U.parts.length k2, .int .i64 U.offset, .int .i64 U.next] := blk_new (w.alloc (.cells #[.int .i64 V.session, .int .i64 V.num, .int .i64 V.state, .slice A V.parts.length k1, .int .i64 V.offset, .int .i64 V.next] 55)) 55 _ (by simp)
  have HAL := Lib.hid hal
  have HEQ := Lib.hid (refInts_any (w := ((w.alloc (.cells #[.int .i64 V.session, .int .i64 V.num, .int .i64 V.state, .slice A V.parts.length k1, .int .i64 V.offset, .int .i64 V.next] 55)).alloc (.cells #[.int .i64 U.session, .int .i64 U.num, .int .i64 U.state, .slice B U.parts.length k2, .int .i64 U.offset, .int .i64 U.next] 55))) (c := k1) (d := k2) (hr1.below hal) (hr2.below hal) hv hu)
  have H0 := Lib.hid hb0
  have H1 := Lib.hid hb1
  clear hal hb0 hb1 hr1 hr2
  unfold wArr
  obtain ⟨dd, hdd⟩ : ∃ dd, decide (V.session = U.session ∧ V.num = U.num ∧ V.state = U.state ∧ V.parts = U.parts ∧ V.offset = U.offset ∧ V.next = U.next) = dd := ⟨_, rfl⟩
  rw [hdd]
  have HD := Lib.hid hdd
  clear hdd
  go_enter Tryz.func38, Tryz.ntmps38
  go_upto_region 1 with fail
  generalize hw2 : ((w.alloc (.cells #[.int .i64 V.session, .int .i64 V.num, .int .i64 V.state, .slice A V.parts.length k1, .int .i64 V.offset, .int .i64 V.next] 55)).alloc (.cells #[.int .i64 U.session, .int .i64 U.num, .int .i64 U.state, .slice B U.parts.length k2, .int .i64 U.offset, .int .i64 U.next] 55)) = w2 at *
  clear hw2
  have a0 : w2.cell? ⟨w.heap.size, 0, none⟩ = some (.int .i64 V.session) := H0.out.cell 0
  have b0 : w2.cell? ⟨w.heap.size + 1, 0, none⟩ = some (.int .i64 U.session) := H1.out.cell 0
  have a1 : w2.cell? ⟨w.heap.size, 1, none⟩ = some (.int .i64 V.num) := H0.out.cell 1
  have b1 : w2.cell? ⟨w.heap.size + 1, 1, none⟩ = some (.int .i64 U.num) := H1.out.cell 1
  have a2 : w2.cell? ⟨w.heap.size, 2, none⟩ = some (.int .i64 V.state) := H0.out.cell 2
  have b2 : w2.cell? ⟨w.heap.size + 1, 2, none⟩ = some (.int .i64 U.state) := H1.out.cell 2
  have a3 : w2.cell? ⟨w.heap.size, 3, none⟩ = some (.slice A V.parts.length k1) := H0.out.cell 3
  have b3 : w2.cell? ⟨w.heap.size + 1, 3, none⟩ = some (.slice B U.parts.length k2) := H1.out.cell 3
  have a4 : w2.cell? ⟨w.heap.size, 4, none⟩ = some (.int .i64 V.offset) := H0.out.cell 4
  have b4 : w2.cell? ⟨w.heap.size + 1, 4, none⟩ = some (.int .i64 U.offset) := H1.out.cell 4
  have a5 : w2.cell? ⟨w.heap.size, 5, none⟩ = some (.int .i64 V.next) := H0.out.cell 5
  have b5 : w2.cell? ⟨w.heap.size + 1, 5, none⟩ = some (.int .i64 U.next) := H1.out.cell 5
  by_cases e0 : V.session = U.session
  case neg =>
    have d0 := neb e0
    have HF : Hid (dd = false) := Lib.hid (by rw [← HD.out]; exact decide_eq_false (fun q => e0 (by simp only [q])))
    clear e0
    go_wp2_with fail
    go_ret
    exact ⟨by rw [HF.out]; rfl, HAL.out⟩
  case pos =>
  have d0 := eqb e0
  by_cases e1 : V.num = U.num
  case neg =>
    have d1 := neb e1
    have HF : Hid (dd = false) := Lib.hid (by rw [← HD.out]; exact decide_eq_false (fun q => e1 (by simp only [q])))
    clear e0 e1
    go_wp2_with fail
    go_ret
    exact ⟨by rw [HF.out]; rfl, HAL.out⟩
  case pos =>
  have d1 := eqb e1
  by_cases e2 : V.state = U.state
  case neg =>
    have d2 := neb e2
    have HF : Hid (dd = false) := Lib.hid (by rw [← HD.out]; exact decide_eq_false (fun q => e2 (by simp only [q])))
    clear e0 e1 e2
    go_wp2_with fail
    go_ret
    exact ⟨by rw [HF.out]; rfl, HAL.out⟩
  case pos =>
  have d2 := eqb e2
  have heq := HEQ.out
  by_cases e3 : V.parts = U.parts
  case neg =>
    rw [decide_eq_false e3] at heq
    have HF : Hid (dd = false) := Lib.hid (by rw [← HD.out]; exact decide_eq_false (fun q => e3 (by simp only [q])))
    clear e0 e1 e2 e3
    go_wp2_with fail
    refine heq.mono ?_
    rintro r w3 ⟨rfl, q, rfl⟩
    clear heq
    go_wp2_with fail
    go_ret
    exact ⟨by rw [HF.out]; rfl, below_drewN HAL.out q⟩
  case pos =>
  rw [decide_eq_true e3] at heq
  by_cases e4 : V.offset = U.offset
  case neg =>
    have d4 := neb e4
    have HF : Hid (dd = false) := Lib.hid (by rw [← HD.out]; exact decide_eq_false (fun q => e4 (by simp only [q])))
    clear e0 e1 e2 e3 e4
    go_wp2_with fail
    refine heq.mono ?_
    rintro r w3 ⟨rfl, q, rfl⟩
    clear heq
    go_wp2_with fail
    go_ret
    exact ⟨by rw [HF.out]; rfl, below_drewN HAL.out q⟩
  case pos =>
  have d4 := eqb e4
  by_cases e5 : V.next = U.next
  case neg =>
    have d5 := neb e5
    have HF : Hid (dd = false) := Lib.hid (by rw [← HD.out]; exact decide_eq_false (fun q => e5 (by simp only [q])))
    clear e0 e1 e2 e3 e4 e5
    go_wp2_with fail
    refine heq.mono ?_
    rintro r w3 ⟨rfl, q, rfl⟩
    clear heq
    go_wp2_with fail
    go_ret
    exact ⟨by rw [HF.out]; rfl, below_drewN HAL.out q⟩
  case pos =>
  have d5 := eqb e5
  have HF : Hid (dd = true) := Lib.hid (by rw [← HD.out]; exact decide_eq_true ⟨e0, e1, e2, e3, e4, e5⟩)
  clear e0 e1 e2 e3 e4 e5
  go_wp2_with fail
  refine heq.mono ?_
  rintro r w3 ⟨rfl, q, rfl⟩
  clear heq
  go_wp2_with fail
  go_ret
  exact ⟨by rw [HF.out]; rfl, below_drewN HAL.out q⟩
end
end Go.Proofs.YtpmdicbhliclcaaGreat
