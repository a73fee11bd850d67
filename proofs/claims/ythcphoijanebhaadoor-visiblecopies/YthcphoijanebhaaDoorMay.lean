/-
  What wire.mayData and wire.Check answer: whether an entry may be. Nothing is assumed.
-/
import Derived.Test.YthcphoijanebhaaDoorCheck
namespace Go.Proofs.YthcphoijanebhaaDoor
open Go.RowKit
def errOf (e : Ent) : Int := if Right e then 0 else 2
theorem errOf_yes {e : Ent} (h : Right e) : errOf e = 0 := if_pos h
theorem errOf_no {e : Ent} (h : ¬ Right e) : errOf e = 2 := if_neg h
theorem kind_data' {k : Int} (h : k = 1) (w : World) : Calls Tryd.prog 97 #[.int .i64 k] w fun r w' => r = .returned (.tuple #[.agg #[.func (.func 99) #[] #[], .func (.func 100) #[] #[], .func (.func 101) #[] #[]], .bool true]) ∧ Below w.heap.size w w' := by
  subst h
  exact kind_data w
theorem kind_commit' {k : Int} (h : k = 2) (w : World) : Calls Tryd.prog 97 #[.int .i64 k] w fun r w' => r = .returned (.tuple #[.agg #[.func (.func 102) #[] #[], .func (.func 103) #[] #[], .func (.func 104) #[] #[]], .bool true]) ∧ Below w.heap.size w w' := by
  subst h
  exact kind_commit w
theorem kind_abort' {k : Int} (h : k = 3) (w : World) : Calls Tryd.prog 97 #[.int .i64 k] w fun r w' => r = .returned (.tuple #[.agg #[.func (.func 102) #[] #[], .func (.func 103) #[] #[], .func (.func 104) #[] #[]], .bool true]) ∧ Below w.heap.size w w' := by
  subst h
  exact kind_abort w
set_option maxRecDepth 100000 in
set_option maxHeartbeats 2000000 in
theorem mayData_any (e : Ent) (w : World) : Calls Tryd.prog 99 #[e.val] w fun r w' => r = .returned (.bool (decide (MayData e))) ∧ Below w.heap.size w w' := by
  have hbox := box_blk w e
  have hlow := (Below.refl w.heap.size w).alloc (Nat.le_refl _) (.cells #[.int .i64 e.epoch, .int .i64 e.id, .int .i64 e.num, .int .i64 e.seq, .int .i64 e.kind, .int .i64 e.value] 45)
  have hE : Hid (.agg #[.int .i64 e.epoch, .int .i64 e.id, .int .i64 e.num, .int .i64 e.seq, .int .i64 e.kind, .int .i64 e.value] = e.val) := Lib.hid rfl
  have HX := Lib.hid hbox
  have HW := Lib.hid hlow
  clear hbox hlow
  unfold Ent.val Ent.cells
  go_enter Tryd.func99, Tryd.ntmps99
  go_wp2_with fail
  by_cases h1 : -2147483648 ≤ e.value ∧ e.value ≤ 2147483647
  · refine (between_yes h1 _).mono ?_
    rintro r w1 ⟨rfl, rfl⟩
    by_cases h2 : e.id = -1
    · have b2 : (e.id == -1) = true := by simp [h2]
      by_cases h3 : e.num = 0
      · have b3 : (e.num == 0) = true := by simp [h3]
        by_cases h4 : e.seq = 0
        · have b4 : (e.seq == 0) = true := by simp [h4]
          have H : Hid (decide (MayData e) = true) := Lib.hid (decide_eq_true ⟨h1, .inl ⟨h2, h3, h4⟩⟩)
          clear h1 h2 h3 h4
          go_wp2_with fail
          go_ret
          exact ⟨ret_bool H.out.symm, HW.out⟩
        · have b4 : (e.seq == 0) = false := by simp [h4]
          have H : Hid (decide (MayData e) = false) := Lib.hid (decide_eq_false fun h => by rcases h.2 with h | h; exact h4 h.2.2; exact h.1 h2)
          clear h1 h2 h3 h4
          go_wp2_with fail
          go_ret
          exact ⟨ret_bool H.out.symm, HW.out⟩
      · have b3 : (e.num == 0) = false := by simp [h3]
        have H : Hid (decide (MayData e) = false) := Lib.hid (decide_eq_false fun h => by rcases h.2 with h | h; exact h3 h.2.1; exact h.1 h2)
        clear h1 h2 h3
        go_wp2_with fail
        go_ret
        exact ⟨ret_bool H.out.symm, HW.out⟩
    · have b2 : (e.id == -1) = false := by simp [h2]
      have H1 := Lib.hid h1
      have H2 := Lib.hid h2
      clear h1 h2
      go_wp2_with fail
      rw [hE.out]
      refine (somebody_any e _).mono ?_
      rintro r w1 ⟨rfl, hb⟩
      obtain ⟨c0, c1, c2, c3, c4, c5⟩ := (HX.out.below hb (by simp)).six
      have HW1 : Hid (Below w.heap.size w w1) := Lib.hid (HW.out.trans (hb.mono (by simp)))
      clear hb hE HX
      by_cases h3 : Somebody e
      · rw [decide_eq_true h3]
        by_cases h4 : 0 ≤ e.seq ∧ e.seq ≤ 2147483647
        · have H : Hid (decide (MayData e) = true) := Lib.hid (decide_eq_true ⟨H1.out, .inr ⟨H2.out, h3, h4⟩⟩)
          clear h3
          go_wp2_with fail
          refine (between_yes h4 _).mono ?_
          rintro r w1 ⟨rfl, rfl⟩
          go_wp2_with fail
          go_ret
          exact ⟨ret_bool H.out.symm, HW1.out⟩
        · have H : Hid (decide (MayData e) = false) := Lib.hid (decide_eq_false fun h => by rcases h.2 with h | h; exact H2.out h.1; exact h4 h.2.2)
          clear h3
          go_wp2_with fail
          refine (between_no h4 _).mono ?_
          rintro r w1 ⟨rfl, rfl⟩
          go_wp2_with fail
          go_ret
          exact ⟨ret_bool H.out.symm, HW1.out⟩
      · rw [decide_eq_false h3]
        have H : Hid (decide (MayData e) = false) := Lib.hid (decide_eq_false fun h => by rcases h.2 with h | h; exact H2.out h.1; exact h3 h.2.1)
        clear h3
        go_wp2_with fail
        go_ret
        exact ⟨ret_bool H.out.symm, HW1.out⟩
  · refine (between_no h1 _).mono ?_
    rintro r w1 ⟨rfl, rfl⟩
    have H : Hid (decide (MayData e) = false) := Lib.hid (decide_eq_false fun h => h1 h.1)
    clear h1
    go_wp2_with fail
    go_ret
    exact ⟨ret_bool H.out.symm, HW.out⟩
set_option maxRecDepth 100000 in
set_option maxHeartbeats 4000000 in
theorem check_any (e : Ent) (w : World) : Calls Tryd.prog 92 #[e.val] w fun r w' => r = .returned (.int .i64 (errOf e)) ∧ Below w.heap.size w w' := by
  have hbox := box_blk w e
  have hlow := (Below.refl w.heap.size w).alloc (Nat.le_refl _) (.cells #[.int .i64 e.epoch, .int .i64 e.id, .int .i64 e.num, .int .i64 e.seq, .int .i64 e.kind, .int .i64 e.value] 45)
  have hE : Hid (.agg #[.int .i64 e.epoch, .int .i64 e.id, .int .i64 e.num, .int .i64 e.seq, .int .i64 e.kind, .int .i64 e.value] = e.val) := Lib.hid rfl
  have HX := Lib.hid hbox
  have HW := Lib.hid hlow
  clear hbox hlow
  unfold Ent.val Ent.cells
  go_enter Tryd.func92, Tryd.ntmps92
  go_wp2_with fail
  by_cases k1 : e.kind = 1
  · have K1 := Lib.hid k1
    clear k1
    refine (kind_data' K1.out _).mono ?_
    rintro r w1 ⟨rfl, hb⟩
    have hB1 := HX.out.below hb (by simp)
    have HB1 : Hid (Below w.heap.size w w1) := Lib.hid (HW.out.trans (hb.mono (by simp)))
    have HS1 : Hid (w.heap.size ≤ w1.heap.size) := Lib.hid HB1.out.size
    have HX2 : Hid (Blk (w1.alloc (.cells #[.func (.func 99) #[] #[], .func (.func 100) #[] #[], .func (.func 101) #[] #[]] 130)) w.heap.size 45 e.cells) := Lib.hid (hB1.alloc _)
    have HW2 : Hid (Below w.heap.size w (w1.alloc (.cells #[.func (.func 99) #[] #[], .func (.func 100) #[] #[], .func (.func 101) #[] #[]] 130))) := Lib.hid (HB1.out.alloc HS1.out _)
    obtain ⟨c0, c1, c2, c3, c4, c5⟩ := HX2.out.six
    clear hb hB1 HX
    go_wp2_with fail
    by_cases h1 : 1 ≤ e.epoch ∧ e.epoch ≤ 2147483647
    · refine (between_yes h1 _).mono ?_
      rintro r w2 ⟨rfl, rfl⟩
      have H1 := Lib.hid h1
      clear h1
      go_wp2_with fail
      rw [hE.out]
      refine (mayData_any e _).mono ?_
      rintro r w3 ⟨rfl, hb3⟩
      have HW3 : Hid (Below w.heap.size w w3) := Lib.hid (HW2.out.trans (hb3.mono (le_alloc HS1.out _)))
      clear c0 c1 c2 c3 c4 c5 hb3
      by_cases h2 : MayData e
      · rw [decide_eq_true h2]
        have H : Hid (errOf e = 0) := Lib.hid (errOf_yes ((right_data K1.out).2 ⟨H1.out, h2⟩))
        clear h2
        go_wp2_with fail
        go_ret
        exact ⟨ret_i64 H.out.symm, HW3.out⟩
      · rw [decide_eq_false h2]
        have H : Hid (errOf e = 2) := Lib.hid (errOf_no (fun h => h2 ((right_data K1.out).1 h).2))
        clear h2
        go_wp2_with fail
        go_ret
        exact ⟨ret_i64 H.out.symm, HW3.out⟩
    · refine (between_no h1 _).mono ?_
      rintro r w2 ⟨rfl, rfl⟩
      have H : Hid (errOf e = 2) := Lib.hid (errOf_no (fun h => h1 ((right_data K1.out).1 h).1))
      clear h1
      go_wp2_with fail
      go_ret
      exact ⟨ret_i64 H.out.symm, HW2.out⟩
  by_cases k2 : e.kind = 2
  · have K2 := Lib.hid k2
    clear k2 k1
    refine (kind_commit' K2.out _).mono ?_
    rintro r w1 ⟨rfl, hb⟩
    have hB1 := HX.out.below hb (by simp)
    have HB1 : Hid (Below w.heap.size w w1) := Lib.hid (HW.out.trans (hb.mono (by simp)))
    have HS1 : Hid (w.heap.size ≤ w1.heap.size) := Lib.hid HB1.out.size
    have HX2 : Hid (Blk (w1.alloc (.cells #[.func (.func 102) #[] #[], .func (.func 103) #[] #[], .func (.func 104) #[] #[]] 130)) w.heap.size 45 e.cells) := Lib.hid (hB1.alloc _)
    have HW2 : Hid (Below w.heap.size w (w1.alloc (.cells #[.func (.func 102) #[] #[], .func (.func 103) #[] #[], .func (.func 104) #[] #[]] 130))) := Lib.hid (HB1.out.alloc HS1.out _)
    obtain ⟨c0, c1, c2, c3, c4, c5⟩ := HX2.out.six
    clear hb hB1 HX
    go_wp2_with fail
    by_cases h1 : 1 ≤ e.epoch ∧ e.epoch ≤ 2147483647
    · refine (between_yes h1 _).mono ?_
      rintro r w2 ⟨rfl, rfl⟩
      have H1 := Lib.hid h1
      clear h1
      go_wp2_with fail
      rw [hE.out]
      refine (mayMarker_any e _).mono ?_
      rintro r w3 ⟨rfl, hb3⟩
      have HW3 : Hid (Below w.heap.size w w3) := Lib.hid (HW2.out.trans (hb3.mono (le_alloc HS1.out _)))
      clear c0 c1 c2 c3 c4 c5 hb3
      by_cases h2 : MayMarker e
      · rw [decide_eq_true h2]
        have H : Hid (errOf e = 0) := Lib.hid (errOf_yes ((right_mark (.inl K2.out)).2 ⟨H1.out, h2⟩))
        clear h2
        go_wp2_with fail
        go_ret
        exact ⟨ret_i64 H.out.symm, HW3.out⟩
      · rw [decide_eq_false h2]
        have H : Hid (errOf e = 2) := Lib.hid (errOf_no (fun h => h2 ((right_mark (.inl K2.out)).1 h).2))
        clear h2
        go_wp2_with fail
        go_ret
        exact ⟨ret_i64 H.out.symm, HW3.out⟩
    · refine (between_no h1 _).mono ?_
      rintro r w2 ⟨rfl, rfl⟩
      have H : Hid (errOf e = 2) := Lib.hid (errOf_no (fun h => h1 ((right_mark (.inl K2.out)).1 h).1))
      clear h1
      go_wp2_with fail
      go_ret
      exact ⟨ret_i64 H.out.symm, HW2.out⟩
  by_cases k3 : e.kind = 3
  · have K3 := Lib.hid k3
    clear k3 k2 k1
    refine (kind_abort' K3.out _).mono ?_
    rintro r w1 ⟨rfl, hb⟩
    have hB1 := HX.out.below hb (by simp)
    have HB1 : Hid (Below w.heap.size w w1) := Lib.hid (HW.out.trans (hb.mono (by simp)))
    have HS1 : Hid (w.heap.size ≤ w1.heap.size) := Lib.hid HB1.out.size
    have HX2 : Hid (Blk (w1.alloc (.cells #[.func (.func 102) #[] #[], .func (.func 103) #[] #[], .func (.func 104) #[] #[]] 130)) w.heap.size 45 e.cells) := Lib.hid (hB1.alloc _)
    have HW2 : Hid (Below w.heap.size w (w1.alloc (.cells #[.func (.func 102) #[] #[], .func (.func 103) #[] #[], .func (.func 104) #[] #[]] 130))) := Lib.hid (HB1.out.alloc HS1.out _)
    obtain ⟨c0, c1, c2, c3, c4, c5⟩ := HX2.out.six
    clear hb hB1 HX
    go_wp2_with fail
    by_cases h1 : 1 ≤ e.epoch ∧ e.epoch ≤ 2147483647
    · refine (between_yes h1 _).mono ?_
      rintro r w2 ⟨rfl, rfl⟩
      have H1 := Lib.hid h1
      clear h1
      go_wp2_with fail
      rw [hE.out]
      refine (mayMarker_any e _).mono ?_
      rintro r w3 ⟨rfl, hb3⟩
      have HW3 : Hid (Below w.heap.size w w3) := Lib.hid (HW2.out.trans (hb3.mono (le_alloc HS1.out _)))
      clear c0 c1 c2 c3 c4 c5 hb3
      by_cases h2 : MayMarker e
      · rw [decide_eq_true h2]
        have H : Hid (errOf e = 0) := Lib.hid (errOf_yes ((right_mark (.inr K3.out)).2 ⟨H1.out, h2⟩))
        clear h2
        go_wp2_with fail
        go_ret
        exact ⟨ret_i64 H.out.symm, HW3.out⟩
      · rw [decide_eq_false h2]
        have H : Hid (errOf e = 2) := Lib.hid (errOf_no (fun h => h2 ((right_mark (.inr K3.out)).1 h).2))
        clear h2
        go_wp2_with fail
        go_ret
        exact ⟨ret_i64 H.out.symm, HW3.out⟩
    · refine (between_no h1 _).mono ?_
      rintro r w2 ⟨rfl, rfl⟩
      have H : Hid (errOf e = 2) := Lib.hid (errOf_no (fun h => h1 ((right_mark (.inr K3.out)).1 h).1))
      clear h1
      go_wp2_with fail
      go_ret
      exact ⟨ret_i64 H.out.symm, HW2.out⟩
  have k4 : e.kind ≤ 0 ∨ 4 ≤ e.kind := by omega
  have H : Hid (errOf e = 2) := Lib.hid (errOf_no (right_none k4))
  refine (kind_none _ k4 _).mono ?_
  rintro r w1 ⟨rfl, hb⟩
  have HB1 : Hid (Below w.heap.size w w1) := Lib.hid (HW.out.trans (hb.mono (by simp)))
  have HW2 : Hid (∀ o, Below w.heap.size w (w1.alloc o)) := Lib.hid (fun o => HB1.out.alloc HB1.out.size _)
  clear k1 k2 k3 k4 hb
  go_wp2_with fail
  go_ret
  exact ⟨ret_i64 H.out.symm, HW2.out _⟩
end Go.Proofs.YthcphoijanebhaaDoor
