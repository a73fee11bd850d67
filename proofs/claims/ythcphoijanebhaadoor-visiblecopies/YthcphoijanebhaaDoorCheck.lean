/-
  What wire.kindOf, wire.maySomebody, wire.mayData, wire.mayMarker and wire.Check answer. Nothing is assumed.
-/
import Derived.Test.YthcphoijanebhaaDoorSpec
import Derived.Laws.EntriesVeiled
namespace Go.Proofs.YthcphoijanebhaaDoor
open Go.RowKit
theorem between_any (n a b : Int) (w : World) : Calls Tryd.prog 98 #[.int .i64 n, .int .i64 a, .int .i64 b] w fun e w' => e = .returned (.bool (decide (a ≤ n ∧ n ≤ b))) ∧ w = w' := by
  by_cases h1 : a ≤ n
  · by_cases h2 : n ≤ b
    · go_enter Tryd.func98, Tryd.ntmps98
      go_wp2
      go_ret
      exact ⟨ret_bool (decide_eq_true (by omega)).symm, rfl⟩
    · go_enter Tryd.func98, Tryd.ntmps98
      go_wp2
      go_ret
      exact ⟨ret_bool (decide_eq_false (by omega)).symm, rfl⟩
  · go_enter Tryd.func98, Tryd.ntmps98
    go_wp2
    go_ret
    exact ⟨ret_bool (by rw [show decide (a ≤ n) = false from decide_eq_false (by omega)]; rfl), rfl⟩
theorem within_any (n a b : Int) (w : World) : Calls Tryd.prog 70 #[.int .i64 n, .int .i64 a, .int .i64 b] w fun e w' => e = .returned (.bool (decide (a ≤ n ∧ n ≤ b))) ∧ w = w' := by
  by_cases h1 : a ≤ n
  · by_cases h2 : n ≤ b
    · go_enter Tryd.func70, Tryd.ntmps70
      go_wp2
      go_ret
      exact ⟨ret_bool (decide_eq_true (by omega)).symm, rfl⟩
    · go_enter Tryd.func70, Tryd.ntmps70
      go_wp2
      go_ret
      exact ⟨ret_bool (decide_eq_false (by omega)).symm, rfl⟩
  · go_enter Tryd.func70, Tryd.ntmps70
    go_wp2
    go_ret
    exact ⟨ret_bool (by rw [show decide (a ≤ n) = false from decide_eq_false (by omega)]; rfl), rfl⟩
theorem between_yes {n a b : Int} (h : a ≤ n ∧ n ≤ b) (w : World) : Calls Tryd.prog 98 #[.int .i64 n, .int .i64 a, .int .i64 b] w fun e w' => e = .returned (.bool true) ∧ w = w' := by
  have := between_any n a b w
  rwa [decide_eq_true h] at this
theorem between_no {n a b : Int} (h : ¬ (a ≤ n ∧ n ≤ b)) (w : World) : Calls Tryd.prog 98 #[.int .i64 n, .int .i64 a, .int .i64 b] w fun e w' => e = .returned (.bool false) ∧ w = w' := by
  have := between_any n a b w
  rwa [decide_eq_false h] at this
def Somebody (e : Ent) : Prop := (0 ≤ e.id ∧ e.id ≤ 3) ∧ (1 ≤ e.num ∧ e.num ≤ 2147483647)
instance (e : Ent) : Decidable (Somebody e) := by unfold Somebody; infer_instance
set_option maxRecDepth 100000 in
set_option maxHeartbeats 1000000 in
theorem somebody_any (e : Ent) (w : World) : Calls Tryd.prog 105 #[e.val] w fun r w' => r = .returned (.bool (decide (Somebody e))) ∧ Below w.heap.size w w' := by
  obtain ⟨ep, id, n, s, k, v⟩ := e
  have HB := Lib.hid (fun o => (Below.refl w.heap.size w).alloc (Nat.le_refl _) o)
  unfold Ent.val Ent.cells
  simp only
  by_cases h1 : 0 ≤ id ∧ id ≤ 3
  · by_cases h2 : 1 ≤ n ∧ n ≤ 2147483647
    · have H : Hid (decide (Somebody ⟨ep, id, n, s, k, v⟩) = true) := Lib.hid (decide_eq_true ⟨h1, h2⟩)
      go_enter Tryd.func105, Tryd.ntmps105
      go_wp2_with fail
      refine (between_yes h1 _).mono ?_
      rintro e w' ⟨rfl, rfl⟩
      go_wp2_with fail
      refine (between_yes h2 _).mono ?_
      rintro e w' ⟨rfl, rfl⟩
      go_wp2_with fail
      go_ret
      exact ⟨ret_bool H.out.symm, HB.out _⟩
    · have H : Hid (decide (Somebody ⟨ep, id, n, s, k, v⟩) = false) := Lib.hid (decide_eq_false fun h => h2 h.2)
      go_enter Tryd.func105, Tryd.ntmps105
      go_wp2_with fail
      refine (between_yes h1 _).mono ?_
      rintro e w' ⟨rfl, rfl⟩
      go_wp2_with fail
      refine (between_no h2 _).mono ?_
      rintro e w' ⟨rfl, rfl⟩
      go_wp2_with fail
      go_ret
      exact ⟨ret_bool H.out.symm, HB.out _⟩
  · have H : Hid (decide (Somebody ⟨ep, id, n, s, k, v⟩) = false) := Lib.hid (decide_eq_false fun h => h1 h.1)
    go_enter Tryd.func105, Tryd.ntmps105
    go_wp2_with fail
    refine (between_no h1 _).mono ?_
    rintro e w' ⟨rfl, rfl⟩
    go_wp2_with fail
    go_ret
    exact ⟨ret_bool H.out.symm, HB.out _⟩
theorem Blk.six {w : World} {g : Nat} {e : Ent} (h : Blk w g 45 e.cells) : w.cell? ⟨g, 0, none⟩ = some (.int .i64 e.epoch) ∧ w.cell? ⟨g, 1, none⟩ = some (.int .i64 e.id) ∧ w.cell? ⟨g, 2, none⟩ = some (.int .i64 e.num) ∧ w.cell? ⟨g, 3, none⟩ = some (.int .i64 e.seq) ∧ w.cell? ⟨g, 4, none⟩ = some (.int .i64 e.kind) ∧ w.cell? ⟨g, 5, none⟩ = some (.int .i64 e.value) :=
  ⟨h.cell 0, h.cell 1, h.cell 2, h.cell 3, h.cell 4, h.cell 5⟩
theorem below4 {B : Nat} {a w : World} (h : Below B a w) (hB : B ≤ w.heap.size) (o p q r : Obj) : Below B a ((((w.alloc o).alloc p).alloc q).alloc r) :=
  (((h.alloc hB _).alloc (le_alloc hB _) _).alloc (le_alloc (le_alloc hB _) _) _).alloc (le_alloc (le_alloc (le_alloc hB _) _) _) _
set_option maxRecDepth 100000 in
set_option maxHeartbeats 1000000 in
theorem kind_data (w : World) : Calls Tryd.prog 97 #[.int .i64 1] w fun r w' => r = .returned (.tuple #[.agg #[.func (.func 99) #[] #[], .func (.func 100) #[] #[], .func (.func 101) #[] #[]], .bool true]) ∧ Below w.heap.size w w' := by
  go_enter Tryd.func97, Tryd.ntmps97
  go_wp2_with fail
  refine bodyPost_ret (v := .tuple #[.agg #[.func (.func 99) #[] #[], .func (.func 100) #[] #[], .func (.func 101) #[] #[]], .bool true]) ?_ rfl ⟨rfl, below4 (Below.refl _ _) (Nat.le_refl _) _ _ _ _⟩
  simp [results, Tryd.results97, go_sem]
set_option maxRecDepth 100000 in
set_option maxHeartbeats 1000000 in
theorem kind_commit (w : World) : Calls Tryd.prog 97 #[.int .i64 2] w fun r w' => r = .returned (.tuple #[.agg #[.func (.func 102) #[] #[], .func (.func 103) #[] #[], .func (.func 104) #[] #[]], .bool true]) ∧ Below w.heap.size w w' := by
  go_enter Tryd.func97, Tryd.ntmps97
  go_wp2_with fail
  refine bodyPost_ret (v := .tuple #[.agg #[.func (.func 102) #[] #[], .func (.func 103) #[] #[], .func (.func 104) #[] #[]], .bool true]) ?_ rfl ⟨rfl, below4 (Below.refl _ _) (Nat.le_refl _) _ _ _ _⟩
  simp [results, Tryd.results97, go_sem]
set_option maxRecDepth 100000 in
set_option maxHeartbeats 1000000 in
theorem kind_abort (w : World) : Calls Tryd.prog 97 #[.int .i64 3] w fun r w' => r = .returned (.tuple #[.agg #[.func (.func 102) #[] #[], .func (.func 103) #[] #[], .func (.func 104) #[] #[]], .bool true]) ∧ Below w.heap.size w w' := by
  go_enter Tryd.func97, Tryd.ntmps97
  go_wp2_with fail
  refine bodyPost_ret (v := .tuple #[.agg #[.func (.func 102) #[] #[], .func (.func 103) #[] #[], .func (.func 104) #[] #[]], .bool true]) ?_ rfl ⟨rfl, below4 (Below.refl _ _) (Nat.le_refl _) _ _ _ _⟩
  simp [results, Tryd.results97, go_sem]
set_option maxRecDepth 100000 in
set_option maxHeartbeats 1000000 in
theorem kind_none (k : Int) (h : k ≤ 0 ∨ 4 ≤ k) (w : World) : Calls Tryd.prog 97 #[.int .i64 k] w fun r w' => r = .returned (.tuple #[.agg #[.nilFunc, .nilFunc, .nilFunc], .bool false]) ∧ Below w.heap.size w w' := by
  by_cases h0 : k ≤ 0
  · clear h
    go_enter Tryd.func97, Tryd.ntmps97
    go_wp2_with fail
    refine bodyPost_ret (v := .tuple #[.agg #[.nilFunc, .nilFunc, .nilFunc], .bool false]) ?_ rfl ⟨rfl, below4 (Below.refl _ _) (Nat.le_refl _) _ _ _ _⟩
    simp [results, Tryd.results97, go_sem]
  · have h4 : 4 ≤ k := by omega
    clear h
    go_enter Tryd.func97, Tryd.ntmps97
    go_wp2_with fail
    refine bodyPost_ret (v := .tuple #[.agg #[.nilFunc, .nilFunc, .nilFunc], .bool false]) ?_ rfl ⟨rfl, below4 (Below.refl _ _) (Nat.le_refl _) _ _ _ _⟩
    simp [results, Tryd.results97, go_sem]
def MayData (e : Ent) : Prop := (-2147483648 ≤ e.value ∧ e.value ≤ 2147483647) ∧ ((e.id = -1 ∧ e.num = 0 ∧ e.seq = 0) ∨ (e.id ≠ -1 ∧ Somebody e ∧ 0 ≤ e.seq ∧ e.seq ≤ 2147483647))
instance (e : Ent) : Decidable (MayData e) := by unfold MayData; infer_instance
def MayMarker (e : Ent) : Prop := Somebody e ∧ e.seq = 0 ∧ e.value = 0
instance (e : Ent) : Decidable (MayMarker e) := by unfold MayMarker; infer_instance
theorem right_data {e : Ent} (h : e.kind = 1) : Right e ↔ (1 ≤ e.epoch ∧ e.epoch ≤ 2147483647) ∧ MayData e := by
  unfold Right MayData Somebody; omega
theorem right_mark {e : Ent} (h : e.kind = 2 ∨ e.kind = 3) : Right e ↔ (1 ≤ e.epoch ∧ e.epoch ≤ 2147483647) ∧ MayMarker e := by
  unfold Right MayMarker Somebody; omega
theorem right_none {e : Ent} (h : e.kind ≤ 0 ∨ 4 ≤ e.kind) : ¬ Right e := by
  unfold Right; omega
theorem box_blk (w : World) (e : Ent) : Blk (w.alloc (.cells #[.int .i64 e.epoch, .int .i64 e.id, .int .i64 e.num, .int .i64 e.seq, .int .i64 e.kind, .int .i64 e.value] 45)) w.heap.size 45 e.cells := Blk.new w 45 e.cells
set_option maxRecDepth 100000 in
set_option maxHeartbeats 1000000 in
theorem mayMarker_any (e : Ent) (w : World) : Calls Tryd.prog 102 #[e.val] w fun r w' => r = .returned (.bool (decide (MayMarker e))) ∧ Below w.heap.size w w' := by
  have hbox := box_blk w e
  have hlow := (Below.refl w.heap.size w).alloc (Nat.le_refl _) (.cells #[.int .i64 e.epoch, .int .i64 e.id, .int .i64 e.num, .int .i64 e.seq, .int .i64 e.kind, .int .i64 e.value] 45)
  have hE : Hid (.agg #[.int .i64 e.epoch, .int .i64 e.id, .int .i64 e.num, .int .i64 e.seq, .int .i64 e.kind, .int .i64 e.value] = e.val) := Lib.hid rfl
  have HX := Lib.hid hbox
  have HW := Lib.hid hlow
  clear hbox hlow
  unfold Ent.val Ent.cells
  go_enter Tryd.func102, Tryd.ntmps102
  go_wp2_with fail
  rw [hE.out]
  refine (somebody_any e _).mono ?_
  rintro r w1 ⟨rfl, hb⟩
  obtain ⟨c0, c1, c2, c3, c4, c5⟩ := (HX.out.below hb (by simp)).six
  have HW1 : Hid (Below w.heap.size w w1) := Lib.hid (HW.out.trans (hb.mono (by simp)))
  clear hb hE HX
  by_cases h1 : Somebody e
  · rw [decide_eq_true h1]
    by_cases h2 : e.seq = 0
    · have b2 : (e.seq == 0) = true := by simp [h2]
      by_cases h3 : e.value = 0
      · have b3 : (e.value == 0) = true := by simp [h3]
        have H : Hid (decide (MayMarker e) = true) := Lib.hid (decide_eq_true ⟨h1, h2, h3⟩)
        clear h1 h2 h3
        go_wp2_with fail
        go_ret
        exact ⟨ret_bool H.out.symm, HW1.out⟩
      · have b3 : (e.value == 0) = false := by simp [h3]
        have H : Hid (decide (MayMarker e) = false) := Lib.hid (decide_eq_false fun h => h3 h.2.2)
        clear h1 h2 h3
        go_wp2_with fail
        go_ret
        exact ⟨ret_bool H.out.symm, HW1.out⟩
    · have b2 : (e.seq == 0) = false := by simp [h2]
      have H : Hid (decide (MayMarker e) = false) := Lib.hid (decide_eq_false fun h => h2 h.2.1)
      clear h1 h2
      go_wp2_with fail
      go_ret
      exact ⟨ret_bool H.out.symm, HW1.out⟩
  · rw [decide_eq_false h1]
    have H : Hid (decide (MayMarker e) = false) := Lib.hid (decide_eq_false fun h => h1 h.1)
    clear h1
    go_wp2_with fail
    go_ret
    exact ⟨ret_bool H.out.symm, HW1.out⟩
end Go.Proofs.YthcphoijanebhaaDoor
