/-
  Joined: RefRight, RefA, Beh9, RefB, Right9, RefO, Stable, RefS. Conditions: as each says.
-/
import Derived.Test.YthcphoijanebhaaDoorMay
import Derived.Test.YthcphoijanebhaaDoorMisc
import Derived.Test.YthcphoijanebhaaDoorSame
import Derived.Test.YthcphoijanebhaaDoorVapp9
import Derived.Test.YthcphoijanebhaaDoorAppend
import Derived.Test.YthcphoijanebhaaDoorOf
import Derived.Test.YthcphoijanebhaaDoorTold
namespace Go.Proofs.YthcphoijanebhaaDoor
open Go.RowKit
theorem within_yes {n a b : Int} (h : a ≤ n ∧ n ≤ b) (w : World) : Calls Tryd.prog 70 #[.int .i64 n, .int .i64 a, .int .i64 b] w fun e w' => e = .returned (.bool true) ∧ w = w' := by
  have := within_any n a b w
  rwa [decide_eq_true h] at this
theorem within_no {n a b : Int} (h : ¬ (a ≤ n ∧ n ≤ b)) (w : World) : Calls Tryd.prog 70 #[.int .i64 n, .int .i64 a, .int .i64 b] w fun e w' => e = .returned (.bool false) ∧ w = w' := by
  have := within_any n a b w
  rwa [decide_eq_false h] at this
set_option maxRecDepth 100000 in
set_option maxHeartbeats 8000000 in
theorem right_any (e : Ent) (w : World) : Calls Tryd.prog 58 #[e.val] w fun r w' => r = .returned (.bool (decide (Right e))) ∧ Below w.heap.size w w' := by
  have HW := Lib.hid ((Below.refl w.heap.size w).alloc (Nat.le_refl _) (.cells e.cells 45))
  unfold Ent.val
  unfold Ent.cells at HW ⊢
  have HR : Hid (decide (Right e) = decide ((1 ≤ e.epoch ∧ e.epoch ≤ 2147483647) ∧ (1 ≤ e.kind ∧ e.kind ≤ 3) ∧ (-1 ≤ e.id ∧ e.id ≤ 3) ∧ ¬ (1 < e.kind ∧ e.id < 0) ∧ ((e.id < 0 ∧ e.num = 0 ∧ e.seq = 0) ∨ (0 ≤ e.id ∧ 1 ≤ e.num ∧ e.num ≤ 2147483647)) ∧ ¬ (1 < e.kind ∧ ¬ (e.seq = 0 ∧ e.value = 0)) ∧ (0 ≤ e.seq ∧ e.seq ≤ 2147483647) ∧ (-2147483648 ≤ e.value ∧ e.value ≤ 2147483647))) := Lib.hid (by
    apply decide_eq_decide.2
    unfold Right
    omega)
  by_cases h1 : 1 ≤ e.epoch ∧ e.epoch ≤ 2147483647
  case neg =>
    have H : Hid (decide (Right e) = false) := Lib.hid (by rw [HR.out]; exact decide_eq_false (by omega))
    clear HR
    go_enter Tryd.func58, Tryd.ntmps58
    go_wp2_with fail
    refine (within_no h1 _).mono ?_
    rintro r w1 ⟨rfl, rfl⟩
    go_wp2_with fail
    go_ret
    exact ⟨ret_bool H.out.symm, HW.out⟩
  by_cases h2 : e.kind < 1
  case pos =>
    have H : Hid (decide (Right e) = false) := Lib.hid (by rw [HR.out]; exact decide_eq_false (by omega))
    clear HR
    go_enter Tryd.func58, Tryd.ntmps58
    go_wp2_with fail
    refine (within_yes h1 _).mono ?_
    rintro r w1 ⟨rfl, rfl⟩
    go_wp2_with fail
    go_ret
    exact ⟨ret_bool H.out.symm, HW.out⟩
  by_cases h3 : 3 < e.kind
  case pos =>
    have H : Hid (decide (Right e) = false) := Lib.hid (by rw [HR.out]; exact decide_eq_false (by omega))
    clear HR
    go_enter Tryd.func58, Tryd.ntmps58
    go_wp2_with fail
    refine (within_yes h1 _).mono ?_
    rintro r w1 ⟨rfl, rfl⟩
    go_wp2_with fail
    go_ret
    exact ⟨ret_bool H.out.symm, HW.out⟩
  by_cases h4 : -1 ≤ e.id ∧ e.id ≤ 3
  case neg =>
    have H : Hid (decide (Right e) = false) := Lib.hid (by rw [HR.out]; exact decide_eq_false (by omega))
    clear HR
    go_enter Tryd.func58, Tryd.ntmps58
    go_wp2_with fail
    refine (within_yes h1 _).mono ?_
    rintro r w1 ⟨rfl, rfl⟩
    go_wp2_with fail
    refine (within_no h4 _).mono ?_
    rintro r w1 ⟨rfl, rfl⟩
    go_wp2_with fail
    go_ret
    exact ⟨ret_bool H.out.symm, HW.out⟩
  by_cases h5 : 1 < e.kind
  case pos =>
    by_cases h6 : e.id < 0
    case pos =>
      have H : Hid (decide (Right e) = false) := Lib.hid (by rw [HR.out]; exact decide_eq_false (by omega))
      clear HR
      go_enter Tryd.func58, Tryd.ntmps58
      go_wp2_with fail
      refine (within_yes h1 _).mono ?_
      rintro r w1 ⟨rfl, rfl⟩
      go_wp2_with fail
      refine (within_yes h4 _).mono ?_
      rintro r w1 ⟨rfl, rfl⟩
      go_wp2_with fail
      go_ret
      exact ⟨ret_bool H.out.symm, HW.out⟩
    have h6' : 0 ≤ e.id := by omega
    by_cases h7 : 1 ≤ e.num ∧ e.num ≤ 2147483647
    case neg =>
      have H : Hid (decide (Right e) = false) := Lib.hid (by rw [HR.out]; exact decide_eq_false (by omega))
      clear HR
      go_enter Tryd.func58, Tryd.ntmps58
      go_wp2_with fail
      refine (within_yes h1 _).mono ?_
      rintro r w1 ⟨rfl, rfl⟩
      go_wp2_with fail
      refine (within_yes h4 _).mono ?_
      rintro r w1 ⟨rfl, rfl⟩
      go_wp2_with fail
      refine (within_no h7 _).mono ?_
      rintro r w1 ⟨rfl, rfl⟩
      go_wp2_with fail
      go_ret
      exact ⟨ret_bool H.out.symm, HW.out⟩
    by_cases h8 : e.seq = 0
    case neg =>
      have b8 : (e.seq != 0) = true := by simp [h8]
      have H : Hid (decide (Right e) = false) := Lib.hid (by rw [HR.out]; exact decide_eq_false (by omega))
      clear HR
      go_enter Tryd.func58, Tryd.ntmps58
      go_wp2_with fail
      refine (within_yes h1 _).mono ?_
      rintro r w1 ⟨rfl, rfl⟩
      go_wp2_with fail
      refine (within_yes h4 _).mono ?_
      rintro r w1 ⟨rfl, rfl⟩
      go_wp2_with fail
      refine (within_yes h7 _).mono ?_
      rintro r w1 ⟨rfl, rfl⟩
      go_wp2_with fail
      go_ret
      exact ⟨ret_bool H.out.symm, HW.out⟩
    have b8 : (e.seq != 0) = false := by simp [h8]
    by_cases h9 : e.value = 0
    case neg =>
      have b9 : (e.value != 0) = true := by simp [h9]
      have H : Hid (decide (Right e) = false) := Lib.hid (by rw [HR.out]; exact decide_eq_false (by omega))
      clear HR h8
      go_enter Tryd.func58, Tryd.ntmps58
      go_wp2_with fail
      refine (within_yes h1 _).mono ?_
      rintro r w1 ⟨rfl, rfl⟩
      go_wp2_with fail
      refine (within_yes h4 _).mono ?_
      rintro r w1 ⟨rfl, rfl⟩
      go_wp2_with fail
      refine (within_yes h7 _).mono ?_
      rintro r w1 ⟨rfl, rfl⟩
      go_wp2_with fail
      go_ret
      exact ⟨ret_bool H.out.symm, HW.out⟩
    have b9 : (e.value != 0) = false := by simp [h9]
    have h10 : 0 ≤ e.seq ∧ e.seq ≤ 2147483647 := by omega
    have h11 : -2147483648 ≤ e.value ∧ e.value ≤ 2147483647 := by omega
    have H : Hid (decide (Right e) = true) := Lib.hid (by rw [HR.out]; exact decide_eq_true (by omega))
    clear HR h8 h9
    go_enter Tryd.func58, Tryd.ntmps58
    go_wp2_with fail
    refine (within_yes h1 _).mono ?_
    rintro r w1 ⟨rfl, rfl⟩
    go_wp2_with fail
    refine (within_yes h4 _).mono ?_
    rintro r w1 ⟨rfl, rfl⟩
    go_wp2_with fail
    refine (within_yes h7 _).mono ?_
    rintro r w1 ⟨rfl, rfl⟩
    go_wp2_with fail
    refine (within_yes h10 _).mono ?_
    rintro r w1 ⟨rfl, rfl⟩
    go_wp2_with fail
    refine (within_yes h11 _).mono ?_
    rintro r w1 ⟨rfl, rfl⟩
    go_wp2_with fail
    go_ret
    exact ⟨ret_bool H.out.symm, HW.out⟩
  by_cases h6 : e.id < 0
  case pos =>
    have h6' : ¬ 0 ≤ e.id := by omega
    by_cases h7 : e.num = 0
    case neg =>
      have b7 : (e.num != 0) = true := by simp [h7]
      have H : Hid (decide (Right e) = false) := Lib.hid (by rw [HR.out]; exact decide_eq_false (by omega))
      clear HR
      go_enter Tryd.func58, Tryd.ntmps58
      go_wp2_with fail
      refine (within_yes h1 _).mono ?_
      rintro r w1 ⟨rfl, rfl⟩
      go_wp2_with fail
      refine (within_yes h4 _).mono ?_
      rintro r w1 ⟨rfl, rfl⟩
      go_wp2_with fail
      go_ret
      exact ⟨ret_bool H.out.symm, HW.out⟩
    have b7 : (e.num != 0) = false := by simp [h7]
    by_cases h8 : e.seq = 0
    case neg =>
      have b8 : (e.seq != 0) = true := by simp [h8]
      have H : Hid (decide (Right e) = false) := Lib.hid (by rw [HR.out]; exact decide_eq_false (by omega))
      clear HR h7
      go_enter Tryd.func58, Tryd.ntmps58
      go_wp2_with fail
      refine (within_yes h1 _).mono ?_
      rintro r w1 ⟨rfl, rfl⟩
      go_wp2_with fail
      refine (within_yes h4 _).mono ?_
      rintro r w1 ⟨rfl, rfl⟩
      go_wp2_with fail
      go_ret
      exact ⟨ret_bool H.out.symm, HW.out⟩
    have b8 : (e.seq != 0) = false := by simp [h8]
    have h10 : 0 ≤ e.seq ∧ e.seq ≤ 2147483647 := by omega
    by_cases h11 : -2147483648 ≤ e.value ∧ e.value ≤ 2147483647
    case neg =>
      have H : Hid (decide (Right e) = false) := Lib.hid (by rw [HR.out]; exact decide_eq_false (by omega))
      clear HR h7 h8
      go_enter Tryd.func58, Tryd.ntmps58
      go_wp2_with fail
      refine (within_yes h1 _).mono ?_
      rintro r w1 ⟨rfl, rfl⟩
      go_wp2_with fail
      refine (within_yes h4 _).mono ?_
      rintro r w1 ⟨rfl, rfl⟩
      go_wp2_with fail
      refine (within_yes h10 _).mono ?_
      rintro r w1 ⟨rfl, rfl⟩
      go_wp2_with fail
      refine (within_no h11 _).mono ?_
      rintro r w1 ⟨rfl, rfl⟩
      go_wp2_with fail
      go_ret
      exact ⟨ret_bool H.out.symm, HW.out⟩
    have H : Hid (decide (Right e) = true) := Lib.hid (by rw [HR.out]; exact decide_eq_true (by omega))
    clear HR h7 h8
    go_enter Tryd.func58, Tryd.ntmps58
    go_wp2_with fail
    refine (within_yes h1 _).mono ?_
    rintro r w1 ⟨rfl, rfl⟩
    go_wp2_with fail
    refine (within_yes h4 _).mono ?_
    rintro r w1 ⟨rfl, rfl⟩
    go_wp2_with fail
    refine (within_yes h10 _).mono ?_
    rintro r w1 ⟨rfl, rfl⟩
    go_wp2_with fail
    refine (within_yes h11 _).mono ?_
    rintro r w1 ⟨rfl, rfl⟩
    go_wp2_with fail
    go_ret
    exact ⟨ret_bool H.out.symm, HW.out⟩
  have h6' : 0 ≤ e.id := by omega
  by_cases h7 : 1 ≤ e.num ∧ e.num ≤ 2147483647
  case neg =>
    have H : Hid (decide (Right e) = false) := Lib.hid (by rw [HR.out]; exact decide_eq_false (by omega))
    clear HR
    go_enter Tryd.func58, Tryd.ntmps58
    go_wp2_with fail
    refine (within_yes h1 _).mono ?_
    rintro r w1 ⟨rfl, rfl⟩
    go_wp2_with fail
    refine (within_yes h4 _).mono ?_
    rintro r w1 ⟨rfl, rfl⟩
    go_wp2_with fail
    refine (within_no h7 _).mono ?_
    rintro r w1 ⟨rfl, rfl⟩
    go_wp2_with fail
    go_ret
    exact ⟨ret_bool H.out.symm, HW.out⟩
  by_cases h10 : 0 ≤ e.seq ∧ e.seq ≤ 2147483647
  case neg =>
    have H : Hid (decide (Right e) = false) := Lib.hid (by rw [HR.out]; exact decide_eq_false (by omega))
    clear HR
    go_enter Tryd.func58, Tryd.ntmps58
    go_wp2_with fail
    refine (within_yes h1 _).mono ?_
    rintro r w1 ⟨rfl, rfl⟩
    go_wp2_with fail
    refine (within_yes h4 _).mono ?_
    rintro r w1 ⟨rfl, rfl⟩
    go_wp2_with fail
    refine (within_yes h7 _).mono ?_
    rintro r w1 ⟨rfl, rfl⟩
    go_wp2_with fail
    refine (within_no h10 _).mono ?_
    rintro r w1 ⟨rfl, rfl⟩
    go_wp2_with fail
    go_ret
    exact ⟨ret_bool H.out.symm, HW.out⟩
  by_cases h11 : -2147483648 ≤ e.value ∧ e.value ≤ 2147483647
  case neg =>
    have H : Hid (decide (Right e) = false) := Lib.hid (by rw [HR.out]; exact decide_eq_false (by omega))
    clear HR
    go_enter Tryd.func58, Tryd.ntmps58
    go_wp2_with fail
    refine (within_yes h1 _).mono ?_
    rintro r w1 ⟨rfl, rfl⟩
    go_wp2_with fail
    refine (within_yes h4 _).mono ?_
    rintro r w1 ⟨rfl, rfl⟩
    go_wp2_with fail
    refine (within_yes h7 _).mono ?_
    rintro r w1 ⟨rfl, rfl⟩
    go_wp2_with fail
    refine (within_yes h10 _).mono ?_
    rintro r w1 ⟨rfl, rfl⟩
    go_wp2_with fail
    refine (within_no h11 _).mono ?_
    rintro r w1 ⟨rfl, rfl⟩
    go_wp2_with fail
    go_ret
    exact ⟨ret_bool H.out.symm, HW.out⟩
  have H : Hid (decide (Right e) = true) := Lib.hid (by rw [HR.out]; exact decide_eq_true (by omega))
  clear HR
  go_enter Tryd.func58, Tryd.ntmps58
  go_wp2_with fail
  refine (within_yes h1 _).mono ?_
  rintro r w1 ⟨rfl, rfl⟩
  go_wp2_with fail
  refine (within_yes h4 _).mono ?_
  rintro r w1 ⟨rfl, rfl⟩
  go_wp2_with fail
  refine (within_yes h7 _).mono ?_
  rintro r w1 ⟨rfl, rfl⟩
  go_wp2_with fail
  refine (within_yes h10 _).mono ?_
  rintro r w1 ⟨rfl, rfl⟩
  go_wp2_with fail
  refine (within_yes h11 _).mono ?_
  rintro r w1 ⟨rfl, rfl⟩
  go_wp2_with fail
  go_ret
  exact ⟨ret_bool H.out.symm, HW.out⟩
end Go.Proofs.YthcphoijanebhaaDoor
namespace Go.Proofs.YthcphoijanebhaaDoor
open Go.RowKit Go.Maps
set_option linter.unusedVariables false
section
variable {w w' : World} {X : Nat → Prop} {A : Option Addr} {n c : Nat} {l : List Ent} {e : Ent}
theorem isMk_take {k : Nat} {id num : Int} (h : l[k]? = some e) : isMk (l.take (k + 1)) id num = (isMk (l.take k) id num || decide (e.id = id ∧ e.num = num ∧ 1 < e.kind)) := by
  rw [List.take_add_one, h]
  exact isMk_snoc _ _ _ _
theorem isMk_found {k : Nat} {id num : Int} (h : l[k]? = some e) (he : e.id = id ∧ e.num = num ∧ 1 < e.kind) : isMk l id num = true := by
  unfold isMk
  rw [List.any_eq_true]
  exact ⟨e, List.mem_of_getElem? h, decide_eq_true he⟩
set_option maxRecDepth 100000 in
set_option maxHeartbeats 4000000 in
theorem marked_any (h : Rd w X 6 A n (cellsOf l)) (hn : n ≤ 1000000) (id num : Int) : Calls Tryd.prog 59 #[.slice A n c, .int .i64 id, .int .i64 num] w fun r w' => r = .returned (.bool (isMk l id num)) ∧ w = w' := by
  have HLEN := Lib.hid h.lenE
  have HH := Lib.hid h
  clear h
  go_enter Tryd.func59, Tryd.ntmps59
  go_wp2_with fail
  go_loop [7] (fun i => ∃ k : Nat, k ≤ n ∧ i = .int .i64 k ∧ Hid (isMk (l.take k) id num = false)) (fun i => n - (iOf i).toNat)
  case atStart => exact ⟨0, by omega, rfl, Lib.hid rfl⟩
  case round =>
    obtain ⟨k, hk, rfl, HM⟩ := hrel
    by_cases hlt : k < n
    case neg =>
      have hd1 : decide (k < n) = false := by simpa using hlt
      have H : Hid (isMk l id num = false) := Lib.hid (by have := HM.out; rwa [List.take_of_length_le (by have := HLEN.out; omega)] at this)
      go_wp2_with fail
      go_ret
      exact ⟨ret_bool H.out.symm, rfl⟩
    case pos =>
    obtain ⟨e, he⟩ : ∃ e, l[k]? = some e := ⟨_, List.getElem?_eq_getElem (by rw [HLEN.out]; exact hlt)⟩
    obtain ⟨ad, rfl, hadl, -, c0, c1, c2, c3, c4, c5⟩ := HH.out.ent he
    have hd1 : decide (k < n) = true := by simpa using hlt
    have HE := Lib.hid he
    clear he
    have next : ¬ (e.id = id ∧ e.num = num ∧ 1 < e.kind) → Hid (isMk (l.take (k + 1)) id num = false) := fun q => Lib.hid (by rw [isMk_take HE.out, HM.out, decide_eq_false q]; rfl)
    by_cases h1 : e.id = id
    case neg =>
      have b1 := neb h1
      have HN := next (fun q => h1 q.1)
      clear next h1
      go_wp2_with fail
      go_round
      case rel => exact ⟨k + 1, by omega, by go_num, HN⟩
      case measure => simp [iOf]; omega
    case pos =>
    have b1 := eqb h1
    by_cases h2 : e.num = num
    case neg =>
      have b2 := neb h2
      have HN := next (fun q => h2 q.2.1)
      clear next h2 h1
      go_wp2_with fail
      go_round
      case rel => exact ⟨k + 1, by omega, by go_num, HN⟩
      case measure => simp [iOf]; omega
    case pos =>
    have b2 := eqb h2
    by_cases h3 : 1 < e.kind
    case neg =>
      have b3 : decide (1 < e.kind) = false := by simpa using h3
      have HN := next (fun q => h3 q.2.2)
      clear next h2 h1
      go_wp2_with fail
      go_round
      case rel => exact ⟨k + 1, by omega, by go_num, HN⟩
      case measure => simp [iOf]; omega
    case pos =>
    have b3 : decide (1 < e.kind) = true := by simpa using h3
    have H : Hid (isMk l id num = true) := Lib.hid (isMk_found HE.out ⟨h1, h2, h3⟩)
    clear next h2 h1
    go_wp2_with fail
    go_ret
    exact ⟨ret_bool H.out.symm, rfl⟩
end
end Go.Proofs.YthcphoijanebhaaDoor
namespace Go.Proofs.YthcphoijanebhaaDoor
open Go.RowKit Go.Maps
set_option linter.unusedVariables false
def behE (l : List Ent) (e : Ent) : Bool := decide (0 ≤ e.id) && isMk l e.id e.num
section
variable {w w' : World} {X : Nat → Prop} {A : Option Addr} {n c : Nat} {l : List Ent}
set_option maxRecDepth 100000 in
set_option maxHeartbeats 4000000 in
theorem behind_any (h : Rd w X 6 A n (cellsOf l)) (hn : n ≤ 1000000) (e : Ent) : Calls Tryd.prog 39 #[.slice A n c, e.val] w fun r w' => r = .returned (.bool (behE l e)) ∧ Below w.heap.size w w' := by
  have HLEN := Lib.hid h.lenE
  have hal := (Below.refl w.heap.size w).alloc (Nat.le_refl _) (.cells e.cells 45)
  have HB := Lib.hid hal
  have HH := Lib.hid (h.below hal)
  have HBX : Hid (Blk (w.alloc (.cells e.cells 45)) w.heap.size 45 e.cells) := Lib.hid (Blk.new w 45 _)
  clear h hal
  unfold Ent.val
  unfold Ent.cells at HB HH HBX ⊢
  go_enter Tryd.func39, Tryd.ntmps39
  go_wp2_with fail
  generalize w.alloc (.cells #[.int .i64 e.epoch, .int .i64 e.id, .int .i64 e.num, .int .i64 e.seq, .int .i64 e.kind, .int .i64 e.value] 45) = w1 at *
  generalize hbx : w.heap.size = bx at *
  obtain ⟨s0, s1, s2, s3, s4, s5⟩ := HBX.out.six9
  go_loopw [5] (fun i wr => ∃ k : Nat, k ≤ n ∧ i = .int .i64 k ∧ Hid (behE (l.take k) e = false) ∧ ∃ q, wr = w1.drewN q) (fun i _ => n - (iOf i).toNat)
  case atStart => exact ⟨0, by omega, rfl, Lib.hid (by unfold behE; rw [List.take_zero]; simp [isMk]), 0, rfl⟩
  case round =>
    obtain ⟨k, hk, rfl, HM, q, rfl⟩ := hrel
    by_cases hlt : k < n
    case neg =>
      have hd1 : decide (k < n) = false := by simpa using hlt
      have H : Hid (behE l e = false) := Lib.hid (by have := HM.out; rwa [List.take_of_length_le (by have := HLEN.out; omega)] at this)
      go_wp2_with fail
      go_ret
      exact ⟨ret_bool H.out.symm, by rw [hbx]; exact below_drewN HB.out q⟩
    case pos =>
    obtain ⟨d, he⟩ : ∃ d, l[k]? = some d := ⟨_, List.getElem?_eq_getElem (by rw [HLEN.out]; exact hlt)⟩
    obtain ⟨ad, rfl, hadl, -, c0, c1, c2, c3, c4, c5⟩ := HH.out.ent he
    have hd1 : decide (k < n) = true := by simpa using hlt
    have HE := Lib.hid he
    clear he
    have next : ¬ (0 ≤ e.id ∧ d.id = e.id ∧ d.num = e.num ∧ 1 < d.kind) → Hid (behE (l.take (k + 1)) e = false) := fun q => Lib.hid (by
      have hm := HM.out
      unfold behE at hm ⊢
      rw [isMk_take HE.out]
      by_cases h0 : 0 ≤ e.id
      · rw [decide_eq_true h0, Bool.true_and] at hm ⊢
        rw [hm, decide_eq_false (fun h => q ⟨h0, h⟩)]; rfl
      · rw [decide_eq_false h0]; rfl)
    by_cases h0 : 0 ≤ e.id
    case neg =>
      have b0 : decide (0 ≤ e.id) = false := by simpa using h0
      have HN := next (fun q => h0 q.1)
      clear next h0
      go_wp2_with fail
      go_quiet (fail)
      go_wp2_with fail
      go_round
      case rel => exact ⟨k + 1, by omega, by go_num, HN, _, (by first | rfl | rw [World.drewN_drewN])⟩
      case measure => simp [iOf]; omega
    case pos =>
    have b0 : decide (0 ≤ e.id) = true := by simpa using h0
    by_cases h1 : d.id = e.id
    case neg =>
      have b1 := neb h1
      have HN := next (fun q => h1 q.2.1)
      clear next h1 h0
      go_wp2_with fail
      go_quiet (fail)
      go_wp2_with fail
      go_round
      case rel => exact ⟨k + 1, by omega, by go_num, HN, _, (by first | rfl | rw [World.drewN_drewN])⟩
      case measure => simp [iOf]; omega
    case pos =>
    have b1 := eqb h1
    by_cases h2 : d.num = e.num
    case neg =>
      have b2 := neb h2
      have HN := next (fun q => h2 q.2.2.1)
      clear next h2 h1 h0
      go_wp2_with fail
      go_quiet (fail)
      go_wp2_with fail
      go_round
      case rel => exact ⟨k + 1, by omega, by go_num, HN, _, (by first | rfl | rw [World.drewN_drewN])⟩
      case measure => simp [iOf]; omega
    case pos =>
    have b2 := eqb h2
    by_cases h3 : 1 < d.kind
    case neg =>
      have b3 : decide (1 < d.kind) = false := by simpa using h3
      have HN := next (fun q => h3 q.2.2.2)
      clear next h2 h1 h0
      go_wp2_with fail
      go_quiet (fail)
      go_wp2_with fail
      go_round
      case rel => exact ⟨k + 1, by omega, by go_num, HN, _, (by first | rfl | rw [World.drewN_drewN])⟩
      case measure => simp [iOf]; omega
    case pos =>
    have b3 : decide (1 < d.kind) = true := by simpa using h3
    have H : Hid (behE l e = true) := Lib.hid (by unfold behE; rw [b0, isMk_found HE.out ⟨h1, h2, h3⟩]; rfl)
    clear next h2 h1 h0
    go_wp2_with fail
    go_quiet (fail)
    go_wp2_with fail
    go_ret
    exact ⟨ret_bool H.out.symm, by rw [hbx]; first | exact below_drewN HB.out _ | exact below_drewN (below_drewN HB.out _) _⟩
end
end Go.Proofs.YthcphoijanebhaaDoor
namespace Go.Proofs.YthcphoijanebhaaDoor
open Go.RowKit Go.Maps
set_option linter.unusedVariables false
section
variable {w w' : World} {X : Nat → Prop} {A : Option Addr} {n c : Nat} {l : List Ent} {e : Ent}
theorem below_grew {B : Nat} {a V V' : World} {v v' : Value} (hb : Below B a V) (hg : Grew v V v' V') (hv : ∀ g, v.ownBlock = some g → B ≤ g) (hB : B ≤ V.heap.size) : Below B a V' :=
  ⟨hg.1.os.trans hb.os, hg.1.tape.trans hb.tape, hg.1.output.trans hb.output, Nat.le_trans hb.size hg.1.size, fun k hk => (hg.1.block k (by omega) (fun e => by have := hv k e.symm; omega)).trans (hb.block k hk)⟩
/-- What is known behind the document's Append. -/
def RAppP (w : World) (A : Option Addr) (n c : Nat) (l : List Ent) (e : Ent) (r : Ending) (w' : World) : Prop :=
  Below w.heap.size w w' ∧ ((appendE l e ≠ 0 ∧ r = .returned (.tuple #[.slice A n c, .int .i64 (appendE l e)])) ∨
    (appendE l e = 0 ∧ ∃ A' c', r = .returned (.tuple #[.slice A' (n + 1) c', .int .i64 0]) ∧ OwnK w' 45 6 (.slice A' (n + 1) c') (cellsOf (l ++ [e])) ∧ ∀ b, Value.ownBlock (.slice A' (n + 1) c') = some b → w.heap.size ≤ b))
theorem appendE_no (h : ¬ Right e) : appendE l e = 2 := if_neg h
theorem appendE_full (h : Right e) (h2 : 4096 ≤ l.length) : appendE l e = 3 := by unfold appendE; rw [if_pos h, if_pos h2]
theorem appendE_fine (h : Right e) (h2 : ¬ 4096 ≤ l.length) : appendE l e = fallsE l e := by unfold appendE; rw [if_pos h, if_neg h2]
theorem own_is (z b : Nat) (h : Value.ownBlock (.slice (some ⟨z, 0, none⟩) 0 0) = some b) : b = z := by
  have : z = b := by simpa [Value.ownBlock] using h
  exact this.symm
set_option maxRecDepth 100000 in
set_option maxHeartbeats 4000000 in
theorem refAppend_err (h : Rd w X 6 A n (cellsOf l)) (hn : n ≤ 1000000) (hz : appendE l e ≠ 0) : Calls Tryd.prog 37 #[.slice A n c, e.val] w (RAppP w A n c l e) := by
  have hlen := h.lenE
  have hright := right_any e (w.alloc (.cells e.cells 45))
  have HB := Lib.hid ((Below.refl w.heap.size w).alloc (Nat.le_refl _) (.cells e.cells 45))
  have HH := Lib.hid (h.below ((Below.refl w.heap.size w).alloc (Nat.le_refl _) (.cells e.cells 45)))
  have HZ := Lib.hid hz
  clear hz h
  unfold Ent.val at *
  unfold Ent.cells at hright HB HH ⊢
  by_cases h1 : Right e
  case neg =>
    have HE : Hid (appendE l e = 2) := Lib.hid (appendE_no h1)
    rw [decide_eq_false h1] at hright
    clear h1 hlen
    go_enter Tryd.func37, Tryd.ntmps37
    go_wp2_with fail
    refine hright.mono ?_
    rintro r w1 ⟨rfl, hb⟩
    have HB1 := Lib.hid (HB.out.trans (hb.mono HB.out.size))
    clear hb hright
    go_wp2_with fail
    go_ret2
    exact ⟨HB1.out, .inl ⟨HZ.out, by rw [HE.out]; rfl⟩⟩
  case pos =>
  rw [decide_eq_true h1] at hright
  by_cases h2 : 4096 ≤ n
  case pos =>
    have HE : Hid (appendE l e = 3) := Lib.hid (appendE_full h1 (by omega))
    have hd : decide ((4096 : Int) ≤ (n : Int)) = true := decide_eq_true (by omega)
    clear h1 hlen h2
    go_enter Tryd.func37, Tryd.ntmps37
    go_wp2_with fail
    refine hright.mono ?_
    rintro r w1 ⟨rfl, hb⟩
    have HB1 := Lib.hid (HB.out.trans (hb.mono HB.out.size))
    clear hb hright
    go_wp2_with fail
    go_ret2
    exact ⟨HB1.out, .inl ⟨HZ.out, by rw [HE.out]; rfl⟩⟩
  case neg =>
  have hfe := appendE_fine (l := l) h1 (by omega)
  have h3 : e.epoch < lastE l := by
    have hz := HZ.out
    rw [hfe] at hz
    unfold fallsE at hz
    by_cases q : e.epoch < lastE l
    · exact q
    · rw [if_neg q] at hz; exact absurd rfl hz
  have HE : Hid (appendE l e = 180) := Lib.hid (by rw [hfe]; exact if_pos h3)
  have h0 : n ≠ 0 := fun q => by
    have : l = [] := List.eq_nil_of_length_eq_zero (by omega)
    subst this
    unfold Right at h1
    rw [lastE_nil] at h3
    omega
  have hd : decide ((4096 : Int) ≤ (n : Int)) = false := decide_eq_false (by omega)
  have hd0 : decide ((0 : Int) < (n : Int)) = true := decide_eq_true (by omega)
  have hd0' : decide (0 < n) = true := decide_eq_true (by omega)
  obtain ⟨x, hx⟩ : ∃ x, l[l.length - 1]? = some x := ⟨_, List.getElem?_eq_getElem (by omega)⟩
  have h3' : e.epoch < x.epoch := by rwa [lastE_at hx] at h3
  rw [hlen] at hx
  have hd3 : decide (e.epoch < x.epoch) = true := decide_eq_true h3'
  have e1 : IntKind.i64.wrap ((n : Int) - 1) = ((n - 1 : Nat) : Int) := by rw [IntWalk.i64_in _ (by omega)]; omega
  have b1 : ((n - 1 : Nat) : Int) < (n : Int) := by omega
  have b2 : (0 : Int) ≤ ((n - 1 : Nat) : Int) := by omega
  have b4 : n - 1 < n := by omega
  have HX := Lib.hid hx
  clear hfe h3 h3' h1 h2 hlen hx h0
  go_enter Tryd.func37, Tryd.ntmps37
  go_wp2_with fail
  refine hright.mono ?_
  rintro r w1 ⟨rfl, hb⟩
  have HB1 := Lib.hid (HB.out.trans (hb.mono HB.out.size))
  obtain ⟨ad, rfl, hadl, -, c0, -⟩ := (HH.out.below hb).ent HX.out
  obtain ⟨k0, -⟩ := ((Blk.new w 45 #[.int .i64 e.epoch, .int .i64 e.id, .int .i64 e.num, .int .i64 e.seq, .int .i64 e.kind, .int .i64 e.value]).below hb (by simp)).six'
  clear hb hright
  go_wp2_with fail
  go_quiet (fail)
  go_wp2_with fail
  go_ret2
  exact ⟨below_drewN HB1.out _, .inl ⟨HZ.out, by rw [HE.out]; rfl⟩⟩
set_option maxRecDepth 100000 in
set_option maxHeartbeats 4000000 in
theorem refAppend_ok (h : Rd w X 6 A n (cellsOf l)) (hz : appendE l e = 0) : Calls Tryd.prog 37 #[.slice A n c, e.val] w (RAppP w A n c l e) := by
  have HLEN := Lib.hid h.lenE
  obtain ⟨h1, h2⟩ := append_zero hz
  have hright := right_any e (w.alloc (.cells e.cells 45))
  have HB := Lib.hid ((Below.refl w.heap.size w).alloc (Nat.le_refl _) (.cells e.cells 45))
  have HH := Lib.hid (h.below ((Below.refl w.heap.size w).alloc (Nat.le_refl _) (.cells e.cells 45)))
  have HBX : Hid (Blk (w.alloc (.cells e.cells 45)) w.heap.size 45 e.cells) := Lib.hid (Blk.new w 45 _)
  have HRD : Hid (Rd w No 6 A n (cellsOf l)) := Lib.hid (h.wide (fun _ _ h => h.elim))
  have HZ := Lib.hid hz
  have hnf : ¬ e.epoch < lastE l := fun q => by
    rw [appendE_fine h1 (by omega)] at hz
    unfold fallsE at hz
    rw [if_pos q] at hz
    omega
  have HNF := Lib.hid hnf
  have hlt : n < 4096 := by have := HLEN.out; omega
  clear hz h hnf
  unfold Ent.val at *
  unfold Ent.cells at hright HB HH HBX ⊢
  rw [decide_eq_true h1] at hright
  have hd : decide ((4096 : Int) ≤ (n : Int)) = false := decide_eq_false (by omega)
  clear h1 h2
  have tail : ∀ (W1 : World) (Q : Exit → Act → World → Prop) (a : Act), True := fun _ _ _ => trivial
  by_cases h0 : n = 0
  case pos =>
    have hd0 : decide ((0 : Int) < (n : Int)) = false := decide_eq_false (by omega)
    have hd0' : decide (0 < n) = false := decide_eq_false (by omega)
    clear h0
    go_enter Tryd.func37, Tryd.ntmps37
    go_wp2_with fail
    refine hright.mono ?_
    rintro r w1 ⟨rfl, hb⟩
    have HB1 := Lib.hid (HB.out.trans (hb.mono HB.out.size))
    have hbx := HBX.out.below hb (by simp)
    have hH1 := HH.out.below hb
    have HBX1 := Lib.hid hbx
    obtain ⟨k0, -⟩ := hbx.six'
    clear hb hright hH1 hbx
    go_wp2_with fail
    go_quiet (fail)
    have hb : Below w.heap.size w (w1.drewN nq) := below_drewN HB1.out _
    have hHB : Blk (w1.drewN nq) w.heap.size 45 #[.int .i64 e.epoch, .int .i64 e.id, .int .i64 e.num, .int .i64 e.seq, .int .i64 e.kind, .int .i64 e.value] := HBX1.out.drewN _
    have HSR : Hid (w.heap.size ≤ w.heap.size ∧ Blk (w1.drewN nq) w.heap.size 45 #[.int .i64 e.epoch, .int .i64 e.id, .int .i64 e.num, .int .i64 e.seq, .int .i64 e.kind, .int .i64 e.value]) := Lib.hid ⟨Nat.le_refl _, hHB⟩
    clear k0 
    go_wp2_with fail
    generalize w1.drewN nq = w2 at *
    have hHD : Blk w2.drew w.heap.size 45 #[.int .i64 e.epoch, .int .i64 e.id, .int .i64 e.num, .int .i64 e.seq, .int .i64 e.kind, .int .i64 e.value] := hHB
    have hb : Below w.heap.size w w2.drew := hb.drew
    refine wp_region_np ?_
    refine wp_region_held_drew (S := fun W => Blk W w.heap.size 45 #[.int .i64 e.epoch, .int .i64 e.id, .int .i64 e.num, .int .i64 e.seq, .int .i64 e.kind, .int .i64 e.value]) (by kernel_rfl) hHD (fun hHeld => ?_)
    generalize hv0 : w2.drew = V0 at *
    clear hv0
    refine wpAnyH_takeAt (i := 1) (d := 31) (v := ?vq0x) rfl rfl (by kernel_rfl) (by kernel_rfl) (by kernel_rfl) (fun _ _ _ h => h) (Or.inl ⟨by rfl, ?hyq0x⟩) hHeld ?_
    case hyq0x =>
      intro W hSw
      clear hSw
      (go_simp; try with_reducible rfl)
    simp only [List.setIfInBounds_toArray, List.set_cons_zero, List.set_cons_succ]
    refine wpAnyH_takeAt (i := 3) (d := 33) (v := ?vq1x) rfl rfl (by kernel_rfl) (by kernel_rfl) (by kernel_rfl) (fun _ _ _ h => h) (Or.inl ⟨by rfl, ?hyq1x⟩) hHeld ?_
    case hyq1x =>
      intro W hSw
      obtain ⟨b0, b1, b2, b3, b4, b5⟩ := Blk.six' (show Blk W w.heap.size 45 #[.int .i64 e.epoch, .int .i64 e.id, .int .i64 e.num, .int .i64 e.seq, .int .i64 e.kind, .int .i64 e.value] from hSw); clear hSw
      (go_simp; try with_reducible rfl)
    simp only [List.setIfInBounds_toArray, List.set_cons_zero, List.set_cons_succ]
    refine wpAnyH_ready (rs := [0, 4]) (by kernel_rfl) (by simp) (AllReadyH.cons rfl (fun K hK => ?_) (AllReadyH.cons rfl (fun K hK => ?_) AllReadyH.nil))
    · go_simp
      have hO := OwnK.made V0
      have hzO : w.heap.size < V0.heap.size := hHeld.lt
      have hzN : V0.heap.size < (V0.alloc (.cells #[] 45)).heap.size := by simp
      have hb := hb.alloc hb.size (.cells #[] 45)
      refine hK.out _ _ (Blk.alloc hHeld _) (fun hHeld => ?_)
      clear hK K
      generalize V0.alloc (.cells #[] 45) = V1 at *
      refine wpAnyH_ready (rs := [2, 4]) (by kernel_rfl) (by simp) (AllReadyH.cons rfl (fun K hK => ?_) (AllReadyH.cons rfl (fun K hK => ?_) AllReadyH.nil))
      · refine step_append_k el22 (by rfl) (by rfl) _ _ (by rfl) (.slice (some ⟨V0.heap.size, 0, none⟩) 0 0) [] (by rfl) hO No A n c (cellsOf l) (by rfl) (HRD.out.below hb) (by simp) (by omega) ?_
        intro v2 V2 hO2 hg2
        rw [List.nil_append] at hO2
        have hv2 : ∀ b, v2.ownBlock = some b → w.heap.size < b := fun b eb => by
          rcases hg2.2 b eb with h | h
          · have := own_is V0.heap.size b h; omega
          · have := hHeld.lt; omega
        have hb := below_grew hb hg2 (fun b eb => by have := own_is V0.heap.size b eb; omega) hb.size
        refine hK.out _ _ (show Blk V2 w.heap.size 45 #[.int .i64 e.epoch, .int .i64 e.id, .int .i64 e.num, .int .i64 e.seq, .int .i64 e.kind, .int .i64 e.value] from Blk.grown_o hHeld hg2.1 (fun b eb => by have := own_is V0.heap.size b eb; omega)) (fun hHeld => ?_)
        clear hK K
        have hzG := hg2.1.size
        obtain ⟨A2, q2, c2, rfl, -, -, -⟩ := hO2.form
        have hO := hO2
        try simp only [List.setIfInBounds_toArray, List.set_cons_zero, List.set_cons_succ]
        refine wpAnyH_ready (rs := [4]) (by kernel_rfl) (by simp) (AllReadyH.cons rfl (fun K hK => ?_) AllReadyH.nil)
        go_simp
        have hR : Rd (V2.alloc (.cells #[.int .i64 e.epoch, .int .i64 e.id, .int .i64 e.num, .int .i64 e.seq, .int .i64 e.kind, .int .i64 e.value] 45)) (fun b => b = V0.heap.size) 6 (some ⟨V2.heap.size, 0, none⟩) 1 [e.cells] := rd_one V2 45 e.cells rfl (by simp [Ent.cells, Value.oneCell']) (fun h => by have h' : V2.heap.size = V0.heap.size := h; omega)
        have hO := hO.alloc (.cells #[.int .i64 e.epoch, .int .i64 e.id, .int .i64 e.num, .int .i64 e.seq, .int .i64 e.kind, .int .i64 e.value] 45)
        have hb := hb.alloc hb.size (.cells #[.int .i64 e.epoch, .int .i64 e.id, .int .i64 e.num, .int .i64 e.seq, .int .i64 e.kind, .int .i64 e.value] 45)
        have hzM : V2.heap.size < (V2.alloc (.cells #[.int .i64 e.epoch, .int .i64 e.id, .int .i64 e.num, .int .i64 e.seq, .int .i64 e.kind, .int .i64 e.value] 45)).heap.size := by simp
        refine hK.out _ _ (Blk.alloc hHeld _) (fun hHeld => ?_)
        clear hK K
        generalize V2.alloc (.cells #[.int .i64 e.epoch, .int .i64 e.id, .int .i64 e.num, .int .i64 e.seq, .int .i64 e.kind, .int .i64 e.value] 45) = V3 at *
        refine wpAnyH_ready (rs := [5]) (by kernel_rfl) (by simp) (AllReadyH.cons rfl (fun K hK => ?_) AllReadyH.nil)
        refine step_append_k el22 (by rfl) (by rfl) _ _ (by rfl) (.slice A2 q2 c2) (cellsOf l) (by rfl) hO _ _ 1 _ [e.cells] (by rfl) hR (by simp [cellsOf]; have := HLEN.out; omega) (by omega) ?_
        intro v9 V4 hO9 hg9
        have hv9 : ∀ b, v9.ownBlock = some b → w.heap.size ≤ b := fun b eb => by
          rcases hg9.2 b eb with h | h
          · exact Nat.le_of_lt (hv2 b h)
          · have := hb.size; omega
        have hb := below_grew hb hg9 (fun b eb => Nat.le_of_lt (hv2 b eb)) hb.size
        have hHeld9 : Blk V4 w.heap.size 45 #[.int .i64 e.epoch, .int .i64 e.id, .int .i64 e.num, .int .i64 e.seq, .int .i64 e.kind, .int .i64 e.value] := Blk.grown_o hHeld hg9.1 (fun b eb => by have := hv2 b eb; omega)
        refine hK.out _ _ hHeld9 (fun hHeld => ?_)
        clear hK K
        try simp only [List.setIfInBounds_toArray, List.set_cons_zero, List.set_cons_succ]
        refine wpAnyH_takeAt (i := 6) (d := 4) (v := ?vq2x) rfl rfl (by kernel_rfl) (by kernel_rfl) (by kernel_rfl) (fun _ _ _ h => h) (Or.inl ⟨by rfl, ?hyq2x⟩) hHeld ?_
        case hyq2x =>
          intro W hSw
          clear hSw
          (go_simp; try with_reducible rfl)
        simp only [List.setIfInBounds_toArray, List.set_cons_zero, List.set_cons_succ]
        refine wpAnyH_takeAt (i := 7) (d := 5) (v := ?vq3x) rfl rfl (by kernel_rfl) (by kernel_rfl) (by kernel_rfl) (fun _ _ _ h => h) (Or.inl ⟨by rfl, ?hyq3x⟩) hHeld ?_
        case hyq3x =>
          intro W hSw
          clear hSw
          (go_simp; try with_reducible rfl)
        simp only [List.setIfInBounds_toArray, List.set_cons_zero, List.set_cons_succ]
        refine wpAnyH_done (by kernel_rfl) ?_ _
        have hO9' : OwnK V4 45 6 v9 (cellsOf (l ++ [e])) := by unfold cellsOf at hO9 ⊢; rw [List.map_append]; exact hO9
        obtain ⟨A9, q9, c9, rfl, hq9, -, -⟩ := hO9'.form
        have hq9' : q9 = n + 1 := by rw [hq9]; simp [cellsOf]; exact HLEN.out
        clear hq9
        subst hq9'
        have HF : Hid (RAppP w A n c l e (.returned (.tuple #[.slice A9 (n + 1) c9, .int .i64 0])) V4) := Lib.hid ⟨hb, .inr ⟨HZ.out, A9, c9, rfl, hO9', hv9⟩⟩
        clear hO9 hO9' hv9 hb hO hR hv2 hO2 hg2 hg9 hHeld
        go_wp2_with fail
        go_ret2
        exact HF.out
      · go_simp
        have hR : Rd (V1.alloc (.cells #[.int .i64 e.epoch, .int .i64 e.id, .int .i64 e.num, .int .i64 e.seq, .int .i64 e.kind, .int .i64 e.value] 45)) (fun b => b = V0.heap.size) 6 (some ⟨V1.heap.size, 0, none⟩) 1 [e.cells] := rd_one V1 45 e.cells rfl (by simp [Ent.cells, Value.oneCell']) (fun h => by have h' : V1.heap.size = V0.heap.size := h; omega)
        have hO := hO.alloc (.cells #[.int .i64 e.epoch, .int .i64 e.id, .int .i64 e.num, .int .i64 e.seq, .int .i64 e.kind, .int .i64 e.value] 45)
        have hb := hb.alloc hb.size (.cells #[.int .i64 e.epoch, .int .i64 e.id, .int .i64 e.num, .int .i64 e.seq, .int .i64 e.kind, .int .i64 e.value] 45)
        have hzM : V1.heap.size < (V1.alloc (.cells #[.int .i64 e.epoch, .int .i64 e.id, .int .i64 e.num, .int .i64 e.seq, .int .i64 e.kind, .int .i64 e.value] 45)).heap.size := by simp
        refine hK.out _ _ (Blk.alloc hHeld _) (fun hHeld => ?_)
        clear hK K
        generalize V1.alloc (.cells #[.int .i64 e.epoch, .int .i64 e.id, .int .i64 e.num, .int .i64 e.seq, .int .i64 e.kind, .int .i64 e.value] 45) = V2 at *
        refine wpAnyH_ready (rs := [2]) (by kernel_rfl) (by simp) (AllReadyH.cons rfl (fun K hK => ?_) AllReadyH.nil)
        refine step_append_k el22 (by rfl) (by rfl) _ _ (by rfl) (.slice (some ⟨V0.heap.size, 0, none⟩) 0 0) [] (by rfl) hO No A n c (cellsOf l) (by rfl) (HRD.out.below hb) (by simp) (by omega) ?_
        intro v2 V3 hO2 hg2
        rw [List.nil_append] at hO2
        have hR := hR.keep (hg2.turn (S := fun b => b = V0.heap.size) (own_is V0.heap.size)) (fun b _ h => h)
        have hv2 : ∀ b, v2.ownBlock = some b → w.heap.size < b := fun b eb => by
          rcases hg2.2 b eb with h | h
          · have := own_is V0.heap.size b h; omega
          · have := hHeld.lt; omega
        have hb := below_grew hb hg2 (fun b eb => by have := own_is V0.heap.size b eb; omega) hb.size
        refine hK.out _ _ (show Blk V3 w.heap.size 45 #[.int .i64 e.epoch, .int .i64 e.id, .int .i64 e.num, .int .i64 e.seq, .int .i64 e.kind, .int .i64 e.value] from Blk.grown_o hHeld hg2.1 (fun b eb => by have := own_is V0.heap.size b eb; omega)) (fun hHeld => ?_)
        clear hK K
        have hzG := hg2.1.size
        obtain ⟨A2, q2, c2, rfl, -, -, -⟩ := hO2.form
        have hO := hO2
        try simp only [List.setIfInBounds_toArray, List.set_cons_zero, List.set_cons_succ]
        refine wpAnyH_ready (rs := [5]) (by kernel_rfl) (by simp) (AllReadyH.cons rfl (fun K hK => ?_) AllReadyH.nil)
        refine step_append_k el22 (by rfl) (by rfl) _ _ (by rfl) (.slice A2 q2 c2) (cellsOf l) (by rfl) hO _ _ 1 _ [e.cells] (by rfl) hR (by simp [cellsOf]; have := HLEN.out; omega) (by omega) ?_
        intro v9 V4 hO9 hg9
        have hv9 : ∀ b, v9.ownBlock = some b → w.heap.size ≤ b := fun b eb => by
          rcases hg9.2 b eb with h | h
          · exact Nat.le_of_lt (hv2 b h)
          · have := hb.size; omega
        have hb := below_grew hb hg9 (fun b eb => Nat.le_of_lt (hv2 b eb)) hb.size
        have hHeld9 : Blk V4 w.heap.size 45 #[.int .i64 e.epoch, .int .i64 e.id, .int .i64 e.num, .int .i64 e.seq, .int .i64 e.kind, .int .i64 e.value] := Blk.grown_o hHeld hg9.1 (fun b eb => by have := hv2 b eb; omega)
        refine hK.out _ _ hHeld9 (fun hHeld => ?_)
        clear hK K
        try simp only [List.setIfInBounds_toArray, List.set_cons_zero, List.set_cons_succ]
        refine wpAnyH_takeAt (i := 6) (d := 4) (v := ?vq4x) rfl rfl (by kernel_rfl) (by kernel_rfl) (by kernel_rfl) (fun _ _ _ h => h) (Or.inl ⟨by rfl, ?hyq4x⟩) hHeld ?_
        case hyq4x =>
          intro W hSw
          clear hSw
          (go_simp; try with_reducible rfl)
        simp only [List.setIfInBounds_toArray, List.set_cons_zero, List.set_cons_succ]
        refine wpAnyH_takeAt (i := 7) (d := 5) (v := ?vq5x) rfl rfl (by kernel_rfl) (by kernel_rfl) (by kernel_rfl) (fun _ _ _ h => h) (Or.inl ⟨by rfl, ?hyq5x⟩) hHeld ?_
        case hyq5x =>
          intro W hSw
          clear hSw
          (go_simp; try with_reducible rfl)
        simp only [List.setIfInBounds_toArray, List.set_cons_zero, List.set_cons_succ]
        refine wpAnyH_done (by kernel_rfl) ?_ _
        have hO9' : OwnK V4 45 6 v9 (cellsOf (l ++ [e])) := by unfold cellsOf at hO9 ⊢; rw [List.map_append]; exact hO9
        obtain ⟨A9, q9, c9, rfl, hq9, -, -⟩ := hO9'.form
        have hq9' : q9 = n + 1 := by rw [hq9]; simp [cellsOf]; exact HLEN.out
        clear hq9
        subst hq9'
        have HF : Hid (RAppP w A n c l e (.returned (.tuple #[.slice A9 (n + 1) c9, .int .i64 0])) V4) := Lib.hid ⟨hb, .inr ⟨HZ.out, A9, c9, rfl, hO9', hv9⟩⟩
        clear hO9 hO9' hv9 hb hO hR hv2 hO2 hg2 hg9 hHeld
        go_wp2_with fail
        go_ret2
        exact HF.out
    · go_simp
      have hR : Rd (V0.alloc (.cells #[.int .i64 e.epoch, .int .i64 e.id, .int .i64 e.num, .int .i64 e.seq, .int .i64 e.kind, .int .i64 e.value] 45)) No 6 (some ⟨V0.heap.size, 0, none⟩) 1 [e.cells] := rd_one V0 45 e.cells rfl (by simp [Ent.cells, Value.oneCell']) (fun h => h)
      have hb := hb.alloc hb.size (.cells #[.int .i64 e.epoch, .int .i64 e.id, .int .i64 e.num, .int .i64 e.seq, .int .i64 e.kind, .int .i64 e.value] 45)
      have hzM : V0.heap.size < (V0.alloc (.cells #[.int .i64 e.epoch, .int .i64 e.id, .int .i64 e.num, .int .i64 e.seq, .int .i64 e.kind, .int .i64 e.value] 45)).heap.size := by simp
      refine hK.out _ _ (Blk.alloc hHeld _) (fun hHeld => ?_)
      clear hK K
      generalize V0.alloc (.cells #[.int .i64 e.epoch, .int .i64 e.id, .int .i64 e.num, .int .i64 e.seq, .int .i64 e.kind, .int .i64 e.value] 45) = V1 at *
      refine wpAnyH_ready (rs := [0]) (by kernel_rfl) (by simp) (AllReadyH.cons rfl (fun K hK => ?_) AllReadyH.nil)
      go_simp
      have hO := OwnK.made V1
      have hR := ((hR.wide (X' := fun b => b = V1.heap.size) (fun b hb e => by have e' : b = V1.heap.size := e; omega)).alloc (.cells #[] 45))
      have hzO : w.heap.size < V1.heap.size := hHeld.lt
      have hzN : V1.heap.size < (V1.alloc (.cells #[] 45)).heap.size := by simp
      have hb := hb.alloc hb.size (.cells #[] 45)
      refine hK.out _ _ (Blk.alloc hHeld _) (fun hHeld => ?_)
      clear hK K
      generalize V1.alloc (.cells #[] 45) = V2 at *
      refine wpAnyH_ready (rs := [2]) (by kernel_rfl) (by simp) (AllReadyH.cons rfl (fun K hK => ?_) AllReadyH.nil)
      refine step_append_k el22 (by rfl) (by rfl) _ _ (by rfl) (.slice (some ⟨V1.heap.size, 0, none⟩) 0 0) [] (by rfl) hO No A n c (cellsOf l) (by rfl) (HRD.out.below hb) (by simp) (by omega) ?_
      intro v2 V3 hO2 hg2
      rw [List.nil_append] at hO2
      have hR := hR.keep (hg2.turn (S := fun b => b = V1.heap.size) (own_is V1.heap.size)) (fun b _ h => h)
      have hv2 : ∀ b, v2.ownBlock = some b → w.heap.size < b := fun b eb => by
        rcases hg2.2 b eb with h | h
        · have := own_is V1.heap.size b h; omega
        · have := hHeld.lt; omega
      have hb := below_grew hb hg2 (fun b eb => by have := own_is V1.heap.size b eb; omega) hb.size
      refine hK.out _ _ (show Blk V3 w.heap.size 45 #[.int .i64 e.epoch, .int .i64 e.id, .int .i64 e.num, .int .i64 e.seq, .int .i64 e.kind, .int .i64 e.value] from Blk.grown_o hHeld hg2.1 (fun b eb => by have := own_is V1.heap.size b eb; omega)) (fun hHeld => ?_)
      clear hK K
      have hzG := hg2.1.size
      obtain ⟨A2, q2, c2, rfl, -, -, -⟩ := hO2.form
      have hO := hO2
      try simp only [List.setIfInBounds_toArray, List.set_cons_zero, List.set_cons_succ]
      refine wpAnyH_ready (rs := [5]) (by kernel_rfl) (by simp) (AllReadyH.cons rfl (fun K hK => ?_) AllReadyH.nil)
      refine step_append_k el22 (by rfl) (by rfl) _ _ (by rfl) (.slice A2 q2 c2) (cellsOf l) (by rfl) hO _ _ 1 _ [e.cells] (by rfl) hR (by simp [cellsOf]; have := HLEN.out; omega) (by omega) ?_
      intro v9 V4 hO9 hg9
      have hv9 : ∀ b, v9.ownBlock = some b → w.heap.size ≤ b := fun b eb => by
        rcases hg9.2 b eb with h | h
        · exact Nat.le_of_lt (hv2 b h)
        · have := hb.size; omega
      have hb := below_grew hb hg9 (fun b eb => Nat.le_of_lt (hv2 b eb)) hb.size
      have hHeld9 : Blk V4 w.heap.size 45 #[.int .i64 e.epoch, .int .i64 e.id, .int .i64 e.num, .int .i64 e.seq, .int .i64 e.kind, .int .i64 e.value] := Blk.grown_o hHeld hg9.1 (fun b eb => by have := hv2 b eb; omega)
      refine hK.out _ _ hHeld9 (fun hHeld => ?_)
      clear hK K
      try simp only [List.setIfInBounds_toArray, List.set_cons_zero, List.set_cons_succ]
      refine wpAnyH_takeAt (i := 6) (d := 4) (v := ?vq6x) rfl rfl (by kernel_rfl) (by kernel_rfl) (by kernel_rfl) (fun _ _ _ h => h) (Or.inl ⟨by rfl, ?hyq6x⟩) hHeld ?_
      case hyq6x =>
        intro W hSw
        clear hSw
        (go_simp; try with_reducible rfl)
      simp only [List.setIfInBounds_toArray, List.set_cons_zero, List.set_cons_succ]
      refine wpAnyH_takeAt (i := 7) (d := 5) (v := ?vq7x) rfl rfl (by kernel_rfl) (by kernel_rfl) (by kernel_rfl) (fun _ _ _ h => h) (Or.inl ⟨by rfl, ?hyq7x⟩) hHeld ?_
      case hyq7x =>
        intro W hSw
        clear hSw
        (go_simp; try with_reducible rfl)
      simp only [List.setIfInBounds_toArray, List.set_cons_zero, List.set_cons_succ]
      refine wpAnyH_done (by kernel_rfl) ?_ _
      have hO9' : OwnK V4 45 6 v9 (cellsOf (l ++ [e])) := by unfold cellsOf at hO9 ⊢; rw [List.map_append]; exact hO9
      obtain ⟨A9, q9, c9, rfl, hq9, -, -⟩ := hO9'.form
      have hq9' : q9 = n + 1 := by rw [hq9]; simp [cellsOf]; exact HLEN.out
      clear hq9
      subst hq9'
      have HF : Hid (RAppP w A n c l e (.returned (.tuple #[.slice A9 (n + 1) c9, .int .i64 0])) V4) := Lib.hid ⟨hb, .inr ⟨HZ.out, A9, c9, rfl, hO9', hv9⟩⟩
      clear hO9 hO9' hv9 hb hO hR hv2 hO2 hg2 hg9 hHeld
      go_wp2_with fail
      go_ret2
      exact HF.out
  case neg =>
    have hd0 : decide ((0 : Int) < (n : Int)) = true := decide_eq_true (by omega)
    have hd0' : decide (0 < n) = true := decide_eq_true (by omega)
    obtain ⟨x, hx⟩ : ∃ x, l[l.length - 1]? = some x := ⟨_, List.getElem?_eq_getElem (by have := HLEN.out; omega)⟩
    have h3' : ¬ e.epoch < x.epoch := by have := HNF.out; rwa [lastE_at hx] at this
    have hd3 : decide (e.epoch < x.epoch) = false := decide_eq_false h3'
    rw [HLEN.out] at hx
    have e1 : IntKind.i64.wrap ((n : Int) - 1) = ((n - 1 : Nat) : Int) := by rw [IntWalk.i64_in _ (by omega)]; omega
    have b1 : ((n - 1 : Nat) : Int) < (n : Int) := by omega
    have b2 : (0 : Int) ≤ ((n - 1 : Nat) : Int) := by omega
    have b4 : n - 1 < n := by omega
    have HX := Lib.hid hx
    clear h0 hx h3'
    go_enter Tryd.func37, Tryd.ntmps37
    go_wp2_with fail
    refine hright.mono ?_
    rintro r w1 ⟨rfl, hb⟩
    have HB1 := Lib.hid (HB.out.trans (hb.mono HB.out.size))
    have hbx := HBX.out.below hb (by simp)
    have hH1 := HH.out.below hb
    obtain ⟨ad, rfl, hadl, -, c0, -⟩ := hH1.ent HX.out
    have HBX1 := Lib.hid hbx
    obtain ⟨k0, -⟩ := hbx.six'
    clear hb hright hH1 hbx
    go_wp2_with fail
    go_quiet (fail)
    have hb : Below w.heap.size w (w1.drewN nq) := below_drewN HB1.out _
    have hHB : Blk (w1.drewN nq) w.heap.size 45 #[.int .i64 e.epoch, .int .i64 e.id, .int .i64 e.num, .int .i64 e.seq, .int .i64 e.kind, .int .i64 e.value] := HBX1.out.drewN _
    have HSR : Hid (w.heap.size ≤ w.heap.size ∧ Blk (w1.drewN nq) w.heap.size 45 #[.int .i64 e.epoch, .int .i64 e.id, .int .i64 e.num, .int .i64 e.seq, .int .i64 e.kind, .int .i64 e.value]) := Lib.hid ⟨Nat.le_refl _, hHB⟩
    clear k0 c0
    go_wp2_with fail
    generalize w1.drewN nq = w2 at *
    have hHD : Blk w2.drew w.heap.size 45 #[.int .i64 e.epoch, .int .i64 e.id, .int .i64 e.num, .int .i64 e.seq, .int .i64 e.kind, .int .i64 e.value] := hHB
    have hb : Below w.heap.size w w2.drew := hb.drew
    refine wp_region_np ?_
    refine wp_region_held_drew (S := fun W => Blk W w.heap.size 45 #[.int .i64 e.epoch, .int .i64 e.id, .int .i64 e.num, .int .i64 e.seq, .int .i64 e.kind, .int .i64 e.value]) (by kernel_rfl) hHD (fun hHeld => ?_)
    generalize hv0 : w2.drew = V0 at *
    clear hv0
    refine wpAnyH_takeAt (i := 1) (d := 31) (v := ?vq8x) rfl rfl (by kernel_rfl) (by kernel_rfl) (by kernel_rfl) (fun _ _ _ h => h) (Or.inl ⟨by rfl, ?hyq8x⟩) hHeld ?_
    case hyq8x =>
      intro W hSw
      clear hSw
      (go_simp; try with_reducible rfl)
    simp only [List.setIfInBounds_toArray, List.set_cons_zero, List.set_cons_succ]
    refine wpAnyH_takeAt (i := 3) (d := 33) (v := ?vq9x) rfl rfl (by kernel_rfl) (by kernel_rfl) (by kernel_rfl) (fun _ _ _ h => h) (Or.inl ⟨by rfl, ?hyq9x⟩) hHeld ?_
    case hyq9x =>
      intro W hSw
      obtain ⟨b0, b1, b2, b3, b4, b5⟩ := Blk.six' (show Blk W w.heap.size 45 #[.int .i64 e.epoch, .int .i64 e.id, .int .i64 e.num, .int .i64 e.seq, .int .i64 e.kind, .int .i64 e.value] from hSw); clear hSw
      (go_simp; try with_reducible rfl)
    simp only [List.setIfInBounds_toArray, List.set_cons_zero, List.set_cons_succ]
    refine wpAnyH_ready (rs := [0, 4]) (by kernel_rfl) (by simp) (AllReadyH.cons rfl (fun K hK => ?_) (AllReadyH.cons rfl (fun K hK => ?_) AllReadyH.nil))
    · go_simp
      have hO := OwnK.made V0
      have hzO : w.heap.size < V0.heap.size := hHeld.lt
      have hzN : V0.heap.size < (V0.alloc (.cells #[] 45)).heap.size := by simp
      have hb := hb.alloc hb.size (.cells #[] 45)
      refine hK.out _ _ (Blk.alloc hHeld _) (fun hHeld => ?_)
      clear hK K
      generalize V0.alloc (.cells #[] 45) = V1 at *
      refine wpAnyH_ready (rs := [2, 4]) (by kernel_rfl) (by simp) (AllReadyH.cons rfl (fun K hK => ?_) (AllReadyH.cons rfl (fun K hK => ?_) AllReadyH.nil))
      · refine step_append_k el22 (by rfl) (by rfl) _ _ (by rfl) (.slice (some ⟨V0.heap.size, 0, none⟩) 0 0) [] (by rfl) hO No (some ad) n c (cellsOf l) (by rfl) (HRD.out.below hb) (by simp) (by omega) ?_
        intro v2 V2 hO2 hg2
        rw [List.nil_append] at hO2
        have hv2 : ∀ b, v2.ownBlock = some b → w.heap.size < b := fun b eb => by
          rcases hg2.2 b eb with h | h
          · have := own_is V0.heap.size b h; omega
          · have := hHeld.lt; omega
        have hb := below_grew hb hg2 (fun b eb => by have := own_is V0.heap.size b eb; omega) hb.size
        refine hK.out _ _ (show Blk V2 w.heap.size 45 #[.int .i64 e.epoch, .int .i64 e.id, .int .i64 e.num, .int .i64 e.seq, .int .i64 e.kind, .int .i64 e.value] from Blk.grown_o hHeld hg2.1 (fun b eb => by have := own_is V0.heap.size b eb; omega)) (fun hHeld => ?_)
        clear hK K
        have hzG := hg2.1.size
        obtain ⟨A2, q2, c2, rfl, -, -, -⟩ := hO2.form
        have hO := hO2
        try simp only [List.setIfInBounds_toArray, List.set_cons_zero, List.set_cons_succ]
        refine wpAnyH_ready (rs := [4]) (by kernel_rfl) (by simp) (AllReadyH.cons rfl (fun K hK => ?_) AllReadyH.nil)
        go_simp
        have hR : Rd (V2.alloc (.cells #[.int .i64 e.epoch, .int .i64 e.id, .int .i64 e.num, .int .i64 e.seq, .int .i64 e.kind, .int .i64 e.value] 45)) (fun b => b = V0.heap.size) 6 (some ⟨V2.heap.size, 0, none⟩) 1 [e.cells] := rd_one V2 45 e.cells rfl (by simp [Ent.cells, Value.oneCell']) (fun h => by have h' : V2.heap.size = V0.heap.size := h; omega)
        have hO := hO.alloc (.cells #[.int .i64 e.epoch, .int .i64 e.id, .int .i64 e.num, .int .i64 e.seq, .int .i64 e.kind, .int .i64 e.value] 45)
        have hb := hb.alloc hb.size (.cells #[.int .i64 e.epoch, .int .i64 e.id, .int .i64 e.num, .int .i64 e.seq, .int .i64 e.kind, .int .i64 e.value] 45)
        have hzM : V2.heap.size < (V2.alloc (.cells #[.int .i64 e.epoch, .int .i64 e.id, .int .i64 e.num, .int .i64 e.seq, .int .i64 e.kind, .int .i64 e.value] 45)).heap.size := by simp
        refine hK.out _ _ (Blk.alloc hHeld _) (fun hHeld => ?_)
        clear hK K
        generalize V2.alloc (.cells #[.int .i64 e.epoch, .int .i64 e.id, .int .i64 e.num, .int .i64 e.seq, .int .i64 e.kind, .int .i64 e.value] 45) = V3 at *
        refine wpAnyH_ready (rs := [5]) (by kernel_rfl) (by simp) (AllReadyH.cons rfl (fun K hK => ?_) AllReadyH.nil)
        refine step_append_k el22 (by rfl) (by rfl) _ _ (by rfl) (.slice A2 q2 c2) (cellsOf l) (by rfl) hO _ _ 1 _ [e.cells] (by rfl) hR (by simp [cellsOf]; have := HLEN.out; omega) (by omega) ?_
        intro v9 V4 hO9 hg9
        have hv9 : ∀ b, v9.ownBlock = some b → w.heap.size ≤ b := fun b eb => by
          rcases hg9.2 b eb with h | h
          · exact Nat.le_of_lt (hv2 b h)
          · have := hb.size; omega
        have hb := below_grew hb hg9 (fun b eb => Nat.le_of_lt (hv2 b eb)) hb.size
        have hHeld9 : Blk V4 w.heap.size 45 #[.int .i64 e.epoch, .int .i64 e.id, .int .i64 e.num, .int .i64 e.seq, .int .i64 e.kind, .int .i64 e.value] := Blk.grown_o hHeld hg9.1 (fun b eb => by have := hv2 b eb; omega)
        refine hK.out _ _ hHeld9 (fun hHeld => ?_)
        clear hK K
        try simp only [List.setIfInBounds_toArray, List.set_cons_zero, List.set_cons_succ]
        refine wpAnyH_takeAt (i := 6) (d := 4) (v := ?vq10x) rfl rfl (by kernel_rfl) (by kernel_rfl) (by kernel_rfl) (fun _ _ _ h => h) (Or.inl ⟨by rfl, ?hyq10x⟩) hHeld ?_
        case hyq10x =>
          intro W hSw
          clear hSw
          (go_simp; try with_reducible rfl)
        simp only [List.setIfInBounds_toArray, List.set_cons_zero, List.set_cons_succ]
        refine wpAnyH_takeAt (i := 7) (d := 5) (v := ?vq11x) rfl rfl (by kernel_rfl) (by kernel_rfl) (by kernel_rfl) (fun _ _ _ h => h) (Or.inl ⟨by rfl, ?hyq11x⟩) hHeld ?_
        case hyq11x =>
          intro W hSw
          clear hSw
          (go_simp; try with_reducible rfl)
        simp only [List.setIfInBounds_toArray, List.set_cons_zero, List.set_cons_succ]
        refine wpAnyH_done (by kernel_rfl) ?_ _
        have hO9' : OwnK V4 45 6 v9 (cellsOf (l ++ [e])) := by unfold cellsOf at hO9 ⊢; rw [List.map_append]; exact hO9
        obtain ⟨A9, q9, c9, rfl, hq9, -, -⟩ := hO9'.form
        have hq9' : q9 = n + 1 := by rw [hq9]; simp [cellsOf]; exact HLEN.out
        clear hq9
        subst hq9'
        have HF : Hid (RAppP w (some ad) n c l e (.returned (.tuple #[.slice A9 (n + 1) c9, .int .i64 0])) V4) := Lib.hid ⟨hb, .inr ⟨HZ.out, A9, c9, rfl, hO9', hv9⟩⟩
        clear hO9 hO9' hv9 hb hO hR hv2 hO2 hg2 hg9 hHeld
        go_wp2_with fail
        go_ret2
        exact HF.out
      · go_simp
        have hR : Rd (V1.alloc (.cells #[.int .i64 e.epoch, .int .i64 e.id, .int .i64 e.num, .int .i64 e.seq, .int .i64 e.kind, .int .i64 e.value] 45)) (fun b => b = V0.heap.size) 6 (some ⟨V1.heap.size, 0, none⟩) 1 [e.cells] := rd_one V1 45 e.cells rfl (by simp [Ent.cells, Value.oneCell']) (fun h => by have h' : V1.heap.size = V0.heap.size := h; omega)
        have hO := hO.alloc (.cells #[.int .i64 e.epoch, .int .i64 e.id, .int .i64 e.num, .int .i64 e.seq, .int .i64 e.kind, .int .i64 e.value] 45)
        have hb := hb.alloc hb.size (.cells #[.int .i64 e.epoch, .int .i64 e.id, .int .i64 e.num, .int .i64 e.seq, .int .i64 e.kind, .int .i64 e.value] 45)
        have hzM : V1.heap.size < (V1.alloc (.cells #[.int .i64 e.epoch, .int .i64 e.id, .int .i64 e.num, .int .i64 e.seq, .int .i64 e.kind, .int .i64 e.value] 45)).heap.size := by simp
        refine hK.out _ _ (Blk.alloc hHeld _) (fun hHeld => ?_)
        clear hK K
        generalize V1.alloc (.cells #[.int .i64 e.epoch, .int .i64 e.id, .int .i64 e.num, .int .i64 e.seq, .int .i64 e.kind, .int .i64 e.value] 45) = V2 at *
        refine wpAnyH_ready (rs := [2]) (by kernel_rfl) (by simp) (AllReadyH.cons rfl (fun K hK => ?_) AllReadyH.nil)
        refine step_append_k el22 (by rfl) (by rfl) _ _ (by rfl) (.slice (some ⟨V0.heap.size, 0, none⟩) 0 0) [] (by rfl) hO No (some ad) n c (cellsOf l) (by rfl) (HRD.out.below hb) (by simp) (by omega) ?_
        intro v2 V3 hO2 hg2
        rw [List.nil_append] at hO2
        have hR := hR.keep (hg2.turn (S := fun b => b = V0.heap.size) (own_is V0.heap.size)) (fun b _ h => h)
        have hv2 : ∀ b, v2.ownBlock = some b → w.heap.size < b := fun b eb => by
          rcases hg2.2 b eb with h | h
          · have := own_is V0.heap.size b h; omega
          · have := hHeld.lt; omega
        have hb := below_grew hb hg2 (fun b eb => by have := own_is V0.heap.size b eb; omega) hb.size
        refine hK.out _ _ (show Blk V3 w.heap.size 45 #[.int .i64 e.epoch, .int .i64 e.id, .int .i64 e.num, .int .i64 e.seq, .int .i64 e.kind, .int .i64 e.value] from Blk.grown_o hHeld hg2.1 (fun b eb => by have := own_is V0.heap.size b eb; omega)) (fun hHeld => ?_)
        clear hK K
        have hzG := hg2.1.size
        obtain ⟨A2, q2, c2, rfl, -, -, -⟩ := hO2.form
        have hO := hO2
        try simp only [List.setIfInBounds_toArray, List.set_cons_zero, List.set_cons_succ]
        refine wpAnyH_ready (rs := [5]) (by kernel_rfl) (by simp) (AllReadyH.cons rfl (fun K hK => ?_) AllReadyH.nil)
        refine step_append_k el22 (by rfl) (by rfl) _ _ (by rfl) (.slice A2 q2 c2) (cellsOf l) (by rfl) hO _ _ 1 _ [e.cells] (by rfl) hR (by simp [cellsOf]; have := HLEN.out; omega) (by omega) ?_
        intro v9 V4 hO9 hg9
        have hv9 : ∀ b, v9.ownBlock = some b → w.heap.size ≤ b := fun b eb => by
          rcases hg9.2 b eb with h | h
          · exact Nat.le_of_lt (hv2 b h)
          · have := hb.size; omega
        have hb := below_grew hb hg9 (fun b eb => Nat.le_of_lt (hv2 b eb)) hb.size
        have hHeld9 : Blk V4 w.heap.size 45 #[.int .i64 e.epoch, .int .i64 e.id, .int .i64 e.num, .int .i64 e.seq, .int .i64 e.kind, .int .i64 e.value] := Blk.grown_o hHeld hg9.1 (fun b eb => by have := hv2 b eb; omega)
        refine hK.out _ _ hHeld9 (fun hHeld => ?_)
        clear hK K
        try simp only [List.setIfInBounds_toArray, List.set_cons_zero, List.set_cons_succ]
        refine wpAnyH_takeAt (i := 6) (d := 4) (v := ?vq12x) rfl rfl (by kernel_rfl) (by kernel_rfl) (by kernel_rfl) (fun _ _ _ h => h) (Or.inl ⟨by rfl, ?hyq12x⟩) hHeld ?_
        case hyq12x =>
          intro W hSw
          clear hSw
          (go_simp; try with_reducible rfl)
        simp only [List.setIfInBounds_toArray, List.set_cons_zero, List.set_cons_succ]
        refine wpAnyH_takeAt (i := 7) (d := 5) (v := ?vq13x) rfl rfl (by kernel_rfl) (by kernel_rfl) (by kernel_rfl) (fun _ _ _ h => h) (Or.inl ⟨by rfl, ?hyq13x⟩) hHeld ?_
        case hyq13x =>
          intro W hSw
          clear hSw
          (go_simp; try with_reducible rfl)
        simp only [List.setIfInBounds_toArray, List.set_cons_zero, List.set_cons_succ]
        refine wpAnyH_done (by kernel_rfl) ?_ _
        have hO9' : OwnK V4 45 6 v9 (cellsOf (l ++ [e])) := by unfold cellsOf at hO9 ⊢; rw [List.map_append]; exact hO9
        obtain ⟨A9, q9, c9, rfl, hq9, -, -⟩ := hO9'.form
        have hq9' : q9 = n + 1 := by rw [hq9]; simp [cellsOf]; exact HLEN.out
        clear hq9
        subst hq9'
        have HF : Hid (RAppP w (some ad) n c l e (.returned (.tuple #[.slice A9 (n + 1) c9, .int .i64 0])) V4) := Lib.hid ⟨hb, .inr ⟨HZ.out, A9, c9, rfl, hO9', hv9⟩⟩
        clear hO9 hO9' hv9 hb hO hR hv2 hO2 hg2 hg9 hHeld
        go_wp2_with fail
        go_ret2
        exact HF.out
    · go_simp
      have hR : Rd (V0.alloc (.cells #[.int .i64 e.epoch, .int .i64 e.id, .int .i64 e.num, .int .i64 e.seq, .int .i64 e.kind, .int .i64 e.value] 45)) No 6 (some ⟨V0.heap.size, 0, none⟩) 1 [e.cells] := rd_one V0 45 e.cells rfl (by simp [Ent.cells, Value.oneCell']) (fun h => h)
      have hb := hb.alloc hb.size (.cells #[.int .i64 e.epoch, .int .i64 e.id, .int .i64 e.num, .int .i64 e.seq, .int .i64 e.kind, .int .i64 e.value] 45)
      have hzM : V0.heap.size < (V0.alloc (.cells #[.int .i64 e.epoch, .int .i64 e.id, .int .i64 e.num, .int .i64 e.seq, .int .i64 e.kind, .int .i64 e.value] 45)).heap.size := by simp
      refine hK.out _ _ (Blk.alloc hHeld _) (fun hHeld => ?_)
      clear hK K
      generalize V0.alloc (.cells #[.int .i64 e.epoch, .int .i64 e.id, .int .i64 e.num, .int .i64 e.seq, .int .i64 e.kind, .int .i64 e.value] 45) = V1 at *
      refine wpAnyH_ready (rs := [0]) (by kernel_rfl) (by simp) (AllReadyH.cons rfl (fun K hK => ?_) AllReadyH.nil)
      go_simp
      have hO := OwnK.made V1
      have hR := ((hR.wide (X' := fun b => b = V1.heap.size) (fun b hb e => by have e' : b = V1.heap.size := e; omega)).alloc (.cells #[] 45))
      have hzO : w.heap.size < V1.heap.size := hHeld.lt
      have hzN : V1.heap.size < (V1.alloc (.cells #[] 45)).heap.size := by simp
      have hb := hb.alloc hb.size (.cells #[] 45)
      refine hK.out _ _ (Blk.alloc hHeld _) (fun hHeld => ?_)
      clear hK K
      generalize V1.alloc (.cells #[] 45) = V2 at *
      refine wpAnyH_ready (rs := [2]) (by kernel_rfl) (by simp) (AllReadyH.cons rfl (fun K hK => ?_) AllReadyH.nil)
      refine step_append_k el22 (by rfl) (by rfl) _ _ (by rfl) (.slice (some ⟨V1.heap.size, 0, none⟩) 0 0) [] (by rfl) hO No (some ad) n c (cellsOf l) (by rfl) (HRD.out.below hb) (by simp) (by omega) ?_
      intro v2 V3 hO2 hg2
      rw [List.nil_append] at hO2
      have hR := hR.keep (hg2.turn (S := fun b => b = V1.heap.size) (own_is V1.heap.size)) (fun b _ h => h)
      have hv2 : ∀ b, v2.ownBlock = some b → w.heap.size < b := fun b eb => by
        rcases hg2.2 b eb with h | h
        · have := own_is V1.heap.size b h; omega
        · have := hHeld.lt; omega
      have hb := below_grew hb hg2 (fun b eb => by have := own_is V1.heap.size b eb; omega) hb.size
      refine hK.out _ _ (show Blk V3 w.heap.size 45 #[.int .i64 e.epoch, .int .i64 e.id, .int .i64 e.num, .int .i64 e.seq, .int .i64 e.kind, .int .i64 e.value] from Blk.grown_o hHeld hg2.1 (fun b eb => by have := own_is V1.heap.size b eb; omega)) (fun hHeld => ?_)
      clear hK K
      have hzG := hg2.1.size
      obtain ⟨A2, q2, c2, rfl, -, -, -⟩ := hO2.form
      have hO := hO2
      try simp only [List.setIfInBounds_toArray, List.set_cons_zero, List.set_cons_succ]
      refine wpAnyH_ready (rs := [5]) (by kernel_rfl) (by simp) (AllReadyH.cons rfl (fun K hK => ?_) AllReadyH.nil)
      refine step_append_k el22 (by rfl) (by rfl) _ _ (by rfl) (.slice A2 q2 c2) (cellsOf l) (by rfl) hO _ _ 1 _ [e.cells] (by rfl) hR (by simp [cellsOf]; have := HLEN.out; omega) (by omega) ?_
      intro v9 V4 hO9 hg9
      have hv9 : ∀ b, v9.ownBlock = some b → w.heap.size ≤ b := fun b eb => by
        rcases hg9.2 b eb with h | h
        · exact Nat.le_of_lt (hv2 b h)
        · have := hb.size; omega
      have hb := below_grew hb hg9 (fun b eb => Nat.le_of_lt (hv2 b eb)) hb.size
      have hHeld9 : Blk V4 w.heap.size 45 #[.int .i64 e.epoch, .int .i64 e.id, .int .i64 e.num, .int .i64 e.seq, .int .i64 e.kind, .int .i64 e.value] := Blk.grown_o hHeld hg9.1 (fun b eb => by have := hv2 b eb; omega)
      refine hK.out _ _ hHeld9 (fun hHeld => ?_)
      clear hK K
      try simp only [List.setIfInBounds_toArray, List.set_cons_zero, List.set_cons_succ]
      refine wpAnyH_takeAt (i := 6) (d := 4) (v := ?vq14x) rfl rfl (by kernel_rfl) (by kernel_rfl) (by kernel_rfl) (fun _ _ _ h => h) (Or.inl ⟨by rfl, ?hyq14x⟩) hHeld ?_
      case hyq14x =>
        intro W hSw
        clear hSw
        (go_simp; try with_reducible rfl)
      simp only [List.setIfInBounds_toArray, List.set_cons_zero, List.set_cons_succ]
      refine wpAnyH_takeAt (i := 7) (d := 5) (v := ?vq15x) rfl rfl (by kernel_rfl) (by kernel_rfl) (by kernel_rfl) (fun _ _ _ h => h) (Or.inl ⟨by rfl, ?hyq15x⟩) hHeld ?_
      case hyq15x =>
        intro W hSw
        clear hSw
        (go_simp; try with_reducible rfl)
      simp only [List.setIfInBounds_toArray, List.set_cons_zero, List.set_cons_succ]
      refine wpAnyH_done (by kernel_rfl) ?_ _
      have hO9' : OwnK V4 45 6 v9 (cellsOf (l ++ [e])) := by unfold cellsOf at hO9 ⊢; rw [List.map_append]; exact hO9
      obtain ⟨A9, q9, c9, rfl, hq9, -, -⟩ := hO9'.form
      have hq9' : q9 = n + 1 := by rw [hq9]; simp [cellsOf]; exact HLEN.out
      clear hq9
      subst hq9'
      have HF : Hid (RAppP w (some ad) n c l e (.returned (.tuple #[.slice A9 (n + 1) c9, .int .i64 0])) V4) := Lib.hid ⟨hb, .inr ⟨HZ.out, A9, c9, rfl, hO9', hv9⟩⟩
      clear hO9 hO9' hv9 hb hO hR hv2 hO2 hg2 hg9 hHeld
      go_wp2_with fail
      go_ret2
      exact HF.out
end
end Go.Proofs.YthcphoijanebhaaDoor
namespace Go.Proofs.YthcphoijanebhaaDoor
open Go.RowKit Go.Maps
set_option linter.unusedVariables false
section
variable {w w' : World} {X : Nat → Prop} {S : Nat → Prop} {A : Option Addr} {g n c : Nat} {l : List Ent} {e : Ent}
/-- A log of our own, in a world that differs from w only in blocks made since. -/
def LogV (w : World) (l : List Ent) (v : Value) (W : World) : Prop := ∃ A c, v = .slice A l.length c ∧ OwnK W 45 6 v (cellsOf l) ∧ (∀ b, v.ownBlock = some b → w.heap.size ≤ b) ∧ Below w.heap.size w W
theorem LogV.nil_ {W : World} (hb : Below w.heap.size w W) : LogV w [] (.slice none 0 0) W := ⟨none, 0, rfl, OwnK.nil _ _ _, ⟨fun b h => (nomatch h), hb⟩⟩
theorem LogV.low {v : Value} {W W' : World} (h : LogV w l v W) (hb : Below W.heap.size W W') : LogV w l v W' := by
  obtain ⟨A, c, e, h1, h2, h3⟩ := h
  exact ⟨A, c, e, h1.below hb, h2, h3.trans (hb.mono h3.size)⟩
theorem LogV.below {v : Value} {W : World} (h : LogV w l v W) : Below w.heap.size w W := by
  obtain ⟨A, c, e, h1, h2, h3⟩ := h
  exact h3
theorem LogV.rd {W : World} (h : LogV w l (.slice A n c) W) : Rd W No 6 A n (cellsOf l) := by
  obtain ⟨A', c', e, h1, h2, h3⟩ := h
  exact h1.rd (fun _ _ h => h)
/-- The document's Append on a log of our own. -/
theorem refApp_any {W : World} {v : Value} (h : LogV w l v W) (hl : l.length ≤ 1000000) (e : Ent) : Calls Tryd.prog 37 #[v, e.val] W fun r W' => ∃ v', r = .returned (.tuple #[v', .int .i64 (appendE l e)]) ∧ LogV w (keep1 l e) v' W' ∧ Below W.heap.size W W' := by
  obtain ⟨A, c, rfl, h1, h2, h3⟩ := h
  by_cases hz : appendE l e = 0
  · refine (refAppend_ok (c := c) (h1.rd (X := No) (fun _ _ h => h)) hz).mono ?_
    rintro r W' ⟨hb, h⟩
    rcases h with ⟨h0, -⟩ | ⟨-, A', c', rfl, hO, hv⟩
    · exact absurd hz h0
    · rw [hz]
      unfold keep1
      rw [if_pos hz]
      exact ⟨_, rfl, ⟨A', c', by simp, hO, fun b eb => Nat.le_trans h3.size (hv b eb), h3.trans (hb.mono h3.size)⟩, hb⟩
  · refine (refAppend_err (c := c) (h1.rd (X := No) (fun _ _ h => h)) hl hz).mono ?_
    rintro r W' ⟨hb, h⟩
    rcases h with ⟨-, rfl⟩ | ⟨h0, -⟩
    · unfold keep1
      rw [if_neg hz]
      exact ⟨_, rfl, ⟨A, c, rfl, h1.below hb, h2, h3.trans (hb.mono h3.size)⟩, hb⟩
    · exact absurd h0 hz
set_option maxRecDepth 100000 in
set_option maxHeartbeats 8000000 in
theorem refRight_any (hr : Rd w X 6 A n (cellsOf l)) (hn : n ≤ 1000000) : Calls Tryd.prog 14 #[.slice A n c] w fun r w' => r = .returned (.bool (decide (allE [] l = 0))) ∧ Below w.heap.size w w' := by
  have HLEN := Lib.hid hr.lenE
  have HR := Lib.hid hr
  clear hr
  go_enter Tryd.func14, Tryd.ntmps14
  go_wp2_with fail
  go_loopw [3, 4] (fun o i wv => ∃ k : Nat, k ≤ n ∧ i = .int .i64 k ∧ LogV w (l.take k) o wv ∧ allE [] (l.take k) = 0) (fun o i _ => n - (iOf i).toNat)
  case atStart => exact ⟨0, by omega, rfl, LogV.nil_ (Below.refl _ _), by simp [allE]⟩
  case round =>
    obtain ⟨k, hk, rfl, hL, hz0⟩ := hrel
    have HZ := Lib.hid hz0
    clear hz0
    by_cases hlt : k < n
    case neg =>
      have hd1 : decide (k < n) = false := by simpa using hlt
      have hta : l.take k = l := List.take_of_length_le (by have := HLEN.out; omega)
      have HF : Hid (decide (allE [] l = 0) = true ∧ Below w.heap.size w wr) := Lib.hid ⟨by have := HZ.out; rw [hta] at this; exact decide_eq_true this, hL.below⟩
      clear hL hta
      go_wp2_with fail
      go_ret
      exact ⟨by rw [HF.out.1]; rfl, HF.out.2⟩
    case pos =>
      obtain ⟨e, he⟩ : ∃ e, l[k]? = some e := ⟨_, List.getElem?_eq_getElem (by rw [HLEN.out]; exact hlt)⟩
      obtain ⟨ad, rfl, hadl, -, c0, c1, c2, c3, c4, c5⟩ := (HR.out.below hL.below).ent he
      have hd1 : decide (k < n) = true := by simpa using hlt
      have hap := refApp_any hL (by have := List.length_take_le k l; omega) e
      have HL := Lib.hid hL
      have HE := Lib.hid he
      clear he hL
      unfold Ent.val Ent.cells at hap
      go_wp2_with fail
      refine hap.mono ?_
      rintro r w2 ⟨v2, rfl, hL2, hb2⟩
      have HL2 := Lib.hid hL2
      have HST := Lib.hid (allE_stop HE.out HZ.out)
      have HTK := Lib.hid (allE_take HE.out HZ.out)
      clear hap hL2 hb2 c0 c1 c2 c3 c4 c5
      by_cases hz : appendE (l.take k) e = 0
      case pos =>
        have hz1 := eqn hz
        have HI6 : Hid (LogV w (l.take (k + 1)) v2 w2 ∧ allE [] (l.take (k + 1)) = 0) := Lib.hid (by
          have h6 := HL2.out
          have hkk : keep1 (l.take k) e = l.take (k + 1) := by unfold keep1; rw [if_pos hz, List.take_add_one, HE.out]; rfl
          rw [hkk] at h6
          exact ⟨h6, by rw [HTK.out]; exact hz⟩)
        clear hz
        go_wp2_with fail
        go_round
        case rel => exact ⟨k + 1, by omega, by go_num, HI6.out⟩
        case measure => simp [iOf]; omega
      case neg =>
        have hz1 := nen hz
        have HF : Hid (decide (allE [] l = 0) = false ∧ Below w.heap.size w w2) := Lib.hid ⟨decide_eq_false (by rw [HST.out hz]; exact hz), HL2.out.below⟩
        clear hz
        go_wp2_with fail
        go_ret
        exact ⟨by rw [HF.out.1]; rfl, HF.out.2⟩
end
end Go.Proofs.YthcphoijanebhaaDoor
namespace Go.Proofs.YthcphoijanebhaaDoor
open Go.RowKit Go.Maps
set_option linter.unusedVariables false
section
variable {w w' : World} {X : Nat → Prop} {A : Option Addr} {n c : Nat} {l : List Ent} {e : Ent}
theorem op_take (mk : Int → Bool) (id : Int) {k : Nat} (h : l[k]? = some e) : op mk id (l.take (k + 1)) = if e.id = id ∧ e.kind = 1 ∧ mk e.num = false ∧ e.num ∉ keys (op mk id (l.take k)) then op mk id (l.take k) ++ [(e.num, k)] else op mk id (l.take k) := by
  have : l.take (k + 1) = l.take k ++ [e] := by rw [List.take_add_one, h]; rfl
  have hk : (l.take k).length = k := by
    have := (List.getElem?_eq_some_iff.1 h).1
    rw [List.length_take]; omega
  rw [this, op_snoc, hk]
theorem op_len (mk : Int → Bool) (id : Int) (l : List Ent) : (op mk id l).length ≤ l.length := by
  induction l using snoc_induction with
  | h0 => exact Nat.le_refl _
  | h1 l e ih =>
    rw [op_snoc]
    split <;> simp <;> omega
/-- A new slice of open transactions. -/
def NewO (w : World) (o : List (Int × Nat)) (r : Ending) (w' : World) : Prop :=
  ∃ A c, r = .returned (.slice A o.length c) ∧ OwnK w' 77 2 (.slice A o.length c) (opsOf o) ∧ (∀ b, Value.ownBlock (.slice A o.length c) = some b → w.heap.size ≤ b) ∧ Below w.heap.size w w'
/-- Between two rounds. -/
def OpI (w : World) (o : List (Int × Nat)) (v : Value) (W : World) : Prop := OwnK W 77 2 v (opsOf o) ∧ (∀ b, v.ownBlock = some b → w.heap.size ≤ b) ∧ Below w.heap.size w W
theorem OpI.low {o : List (Int × Nat)} {v : Value} {W W' : World} (h : OpI w o v W) (hb : Below W.heap.size W W') : OpI w o v W' := ⟨h.1.below hb, h.2.1, h.2.2.trans (hb.mono h.2.2.size)⟩
theorem keys_take_succ {o : List (Int × Nat)} {j : Nat} {p : Int × Nat} (h : o[j]? = some p) (k : Int) : k ∈ keys (o.take (j + 1)) ↔ k ∈ keys (o.take j) ∨ p.1 = k := by
  rw [List.take_add_one, h]
  unfold keys
  simp only [Option.toList_some, List.map_append, List.map_cons, List.map_nil, List.mem_append, List.mem_singleton]
  exact ⟨fun q => q.imp id Eq.symm, fun q => q.imp id Eq.symm⟩
set_option maxRecDepth 100000 in
set_option maxHeartbeats 4000000 in
theorem refOpens_any (h : Rd w X 6 A n (cellsOf l)) (hn : n ≤ 5000) (id : Int) : Calls Tryd.prog 38 #[.slice A n c, .int .i64 id] w (NewO w (opens l id)) := by
  have HLEN := Lib.hid h.lenE
  have HH := Lib.hid h
  clear h
  go_enter Tryd.func38, Tryd.ntmps38
  go_wp2_with fail
  go_loopw [5, 6] (fun v i wv => ∃ k : Nat, k ≤ n ∧ i = .int .i64 k ∧ OpI w (op (isMk l id) id (l.take k)) v wv) (fun _ i _ => n - (iOf i).toNat)
  case atStart => exact ⟨0, by omega, rfl, OwnK.nil _ 77 2, fun b eb => (by cases eb), Below.refl _ _⟩
  case round =>
    obtain ⟨k, hk, rfl, hI⟩ := hrel
    obtain ⟨Av, cv, rfl, hv1, hv2⟩ := hI.1.formO
    have HI := Lib.hid hI
    clear hI
    by_cases hlt : k < n
    case neg =>
      have hd1 : decide (k < n) = false := by simpa using hlt
      have H : Hid (op (isMk l id) id (l.take k) = opens l id) := Lib.hid (by rw [List.take_of_length_le (by have := HLEN.out; omega)]; rfl)
      go_wp2_with fail
      go_ret
      have hi := HI.out
      rw [H.out] at hi
      exact ⟨Av, cv, by rw [H.out]; rfl, hi.1, hi.2.1, hi.2.2⟩
    case pos =>
    obtain ⟨e, he⟩ : ∃ e, l[k]? = some e := ⟨_, List.getElem?_eq_getElem (by rw [HLEN.out]; exact hlt)⟩
    obtain ⟨ad, rfl, hadl, -, c0, c1, c2, c3, c4, c5⟩ := (HH.out.below HI.out.2.2).ent he
    have hd1 : decide (k < n) = true := by simpa using hlt
    have HN := Lib.hid (op_take (isMk l id) id he)
    have hol : (op (isMk l id) id (l.take k)).length ≤ 5000 := by have := op_len (isMk l id) id (l.take k); rw [List.length_take] at this; omega
    have HBE : Hid (Below wr.heap.size wr (wr.alloc (.cells #[.int .i64 e.epoch, .int .i64 e.id, .int .i64 e.num, .int .i64 e.seq, .int .i64 e.kind, .int .i64 e.value] 45))) := Lib.hid ((Below.refl _ _).alloc (Nat.le_refl _) _)
    have hmk := marked_any (c := c) ((HH.out.below HI.out.2.2).below HBE.out) (by omega) id e.num
    clear he
    generalize ho' : op (isMk l id) id (l.take (k + 1)) = o' at *
    generalize op (isMk l id) id (l.take k) = o at *
    have HO' := Lib.hid ho'
    clear ho'
    have stay : ¬ (e.id = id ∧ e.kind = 1 ∧ isMk l id e.num = false ∧ e.num ∉ keys o) → ∀ q, Hid (OpI w o' (.slice Av o.length cv) ((wr.alloc (.cells #[.int .i64 e.epoch, .int .i64 e.id, .int .i64 e.num, .int .i64 e.seq, .int .i64 e.kind, .int .i64 e.value] 45)).drewN q)) := fun z q => Lib.hid (by
      rw [HN.out, if_neg z]
      exact (HI.out.low HBE.out).low (below_drewN (Below.refl _ _) q))
    by_cases h1 : e.id = id
    case neg =>
      have b1 := nen h1
      have HS := stay (fun q => h1 q.1) 0
      clear stay h1 hmk
      go_wp2_with fail
      go_roundw
      case rel => exact ⟨k + 1, by omega, by go_num, by rw [HO'.out]; exact HS.out⟩
      case measure => simp [iOf]; omega
    case pos =>
    have b1 := eqn h1
    have H1 := Lib.hid h1
    clear h1
    by_cases h2 : e.kind = 1
    case neg =>
      have b2 := nen h2
      have HS := stay (fun q => h2 q.2.1) 0
      clear stay h2 hmk
      go_wp2_with fail
      go_roundw
      case rel => exact ⟨k + 1, by omega, by go_num, by rw [HO'.out]; exact HS.out⟩
      case measure => simp [iOf]; omega
    case pos =>
    have b2 := eqn h2
    have H2 := Lib.hid h2
    clear h2
    by_cases h3 : isMk l id e.num = true
    case pos =>
      have HS := stay (fun q => by rw [h3] at q; exact absurd q.2.2.1 (by simp)) 0
      rw [h3] at hmk
      clear stay h3
      go_wp2_with fail
      refine hmk.mono ?_
      rintro r w2 ⟨rfl, rfl⟩
      clear hmk
      go_wp2_with fail
      go_roundw
      case rel => exact ⟨k + 1, by omega, by go_num, by rw [HO'.out]; exact HS.out⟩
      case measure => simp [iOf]; omega
    case neg =>
    have h3' : isMk l id e.num = false := by simpa using h3
    have H3 := Lib.hid h3'
    rw [h3'] at hmk
    clear h3 h3'
    go_wp2_with fail
    refine hmk.mono ?_
    rintro r w2 ⟨rfl, rfl⟩
    clear hmk
    have hI5 := HI.out.low HBE.out
    have hB5 := Blk.new wr 45 #[.int .i64 e.epoch, .int .i64 e.id, .int .i64 e.num, .int .i64 e.seq, .int .i64 e.kind, .int .i64 e.value]
    clear c0 c1 c2 c3 c4 c5
    go_wp2_with fail
    generalize wr.alloc (.cells #[.int .i64 e.epoch, .int .i64 e.id, .int .i64 e.num, .int .i64 e.seq, .int .i64 e.kind, .int .i64 e.value] 45) = w5 at *
    generalize wr.heap.size = z5 at *
    have HI5 := Lib.hid hI5
    have HB5 := Lib.hid hB5
    have HST := Lib.hid stay
    clear hI5 hB5 stay
    go_loopw [8, 9] (fun t j wv => ∃ i q : Nat, i ≤ o.length ∧ j = .int .i64 i ∧ t = .bool (decide (e.num ∈ keys (o.take i))) ∧ wv = w5.drewN q) (fun _ j _ => o.length - (iOf j).toNat)
    case atStart => exact ⟨0, 0, by omega, rfl, by simp [keys], rfl⟩
    case round =>
      obtain ⟨i, q, hi, rfl, rfl, rfl⟩ := hrel
      by_cases hli : i < o.length
      case pos =>
        obtain ⟨p, hp⟩ : ∃ p, o[i]? = some p := ⟨_, List.getElem?_eq_getElem hli⟩
        have hd2 : decide (i < o.length) = true := by simpa using hli
        have HK := Lib.hid (keys_take_succ hp e.num)
        by_cases hth : e.num ∈ keys (o.take i)
        case pos =>
          have HD : Hid (decide (e.num ∈ keys (o.take (i + 1))) = true) := Lib.hid (decide_eq_true (HK.out.2 (.inl hth)))
          rw [decide_eq_true hth]
          clear hth hp
          go_wp2_with fail
          go_quiet (fail)
          go_wp2_with fail
          go_roundw
          case rel => exact ⟨i + 1, _, by omega, by go_num, by rw [HD.out], rfl⟩
          case measure => simp [iOf]; omega
        case neg =>
          rw [decide_eq_false hth]
          have hrd := HI5.out.1.rd (X := No) (fun _ _ h => h)
          obtain ⟨a5, e5, -, -, r0, r1⟩ := hrd.load (i := i) (cs := opA p) (by unfold opsOf; rw [List.getElem?_map, hp]; rfl)
          have r0 := r0 (.int .i64 p.1) rfl
          obtain ⟨s0, s1, s2, s3, s4, s5⟩ := HB5.out.six'
          subst e5
          by_cases hpe : p.1 = e.num
          case pos =>
            have HD : Hid (decide (e.num ∈ keys (o.take (i + 1))) = true) := Lib.hid (decide_eq_true (HK.out.2 (.inr hpe)))
            have hpb := eqb hpe
            clear hth hp hpe hrd
            go_wp2_with fail
            go_quiet (fail)
            go_wp2_with fail
            go_roundw
            case rel => exact ⟨i + 1, _, by omega, by go_num, by rw [HD.out], (by first | rfl | rw [World.drewN_drewN])⟩
            case measure => simp [iOf]; omega
          case neg =>
            have HD : Hid (decide (e.num ∈ keys (o.take (i + 1))) = false) := Lib.hid (decide_eq_false (fun q => (HK.out.1 q).elim hth hpe))
            have hpb := neb hpe
            clear hth hp hpe hrd
            go_wp2_with fail
            go_quiet (fail)
            go_wp2_with fail
            go_roundw
            case rel => exact ⟨i + 1, _, by omega, by go_num, by rw [HD.out], (by first | rfl | rw [World.drewN_drewN])⟩
            case measure => simp [iOf]; omega
      case neg =>
        have hd2 : decide (i < o.length) = false := by simpa using hli
        obtain rfl : i = o.length := by omega
        rw [List.take_length]
        by_cases hth : e.num ∈ keys o
        case pos =>
          rw [decide_eq_true hth]
          have HS := HST.out (fun z => z.2.2.2 hth) q
          clear hth
          go_wp2_with fail
          go_roundw
          case rel => exact ⟨k + 1, by omega, by go_num, by rw [HO'.out]; exact HS.out⟩
          case measure => simp [iOf]; omega
        case neg =>
          rw [decide_eq_false hth]
          have HN' : Hid (o' = o ++ [(e.num, k)]) := Lib.hid (by rw [HN.out, if_pos ⟨H1.out, H2.out, H3.out, hth⟩])
          obtain ⟨s0, s1, s2, s3, s4, s5⟩ := (show Blk (w5.drewN q) z5 45 #[.int .i64 e.epoch, .int .i64 e.id, .int .i64 e.num, .int .i64 e.seq, .int .i64 e.kind, .int .i64 e.value] from HB5.out).six'
          have HIq := Lib.hid (HI5.out.low (below_drewN (Below.refl _ _) q))
          clear hth
          generalize w5.drewN q = w6 at *
          go_wp2_with (at_builtin; refine stop ?_)
          refine Stop.go (wpList_append_k el39 _ (by rfl) _ _ (by rfl) (.slice Av o.length cv) (opsOf o) (by rfl) (HIq.out.1.alloc _) No _ 1 _ [opA (e.num, k)] (by rfl) (rd_one w6 77 (opA (e.num, k)) rfl (by simp [opA, Value.oneCell']) (fun h => h)) (by simp [opsOf]; omega) (by omega) ?_)
          intro v9 w9 ho9 hg9
          have HF : Hid (OpI w o' v9 w9) := Lib.hid (by
            rw [HN'.out]
            refine ⟨by unfold opsOf at ho9 ⊢; rw [List.map_append]; exact ho9, fun b eb => ?_, ?_⟩
            · rcases hg9.2 b eb with h | h
              · exact HIq.out.2.1 b h
              · have := HIq.out.2.2.size; simp at h; omega
            · exact below_grew (HIq.out.2.2.alloc HIq.out.2.2.size _) hg9 HIq.out.2.1 (Nat.le_trans HIq.out.2.2.size (by simp)))
          clear ho9 hg9 s0 s1 s2 s3 s4 s5
          go_wp2_with fail
          go_roundw
          case rel => exact ⟨k + 1, by omega, by go_num, by rw [HO'.out]; exact HF.out⟩
          case measure => simp [iOf]; omega
end
end Go.Proofs.YthcphoijanebhaaDoor
namespace Go.Proofs.YthcphoijanebhaaDoor
open Go.RowKit Go.Maps
set_option linter.unusedVariables false
def lowest (n : Nat) (o : List (Int × Nat)) : Nat := o.foldl (fun a p => min a p.2) n
theorem lowest_cons (n : Nat) (p : Int × Nat) (o : List (Int × Nat)) : lowest n (p :: o) = lowest (min n p.2) o := rfl
theorem lowest_is {o : List (Int × Nat)} : ∀ {n q : Nat}, q ≤ n → (∀ p ∈ o, q ≤ p.2) → (q = n ∨ ∃ p ∈ o, q = p.2) → lowest n o = q := by
  induction o with
  | nil =>
    intro n q _ _ h
    rcases h with h | ⟨p, hp, _⟩
    · exact h.symm
    · cases hp
  | cons a o ih =>
    intro n q h1 h2 h3
    rw [lowest_cons]
    have ha := h2 a (by simp)
    refine ih (by omega) (fun p hp => h2 p (by simp [hp])) ?_
    rcases h3 with h | ⟨p, hp, h⟩
    · left; omega
    · rcases List.mem_cons.1 hp with rfl | hp
      · left; omega
      · exact .inr ⟨p, hp, h⟩
def stab (l : List Ent) : Nat → Nat
  | 0 => l.length
  | k + 1 => lowest (stab l k) (wr (k : Int) l).opens
theorem lowest_le (o : List (Int × Nat)) : ∀ n, lowest n o ≤ n := by
  induction o with
  | nil => intro n; exact Nat.le_refl _
  | cons a o ih => intro n; rw [lowest_cons]; have := ih (min n a.2); omega
theorem stab_le (l : List Ent) : ∀ k, stab l k ≤ l.length
  | 0 => Nat.le_refl _
  | k + 1 => Nat.le_trans (lowest_le _ _) (stab_le l k)
theorem find_mem' {k : Int} {i : Nat} : ∀ {l : List (Int × Nat)}, find l k = some i → (k, i) ∈ l
  | [], h => by cases h
  | p :: l, h => by
    unfold find at h
    by_cases e : p.1 = k
    · rw [if_pos e] at h
      injection h with h
      subst h e
      simp
    · rw [if_neg e] at h
      exact List.mem_cons_of_mem _ (find_mem' h)
theorem mem_find {k : Int} {i : Nat} : ∀ {l : List (Int × Nat)}, l.Pairwise (fun a b => a.1 ≠ b.1) → (k, i) ∈ l → find l k = some i
  | [], _, h => by cases h
  | p :: l, hp, h => by
    rw [List.pairwise_cons] at hp
    unfold find
    rcases List.mem_cons.1 h with rfl | h
    · rw [if_pos rfl]
    · rw [if_neg (hp.1 _ h), mem_find hp.2 h]
end Go.Proofs.YthcphoijanebhaaDoor
namespace Go.Proofs.YthcphoijanebhaaDoor
open Go.RowKit Go.Maps
set_option linter.unusedVariables false
section
variable {w w' : World} {X : Nat → Prop} {A : Option Addr} {n c : Nat} {l : List Ent} {e : Ent}
theorem lowest_snoc (n : Nat) (o : List (Int × Nat)) (p : Int × Nat) : lowest n (o ++ [p]) = min (lowest n o) p.2 := by
  unfold lowest; rw [List.foldl_append]; rfl
theorem lowest_take {o : List (Int × Nat)} {i : Nat} {p : Int × Nat} (h : o[i]? = some p) (n : Nat) : lowest n (o.take (i + 1)) = min (lowest n (o.take i)) p.2 := by
  rw [List.take_add_one, h]; exact lowest_snoc _ _ _
set_option maxRecDepth 100000 in
set_option maxHeartbeats 4000000 in
theorem refStable_any (h : Rd w X 6 A n (cellsOf l)) (hn : n ≤ 5000) (hr : AllR l) : Calls Tryd.prog 18 #[.slice A n c] w fun r w' => r = .returned (.int .i64 (stab l 4 : Int)) ∧ Below w.heap.size w w' := by
  have hlen := h.lenE
  have HH := Lib.hid h
  have HR := Lib.hid hr
  have hs0 : (n : Int) = (stab l 0 : Int) := by rw [← hlen]; rfl
  have HS0 := Lib.hid hs0
  clear h hr hlen hs0
  go_enter Tryd.func18, Tryd.ntmps18
  go_wp2_with fail
  go_loopw [3, 4] (fun s i wv => ∃ k : Nat, k ≤ 4 ∧ i = .int .i64 k ∧ s = .int .i64 (stab l k : Int) ∧ Below w.heap.size w wv) (fun _ i _ => 4 - (iOf i).toNat)
  case atStart => exact ⟨0, by omega, rfl, by rw [HS0.out], Below.refl _ _⟩
  case round =>
    obtain ⟨k, hk, rfl, rfl, hb⟩ := hrel
    have HB := Lib.hid hb
    clear hb
    by_cases hlt : k < 4
    case neg =>
      have hd1 : decide ((k : Int) < 4) = false := by simpa using (by omega : ¬ (k : Int) < 4)
      obtain rfl : k = 4 := by omega
      go_wp2_with fail
      go_ret
      exact ⟨rfl, HB.out⟩
    case pos =>
    have hd1 : decide ((k : Int) < 4) = true := by simpa using (by omega : (k : Int) < 4)
    have hcall := refOpens_any (c := c) (HH.out.below HB.out) hn (k : Int)
    have HST : Hid (stab l (k + 1) = lowest (stab l k) (opens l (k : Int))) := Lib.hid (by
      show lowest (stab l k) (Go.Proofs.YthcphoijanebhaaDoor.wr (k : Int) l).opens = _
      rw [wr_opens HR.out])
    generalize stab l k = s0 at *
    go_wp2_with fail
    refine hcall.mono ?_
    rintro r w2 ⟨A2, c2, rfl, hO, hv, hb2⟩
    have HO := Lib.hid hO
    have HB2 := Lib.hid (HB.out.trans (hb2.mono HB.out.size))
    clear hcall hO hv hb2
    generalize opens l (k : Int) = o at *
    go_wp2_with fail
    have hol : o.length ≤ maxLen := by
      obtain ⟨Aq, cq, e1, h1, h2⟩ := HO.out.formO
      omega
    have hol2 : o.length ≤ 9223372036854775807 := by unfold maxLen at hol; omega
    clear hol
    go_loop [3, 6] (fun s i => ∃ j : Nat, j ≤ o.length ∧ i = .int .i64 j ∧ s = .int .i64 (lowest s0 (o.take j) : Int)) (fun _ i => o.length - (iOf i).toNat)
    case atStart => exact ⟨0, by omega, rfl, rfl⟩
    case round =>
      obtain ⟨j, hj, rfl, rfl⟩ := hrel
      by_cases hlj : j < o.length
      case pos =>
        have hd2 : decide (j < o.length) = true := by simpa using hlj
        obtain ⟨p, hp⟩ : ∃ p, o[j]? = some p := ⟨_, List.getElem?_eq_getElem hlj⟩
        obtain ⟨a5, e5, -, -, -, r1⟩ := (HO.out.rd (X := No) (fun _ _ h => h)).load (i := j) (cs := opA p) (by unfold opsOf; rw [List.getElem?_map, hp]; rfl)
        have r1 := r1 0 (.int .i64 (p.2 : Int)) rfl
        subst e5
        have HL := Lib.hid (lowest_take hp s0)
        generalize lowest s0 (o.take j) = q at *
        obtain ⟨r, hr5⟩ : ∃ r : Nat, min q p.2 = r := ⟨_, rfl⟩
        have hmin : min (q : Int) (p.2 : Int) = (r : Int) := by omega
        have HR5 := Lib.hid hr5
        clear hp hr5
        go_wp2_with fail
        go_round
        case rel => exact ⟨j + 1, by omega, by go_num, by rw [HL.out, HR5.out]⟩
        case measure => simp [iOf]; omega
      case neg =>
        have hd2 : decide (j < o.length) = false := by simpa using hlj
        obtain rfl : j = o.length := by omega
        have HE : Hid (lowest s0 (o.take o.length) = stab l (k + 1)) := Lib.hid (by rw [List.take_length, HST.out])
        go_wp2_with fail
        go_roundw
        case rel => exact ⟨k + 1, by omega, by go_num, by rw [HE.out], HB2.out⟩
        case measure => simp [iOf]; omega
end
end Go.Proofs.YthcphoijanebhaaDoor
