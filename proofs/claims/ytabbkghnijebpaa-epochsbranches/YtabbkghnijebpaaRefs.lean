/-
  What the document's Fits, End and Cut answer. Conditions: bounds.
-/
import Derived.Test.YtabbkghnijebpaaAsks
namespace Go.Proofs.Ytabbkghnijebpaa
open Go.RowKit
set_option maxRecDepth 100000 in
set_option maxHeartbeats 4000000 in
theorem refFits_any {w : World} {X : Nat → Prop} {A : Option Addr} {n c : Nat} {f : Nat → Int × Int} (h : Lg w X A n f) (hc : n ≤ 1000000000) (m : Int) (hm : 0 ≤ m) (ep : Int) :
    Calls Try.prog 22 #[.slice A n c, .int .i64 m, .int .i64 ep] w fun e w' => e = .returned (.bool (decide (Fits (fun i => (f i).1) n m.toNat ep))) ∧ w = w' := by
  obtain ⟨k, rfl⟩ := Int.eq_ofNat_of_zero_le hm
  have e0 : ((k : Int)).toNat = k := by simp
  rw [e0]
  rcases Nat.eq_zero_or_pos k with h0 | h0
  · subst h0
    have HE : Hid (decide (Fits (fun i => (f i).1) n 0 ep) = (ep == 0)) := Lib.hid (by
      unfold Fits lastTo
      simp
      rw [Bool.eq_iff_iff]
      simp
      exact ⟨fun h => h.symm, fun h => h.symm⟩)
    clear h e0
    go_enter Try.func22, Try.ntmps22
    go_wp2_with fail
    go_ret
    refine ⟨ret_bool ?_, rfl⟩
    rw [HE.out]
  obtain ⟨j, rfl⟩ : ∃ j, k = j + 1 := ⟨k - 1, by omega⟩
  by_cases hle : j + 1 ≤ n
  case pos =>
    obtain ⟨ad, rfl, hl, -, c0, -⟩ := h.at_ (k := j) (by omega)
    have HE : Hid (decide (Fits (fun i => (f i).1) n (j + 1) ep) = ((f j).1 == ep)) := Lib.hid (by
      unfold Fits lastTo
      rw [Bool.eq_iff_iff]
      simp
      omega)
    clear h e0
    go_enter Try.func22, Try.ntmps22
    go_wp2_with fail
    go_ret
    refine ⟨ret_bool ?_, rfl⟩
    rw [HE.out]
  case neg =>
    have HE : Hid (decide (Fits (fun i => (f i).1) n (j + 1) ep) = false) := Lib.hid (by
      rw [decide_eq_false_iff_not]
      exact fun h => hle h.1)
    clear h e0
    go_enter Try.func22, Try.ntmps22
    go_wp2_with fail
    go_ret
    refine ⟨ret_bool ?_, rfl⟩
    rw [HE.out]
theorem nab_succ_yes {E : Nat → Int} {e : Int} {n : Nat} (h : E n ≤ e) : nab E e (n + 1) = n + 1 := by conv => lhs; unfold nab
                                                                                                       rw [if_pos h]
theorem nab_succ_no {E : Nat → Int} {e : Int} {n : Nat} (h : ¬ E n ≤ e) : nab E e (n + 1) = nab E e n := by conv => lhs; unfold nab
                                                                                                            rw [if_neg h]
set_option maxRecDepth 100000 in
set_option maxHeartbeats 4000000 in
theorem refEnd_any {w : World} {X : Nat → Prop} {A : Option Addr} {n c : Nat} {f : Nat → Int × Int} (h : Lg w X A n f) (hc : n ≤ 1000000000) (ep : Int) :
    Calls Try.prog 19 #[.slice A n c, .int .i64 ep] w fun e w' => e = .returned (.tuple #[.int .i64 (lastTo (fun i => (f i).1) (nab (fun i => (f i).1) ep n)), .int .i64 (nab (fun i => (f i).1) ep n : Int)]) ∧ w = w' := by
  have HH := Lib.hid h
  clear h
  go_enter Try.func19, Try.ntmps19
  go_wp2_with fail
  go_loopw [6, 7, 8] (fun x y i wr => ∃ k : Nat, k ≤ n ∧ i = .int .i64 k ∧ x = .int .i64 (lastTo (fun i => (f i).1) (nab (fun i => (f i).1) ep k)) ∧ y = .int .i64 (nab (fun i => (f i).1) ep k : Int) ∧ w = wr) (fun _ _ i _ => n - (intOf i).toNat)
  case atStart => exact ⟨0, by omega, rfl, rfl, rfl, rfl⟩
  case round =>
    obtain ⟨k, hk, rfl, rfl, rfl, rfl⟩ := hrel
    by_cases hlt : k < n
    case neg =>
      have hd1 : decide (k < n) = false := by simpa using hlt
      obtain rfl : k = n := by omega
      go_wp2_with fail
      go_ret2
      exact ⟨rfl, rfl⟩
    case pos =>
    obtain ⟨ad, rfl, hl, -, c0, -⟩ := HH.out.at_ hlt
    by_cases hle : (f k).1 ≤ ep
    case pos =>
      have HN : Hid (nab (fun i => (f i).1) ep (k + 1) = k + 1) := Lib.hid (nab_succ_yes hle)
      generalize nab (fun i => (f i).1) ep k = m
      go_wp2_with fail
      go_roundw
      case rel =>
        refine ⟨k + 1, by omega, by go_num, ?_, ?_, by first | rfl | trivial⟩
        · rw [HN.out]; rfl
        · rw [HN.out]; go_num
      case measure => simp [intOf]; omega
    case neg =>
      have HN : Hid (nab (fun i => (f i).1) ep (k + 1) = nab (fun i => (f i).1) ep k) := Lib.hid (nab_succ_no hle)
      go_wp2_with fail
      go_roundw
      case rel =>
        refine ⟨k + 1, by omega, by go_num, ?_, ?_, by first | rfl | trivial⟩
        · rw [HN.out]
        · rw [HN.out]
      case measure => simp [intOf]; omega
set_option maxRecDepth 100000 in
set_option maxHeartbeats 4000000 in
theorem refCut_any {w : World} {X : Nat → Prop} {A : Option Addr} {n c : Nat} {f : Nat → Int × Int} (h : Lg w X A n f) (hc : n ≤ 1000000000) (ep m : Int) (hm : 0 ≤ m) :
    Calls Try.prog 23 #[.slice A n c, .int .i64 ep, .int .i64 m] w fun e w' => e = .returned (.int .i64 (nab (fun i => (f i).1) ep (min n m.toNat) : Int)) ∧ w = w' := by
  have HH := Lib.hid h
  clear h
  go_enter Try.func23, Try.ntmps23
  go_wp2_with fail
  go_loopw [7, 8] (fun y i wr => ∃ k : Nat, k ≤ n ∧ (k : Int) ≤ m ∧ i = .int .i64 k ∧ y = .int .i64 (nab (fun i => (f i).1) ep k : Int) ∧ w = wr) (fun _ i _ => n - (intOf i).toNat)
  case atStart => exact ⟨0, by omega, by omega, rfl, rfl, rfl⟩
  case round =>
    obtain ⟨k, hk, hkm, rfl, rfl, rfl⟩ := hrel
    by_cases hlt : k < n
    case neg =>
      have hd1 : decide (k < n) = false := by simpa using hlt
      have HE : Hid (min n m.toNat = k) := Lib.hid (by omega)
      go_wp2_with fail
      go_ret
      refine ⟨ret_i64 ?_, rfl⟩
      rw [HE.out]
    case pos =>
    by_cases hlm : (k : Int) < m
    case neg =>
      have hd1 : decide ((k : Int) < m) = false := by simpa using hlm
      have HE : Hid (min n m.toNat = k) := Lib.hid (by omega)
      go_wp2_with fail
      go_ret
      refine ⟨ret_i64 ?_, rfl⟩
      rw [HE.out]
    case pos =>
    obtain ⟨ad, rfl, hl, -, c0, -⟩ := HH.out.at_ hlt
    by_cases hle : (f k).1 ≤ ep
    case pos =>
      have HN : Hid (nab (fun i => (f i).1) ep (k + 1) = k + 1) := Lib.hid (nab_succ_yes hle)
      generalize nab (fun i => (f i).1) ep k = y
      go_wp2_with fail
      go_roundw
      case rel =>
        refine ⟨k + 1, by omega, by omega, by go_num, ?_, by first | rfl | trivial⟩
        rw [HN.out]; go_num
      case measure => simp [intOf]; omega
    case neg =>
      have HN : Hid (nab (fun i => (f i).1) ep (k + 1) = nab (fun i => (f i).1) ep k) := Lib.hid (nab_succ_no hle)
      go_wp2_with fail
      go_roundw
      case rel =>
        refine ⟨k + 1, by omega, by omega, by go_num, ?_, by first | rfl | trivial⟩
        rw [HN.out]
      case measure => simp [intOf]; omega
end Go.Proofs.Ytabbkghnijebpaa
