/-
  Whether a log may be, as the document says it. Conditions: bounds.
-/
import Derived.Test.YtabbkghnijebpaaMay
namespace Go.Proofs.Ytabbkghnijebpaa
open Go.RowKit
theorem below_drewN {B : Nat} {a w : World} (h : Below B a w) (n : Nat) : Below B a (w.drewN n) := ⟨h.os, h.tape, h.output, h.size, h.block⟩
theorem least_pos {E : Nat → Int} {k : Nat} (h : Good E k) : 1 ≤ least E k := by
  unfold least
  split
  · exact Int.le_refl _
  · exact (h (k - 1) (by omega)).1
set_option maxRecDepth 100000 in
set_option maxHeartbeats 4000000 in
theorem refMay_any {w : World} {X : Nat → Prop} {A : Option Addr} {n c : Nat} {f : Nat → Int × Int} (h : Lg w X A n f) (hc : n ≤ 1000000000) :
    Calls Try.prog 11 #[.slice A n c] w fun e w' => e = .returned (.bool (decide (May (fun i => (f i).1) n))) ∧ Below w.heap.size w w' := by
  have HH := Lib.hid h
  clear h
  go_enter Try.func11, Try.ntmps11
  go_wp2_with fail
  go_loopw [3] (fun i wr => ∃ k : Nat, k ≤ n ∧ i = .int .i64 k ∧ Hid (Good (fun i => (f i).1) k) ∧ Below w.heap.size w wr) (fun i _ => n - (intOf i).toNat)
  case atStart => exact ⟨0, by omega, rfl, Lib.hid (fun i hi => by omega), Below.refl _ _⟩
  case round =>
    obtain ⟨k, hk, rfl, hgd, hb⟩ := hrel
    by_cases hlt : k < n
    case neg =>
      have hd1 : decide (k < n) = false := by simpa using hlt
      have HD : Hid (decide (May (fun i => (f i).1) n) = decide ((n : Int) ≤ 4096)) := Lib.hid (by
        obtain rfl : k = n := by omega
        rw [decide_eq_decide]
        exact ⟨fun h => by have := h.1; omega, fun h => ⟨by omega, hgd.out⟩⟩)
      go_wp2_with fail
      go_ret
      refine ⟨ret_bool ?_, hb⟩
      rw [HD.out]
    case pos =>
    obtain ⟨ad, rfl, hl, -, c0, -⟩ := (HH.out.below hb).at_ hlt
    have HB := Lib.hid hb
    have HM := Lib.hid (good_succ hgd.out)
    have HP := Lib.hid (least_pos hgd.out)
    have HL : Hid (0 < k → least (fun i => (f i).1) k = (f (k - 1)).1) := Lib.hid (fun h => by unfold least; rw [if_neg (by omega)])
    clear hb
    by_cases h1 : (f k).1 < 1
    case pos =>
      have h1' : decide ((f k).1 < 1) = true := by simpa using h1
      have HD : Hid (decide (May (fun i => (f i).1) n) = false) := Lib.hid (may_false (k := k + 1) (fun g => by have q := (g k (by omega)).1; simp at q; omega) (by omega))
      go_wp2_with fail
      go_quiet (fail)
      go_wp2_with fail
      go_ret
      exact ⟨by rw [HD.out]; rfl, below_drewN HB.out _⟩
    case neg =>
    have h1' : decide ((f k).1 < 1) = false := by simpa using h1
    by_cases h2 : 2147483647 < (f k).1
    case pos =>
      have h2' : decide (2147483647 < (f k).1) = true := by simpa using h2
      have HD : Hid (decide (May (fun i => (f i).1) n) = false) := Lib.hid (may_false (k := k + 1) (fun g => by have q := (g k (by omega)).2.1; simp at q; omega) (by omega))
      go_wp2_with fail
      go_quiet (fail)
      go_wp2_with fail
      go_ret
      exact ⟨by rw [HD.out]; rfl, below_drewN HB.out _⟩
    case neg =>
    have h2' : decide (2147483647 < (f k).1) = false := by simpa using h2
    rcases Nat.eq_zero_or_pos k with h0 | h0
    · have HG : Hid (Good (fun i => (f i).1) (k + 1)) := Lib.hid (HM.out.2 ⟨by unfold least; rw [if_pos h0]; show 1 ≤ (f k).1; omega, by show (f k).1 ≤ 2147483647; omega⟩)
      subst h0
      have c0' : wr.cell? ad = some (.int .i64 (f 0).1) := by simpa [Addr.add] using c0
      go_wp2_with fail
      go_quiet (fail)
      go_wp2_with fail
      go_roundw
      case rel => exact ⟨0 + 1, by omega, by go_num, HG, below_drewN HB.out _⟩
      case measure => simp [intOf]; omega
    obtain ⟨m, rfl⟩ : ∃ m, k = m + 1 := ⟨k - 1, by omega⟩
    obtain ⟨ad', had, -, -, d0, -⟩ := (HH.out.below HB.out).at_ (k := m) (by omega)
    injection had with had
    subst had
    have h0' : decide (0 < m + 1) = true := by simp
    by_cases h3 : (f (m + 1)).1 < (f m).1
    case pos =>
      have h3' : decide ((f (m + 1)).1 < (f m).1) = true := by simpa using h3
      have HD : Hid (decide (May (fun i => (f i).1) n) = false) := Lib.hid (may_false (k := m + 1 + 1) (fun g => by have q := (g (m + 1) (by omega)).2.2 (by omega); simp at q; omega) (by omega))
      go_wp2_with fail
      go_quiet (fail)
      go_wp2_with fail
      go_ret
      exact ⟨by rw [HD.out]; rfl, below_drewN HB.out _⟩
    case neg =>
    have h3' : decide ((f (m + 1)).1 < (f m).1) = false := by simpa using h3
    have HG : Hid (Good (fun i => (f i).1) (m + 1 + 1)) := Lib.hid (HM.out.2 ⟨by unfold least; rw [if_neg (by omega)]; show (f m).1 ≤ (f (m + 1)).1; omega, by show (f (m + 1)).1 ≤ 2147483647; omega⟩)
    go_wp2_with fail
    go_quiet (fail)
    go_wp2_with fail
    go_roundw
    case rel => exact ⟨m + 1 + 1, by omega, by go_num, HG, below_drewN HB.out _⟩
    case measure => simp [intOf]; omega
end Go.Proofs.Ytabbkghnijebpaa
