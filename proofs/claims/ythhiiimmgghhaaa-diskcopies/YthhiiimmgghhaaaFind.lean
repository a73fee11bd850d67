/-
  The document's Find and Used: the place of a name among files, and how many bytes they have.
-/
import Derived.Test.YthhiiimmgghhaaaDone2
namespace Go.Proofs.Ythhiiimmgghhaaa
open Go.RowKit
/-- The place of the first file of a name. -/
def atF (m : Bs) : FL → Option Nat
  | [] => none
  | p :: l => if p.1 = m then some 0 else (atF m l).map (· + 1)
def atI (m : Bs) (l : FL) : Int := match atF m l with
  | some k => (k : Int)
  | none => -1
theorem atF_find (m : Bs) : ∀ (l : FL), (∀ k, atF m l = some k → ∃ h : k < l.length, l[k].1 = m ∧ find l m = some l[k].2) ∧ (atF m l = none → find l m = none)
  | [] => ⟨fun k e => (by cases e), fun _ => rfl⟩
  | (n, b) :: l => by
    obtain ⟨h1, h2⟩ := atF_find m l
    unfold atF find
    by_cases h : n = m
    · rw [if_pos h, if_pos h]
      exact ⟨fun k e => (by cases e; exact ⟨by simp, h, rfl⟩), fun e => by cases e⟩
    · rw [if_neg h, if_neg h]
      refine ⟨fun k e => ?_, fun e => ?_⟩
      · cases hk : atF m l with
        | none => rw [hk] at e; cases e
        | some j =>
          rw [hk] at e
          cases e
          obtain ⟨g, g1, g2⟩ := h1 j hk
          exact ⟨by simp; omega, g1, g2⟩
      · cases hk : atF m l with
        | none => exact h2 hk
        | some j => rw [hk] at e; cases e
theorem atF_lt {m : Bs} {l : FL} {k : Nat} (h : atF m l = some k) : k < l.length := ((atF_find m l).1 k h).1
set_option maxRecDepth 100000 in
set_option maxHeartbeats 4000000 in
theorem refFind_any {w : World} {X : Nat → Prop} {A : Option Addr} {n c : Nat} {l : FL} (h : RFs w X A n l) (m : Bs) (hc : n ≤ 1000000000) :
    Calls Try.prog 32 #[.slice A n c, .string (str m)] w fun e w' => e = .returned (.int .i64 (atI m l)) ∧ w = w' := by
  have hl := h.len
  have HH := Lib.hid h
  have HL := Lib.hid hl
  clear h hl
  go_enter Try.func32, Try.ntmps32
  go_wp2_with fail
  go_loopw [5] (fun i wr => ∃ k : Nat, k ≤ n ∧ i = .int .i64 k ∧ Hid (atF m l = (atF m (l.drop k)).map (· + k)) ∧ w = wr) (fun i _ => n - (intOf i).toNat)
  case atStart => exact ⟨0, by omega, rfl, Lib.hid (by simp), rfl⟩
  case round =>
    obtain ⟨k, hk, rfl, hd, rfl⟩ := hrel

    by_cases hlt : k < n
    case neg =>
      have hd1 : decide (k < n) = false := by simpa using hlt
      have HE : Hid (atI m l = -1) := Lib.hid (by
        unfold atI
        rw [hd.out, List.drop_eq_nil_of_le (by have := HL.out; omega)]
        rfl)
      go_wp2_with fail
      go_ret
      exact ⟨by rw [HE.out]; rfl, (by first | rfl | trivial)⟩
    case pos =>
    have hk1 : k < l.length := by have := HL.out; omega
    have hbw : Below w.heap.size w w := Below.refl _ _
    obtain ⟨ad, B1, q1, c1, rfl, ha1, -, s0, s1, hy1, hq1, hc1⟩ := (HH.out.below hbw).at_ hk1
    have HD : Hid (atF m (l.drop k) = if l[k].1 = m then some 0 else (atF m (l.drop (k + 1))).map (· + 1)) := Lib.hid (by
      conv => lhs; rw [drop_cons hk1]
      rfl)
    clear hy1
    by_cases hn : l[k].1 = m
    · have heq : ((str l[k].1).toList == (str m).toList) = true := by rw [hn]; simp
      have HE : Hid (atI m l = (k : Int)) := Lib.hid (by
        unfold atI
        rw [hd.out, HD.out, if_pos hn]
        simp)
      clear hn
      go_wp2_with fail
      go_ret
      exact ⟨by rw [HE.out]; rfl, (by first | rfl | trivial)⟩
    · have heq : ((str l[k].1).toList == (str m).toList) = false := by rw [str_beq]; simpa using hn
      have HE : Hid (atF m l = (atF m (l.drop (k + 1))).map (· + (k + 1))) := Lib.hid (by
        rw [hd.out, HD.out, if_neg hn]
        cases atF m (l.drop (k + 1)) with
        | none => rfl
        | some j => simp; omega)
      clear hn
      go_wp2_with fail
      exact ⟨⟨k + 1, by omega, by go_num, HE, (by first | rfl | trivial)⟩, by simp [intOf]; omega⟩
theorem total_app (a b : FL) : total (a ++ b) = total a + total b := by
  unfold total
  rw [List.map_append, List.sum_append]
theorem total_take (l : FL) {k : Nat} (h : k < l.length) : total (l.take (k + 1)) = total (l.take k) + l[k].2.length := by
  rw [take_snoc l h, total_app]
  rfl
set_option maxRecDepth 100000 in
set_option maxHeartbeats 4000000 in
theorem refUsed_any {w : World} {X : Nat → Prop} {A : Option Addr} {n c : Nat} {l : FL} (h : RFs w X A n l) (hc : n ≤ 1000000000) (ht : total l ≤ 1000000000) :
    Calls Try.prog 60 #[.slice A n c] w fun e w' => e = .returned (.int .i64 (total l : Int)) ∧ w = w' := by
  have hl := h.len
  have HH := Lib.hid h
  have HL := Lib.hid hl
  clear h hl
  go_enter Try.func60, Try.ntmps60
  go_wp2_with fail
  go_loopw [3, 4] (fun m i wr => ∃ k : Nat, k ≤ n ∧ i = .int .i64 k ∧ m = .int .i64 (total (l.take k) : Int) ∧ total (l.take k) ≤ 1000000000 ∧ w = wr) (fun _ i _ => n - (intOf i).toNat)
  case atStart => exact ⟨0, by omega, rfl, rfl, by simp [total], rfl⟩
  case round =>
    obtain ⟨k, hk, rfl, rfl, hm, rfl⟩ := hrel

    by_cases hlt : k < n
    case neg =>
      have hd1 : decide (k < n) = false := by simpa using hlt
      have HE : Hid (l.take k = l) := Lib.hid (List.take_of_length_le (by have := HL.out; omega))
      rw [HE.out]
      rw [HE.out] at hm
      go_wp2_with fail
      go_ret
      exact ⟨rfl, (by first | rfl | trivial)⟩
    case pos =>
    have hk1 : k < l.length := by have := HL.out; omega
    have hbw : Below w.heap.size w w := Below.refl _ _
    obtain ⟨ad, B1, q1, c1, rfl, ha1, -, s0, s1, hy1, hq1, hc1⟩ := (HH.out.below hbw).at_ hk1
    have HC : Hid (total (l.take (k + 1)) = total (l.take k) + q1) := Lib.hid (by rw [total_take l hk1, hy1.1])
    have HT : Hid (total (l.take (k + 1)) ≤ total l) := Lib.hid (by
      have e := total_app (l.take (k + 1)) (l.drop (k + 1))
      rw [List.take_append_drop] at e
      omega)
    have hq2 : total (l.take k) + q1 ≤ 1000000000 := by have := HC.out; have := HT.out; omega
    clear hy1
    go_wp2_with fail
    refine ⟨⟨k + 1, by omega, by go_num, ?_, by have := HC.out; omega, (by first | rfl | trivial)⟩, by simp [intOf]; omega⟩
    rw [HC.out]
    go_num
end Go.Proofs.Ythhiiimmgghhaaa
