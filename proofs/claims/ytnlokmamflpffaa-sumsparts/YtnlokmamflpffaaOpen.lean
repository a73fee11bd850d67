/-
  What sums.Open answers. Conditions: fewer than 50000 bytes.
-/
import Derived.Test.YtnlokmamflpffaaSeal
import Derived.BigQuiet
import Derived.Deep.QuietTactic
namespace Go.Proofs.Ytnlokmamflpffaa
open Go.RowKit
theorem num_any (n : Int) (w : World) : Calls Try.prog 22 #[.int .i64 n] w fun e w' => e = .returned (.int .i64 n) ∧ w = w' := by
  go_enter Try.func22, Try.ntmps22
  go_wp2
  go_ret
  exact ⟨rfl, rfl⟩
def opens (l : List UInt8) : Bool := decide (4 ≤ l.length) && l.drop (l.length - 4) == les 4 (Crc.sum (l.take (l.length - 4)))
/-- What is known behind sums.Open. -/
def Opened (w : World) (l : List UInt8) (e : Ending) (w' : World) : Prop :=
  Below w.heap.size w w' ∧ ∃ v, e = .returned (.tuple #[v, .int .i64 (if opens l then 0 else 110)]) ∧ Own w' w.heap.size v (if opens l then l.take (l.length - 4) else [])
set_option maxHeartbeats 400000 in
theorem open_any (A : Option Addr) (n c : Nat) (l : List UInt8) (w : World) (hr : Bys w w.heap.size A n l) (hc : n ≤ c) (hc2 : c ≤ maxLen) (hn : n < 50000) :
    Calls Try.prog 20 #[.slice A n c] w (Opened w l) := by
  have hl := hr.1
  by_cases h4 : n < 4
  · have ho : opens l = false := by unfold opens; simp; omega
    have H := Lib.hid ho
    clear ho
    have HL := Lib.hid hl
    clear hl
    go_enter Try.func20, Try.ntmps20
    go_wp2_with fail
    go_ret2
    exact ⟨Below.refl _ _, _, by rw [H.out]; rfl, by rw [H.out]; exact Own.nil _ _⟩
  · have HL := Lib.hid hl
    clear hl
    have hn4 : (0 : Int) ≤ (n : Int) - 4 := by omega
    unfold maxLen at hc2
    obtain ⟨ad, u, rfl, hb, hx, hcc⟩ := hr.at_ (k := 0) (by omega)
    clear hx hcc
    go_enter Try.func20, Try.ntmps20
    go_wp2_with fail
    go_quiet (fail)
    go_wp2_with fail
    have hbody : Bys (w.drewN nq) w.heap.size (some ad) (n - 4) (l.take (n - 4)) := (hr.first (by omega)).drewN nq
    have htail : Bys (w.drewN nq) w.heap.size (some (ad.add (n - 4))) (n - (n - 4)) (l.drop (n - 4)) := by
      have := (hr.cut (k := n - 4) (by omega) hc).drewN nq
      rw [if_neg (by omega)] at this
      exact this
    have hop : opens l = (l.drop (n - 4) == les 4 (Crc.sum (l.take (n - 4)))) := by
      unfold opens
      rw [HL.out, show decide (4 ≤ n) = true from by simp; omega, Bool.true_and]
    have HO := Lib.hid hop
    clear hop
    have hb0 : Below w.heap.size w (w.drewN nq) := below_drewN (Below.refl _ _) nq
    have hsz : (w.drewN nq).heap.size = w.heap.size := rfl
    have HZ := Lib.hid hsz
    clear hsz
    refine (sum_any (some ad) (n - 4) c (l.take (n - 4)) (w.drewN nq) hbody (by omega)).mono ?_
    rintro e w1 ⟨rfl, hb1⟩
    rw [HZ.out] at hb1
    have hs1 := hb1.size
    rw [HZ.out] at hs1
    generalize hsum : Crc.sum (l.take (n - 4)) = s at *
    have hs : s < 4294967296 := by have := Crc.sum_lt (l.take (n - 4)); omega
    have HSUM := Lib.hid hsum
    clear hsum
    go_wp2_with fail
    refine (low_any w1.heap.size (.slice none 0 0) [] s hs w1 (Own.nil _ _) (Nat.le_refl _) (by simp)).mono ?_
    rintro e w2 ⟨v2, rfl, ho2, hb2⟩
    rw [List.nil_append] at ho2
    obtain ⟨A2, c2, rfl, _⟩ := ho2.form
    have hs2 := hb2.size
    go_wp2_with fail
    refine (equal_any (some (ad.add (n - 4))) (n - (n - 4)) (c - (n - 4)) (l.drop (n - 4)) A2 (les 4 s).length c2 (les 4 s) w.heap.size w2.heap.size w2 ((htail.below hb1).below (hb2.mono hs1)) ho2.bys).mono ?_
    rintro e w3 ⟨rfl, rfl⟩
    have hbw : Below w.heap.size w w2 := (hb0.trans hb1).trans (hb2.mono hs1)
    cases hq : (l.drop (n - 4) == les 4 s)
    · have HQ : Hid (opens l = false) := Lib.hid (by rw [HO.out, hq])
      clear hq
      go_wp2_with fail
      go_ret2
      exact ⟨hbw, _, by rw [HQ.out]; rfl, by rw [HQ.out]; exact Own.nil _ _⟩
    · have HQ : Hid (opens l = true) := Lib.hid (by rw [HO.out, hq])
      clear hq
      go_wp2_with fail
      refine (clone_any (some ad) (n - 4) c (l.take (n - 4)) w2 (((hbody.below hb1).below (hb2.mono hs1)).more (by omega)) (by omega)).mono ?_
      rintro e w4 ⟨v4, rfl, ho4, hb4⟩
      go_wp2_with fail
      go_ret2
      exact ⟨hbw.trans (hb4.mono (by omega)), v4, by rw [HQ.out]; rfl, by rw [HQ.out, HL.out]; exact ho4.mono (by omega)⟩
end Go.Proofs.Ytnlokmamflpffaa
