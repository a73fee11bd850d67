/-
  A frame of which up to three bits are turned, none of them of the byte that tells the length: it is the frame, or it is read as 110. Plain mathematics, no Go.
-/
import Derived.Test.YtickdpgfiianjaaLeft
namespace Go.Proofs.Ytickdpgfiianjaa
/-- The body and then the sum. -/
def round (f : List UInt8) : List UInt8 := f.drop 5 ++ f.take 4
/-- One bit is turned, if it is there and is none of the byte 4. -/
def turnF (f : List UInt8) (p : Int) : List UInt8 := if p / 8 = 4 then f else Crc.turn f p
/-- Where a bit of n + 5 bytes lies when they are laid body first. -/
def went (n : Nat) (p : Int) : Int := if p < 0 ∨ p / 8 = 4 ∨ 8 * ((n : Int) + 5) ≤ p then -1 else if p < 32 then 8 * (n : Int) + p else p - 40
theorem length_turnF (f : List UInt8) (p : Int) : (turnF f p).length = f.length := by
  unfold turnF
  split
  · rfl
  · exact Crc.length_turn f p
theorem turn_set {f : List UInt8} {m : Nat} (hm : m / 8 < f.length) : Crc.turn f (m : Int) = f.set (m / 8) (UInt8.ofNat (f[m / 8].toNat ^^^ 2 ^ (m % 8))) := by
  rw [Crc.turn_yes (by omega), Int.toNat_natCast]
  unfold Crc.flip
  rw [List.getElem?_eq_getElem hm]
theorem at4_turnF (f : List UInt8) (p : Int) : (turnF f p)[4]? = f[4]? := by
  unfold turnF
  split
  · rfl
  · rename_i h
    by_cases h1 : 0 ≤ p ∧ p < 8 * (f.length : Int)
    · obtain ⟨m, rfl⟩ := Int.eq_ofNat_of_zero_le h1.1
      rw [turn_set (by omega), List.getElem?_set_ne (by omega)]
    · rw [Crc.turn_no h1]
theorem round_turnF (f : List UInt8) (n : Nat) (hf : f.length = n + 5) (p : Int) : round (turnF f p) = Crc.turn (round f) (went n p) := by
  have hlr : (round f).length = n + 4 := by unfold round; rw [List.length_append, List.length_drop, List.length_take]; omega
  unfold turnF went
  by_cases h0 : p < 0 ∨ p / 8 = 4 ∨ 8 * ((n : Int) + 5) ≤ p
  · rw [if_pos h0, Crc.turn_no (l := round f) (by omega)]
    split
    · rfl
    · rw [Crc.turn_no (by omega)]
  · rw [if_neg h0, if_neg (by omega)]
    obtain ⟨m, rfl⟩ := Int.eq_ofNat_of_zero_le (show 0 ≤ p by omega)
    rw [turn_set (by omega)]
    by_cases h1 : m < 32
    · rw [if_pos (by omega), show (8 * (n : Int) + (m : Int)) = ((8 * n + m : Nat) : Int) from by omega, turn_set (by omega)]
      have e1 : (8 * n + m) / 8 = n + m / 8 := by omega
      have e2 : (8 * n + m) % 8 = m % 8 := by omega
      have e3 : (round f)[(8 * n + m) / 8]'(by omega) = f[m / 8]'(by omega) := by
        unfold round
        rw [List.getElem_append_right (by rw [List.length_drop]; omega), List.getElem_take]
        congr 1
        rw [List.length_drop]; omega
      rw [e3, e2, e1]
      generalize UInt8.ofNat _ = y
      unfold round
      rw [List.set_append_right _ _ (by rw [List.length_drop]; omega), List.drop_set_of_lt (by omega), List.take_set]
      congr 2
      rw [List.length_drop]; omega
    · rw [if_neg (by omega), show ((m : Int) - 40) = ((m - 40 : Nat) : Int) from by omega, turn_set (by omega)]
      have e1 : (m - 40) / 8 = m / 8 - 5 := by omega
      have e2 : (m - 40) % 8 = m % 8 := by omega
      have e3 : (round f)[(m - 40) / 8]'(by omega) = f[m / 8]'(by omega) := by
        unfold round
        rw [List.getElem_append_left (by rw [List.length_drop]; omega), List.getElem_drop]
        congr 1
        omega
      rw [e3, e2, e1]
      generalize UInt8.ofNat _ = y
      unfold round
      rw [List.set_append_left _ _ (by rw [List.length_drop]; omega), List.drop_set, if_neg (by omega), List.take_set_of_le (by omega)]
theorem round_framed (b : List UInt8) : round (framed b) = b ++ les 4 (Crc.sum b) := by
  have h1 := framed_drop b []
  have h2 := framed_take b []
  rw [List.append_nil] at h1 h2
  rw [List.append_nil] at h1
  unfold round
  rw [h1, h2]
theorem eq_of_round {f g : List UInt8} (hl : f.length = g.length) (h4 : f[4]? = g[4]?) (h : round f = round g) : f = g := by
  unfold round at h
  obtain ⟨h1, h2⟩ := List.append_inj h (by rw [List.length_drop, List.length_drop, hl])
  apply List.ext_getElem?
  intro i
  rcases Nat.lt_or_ge i 4 with hi | hi
  · have := congrArg (fun z => z[i]?) h2
    simp only [List.getElem?_take, if_pos hi] at this
    exact this
  · rcases Nat.eq_or_lt_of_le hi with hi | hi
    · rw [← hi]; exact h4
    · have := congrArg (fun z => z[i - 5]?) h1
      simp only [List.getElem?_drop, show 5 + (i - 5) = i from by omega] at this
      exact this
/-- What is read of a frame of which bits are turned. -/
theorem rd_turned (b : List UInt8) (h0 : 0 < b.length) (h35 : b.length ≤ 35) (p q r : Int) (hne : turnF (turnF (turnF (framed b) p) q) r ≠ framed b) : rd (turnF (turnF (turnF (framed b) p) q) r) = .err 110 := by
  have hlF := length_framed b
  have hr : round (turnF (turnF (turnF (framed b) p) q) r) = Crc.turn (Crc.turn (Crc.turn (b ++ les 4 (Crc.sum b)) (went b.length p)) (went b.length q)) (went b.length r) := by
    rw [round_turnF _ b.length (by rw [length_turnF, length_turnF]; omega), round_turnF _ b.length (by rw [length_turnF]; omega), round_turnF _ b.length (by omega), round_framed]
  have hlt : (turnF (turnF (turnF (framed b) p) q) r).length = b.length + 5 := by rw [length_turnF, length_turnF, length_turnF]; omega
  have h4 : (turnF (turnF (turnF (framed b) p) q) r)[4]? = (framed b)[4]? := by rw [at4_turnF, at4_turnF, at4_turnF]
  have ho := opens_turned b (by omega) (went b.length p) (went b.length q) (went b.length r)
  rw [← hr, ← round_framed] at ho
  generalize turnF (turnF (turnF (framed b) p) q) r = t at *
  have hnr : round t ≠ round (framed b) := fun h => hne (eq_of_round (by omega) h4 h)
  rw [beq_eq_false_iff_ne.2 hnr] at ho
  have hlr : (round t).length = b.length + 4 := by unfold round; rw [List.length_append, List.length_drop, List.length_take]; omega
  have hld : (t.drop 5).length = b.length := by rw [List.length_drop]; omega
  have hsum : les 4 (Crc.sum (t.drop 5)) ≠ t.take 4 := by
    intro h
    unfold opens at ho
    rw [hlr, show b.length + 4 - 4 = (t.drop 5).length from by omega] at ho
    unfold round at ho
    rw [List.drop_left, List.take_left, h] at ho
    simp at ho
  have hg : t.getD 4 0 = UInt8.ofNat b.length := by
    rw [List.getD_eq_getElem?_getD, h4, ← List.getD_eq_getElem?_getD]
    have := framed_at b []
    rwa [List.append_nil] at this
  unfold rd
  rw [hg, toNat_ofNat_lt (by omega), if_neg (by omega), if_neg (by omega), if_neg (by omega), List.take_of_length_le (by omega), if_pos hsum]
end Go.Proofs.Ytickdpgfiianjaa
