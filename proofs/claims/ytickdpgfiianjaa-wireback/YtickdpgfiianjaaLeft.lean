/-
  Sealed bytes are those whose word is always the same; and sealed bytes of which up to three bits are turned are sealed only if they are as they were. Condition: at most 404 bytes.
-/
import Derived.Test.YtickdpgfiianjaaBits
import Derived.Test.YtickdpgfiianjaaSpec
namespace Go.Proofs.Ytickdpgfiianjaa
/-- Are bytes sealed ones? -/
def opens (l : List UInt8) : Bool := decide (4 ≤ l.length) && l.drop (l.length - 4) == les 4 (Crc.sum (l.take (l.length - 4)))
theorem sealed_iff (l : List UInt8) (h4 : 4 ≤ l.length) : (l.take (l.length - 4) ++ les 4 (Crc.sum (l.take (l.length - 4))) == l) = opens l := by
  unfold opens
  rw [show decide (4 ≤ l.length) = true from by simpa using h4, Bool.true_and, Bool.eq_iff_iff, beq_iff_eq, beq_iff_eq]
  constructor
  · intro h
    have hh := congrArg (List.drop (l.length - 4)) h
    rw [List.drop_append_of_le_length (by simp), List.drop_eq_nil_of_le (by simp), List.nil_append] at hh
    exact hh.symm
  · intro h
    rw [← h, List.take_append_drop]
theorem run_les : ∀ (k T W : Nat), T < 256 ^ k → Crc.run W (les k T) = Crc.steps (8 * k) (W ^^^ T)
  | 0, T, W, h => by
    rw [show T = 0 from by omega, Nat.xor_zero]; rfl
  | k + 1, T, W, h => by
    have h1 : T / 256 < 256 ^ k := by rw [Nat.pow_succ] at h; omega
    show Crc.run (Crc.eat W (UInt8.ofNat T).toNat) (les k (T / 256)) = _
    rw [run_les k (T / 256) _ h1, UInt8.toNat_ofNat', show 8 * (k + 1) = 8 * k + 8 from by omega, Crc.steps_add]
    congr 1
    have hs := Crc.split8 T
    unfold Crc.eat
    conv => rhs; rw [hs]
    rw [Nat.xor_comm (2 ^ 8 * (T / 2 ^ 8)), ← Nat.xor_assoc, Crc.steps_xor 8 (W ^^^ T % 2 ^ 8), Crc.steps_shl]
theorem les_of : ∀ l : List UInt8, ∃ T, T < 256 ^ l.length ∧ les l.length T = l
  | [] => ⟨0, by simp, rfl⟩
  | b :: l => by
    obtain ⟨T, h1, h2⟩ := les_of l
    have hb := UInt8.toNat_lt b
    refine ⟨b.toNat + 256 * T, ?_, ?_⟩
    · rw [List.length_cons, Nat.pow_succ]; omega
    · show UInt8.ofNat (b.toNat + 256 * T) :: les l.length ((b.toNat + 256 * T) / 256) = b :: l
      rw [show (b.toNat + 256 * T) / 256 = T from by omega, h2]
      congr 1
      apply UInt8.toNat_inj.1
      rw [UInt8.toNat_ofNat']
      omega
/-- The word behind sealed bytes. -/
def left : Nat := Crc.steps 32 4294967295
theorem run_sealed (b : List UInt8) : Crc.run 4294967295 (b ++ les 4 (Crc.sum b)) = left := by
  have hr := Crc.run_lt b (w := 4294967295) (by omega)
  have hs : Crc.sum b = 4294967295 ^^^ Crc.run 4294967295 b := by
    rw [not32 _ (by omega)]
    rfl
  rw [Crc.run_append, run_les 4 _ _ (by have := Crc.sum_lt b; omega), hs, Nat.xor_comm 4294967295, ← Nat.xor_assoc, Nat.xor_self, Nat.zero_xor]
  rfl
theorem opens_iff (l : List UInt8) (h4 : 4 ≤ l.length) : opens l = true ↔ Crc.run 4294967295 l = left := by
  rw [← sealed_iff l h4, beq_iff_eq]
  constructor
  · intro h
    rw [← run_sealed (l.take (l.length - 4)), h]
  · intro h
    have hr := Crc.run_lt (l.take (l.length - 4)) (w := 4294967295) (by omega)
    obtain ⟨T, hT, hl⟩ := les_of (l.drop (l.length - 4))
    have hlen : (l.drop (l.length - 4)).length = 4 := by rw [List.length_drop]; omega
    rw [hlen] at hT hl
    have e : Crc.run 4294967295 l = Crc.steps 32 (Crc.run 4294967295 (l.take (l.length - 4)) ^^^ T) := by
      conv => lhs; rw [← List.take_append_drop (l.length - 4) l, ← hl]
      rw [Crc.run_append, run_les 4 T _ hT]
    rw [e] at h
    have h2 := Crc.steps_inj 32 (Nat.xor_lt_two_pow hr (by omega)) (by omega) h
    have h3 : T = Crc.sum (l.take (l.length - 4)) := by
      have hs : Crc.sum (l.take (l.length - 4)) = 4294967295 ^^^ Crc.run 4294967295 (l.take (l.length - 4)) := by
        rw [not32 _ (by omega)]
        rfl
      rw [hs]
      generalize Crc.run 4294967295 (l.take (l.length - 4)) = x at h2 ⊢
      rw [← h2, Nat.xor_comm x, Nat.xor_assoc, Nat.xor_self, Nat.xor_zero]
    rw [← h3, hl, List.take_append_drop]
/-- Sealed bytes of which up to three bits are turned. -/
theorem opens_turned (b : List UInt8) (hb : b.length ≤ 400) (p q r : Int) :
    opens (Crc.turn (Crc.turn (Crc.turn (b ++ les 4 (Crc.sum b)) p) q) r) = (Crc.turn (Crc.turn (Crc.turn (b ++ les 4 (Crc.sum b)) p) q) r == b ++ les 4 (Crc.sum b)) := by
  have hlen : (b ++ les 4 (Crc.sum b)).length = b.length + 4 := by rw [List.length_append, length_les]
  have hs := run_sealed b
  generalize b ++ les 4 (Crc.sum b) = s at *
  rw [Bool.eq_iff_iff, beq_iff_eq, opens_iff _ (by rw [Crc.length_turn, Crc.length_turn, Crc.length_turn]; omega)]
  constructor
  · intro h
    exact Crc.three s (by omega) 4294967295 p q r (by rw [h, hs])
  · intro h
    rw [h, hs]
end Go.Proofs.Ytickdpgfiianjaa
