/-
  What wire.lowAhead answers: the word of four bytes, the lowest ahead. Nothing is assumed but that there are four.
-/
import Derived.Test.YtickdpgfiianjaaEntry
namespace Go.Proofs.Ytickdpgfiianjaa
open Go.RowKit
def low : List UInt8 → Nat
  | [] => 0
  | x :: l => x.toNat + 256 * low l
theorem les_low : ∀ l : List UInt8, les l.length (low l) = l
  | [] => rfl
  | x :: l => by
    have hx := UInt8.toNat_lt x
    show UInt8.ofNat (x.toNat + 256 * low l) :: les l.length ((x.toNat + 256 * low l) / 256) = x :: l
    rw [show (x.toNat + 256 * low l) / 256 = low l from by omega, les_low l]
    congr 1
    apply UInt8.toNat_inj.1
    rw [UInt8.toNat_ofNat']
    omega
theorem low_les : ∀ k n : Nat, n < 256 ^ k → low (les k n) = n
  | 0, n, h => by
    show 0 = n
    simp at h; omega
  | k + 1, n, h => by
    show (UInt8.ofNat n).toNat + 256 * low (les k (n / 256)) = n
    rw [low_les k (n / 256) (by rw [Nat.pow_succ] at h; omega), UInt8.toNat_ofNat']
    omega
theorem low_lt : ∀ l : List UInt8, low l < 256 ^ l.length
  | [] => by simp [low]
  | x :: l => by
    have hx := UInt8.toNat_lt x
    have := low_lt l
    show x.toNat + 256 * low l < 256 ^ (l.length + 1)
    rw [Nat.pow_succ]; omega
theorem low_snoc : ∀ (l : List UInt8) (x : UInt8), low (l ++ [x]) = low l + x.toNat * 256 ^ l.length
  | [], x => by simp [low]
  | y :: l, x => by
    show y.toNat + 256 * low (l ++ [x]) = y.toNat + 256 * low l + x.toNat * 256 ^ (l.length + 1)
    rw [low_snoc l x, Nat.pow_succ, Nat.mul_add, ← Nat.mul_assoc x.toNat, Nat.mul_comm (x.toNat * _) 256]; omega
theorem low_iff (l : List UInt8) (hl : l.length = 4) (s : Nat) (hs : s < 4294967296) : les 4 s = l ↔ s = low l := by
  constructor
  · intro h; rw [← h, low_les 4 s (by omega)]
  · intro h; rw [h, ← hl, les_low]
theorem pow256 (j : Nat) : 2 ^ (8 * j) = 256 ^ j := by rw [Nat.pow_mul]
theorem or32_step (acc j u : Nat) (ha : acc < 256 ^ j) (hj : j < 4) (hu : u < 256) : bits .or .u32 (acc : Int) ((u : Int) * 2 ^ (8 * j) % 4294967296) = ((acc + u * 256 ^ j : Nat) : Int) := by
  have h9 : 256 ^ (j + 1) ≤ 256 ^ 4 := Nat.pow_le_pow_right (by omega) (by omega)
  have h10 : (256 : Nat) ^ 4 = 4294967296 := rfl
  have hy : u * 256 ^ j ≤ 255 * 256 ^ j := Nat.mul_le_mul_right _ (by omega)
  have hp : 256 ^ (j + 1) = 256 ^ j * 256 := Nat.pow_succ ..
  have e1 : (u : Int) * 2 ^ (8 * j) = ((u * 256 ^ j : Nat) : Int) := by
    rw [← pow256]
    push_cast
    rfl
  have e2 : ((u * 256 ^ j : Nat) : Int) % 4294967296 = ((u * 256 ^ j : Nat) : Int) := by omega
  rw [e1, e2, u32_or_nat _ _ (by omega) (by omega)]
  congr 1
  rw [Nat.or_comm, Nat.mul_comm u, ← pow256, ← Nat.two_pow_add_eq_or_of_lt (by rw [pow256]; exact ha)]
  omega
set_option maxRecDepth 100000 in
set_option maxHeartbeats 1000000 in
theorem lowAhead_any (A : Option Addr) (c B : Nat) (l : List UInt8) (w : World) (hr : Bys w B A 4 l) :
    Calls Try.prog 67 #[.slice A 4 c] w fun e w' => e = .returned (.int .u32 ((low l : Nat) : Int)) ∧ w = w' := by
  go_enter Try.func67, Try.ntmps67
  go_wp2_with fail
  go_loop [3, 8] (fun t i => ∃ k : Nat, k ≤ 4 ∧ i = .int .i64 k ∧ t = .int .u32 ((low (l.take k) : Nat) : Int)) (fun _ i => 4 - (intOf i).toNat)
  case atStart => exact ⟨0, by omega, rfl, rfl⟩
  case round =>
    obtain ⟨k, hk, rfl, rfl⟩ := hrel
    by_cases hlt : k < 4
    · obtain ⟨ad, x, rfl, hb, hx, hc⟩ := hr.at_ hlt
      have hxl := UInt8.toNat_lt x
      have hlw := low_lt (l.take k)
      have HL : Hid ((l.take k).length = k) := Lib.hid (by rw [List.length_take, hr.1]; omega)
      have HS : Hid (low (l.take (k + 1)) = low (l.take k) + x.toNat * 256 ^ k) := Lib.hid (by rw [take_snoc_some hx, low_snoc, HL.out])
      rw [HL.out] at hlw
      have HW := Lib.hid hlw
      clear hx hlw
      generalize low (l.take k) = q at *
      go_wp2_with fail
      refine ⟨⟨k + 1, by omega, by go_num, ?_⟩, by simp [intOf]; omega⟩
      rw [HS.out]
      exact u32_eq (or32_step q k x.toNat HW.out hlt hxl)
    · have HT : Hid (l.take k = l) := Lib.hid (List.take_of_length_le (by have := hr.1; omega))
      go_wp2_with fail
      go_ret
      exact ⟨ret_u32 (by rw [HT.out]), rfl⟩
end Go.Proofs.Ytickdpgfiianjaa
