/-
  What waystationref02.Number, .Signed and .Framed answer. Conditions: a number from 0 to 2^63 - 1, one with a sign from -2^62 to 2^62 - 1, fewer than 1000 bytes.
-/
import Derived.Test.YtickdpgfiianjaaWorks
namespace Go.Proofs.Ytickdpgfiianjaa
open Go.RowKit
theorem wrap_twice (v : Int) (h1 : -4611686018427387904 ≤ v) (h2 : v ≤ 4611686018427387903) (h : v < 0) : wrap64 (wrap64 (-2 * v) - 1) = -2 * v - 1 := by
  unfold wrap64
  omega
theorem bys_byte' (w : World) (q : Nat) (x : Int) (hx : x = (q : Int) % 256) (t : TypeId) (B : Nat) (hB : w.heap.size < B) : Bys (w.alloc (.cells #[.int .u8 x] t)) B (some ⟨w.heap.size, 0, none⟩) 1 [UInt8.ofNat q] := by
  subst hx
  exact bys_one w q t B hB
set_option maxRecDepth 100000 in
set_option maxHeartbeats 1000000 in
theorem refNumber_any (n : Nat) (hn : n < 9223372036854775808) (w : World) :
    Calls Try.prog 20 #[.int .i64 (n : Int)] w (Rowed w w.heap.size w.heap.size (num n)) := by
  go_enter Try.func20, Try.ntmps20
  go_wp2
  go_loopw [0, 3] (fun q b wr => ∃ (k : Nat) (s : List UInt8), k ≤ n ∧ q = .int .i64 k ∧ Own wr w.heap.size b s ∧ s ++ num k = num n ∧ Below w.heap.size w wr ∧ w.heap.size ≤ wr.heap.size) (fun q _ _ => (intOf q).toNat)
  case atStart => exact ⟨n, [], by omega, rfl, Own.nil _ _, rfl, Below.refl _ _, Nat.le_refl _⟩
  case round =>
    obtain ⟨k, s, hk, rfl, ho, hs, hb, hbs⟩ := hrel
    have hlen : s.length < 1000000 := by
      have h1 := congrArg List.length hs
      rw [List.length_append] at h1
      have := length_num n
      omega
    by_cases hlt : k < 128
    · have H : Hid (s ++ [UInt8.ofNat k] = num n) := Lib.hid (by rw [← hs, num_less hlt])
      clear hs
      go_wp2_with (at_builtin; refine stop ?_)
      refine Stop.go (wpList_append_want _ (by rfl) _ _ (by rfl) w.heap.size _ _ (by rfl) (ho.alloc _) _ _ 1 _ _ (by rfl) (bys_byte _ k _ (by omega) (by omega) 5 _ (Nat.lt_succ_self _)) hlen (by omega) (le_alloc hbs _) ?_)
      intro v' w' ho' hb'
      rw [H.out] at ho'
      go_wp2_with fail
      go_ret
      exact ⟨_, rfl, ho', (hb.alloc hbs _).trans hb'⟩
    · have H : Hid ((s ++ [UInt8.ofNat (k % 128 + 128)]) ++ num (k / 128) = num n) := Lib.hid (by rw [← hs, num_more (n := k) (by omega) (by omega)]; simp only [List.append_assoc, List.cons_append, List.nil_append])
      clear hs
      go_wp2_with (at_builtin; refine stop ?_)
      refine Stop.go (wpList_append_want _ (by rfl) _ _ (by rfl) w.heap.size _ _ (by rfl) (ho.alloc _) _ _ 1 _ _ (by rfl) (bys_byte _ (k % 128 + 128) _ (by omega) (by omega) 5 _ (Nat.lt_succ_self _)) hlen (by omega) (le_alloc hbs _) ?_)
      intro v' w' ho' hb'
      go_wp2_with fail
      go_roundw
      case rel =>
        refine ⟨k / 128, _, by omega, ?_, ho', H.out, (hb.alloc hbs _).trans hb', ?_⟩
        · rw [show ((k : Int) / 128) = ((k / 128 : Nat) : Int) from by omega]
        · have := hb'.size; simp at this; omega
      case measure => simp [intOf]; omega
theorem refNumber_at {x : Int} (n : Nat) (hx : x = (n : Int)) (hn : n < 9223372036854775808) (w : World) :
    Calls Try.prog 20 #[.int .i64 x] w (Rowed w w.heap.size w.heap.size (num n)) := by
  subst hx
  exact refNumber_any n hn w
set_option maxRecDepth 100000 in
set_option maxHeartbeats 1000000 in
theorem refSigned_any (v : Int) (h1 : -4611686018427387904 ≤ v) (h2 : v ≤ 4611686018427387903) (w : World) :
    Calls Try.prog 22 #[.int .i64 v] w (Rowed w w.heap.size w.heap.size (num (fold v))) := by
  have hlt : fold v < 9223372036854775808 := by unfold fold; split <;> omega
  by_cases h : v < 0
  · have hf : Hid (-2 * v - 1 = ((fold v : Nat) : Int)) := Lib.hid (by unfold fold; rw [if_pos h]; omega)
    go_enter Try.func22, Try.ntmps22
    go_wp2_with fail
    refine (refNumber_at (fold v) ?hx hlt w).mono ?_
    case hx => first | exact hf.out | (rw [wrap_twice v h1 h2 h]; exact hf.out)
    rintro r w1 ⟨v1, rfl, ho, hb⟩
    go_wp2_with fail
    go_ret
    exact ⟨v1, rfl, ho, hb⟩
  · have hf : Hid (2 * v = ((fold v : Nat) : Int)) := Lib.hid (by unfold fold; rw [if_neg h]; omega)
    have f2 : IntKind.i64.wrap (2 * v) = 2 * v := IntWalk.i64_in _ (by omega)
    go_enter Try.func22, Try.ntmps22
    go_wp2_with fail
    refine (refNumber_at (fold v) ?hx hlt w).mono ?_
    case hx => first | exact hf.out | (rw [wrap_twice v h1 h2 h]; exact hf.out)
    rintro r w1 ⟨v1, rfl, ho, hb⟩
    clear f2
    go_wp2_with fail
    go_ret
    exact ⟨v1, rfl, ho, hb⟩
set_option maxRecDepth 100000 in
set_option maxHeartbeats 1000000 in
theorem refFramed_any (A : Option Addr) (n c : Nat) (k : List UInt8) (w : World) (hr : Bys w w.heap.size A n k) (hn : n < 1000) :
    Calls Try.prog 34 #[.slice A n c] w (Rowed w w.heap.size w.heap.size (framed k)) := by
  have hs : Crc.sum k < 4294967296 := by have := Crc.sum_lt k; omega
  have HF : Hid (framed k = les 4 (Crc.sum k) ++ [UInt8.ofNat n] ++ k) := Lib.hid (by unfold framed; rw [hr.1])
  go_enter Try.func34, Try.ntmps34
  go_wp2_with fail
  refine (refSum_any A n c w.heap.size k w hr (by omega)).mono ?_
  rintro e w1 ⟨rfl, rfl⟩
  generalize Crc.sum k = s at *
  go_wp2_with fail
  go_loopw [3, 4, 5] (fun q b i wr => ∃ j : Nat, j ≤ 4 ∧ i = .int .i64 j ∧ q = .int .u32 ((s / 256 ^ j : Nat) : Int) ∧ Own wr w.heap.size b (les j s) ∧ Below w.heap.size w wr ∧ w.heap.size ≤ wr.heap.size) (fun _ _ i _ => 4 - (intOf i).toNat)
  case atStart => exact ⟨0, by omega, rfl, by simp, Own.nil _ _, Below.refl _ _, Nat.le_refl _⟩
  case round =>
    obtain ⟨j, hj, rfl, rfl, ho, hb, hbs⟩ := hrel
    have hq : s / 256 ^ j < 4294967296 := Nat.lt_of_le_of_lt (Nat.div_le_self _ _) hs
    have hsn := Lib.hid (les_snoc j s)
    have hdv : Hid (s / 256 ^ (j + 1) = s / 256 ^ j / 256) := Lib.hid (by rw [Nat.div_div_eq_div_mul, Nat.pow_succ])
    have hlen : (les j s).length < 1000000 := by rw [length_les]; omega
    by_cases hlt : j < 4
    · generalize s / 256 ^ j = q at *
      go_wp2_with (at_builtin; refine stop ?_)
      refine Stop.go (wpList_append_want _ (by rfl) _ _ (by rfl) w.heap.size _ _ (by rfl) (ho.alloc _) _ _ 1 _ _ (by rfl) (bys_byte' _ q _ (by omega) 5 _ (Nat.lt_succ_self _)) hlen (by omega) (le_alloc hbs _) ?_)
      intro v' w' ho' hb'
      go_wp2_with fail
      go_roundw
      case rel =>
        refine ⟨j + 1, by omega, by go_num, ?_, ?_, (hb.alloc hbs _).trans hb', ?_⟩
        · rw [hdv.out]; exact u32_eq (by omega)
        · rw [hsn.out]; exact ho'
        · have := hb'.size; simp at this; omega
      case measure => simp [intOf]; omega
    · obtain rfl : j = 4 := by omega
      clear hq
      go_wp2_with (at_builtin; refine stop ?_)
      refine Stop.go (wpList_append_want _ (by rfl) _ _ (by rfl) w.heap.size _ _ (by rfl) (ho.alloc _) _ _ 1 _ _ (by rfl) (bys_one _ n 5 _ (Nat.lt_succ_self _)) hlen (by omega) (le_alloc hbs _) ?_)
      intro v2 w2 ho2 hb2
      have hb2' := (hb.alloc hbs _).trans hb2
      have hz2 : w.heap.size ≤ w2.heap.size := hb2'.size
      have hlen2 : (les 4 s ++ [UInt8.ofNat n]).length < 1000000 := by rw [List.length_append, length_les]; simp
      have hr2 := hr.below hb2'
      clear ho hb hb2
      go_wp2_with (at_builtin; refine stop ?_)
      refine Stop.go (wpList_append_want _ (by rfl) _ _ (by rfl) w.heap.size _ _ (by rfl) ho2 _ _ n _ _ (by rfl) hr2 hlen2 (by omega) hz2 ?_)
      intro v3 w3 ho3 hb3
      have hb4 := hb2'.trans hb3
      clear hb3 hr2
      go_wp2_with fail
      go_ret
      refine ⟨v3, rfl, ?_, hb4⟩
      rw [HF.out]
      exact ho3
end Go.Proofs.Ytickdpgfiianjaa
