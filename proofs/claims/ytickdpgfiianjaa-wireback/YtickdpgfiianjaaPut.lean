/-
  What wire.appendNumber (at int64, int and api.EntryKind), wire.folded, wire.unfolded and wire.between answer. Conditions: a number from 0 to 2^63 - 1, fewer than 100000 bytes.
-/
import Derived.Test.YtickdpgfiianjaaGrow
namespace Go.Proofs.Ytickdpgfiianjaa
open Go.RowKit
theorem or128 : ∀ x : Nat, x < 256 → x ||| 128 = x % 128 + 128 := by decide +kernel
theorem byte_on (q : Nat) : bits .or .u8 ((q : Int) % 256) 128 = ((q % 128 + 128 : Nat) : Int) := by
  have h := u8_or_nat (q % 256) 128 (by omega) (by omega)
  rw [or128 _ (by omega), show q % 256 % 128 = q % 128 from by omega] at h
  rw [← h]
  rfl
theorem bys_byte (w : World) (q : Nat) (x : Int) (hx : x = (q : Int)) (hq : q < 256) (t : TypeId) (B : Nat) (hB : w.heap.size < B) : Bys (w.alloc (.cells #[.int .u8 x] t)) B (some ⟨w.heap.size, 0, none⟩) 1 [UInt8.ofNat q] := by
  have h := bys_one w q t B hB
  rw [show (q : Int) % 256 = x from by omega] at h
  exact h
set_option maxRecDepth 100000 in
set_option maxHeartbeats 1000000 in
theorem put_any (base : Nat) (v : Value) (l : List UInt8) (n : Nat) (hn : n < 9223372036854775808) (w : World) (hown : Own w base v l) (hbase : base ≤ w.heap.size) (hl : l.length < 100000) :
    Calls Try.prog 37 #[v, .int .i64 (n : Int)] w (RowedG w base v (l ++ num n)) := by
  go_enter Try.func37, Try.ntmps37
  go_wp2
  go_loopw [0, 1] (fun b q wr => ∃ (k : Nat) (s : List UInt8), k ≤ n ∧ q = .int .i64 k ∧ Own wr base b s ∧ s ++ num k = l ++ num n ∧ Grew v w b wr ∧ base ≤ wr.heap.size) (fun _ q _ => (intOf q).toNat)
  case atStart => exact ⟨n, l, by omega, rfl, hown, rfl, Grew.refl, hbase⟩
  case round =>
    obtain ⟨k, s, hk, rfl, ho, hs, hb, hbs⟩ := hrel
    have hlen : s.length < 1000000 := by
      have h1 := congrArg List.length hs
      rw [List.length_append, List.length_append] at h1
      have := length_num n
      omega
    by_cases hlt : k < 128
    · have H : Hid (s ++ [UInt8.ofNat k] = l ++ num n) := Lib.hid (by rw [← hs, num_less hlt])
      clear hs
      go_wp2_with (at_builtin; refine stop ?_)
      refine Stop.go (wpList_append_grew _ (by rfl) _ _ (by rfl) base _ _ (by rfl) (ho.alloc _) _ _ 1 _ _ (by rfl) (bys_byte _ k _ (by omega) (by omega) 5 _ (Nat.lt_succ_self _)) hlen (by omega) (le_alloc hbs _) ?_)
      intro v' w' ho' hb'
      rw [H.out] at ho'
      go_wp2_with fail
      go_ret
      exact ⟨_, rfl, ho', (hb.trans (Grew.alloc _)).trans hb'⟩
    · have H : Hid ((s ++ [UInt8.ofNat (k % 128 + 128)]) ++ num (k / 128) = l ++ num n) := Lib.hid (by rw [← hs, num_more (n := k) (by omega) (by omega)]; simp only [List.append_assoc, List.cons_append, List.nil_append])
      clear hs
      have hby := byte_on k
      have HB := Lib.hid hby
      clear hby
      go_wp2_with (at_builtin; refine stop ?_)
      refine Stop.go (wpList_append_grew _ (by rfl) _ _ (by rfl) base _ _ (by rfl) (ho.alloc _) _ _ 1 _ _ (by rfl) (bys_byte _ (k % 128 + 128) _ HB.out (by omega) 5 _ (Nat.lt_succ_self _)) hlen (by omega) (le_alloc hbs _) ?_)
      intro v' w' ho' hb'
      go_wp2_with fail
      go_roundw
      case rel => 
        refine ⟨k / 128, _, by omega, ?_, ho', H.out, (hb.trans (Grew.alloc _)).trans hb', ?_⟩
        · rw [show ((k : Int) / 128) = ((k / 128 : Nat) : Int) from by omega]
        · have := hb'.1.size; simp at this; omega
      case measure => simp [intOf]; omega
set_option maxRecDepth 100000 in
set_option maxHeartbeats 1000000 in
theorem putKind_any (base : Nat) (v : Value) (l : List UInt8) (n : Nat) (hn : n < 9223372036854775808) (w : World) (hown : Own w base v l) (hbase : base ≤ w.heap.size) (hl : l.length < 100000) :
    Calls Try.prog 65 #[v, .int .i64 (n : Int)] w (RowedG w base v (l ++ num n)) := by
  go_enter Try.func65, Try.ntmps65
  go_wp2
  go_loopw [0, 1] (fun b q wr => ∃ (k : Nat) (s : List UInt8), k ≤ n ∧ q = .int .i64 k ∧ Own wr base b s ∧ s ++ num k = l ++ num n ∧ Grew v w b wr ∧ base ≤ wr.heap.size) (fun _ q _ => (intOf q).toNat)
  case atStart => exact ⟨n, l, by omega, rfl, hown, rfl, Grew.refl, hbase⟩
  case round =>
    obtain ⟨k, s, hk, rfl, ho, hs, hb, hbs⟩ := hrel
    have hlen : s.length < 1000000 := by
      have h1 := congrArg List.length hs
      rw [List.length_append, List.length_append] at h1
      have := length_num n
      omega
    by_cases hlt : k < 128
    · have H : Hid (s ++ [UInt8.ofNat k] = l ++ num n) := Lib.hid (by rw [← hs, num_less hlt])
      clear hs
      go_wp2_with (at_builtin; refine stop ?_)
      refine Stop.go (wpList_append_grew _ (by rfl) _ _ (by rfl) base _ _ (by rfl) (ho.alloc _) _ _ 1 _ _ (by rfl) (bys_byte _ k _ (by omega) (by omega) 5 _ (Nat.lt_succ_self _)) hlen (by omega) (le_alloc hbs _) ?_)
      intro v' w' ho' hb'
      rw [H.out] at ho'
      go_wp2_with fail
      go_ret
      exact ⟨_, rfl, ho', (hb.trans (Grew.alloc _)).trans hb'⟩
    · have H : Hid ((s ++ [UInt8.ofNat (k % 128 + 128)]) ++ num (k / 128) = l ++ num n) := Lib.hid (by rw [← hs, num_more (n := k) (by omega) (by omega)]; simp only [List.append_assoc, List.cons_append, List.nil_append])
      clear hs
      have hby := byte_on k
      have HB := Lib.hid hby
      clear hby
      go_wp2_with (at_builtin; refine stop ?_)
      refine Stop.go (wpList_append_grew _ (by rfl) _ _ (by rfl) base _ _ (by rfl) (ho.alloc _) _ _ 1 _ _ (by rfl) (bys_byte _ (k % 128 + 128) _ HB.out (by omega) 5 _ (Nat.lt_succ_self _)) hlen (by omega) (le_alloc hbs _) ?_)
      intro v' w' ho' hb'
      go_wp2_with fail
      go_roundw
      case rel => 
        refine ⟨k / 128, _, by omega, ?_, ho', H.out, (hb.trans (Grew.alloc _)).trans hb', ?_⟩
        · rw [show ((k : Int) / 128) = ((k / 128 : Nat) : Int) from by omega]
        · have := hb'.1.size; simp at this; omega
      case measure => simp [intOf]; omega
set_option maxRecDepth 100000 in
set_option maxHeartbeats 1000000 in
theorem putInt_any (base : Nat) (v : Value) (l : List UInt8) (n : Nat) (hn : n < 9223372036854775808) (w : World) (hown : Own w base v l) (hbase : base ≤ w.heap.size) (hl : l.length < 100000) :
    Calls Try.prog 66 #[v, .int .i64 (n : Int)] w (RowedG w base v (l ++ num n)) := by
  go_enter Try.func66, Try.ntmps66
  go_wp2
  go_loopw [0, 1] (fun b q wr => ∃ (k : Nat) (s : List UInt8), k ≤ n ∧ q = .int .i64 k ∧ Own wr base b s ∧ s ++ num k = l ++ num n ∧ Grew v w b wr ∧ base ≤ wr.heap.size) (fun _ q _ => (intOf q).toNat)
  case atStart => exact ⟨n, l, by omega, rfl, hown, rfl, Grew.refl, hbase⟩
  case round =>
    obtain ⟨k, s, hk, rfl, ho, hs, hb, hbs⟩ := hrel
    have hlen : s.length < 1000000 := by
      have h1 := congrArg List.length hs
      rw [List.length_append, List.length_append] at h1
      have := length_num n
      omega
    by_cases hlt : k < 128
    · have H : Hid (s ++ [UInt8.ofNat k] = l ++ num n) := Lib.hid (by rw [← hs, num_less hlt])
      clear hs
      go_wp2_with (at_builtin; refine stop ?_)
      refine Stop.go (wpList_append_grew _ (by rfl) _ _ (by rfl) base _ _ (by rfl) (ho.alloc _) _ _ 1 _ _ (by rfl) (bys_byte _ k _ (by omega) (by omega) 5 _ (Nat.lt_succ_self _)) hlen (by omega) (le_alloc hbs _) ?_)
      intro v' w' ho' hb'
      rw [H.out] at ho'
      go_wp2_with fail
      go_ret
      exact ⟨_, rfl, ho', (hb.trans (Grew.alloc _)).trans hb'⟩
    · have H : Hid ((s ++ [UInt8.ofNat (k % 128 + 128)]) ++ num (k / 128) = l ++ num n) := Lib.hid (by rw [← hs, num_more (n := k) (by omega) (by omega)]; simp only [List.append_assoc, List.cons_append, List.nil_append])
      clear hs
      have hby := byte_on k
      have HB := Lib.hid hby
      clear hby
      go_wp2_with (at_builtin; refine stop ?_)
      refine Stop.go (wpList_append_grew _ (by rfl) _ _ (by rfl) base _ _ (by rfl) (ho.alloc _) _ _ 1 _ _ (by rfl) (bys_byte _ (k % 128 + 128) _ HB.out (by omega) 5 _ (Nat.lt_succ_self _)) hlen (by omega) (le_alloc hbs _) ?_)
      intro v' w' ho' hb'
      go_wp2_with fail
      go_roundw
      case rel => 
        refine ⟨k / 128, _, by omega, ?_, ho', H.out, (hb.trans (Grew.alloc _)).trans hb', ?_⟩
        · rw [show ((k : Int) / 128) = ((k / 128 : Nat) : Int) from by omega]
        · have := hb'.1.size; simp at this; omega
      case measure => simp [intOf]; omega
theorem ret_i64 {a b : Int} (h : a = b) : Ending.returned (.int .i64 a) = .returned (.int .i64 b) := by rw [h]
theorem ret_bool {a b : Bool} (h : a = b) : Ending.returned (.bool a) = .returned (.bool b) := by rw [h]
theorem folded_any (v : Int) (h1 : -4611686018427387904 ≤ v) (h2 : v ≤ 4611686018427387903) (w : World) : Calls Try.prog 39 #[.int .i64 v] w fun e w' => e = .returned (.int .i64 ((fold v : Nat) : Int)) ∧ w = w' := by
  by_cases h : v < 0
  · have hf : Hid (((fold v : Nat) : Int) = -2 * v - 1) := Lib.hid (by unfold fold; rw [if_pos h]; omega)
    have f1 : IntKind.i64.wrap (v + 1) = v + 1 := IntWalk.i64_in _ (by omega)
    have f2 : IntKind.i64.wrap (-2 * (v + 1)) = -2 * (v + 1) := IntWalk.i64_in _ (by omega)
    have f3 : IntKind.i64.wrap (-2 * (v + 1) + 1) = -2 * (v + 1) + 1 := IntWalk.i64_in _ (by omega)
    go_enter Try.func39, Try.ntmps39
    go_wp2
    go_ret
    exact ⟨ret_i64 (by rw [hf.out]; omega), rfl⟩
  · have hf : Hid (((fold v : Nat) : Int) = 2 * v) := Lib.hid (by unfold fold; rw [if_neg h]; omega)
    have f2 : IntKind.i64.wrap (2 * v) = 2 * v := IntWalk.i64_in _ (by omega)
    go_enter Try.func39, Try.ntmps39
    go_wp2
    go_ret
    exact ⟨ret_i64 (by rw [hf.out]), rfl⟩
theorem unfolded_any (n : Nat) (h2 : n < 9223372036854775808) (w : World) : Calls Try.prog 43 #[.int .i64 (n : Int)] w fun e w' => e = .returned (.int .i64 (unf n)) ∧ w = w' := by
  by_cases h : n % 2 = 1
  · have hf : Hid (unf n = -((n / 2 : Nat) : Int) - 1) := Lib.hid (by unfold unf; rw [if_pos h])
    have he : (((n : Int) % 2) == 1) = true := by rw [beq_iff_eq]; omega
    go_enter Try.func43, Try.ntmps43
    go_wp2
    go_ret
    exact ⟨ret_i64 (by rw [hf.out]; omega), rfl⟩
  · have hf : Hid (unf n = ((n / 2 : Nat) : Int)) := Lib.hid (by unfold unf; rw [if_neg h])
    have he : (((n : Int) % 2) == 1) = false := by rw [beq_eq_false_iff_ne]; omega
    go_enter Try.func43, Try.ntmps43
    go_wp2
    go_ret
    exact ⟨ret_i64 (by rw [hf.out]; omega), rfl⟩
theorem between_any (n a b : Int) (w : World) : Calls Try.prog 38 #[.int .i64 n, .int .i64 a, .int .i64 b] w fun e w' => e = .returned (.bool (decide (a ≤ n ∧ n ≤ b))) ∧ w = w' := by
  by_cases h1 : a ≤ n
  · by_cases h2 : n ≤ b
    · go_enter Try.func38, Try.ntmps38
      go_wp2
      go_ret
      exact ⟨ret_bool (decide_eq_true (by omega)).symm, rfl⟩
    · go_enter Try.func38, Try.ntmps38
      go_wp2
      go_ret
      exact ⟨ret_bool (decide_eq_false (by omega)).symm, rfl⟩
  · go_enter Try.func38, Try.ntmps38
    go_wp2
    go_ret
    exact ⟨ret_bool (by rw [show decide (a ≤ n) = false from decide_eq_false (by omega)]; rfl), rfl⟩
theorem within_any (n a b : Int) (w : World) : Calls Try.prog 44 #[.int .i64 n, .int .i64 a, .int .i64 b] w fun e w' => e = .returned (.bool (decide (a ≤ n ∧ n ≤ b))) ∧ w = w' := by
  by_cases h1 : a ≤ n
  · by_cases h2 : n ≤ b
    · go_enter Try.func44, Try.ntmps44
      go_wp2
      go_ret
      exact ⟨ret_bool (decide_eq_true (by omega)).symm, rfl⟩
    · go_enter Try.func44, Try.ntmps44
      go_wp2
      go_ret
      exact ⟨ret_bool (decide_eq_false (by omega)).symm, rfl⟩
  · go_enter Try.func44, Try.ntmps44
    go_wp2
    go_ret
    exact ⟨ret_bool (by rw [show decide (a ≤ n) = false from decide_eq_false (by omega)]; rfl), rfl⟩
end Go.Proofs.Ytickdpgfiianjaa
