/-
  What the small functions answer: names, picks, numbers of errors, copies of texts and bytes. Nothing is assumed but bounds on lengths.
-/
import Derived.Test.YthhiiimmgghhaaaFiles
import Derived.Lib.UnsafeStr
import Derived.Lib.BufferWrite
import Derived.Laws.MakeOwn
import Derived.Lib.Walk
namespace Go.Proofs.Ythhiiimmgghhaaa
open Go.RowKit
theorem ret_i64 {a b : Int} (h : a = b) : Ending.returned (.int .i64 a) = .returned (.int .i64 b) := by rw [h]
theorem ret_bool {a b : Bool} (h : a = b) : Ending.returned (.bool a) = .returned (.bool b) := by rw [h]
theorem num_any (n : Int) (w : World) : Calls Try.prog 17 #[.int .i64 n] w fun e w' => e = .returned (.int .i64 n) ∧ w = w' := by
  go_enter Try.func17, Try.ntmps17
  go_wp2
  go_ret
  exact ⟨rfl, rfl⟩
/-- A letter from a to z, a digit, or a dot. -/
def okC (c : UInt8) : Bool := c.toNat == 46 || (48 ≤ c.toNat && c.toNat ≤ 57) || (97 ≤ c.toNat && c.toNat ≤ 122)
/-- Is a text a name? -/
def isNm (n : Bs) : Bool := decide (1 ≤ n.length) && decide (n.length ≤ 24) && n.all okC
theorem isNm_len {n : Bs} (h : isNm n = true) : 1 ≤ n.length ∧ n.length ≤ 24 := by
  unfold isNm at h
  simp at h
  exact h.1
theorem all_snoc (l : Bs) (k : Nat) (h : k < l.length) : (l.take (k + 1)).all okC = ((l.take k).all okC && okC l[k]) := by
  rw [List.take_succ_eq_append_getElem h, List.all_append]
  simp
theorem okC_int (c : UInt8) : okC c = (decide ((c.toNat : Int) = 46) || (decide (48 ≤ (c.toNat : Int)) && decide ((c.toNat : Int) ≤ 57)) || (decide (97 ≤ (c.toNat : Int)) && decide ((c.toNat : Int) ≤ 122))) := by
  unfold okC
  rw [Bool.eq_iff_iff]
  simp
  omega
theorem take_all (s : ByteArray) (k : Nat) (h : k < s.size) : (s.data.toList.take (k + 1)).all okC = ((s.data.toList.take k).all okC && okC s[k]) := by
  have := all_snoc s.data.toList k (by simpa using h)
  rw [this]; rfl
theorem all_false_of_take (l : Bs) (k : Nat) (h : (l.take k).all okC = false) : l.all okC = false := by
  rw [← List.take_append_drop k l, List.all_append, h]; rfl
set_option maxHeartbeats 2000000 in
theorem isName_any' (s : ByteArray) (w : World) (hn : s.size ≤ 1000000000) : Calls Try.prog 48 #[.string s] w fun e w' => e = .returned (.bool (isNm s.data.toList)) ∧ w = w' := by
  go_enter Try.func48, Try.ntmps48
  go_wp2
  go_loop [7] (fun i => ∃ k : Nat, k ≤ s.size ∧ i = .int .i64 k ∧ Hid ((s.data.toList.take k).all okC = true)) (fun i => s.size - (intOf i).toNat)
  case atStart => exact ⟨0, Nat.zero_le _, rfl, Lib.hid (by simp)⟩
  case round =>
    obtain ⟨k, hk, rfl, ha⟩ := hrel
    by_cases hlt : k < s.size
    · have HS := Lib.hid (take_all s k hlt)
      have HO := Lib.hid (okC_int s[k])
      go_wp2
      all_goals first
        | (go_ret
           refine ⟨ret_bool ?_, rfl⟩
           have hbad : okC s[k] = false := by rw [HO.out]; simp at *; omega
           have := HS.out
           rw [hbad, Bool.and_false] at this
           rw [isNm, all_false_of_take _ _ this, Bool.and_false])
        | (go_round
           case rel => exact ⟨k + 1, by omega, by go_num, Lib.hid (by rw [HS.out, ha.out, HO.out]; simp at *; omega)⟩
           case measure => simp [intOf]; omega)
    · have hks : k = s.size := by omega
      have HA : Hid (s.data.toList.all okC = true) := Lib.hid (by have := ha.out; rwa [List.take_of_length_le (by simp; omega)] at this)
      clear ha hks
      go_wp2
      all_goals
        go_ret
        refine ⟨ret_bool ?_, rfl⟩
        unfold isNm
        rw [HA.out, show s.data.toList.length = s.size from by simp, Bool.and_true]
        rw [Bool.eq_iff_iff]
        simp only [decide_eq_true_eq, Bool.and_eq_true, Bool.false_eq_true, false_iff]
        omega
theorem isName_any (n : Bs) (w : World) (hn : n.length ≤ 1000000000) : Calls Try.prog 48 #[.string (str n)] w fun e w' => e = .returned (.bool (isNm n)) ∧ w = w' := isName_any' (str n) w (by rw [str_size]; exact hn)
set_option maxHeartbeats 4000000 in
theorem refName_any' (s : ByteArray) (w : World) (hn : s.size ≤ 1000000000) : Calls Try.prog 33 #[.string s] w fun e w' => e = .returned (.bool (isNm s.data.toList)) ∧ w = w' := by
  by_cases hl : 1 ≤ s.size ∧ s.size ≤ 24
  case neg =>
    have HN : Hid (isNm s.data.toList = false) := Lib.hid (by unfold isNm; rw [show s.data.toList.length = s.size from by simp, Bool.eq_false_iff]; simp; omega)
    go_enter Try.func33, Try.ntmps33
    go_wp2
    all_goals first
      | (go_ret; exact ⟨ret_bool HN.out.symm, rfl⟩)
      | (exfalso; omega)
  case pos =>
  obtain ⟨hl1, hl2⟩ := hl
  go_enter Try.func33, Try.ntmps33
  go_wp2
  go_loop [3] (fun i => ∃ k : Nat, k ≤ s.size ∧ i = .int .i64 k ∧ Hid ((s.data.toList.take k).all okC = true)) (fun i => s.size - (intOf i).toNat)
  case atStart => exact ⟨0, Nat.zero_le _, rfl, Lib.hid (by simp)⟩
  case round =>
    obtain ⟨k, hk, rfl, ha⟩ := hrel
    by_cases hlt : k < s.size
    · have HS := Lib.hid (take_all s k hlt)
      have HO := Lib.hid (okC_int s[k])
      go_wp2
      all_goals first
        | (go_ret
           refine ⟨ret_bool ?_, rfl⟩
           have hbad : okC s[k] = false := by rw [HO.out]; simp at *; omega
           have := HS.out
           rw [hbad, Bool.and_false] at this
           rw [isNm, all_false_of_take _ _ this, Bool.and_false])
        | (go_round
           case rel => exact ⟨k + 1, by omega, by go_num, Lib.hid (by rw [HS.out, ha.out, HO.out]; simp at *; omega)⟩
           case measure => simp [intOf]; omega)
    · have hks : k = s.size := by omega
      have HA : Hid (s.data.toList.all okC = true) := Lib.hid (by have := ha.out; rwa [List.take_of_length_le (by simp; omega)] at this)
      clear ha hks
      go_wp2
      all_goals
        go_ret
        refine ⟨ret_bool ?_, rfl⟩
        unfold isNm
        rw [HA.out, show s.data.toList.length = s.size from by simp, Bool.and_true]
        rw [Bool.eq_iff_iff]
        simp only [decide_eq_true_eq, Bool.and_eq_true, true_iff]
        omega
theorem refName_any (n : Bs) (w : World) (hn : n.length ≤ 1000000000) : Calls Try.prog 33 #[.string (str n)] w fun e w' => e = .returned (.bool (isNm n)) ∧ w = w' := refName_any' (str n) w (by rw [str_size]; exact hn)
theorem tmod_bound (k n : Int) (hn : 0 < n) : -n < k.tmod n ∧ k.tmod n < n := by
  have h1 := Int.tmod_lt_of_pos k hn
  have h2 := Int.lt_tmod_of_pos k hn
  omega
theorem tmod_pick (k n : Int) (hn : 0 < n) : (k.tmod n + n) % n = k % n := by
  rw [Int.add_emod_right, Int.tmod_eq_emod]
  split
  · rw [show ((0 : Nat) : Int) = 0 from rfl, Int.sub_zero, Int.emod_emod_of_dvd _ (Int.dvd_refl n)]
  · rw [Int.sub_emod, Int.emod_emod_of_dvd _ (Int.dvd_refl n)]
    have : ((n.natAbs : Int)) % n = 0 := by rw [show (n.natAbs : Int) = n from by omega]; exact Int.emod_self
    rw [this, Int.sub_zero, Int.emod_emod_of_dvd _ (Int.dvd_refl n)]
set_option maxHeartbeats 1000000 in
/-- disk.picked. -/
theorem picked_any (k : Int) (n : Nat) (w : World) (hn : n ≤ 1000000000) : Calls Try.prog 44 #[.int .i64 k, .int .i64 (n : Int)] w fun e w' => e = .returned (.int .i64 (pick k n : Int)) ∧ w = w' := by
  have hb := tmod_bound k ((n : Int) + 1) (by omega)
  have HP := Lib.hid (tmod_pick k ((n : Int) + 1) (by omega))
  have HC := Lib.hid (pick_cast k n)
  have h0 : ((n : Int) + 1 == 0) = false := by rw [beq_eq_false_iff_ne]; omega
  go_enter Try.func44, Try.ntmps44
  go_wp2
  go_ret
  exact ⟨ret_i64 (by rw [HC.out, HP.out]), rfl⟩
set_option maxHeartbeats 1000000 in
/-- The document's Pick. -/
theorem refPick_any (k : Int) (n : Nat) (w : World) (hn : n ≤ 1000000000) : Calls Try.prog 62 #[.int .i64 k, .int .i64 (n : Int)] w fun e w' => e = .returned (.int .i64 (pick k n : Int)) ∧ w = w' := by
  have hb := tmod_bound k ((n : Int) + 1) (by omega)
  have HP := Lib.hid (tmod_pick k ((n : Int) + 1) (by omega))
  have HC := Lib.hid (pick_cast k n)
  have h0 : ((n : Int) + 1 == 0) = false := by rw [beq_eq_false_iff_ne]; omega
  by_cases hneg : k.tmod ((n : Int) + 1) < 0
  · have HE : Hid (k.tmod ((n : Int) + 1) + n + 1 = k % ((n : Int) + 1)) := Lib.hid (by rw [← HP.out, Int.emod_eq_of_lt (by omega) (by omega)]; omega)
    go_enter Try.func62, Try.ntmps62
    go_wp2
    go_ret
    exact ⟨ret_i64 (by rw [HC.out, ← HE.out]), rfl⟩
  · have HE : Hid (k.tmod ((n : Int) + 1) = k % ((n : Int) + 1)) := Lib.hid (by rw [← HP.out, Int.add_emod_right, Int.emod_eq_of_lt (by omega) (by omega)])
    go_enter Try.func62, Try.ntmps62
    go_wp2
    go_ret
    exact ⟨ret_i64 (by rw [HC.out, ← HE.out]), rfl⟩
end Go.Proofs.Ythhiiimmgghhaaa
