/-
  What waystationref02.Take and .TakeSigned answer: the number with which bytes begin. Condition: fewer than 1000000 bytes.
-/
import Derived.Test.YtickdpgfiianjaaWorks
namespace Go.Proofs.Ytickdpgfiianjaa
open Go.RowKit
def tkNum : Tk → Nat
  | .num n _ => n
  | _ => 0
def tkLen : Tk → Nat
  | .num _ k => k
  | _ => 0
def tkErr : Tk → Nat
  | .num _ _ => 0
  | .short => 120
  | .bad => 121
/-- What is known behind waystationref02.Take. -/
def TakeOf (w : World) (t : Tk) (e : Ending) (w' : World) : Prop := e = .returned (.tuple #[.int .i64 (tkNum t : Int), .int .i64 (tkLen t : Int), .int .i64 (tkErr t : Int)]) ∧ w = w'
theorem ret3 {a b c a' b' c' : Int} (h1 : a = a') (h2 : b = b') (h3 : c = c') : Ending.returned (.tuple #[.int .i64 a, .int .i64 b, .int .i64 c]) = .returned (.tuple #[.int .i64 a', .int .i64 b', .int .i64 c']) := by rw [h1, h2, h3]
theorem wrap_in (n : Int) (h : -9223372036854775808 ≤ n ∧ n ≤ 9223372036854775807) : wrap64 n = n := by unfold wrap64; omega
theorem mul_step (acc u q : Nat) (ha : acc < q) (hq : q ≤ 72057594037927936) : wrap64 ((acc : Int) + wrap64 ((u : Int) % 128 * (q : Int))) = ((acc + u % 128 * q : Nat) : Int) := by
  have hy : u % 128 * q ≤ 127 * q := Nat.mul_le_mul_right _ (by omega)
  have e1 : (u : Int) % 128 * (q : Int) = ((u % 128 * q : Nat) : Int) := by push_cast; rfl
  rw [e1, wrap_in ((u % 128 * q : Nat) : Int) (by omega), wrap_in _ (by omega)]
  omega
set_option maxRecDepth 100000 in
set_option maxHeartbeats 2000000 in
theorem refTake_any (A : Option Addr) (n c B : Nat) (l : List UInt8) (w : World) (hr : Bys w B A n l) (hn : n < 1000000) :
    Calls Try.prog 23 #[.slice A n c] w (TakeOf w (tk l)) := by
  go_enter Try.func23, Try.ntmps23
  go_wp2_with fail
  go_loop [5, 6, 7] (fun s q i => ∃ j acc : Nat, j ≤ 8 ∧ j ≤ n ∧ i = .int .i64 j ∧ s = .int .i64 acc ∧ q = .int .i64 ((128 ^ j : Nat) : Int) ∧ acc < 128 ^ j ∧ tk l = tkFrom (9 - j) j acc (l.drop j)) (fun _ _ i => n - (intOf i).toNat)
  case atStart => exact ⟨0, 0, by omega, by omega, rfl, rfl, rfl, by simp, rfl⟩
  case round =>
    obtain ⟨j, acc, hj8, hjn, rfl, rfl, rfl, hacc, htk⟩ := hrel
    have hq : 128 ^ j ≤ 128 ^ 8 := Nat.pow_le_pow_right (by omega) hj8
    have HTK := Lib.hid htk
    clear htk
    by_cases hlt : j < n
    · obtain ⟨ad, u, rfl, hb, hu, hc⟩ := hr.at_ hlt
      have hul := UInt8.toNat_lt u
      have HD := Lib.hid (drop_cons hu)
      have HM := Lib.hid (mul_step acc u.toNat (128 ^ j) hacc (by omega))
      clear hu
      by_cases hbig : 128 ≤ u.toNat
      · by_cases h8 : j = 8
        · have HE : Hid (tk l = .bad) := Lib.hid (by rw [HTK.out, HD.out, h8]; show tkFrom (0 + 1) _ _ _ = _; rw [tkFrom_big hbig]; rfl)
          have hn8 : ((j : Int) == 8) = true := by rw [h8]; rfl
          generalize 128 ^ j = q at *
          clear h8
          go_wp2_with fail
          go_ret3
          exact ⟨by rw [HE.out]; rfl, rfl⟩
        · have HN : Hid (tk l = tkFrom (9 - (j + 1)) (j + 1) (acc + u.toNat % 128 * 128 ^ j) (l.drop (j + 1))) := Lib.hid (by
            rw [HTK.out, HD.out, show 9 - j = (9 - (j + 1)) + 1 from by omega, tkFrom_big hbig])
          have HQ : Hid (wrap64 (((128 ^ j : Nat) : Int) * 128) = ((128 ^ (j + 1) : Nat) : Int) ∧ acc + u.toNat % 128 * 128 ^ j < 128 ^ (j + 1)) := Lib.hid (by
            have h7 : 128 ^ (j + 1) ≤ 128 ^ 8 := Nat.pow_le_pow_right (by omega) (by omega)
            have hy : u.toNat % 128 * 128 ^ j ≤ 127 * 128 ^ j := Nat.mul_le_mul_right _ (by omega)
            rw [Nat.pow_succ] at h7 ⊢
            exact ⟨by rw [wrap_in _ (by omega)]; omega, by omega⟩)
          have hn8 : ((j : Int) == 8) = false := by rw [beq_eq_false_iff_ne]; omega
          generalize 128 ^ j = q at *
          go_wp2_with fail
          exact ⟨⟨j + 1, acc + u.toNat % 128 * q, by omega, by omega, by go_num, i64_eq HM.out, i64_eq HQ.out.1, HQ.out.2, HN.out⟩, by simp [intOf]; omega⟩
      · have hm : u.toNat % 128 = u.toNat := by omega
        have HN : Hid (tk l = if u.toNat = 0 ∧ 0 < j then .bad else .num (acc + u.toNat * 128 ^ j) (j + 1)) := Lib.hid (by
          rw [HTK.out, HD.out, show 9 - j = (9 - (j + 1)) + 1 from by omega]
          show (if 128 ≤ u.toNat then _ else _) = _
          rw [if_neg hbig])
        rw [hm] at HM
        generalize 128 ^ j = q at *
        clear hm
        have hn8 : ((j : Int) == 8) = true ∨ ((j : Int) == 8) = false := by cases ((j : Int) == 8) <;> simp
        by_cases hz : u.toNat = 0
        · have b1 : ((u.toNat : Int) == 0) = true := by simp [hz]
          by_cases hj0 : 0 < j
          · have HN2 : Hid (tk l = .bad) := Lib.hid (by rw [HN.out, if_pos ⟨hz, hj0⟩])
            clear hz
            rcases hn8 with hn8 | hn8
            · go_wp2_with fail
              go_ret3
              exact ⟨by rw [HN2.out]; rfl, rfl⟩
            · go_wp2_with fail
              go_ret3
              exact ⟨by rw [HN2.out]; rfl, rfl⟩
          · have HN2 : Hid (tk l = .num (acc + u.toNat * q) (j + 1)) := Lib.hid (by rw [HN.out, if_neg (by omega)])
            clear hz
            rcases hn8 with hn8 | hn8
            · go_wp2_with fail
              go_ret3
              refine ⟨?_, rfl⟩
              rw [HN2.out]
              exact ret3 HM.out rfl rfl
            · go_wp2_with fail
              go_ret3
              refine ⟨?_, rfl⟩
              rw [HN2.out]
              exact ret3 HM.out rfl rfl
        · have b1 : ((u.toNat : Int) == 0) = false := by rw [beq_eq_false_iff_ne]; omega
          have HN2 : Hid (tk l = .num (acc + u.toNat * q) (j + 1)) := Lib.hid (by rw [HN.out, if_neg (by omega)])
          have hj1 : 0 < j ∨ ¬ 0 < j := by omega
          rcases hj1 with hj1 | hj1
          · rcases hn8 with hn8 | hn8
            · go_wp2_with fail
              go_ret3
              refine ⟨?_, rfl⟩
              rw [HN2.out]
              exact ret3 HM.out rfl rfl
            · go_wp2_with fail
              go_ret3
              refine ⟨?_, rfl⟩
              rw [HN2.out]
              exact ret3 HM.out rfl rfl
          · rcases hn8 with hn8 | hn8
            · go_wp2_with fail
              go_ret3
              refine ⟨?_, rfl⟩
              rw [HN2.out]
              exact ret3 HM.out rfl rfl
            · go_wp2_with fail
              go_ret3
              refine ⟨?_, rfl⟩
              rw [HN2.out]
              exact ret3 HM.out rfl rfl
    · have HE : Hid (tk l = .short) := Lib.hid (by
        rw [HTK.out, List.drop_eq_nil_of_le (by have := hr.1; omega), show 9 - j = (8 - j) + 1 from by omega]; rfl)
      generalize 128 ^ j = q at *
      go_wp2_with fail
      go_ret3
      exact ⟨by rw [HE.out]; rfl, rfl⟩
def tksNum : Tk → Int
  | .num n _ => unf n
  | _ => 0
/-- What is known behind TakeSigned. -/
def TakeSignedOf (w : World) (t : Tk) (e : Ending) (w' : World) : Prop := e = .returned (.tuple #[.int .i64 (tksNum t), .int .i64 (tkLen t : Int), .int .i64 (tkErr t : Int)]) ∧ w = w'
set_option maxRecDepth 100000 in
set_option maxHeartbeats 1000000 in
theorem refTakeSigned_any (A : Option Addr) (n c B : Nat) (l : List UInt8) (w : World) (hr : Bys w B A n l) (hn : n < 1000000) :
    Calls Try.prog 24 #[.slice A n c] w (TakeSignedOf w (tk l)) := by
  go_enter Try.func24, Try.ntmps24
  go_wp2_with fail
  refine (refTake_any A n c B l w hr hn).mono ?_
  rintro r w1 ⟨rfl, rfl⟩
  rcases ht : tk l with _ | _ | ⟨m, k⟩
  · simp only [tkNum, tkLen, tkErr]
    go_wp2_with fail
    go_ret3
    exact ⟨by rw [ht]; rfl, rfl⟩
  · simp only [tkNum, tkLen, tkErr]
    go_wp2_with fail
    go_ret3
    exact ⟨by rw [ht]; rfl, rfl⟩
  · have hb := (tk_bound ht).1
    have hk := (tk_bound ht).2.2
    rw [hr.1] at hk
    simp only [tkNum, tkLen, tkErr]
    have HT := Lib.hid ht
    clear ht
    by_cases h : m % 2 = 1
    · have hf : Hid (-((m : Int) / 2) - 1 = unf m) := Lib.hid (by unfold unf; rw [if_pos h]; omega)
      have he : (((m : Int) % 2) == 1) = true := by rw [beq_iff_eq]; omega
      clear h
      go_wp2_with fail
      go_ret3
      exact ⟨by rw [HT.out]; exact ret3 hf.out rfl rfl, rfl⟩
    · have hf : Hid ((m : Int) / 2 = unf m) := Lib.hid (by unfold unf; rw [if_neg h]; omega)
      have he : (((m : Int) % 2) == 1) = false := by rw [beq_eq_false_iff_ne]; omega
      clear h
      go_wp2_with fail
      go_ret3
      exact ⟨by rw [HT.out]; exact ret3 hf.out rfl rfl, rfl⟩
end Go.Proofs.Ytickdpgfiianjaa
