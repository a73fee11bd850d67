/-
  What wire.number answers: the number with which bytes begin. Nothing is assumed but that the bytes are there.
-/
import Derived.Test.YtickdpgfiianjaaTake
namespace Go.Proofs.Ytickdpgfiianjaa
open Go.RowKit
/-- What is known behind wire.number. -/
def Numbered (w : World) (p q r : Nat) (A : Option Addr) (n c : Nat) (x : Int) (l : List UInt8) (k : Nat) (t : Tk) (e : Ending) (w' : World) : Prop :=
  Only p w w' ∧ match t with
  | .num m j => e = .returned (.int .i64 (m : Int)) ∧ Taking w' p q r A n c x l (k + j)
  | .short => e = panicE x
  | .bad => e = panicE 121
theorem andNot128 : ∀ x : Nat, x < 256 → bits .andNot .u8 (x : Int) 128 = ((x % 128 : Nat) : Int) := by decide +kernel
theorem ofInt64 (a : Nat) (h : a < 9223372036854775808) : (BitVec.ofInt 64 (a : Int)).toNat = a := by
  rw [BitVec.ofInt_natCast, BitVec.toNat_ofNat, Nat.mod_eq_of_lt (by omega)]
theorem i64_or_nat (a b : Nat) (ha : a < 9223372036854775808) (hb : b < 9223372036854775808) : bits .or .i64 (a : Int) (b : Int) = ((a ||| b : Nat) : Int) := by
  have hx : a ||| b < 2 ^ 63 := Nat.or_lt_two_pow (by omega) (by omega)
  show IntKind.i64.wrap ((BitVec.ofInt 64 (a : Int) ||| BitVec.ofInt 64 (b : Int)).toNat : Int) = _
  rw [BitVec.toNat_or, ofInt64 a ha, ofInt64 b hb]
  exact IntWalk.i64_in _ (by omega)
theorem pow128 (j : Nat) : 2 ^ (7 * j) = 128 ^ j := by rw [Nat.pow_mul]
theorem or_step (acc j u : Nat) (ha : acc < 128 ^ j) (hj : j < 9) : bits .or .i64 (acc : Int) (wrap64 ((u : Int) % 128 * 2 ^ (7 * j))) = ((acc + u % 128 * 128 ^ j : Nat) : Int) := by
  have h9 : 128 ^ (j + 1) ≤ 128 ^ 9 := Nat.pow_le_pow_right (by omega) (by omega)
  have h10 : (128 : Nat) ^ 9 = 9223372036854775808 := rfl
  have hy : u % 128 * 128 ^ j ≤ 127 * 128 ^ j := Nat.mul_le_mul_right _ (by omega)
  have hp : 128 ^ (j + 1) = 128 ^ j * 128 := Nat.pow_succ ..
  have e1 : (u : Int) % 128 * 2 ^ (7 * j) = ((u % 128 * 128 ^ j : Nat) : Int) := by
    rw [← pow128]
    push_cast
    rfl
  have e2 : wrap64 ((u % 128 * 128 ^ j : Nat) : Int) = ((u % 128 * 128 ^ j : Nat) : Int) := by
    have := IntWalk.i64_in ((u % 128 * 128 ^ j : Nat) : Int) (by omega)
    rw [← this]
    simp [wrap64, IntKind.wrap_i64]
  rw [e1, e2, i64_or_nat _ _ (by omega) (by omega)]
  congr 1
  rw [Nat.or_comm, Nat.mul_comm (u % 128), ← pow128, ← Nat.two_pow_add_eq_or_of_lt (by rw [pow128]; exact ha)]
  omega
theorem tkFrom_big {f j acc : Nat} {u : UInt8} {l : List UInt8} (h : 128 ≤ u.toNat) : tkFrom (f + 1) j acc (u :: l) = tkFrom f (j + 1) (acc + u.toNat % 128 * 128 ^ j) l := if_pos h
theorem drop_cons {l : List UInt8} {k : Nat} {u : UInt8} (h : l[k]? = some u) : l.drop k = u :: l.drop (k + 1) := by
  obtain ⟨h1, h2⟩ := List.getElem?_eq_some_iff.1 h
  rw [List.drop_eq_getElem_cons h1, h2]
theorem i64_eq {a b : Int} (h : a = b) : Value.int .i64 a = .int .i64 b := by rw [h]
set_option maxRecDepth 100000 in
set_option maxHeartbeats 2000000 in
theorem number_any {w : World} {p q r : Nat} {A : Option Addr} {n c : Nat} {x : Int} {l : List UInt8} {k : Nat} (h : Taking w p q r A n c x l k) :
    Calls Try.prog 57 #[nextV p q r] w (Numbered w p q r A n c x l k (tk (l.drop k))) := by
  unfold nextV
  go_enter Try.func57, Try.ntmps57
  go_wp2_with fail
  go_loopw [3, 6] (fun s i wr => ∃ j acc : Nat, j ≤ 9 ∧ i = .int .i64 j ∧ s = .int .i64 acc ∧ acc < 128 ^ j ∧ Taking wr p q r A n c x l (k + j) ∧ tk (l.drop k) = tkFrom (9 - j) j acc (l.drop (k + j)) ∧ Only p w wr) (fun _ i _ => 9 - (intOf i).toNat)
  case atStart => exact ⟨0, 0, by omega, rfl, rfl, by simp, h, rfl, Only.refl⟩
  case round =>
    obtain ⟨j, acc, hj, rfl, rfl, hacc, ht, htk, ho⟩ := hrel
    have HA := Lib.hid hacc
    have HTK := Lib.hid htk
    clear hacc htk
    by_cases hlt : j < 9
    · rcases hu : l[k + j]? with _ | u
      · have HE : Hid (tk (l.drop k) = .short) := Lib.hid (by
          rw [HTK.out, List.drop_eq_nil_of_le (List.getElem?_eq_none_iff.1 hu), show 9 - j = (8 - j) + 1 from by omega]; rfl)
        have hkn : k + j = n := by have := List.getElem?_eq_none_iff.1 hu; have := ht.2.2.2.1.1; have := ht.2.2.2.2.1; omega
        clear hu
        go_wp2_with fail
        refine (next_none ht hkn).mono ?_
        rintro e w1 ⟨rfl, rfl⟩
        unfold panicE
        go_wp2_with fail
        refine ⟨rfl, ho, ?_⟩
        rw [HE.out]
        rfl
      · go_wp2_with fail
        refine (next_some ht hu).mono ?_
        rintro e w1 ⟨rfl, rfl⟩
        have hul := UInt8.toNat_lt u
        have han := andNot128 u.toNat hul
        have HC : Hid (((k + j + 1 : Nat) : Int) = (k : Int) + (j : Int) + 1) := Lib.hid (by omega)
        have HT1 := Lib.hid (ht.step (k + j + 1) (by have := (List.getElem?_eq_some_iff.1 hu).1; have := ht.2.2.2.1.1; omega))
        have HOr := Lib.hid (or_step acc j u.toNat HA.out hlt)
        have HD := Lib.hid (drop_cons hu)
        have HO : Hid (∀ v, Only p w (wr.setCell ⟨p, 0, none⟩ v)) := Lib.hid (fun v => ho.trans (Only.set_ v))
        by_cases hbig : 128 ≤ u.toNat
        · have HN : Hid (tk (l.drop k) = tkFrom (9 - (j + 1)) (j + 1) (acc + u.toNat % 128 * 128 ^ j) (l.drop (k + j + 1))) := Lib.hid (by
            rw [HTK.out, HD.out, show 9 - j = (9 - (j + 1)) + 1 from by omega, tkFrom_big hbig])
          clear hu ht ho
          go_wp2_with fail
          refine ⟨⟨j + 1, acc + u.toNat % 128 * 128 ^ j, by omega, by go_num, i64_eq HOr.out, ?_, ?_, HN.out, HO.out _⟩, by simp [intOf]; omega⟩
          · have := HA.out
            have : (u.toNat % 128) * 128 ^ j ≤ 127 * 128 ^ j := Nat.mul_le_mul_right _ (by omega)
            rw [Nat.pow_succ]; omega
          · rw [← HC.out]; exact HT1.out
        · have hm : u.toNat % 128 = u.toNat := by omega
          have HN : Hid (tk (l.drop k) = if u.toNat = 0 ∧ 0 < j then .bad else .num (acc + u.toNat * 128 ^ j) (j + 1)) := Lib.hid (by
            rw [HTK.out, HD.out, show 9 - j = (9 - (j + 1)) + 1 from by omega]
            show (if 128 ≤ u.toNat then _ else _) = _
            rw [if_neg hbig])
          rw [hm] at HOr
          by_cases hz : u.toNat = 0
          · by_cases hj0 : 0 < j
            · have b1 : ((u.toNat : Int) == 0) = true := by simp [hz]
              have HN2 : Hid (tk (l.drop k) = .bad) := Lib.hid (by rw [HN.out, if_pos ⟨hz, hj0⟩])
              clear hu ht ho hz hm
              go_wp2_with fail
              refine ⟨rfl, HO.out _, ?_⟩
              rw [HN2.out]
              rfl
            · have b1 : ((u.toNat : Int) == 0) = true := by simp [hz]
              have HN2 : Hid (tk (l.drop k) = .num (acc + u.toNat * 128 ^ j) (j + 1)) := Lib.hid (by rw [HN.out, if_neg (by omega)])
              clear hu ht ho hz hm
              go_wp2_with fail
              go_ret
              refine ⟨HO.out _, ?_⟩
              rw [HN2.out]
              exact ⟨ret_i64 HOr.out, by rw [← HC.out]; exact HT1.out⟩
          · have b1 : ((u.toNat : Int) == 0) = false := by rw [beq_eq_false_iff_ne]; omega
            have HN2 : Hid (tk (l.drop k) = .num (acc + u.toNat * 128 ^ j) (j + 1)) := Lib.hid (by rw [HN.out, if_neg (by omega)])
            clear hu ht ho hz hm
            go_wp2_with fail
            go_ret
            refine ⟨HO.out _, ?_⟩
            rw [HN2.out]
            exact ⟨ret_i64 HOr.out, by rw [← HC.out]; exact HT1.out⟩
    · have HE : Hid (tk (l.drop k) = .bad) := Lib.hid (by rw [HTK.out, show 9 - j = 0 from by omega]; rfl)
      go_wp2_with fail
      refine ⟨rfl, ho, ?_⟩
      rw [HE.out]
      rfl
end Go.Proofs.Ytickdpgfiianjaa
