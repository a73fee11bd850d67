/-
  How turned bits turn the word, and that up to three of them in at most 404 bytes never leave it as it was. Plain mathematics, no Go.
-/
import Derived.Test.YtickdpgfiianjaaMath
namespace Go.Proofs.Ytickdpgfiianjaa.Crc
theorem steps_add (a : Nat) : ∀ b w : Nat, steps (a + b) w = steps a (steps b w) := by
  intro b
  induction b with
  | zero => intro w; rfl
  | succ b ih => intro w; exact ih (step w)
theorem steps_zero (k : Nat) : steps k 0 = 0 := by
  induction k with
  | zero => rfl
  | succ k ih => show steps k (step 0) = 0; rw [show step 0 = 0 from by decide]; exact ih
/-- What a bit makes, m steps on. -/
def far (m : Nat) : Nat := steps m 1
theorem steps_pow (r k : Nat) : steps (k + r) (2 ^ r) = steps k 1 := by
  rw [steps_add]
  have h := steps_shl r 1
  rw [Nat.mul_one] at h
  rw [h]
theorem eat_xor (u v x : Nat) : eat (u ^^^ v) x = eat u x ^^^ steps 8 v := by
  unfold eat
  rw [show u ^^^ v ^^^ x = (u ^^^ x) ^^^ v from by rw [Nat.xor_assoc, Nat.xor_comm v x, ← Nat.xor_assoc], steps_xor]
theorem run_xor (l : List UInt8) : ∀ u v : Nat, run (u ^^^ v) l = run u l ^^^ steps (8 * l.length) v := by
  induction l with
  | nil => intro u v; rfl
  | cons x l ih =>
    intro u v
    show run (eat (u ^^^ v) x.toNat) l = run (eat u x.toNat) l ^^^ _
    rw [eat_xor, ih, ← steps_add]
    rfl
/-- One bit of the bytes is turned. -/
def flip (l : List UInt8) (p : Nat) : List UInt8 :=
  match l[p / 8]? with
  | some x => l.set (p / 8) (UInt8.ofNat (x.toNat ^^^ 2 ^ (p % 8)))
  | none => l
theorem length_flip (l : List UInt8) (p : Nat) : (flip l p).length = l.length := by
  unfold flip
  split <;> simp
theorem byte_xor (x : UInt8) (r : Nat) (hr : r < 8) : x.toNat ^^^ 2 ^ r < 256 := by
  have h1 := UInt8.toNat_lt x
  have h2 : 2 ^ r < 2 ^ 8 := Nat.pow_lt_pow_right (by omega) hr
  exact Nat.xor_lt_two_pow (n := 8) (by omega) h2
theorem toNat_byte (x : UInt8) (r : Nat) (hr : r < 8) : (UInt8.ofNat (x.toNat ^^^ 2 ^ r)).toNat = x.toNat ^^^ 2 ^ r := by
  rw [UInt8.toNat_ofNat']
  exact Nat.mod_eq_of_lt (byte_xor x r hr)
theorem flip_flip (l : List UInt8) (p : Nat) : flip (flip l p) p = l := by
  have hr : p % 8 < 8 := by omega
  cases h : l[p / 8]? with
  | none =>
    have e : flip l p = l := by unfold flip; rw [h]
    rw [e, e]
  | some x =>
    have hlt : p / 8 < l.length := (List.getElem?_eq_some_iff.1 h).1
    have e : flip l p = l.set (p / 8) (UInt8.ofNat (x.toNat ^^^ 2 ^ (p % 8))) := by unfold flip; rw [h]
    rw [e]
    unfold flip
    rw [List.getElem?_set_self hlt]
    show (l.set (p / 8) _).set (p / 8) (UInt8.ofNat ((UInt8.ofNat (x.toNat ^^^ 2 ^ (p % 8))).toNat ^^^ 2 ^ (p % 8))) = l
    rw [toNat_byte x _ hr, Nat.xor_assoc, Nat.xor_self, Nat.xor_zero, List.set_set, UInt8.ofNat_toNat]
    rw [List.getElem?_eq_some_iff] at h
    obtain ⟨_, rfl⟩ := h
    exact List.set_getElem_self _
theorem run_flip (w : Nat) (l : List UInt8) (p : Nat) (hp : p < 8 * l.length) : run w (flip l p) = run w l ^^^ far (8 * l.length - p) := by
  have hlt : p / 8 < l.length := by omega
  have hr : p % 8 < 8 := by omega
  have h : l[p / 8]? = some l[p / 8] := List.getElem?_eq_getElem hlt
  have e : flip l p = l.set (p / 8) (UInt8.ofNat ((l[p / 8]).toNat ^^^ 2 ^ (p % 8))) := by unfold flip; rw [h]
  rw [e, List.set_eq_take_append_cons_drop, if_pos hlt]
  have hl : l = l.take (p / 8) ++ (l[p / 8] :: l.drop (p / 8 + 1)) := by rw [List.getElem_cons_drop, List.take_append_drop]
  have h1 : run w l = run (eat (run w (l.take (p / 8))) (l[p / 8]).toNat) (l.drop (p / 8 + 1)) := by
    conv => lhs; rw [hl]
    rw [run_append]
    rfl
  rw [h1, run_append]
  show run (eat _ (UInt8.ofNat _).toNat) _ = _
  rw [toNat_byte _ _ hr]
  have h2 : eat (run w (l.take (p / 8))) ((l[p / 8]).toNat ^^^ 2 ^ (p % 8)) = eat (run w (l.take (p / 8))) (l[p / 8]).toNat ^^^ steps 8 (2 ^ (p % 8)) := by
    unfold eat
    rw [← Nat.xor_assoc, steps_xor]
  rw [h2, run_xor]
  congr 1
  rw [← steps_add, List.length_drop]
  unfold far
  rw [show 8 * (l.length - (p / 8 + 1)) + 8 = (8 * l.length - p) + p % 8 from by omega, steps_pow]

theorem step_eq_zero {w : Nat} (hw : w < 2 ^ 32) (h : step w = 0) : w = 0 := by
  unfold step at h
  split at h
  · exfalso
    have h2 : w / 2 = 2197175160 := by
      have := congrArg (· ^^^ 2197175160) h
      simp only [Nat.xor_assoc, Nat.xor_self, Nat.xor_zero, Nat.zero_xor] at this
      exact this
    omega
  · omega
theorem steps_eq_zero (k : Nat) : ∀ {w : Nat}, w < 2 ^ 32 → steps k w = 0 → w = 0 := by
  induction k with
  | zero => intro w _ h; exact h
  | succ k ih => intro w hw h; exact step_eq_zero hw (ih (step_lt hw) h)
theorem xor_eq_zero {a b : Nat} (h : a ^^^ b = 0) : a = b := by
  have := congrArg (· ^^^ b) h
  simp only [Nat.xor_assoc, Nat.xor_self, Nat.xor_zero, Nat.zero_xor] at this
  exact this
theorem steps_inj (k : Nat) {a b : Nat} (ha : a < 2 ^ 32) (hb : b < 2 ^ 32) (h : steps k a = steps k b) : a = b := by
  apply xor_eq_zero
  refine steps_eq_zero k (Nat.xor_lt_two_pow ha hb) ?_
  rw [steps_xor, h, Nat.xor_self]
theorem far_lt (m : Nat) : far m < 2 ^ 32 := steps_lt m (by omega)
theorem far_ne (m : Nat) : far m ≠ 0 := fun h => by
  have := steps_eq_zero m (w := 1) (by omega) h
  omega
/-- How many bits of the first k are 1, odd or even. -/
def odd : Nat → Nat → Bool
  | 0, _ => false
  | k + 1, w => (w % 2 == 1) ^^ odd k (w / 2)
theorem odd_xor (k : Nat) : ∀ a b : Nat, odd k (a ^^^ b) = (odd k a ^^ odd k b) := by
  induction k with
  | zero => intro a b; rfl
  | succ k ih =>
    intro a b
    show (((a ^^^ b) % 2 == 1) ^^ odd k ((a ^^^ b) / 2)) = (((a % 2 == 1) ^^ odd k (a / 2)) ^^ ((b % 2 == 1) ^^ odd k (b / 2)))
    rw [Nat.xor_div_two, ih]
    have hm := xor_mod2 a b
    have hb : ((a ^^^ b) % 2 == 1) = ((a % 2 == 1) ^^ (b % 2 == 1)) := by
      rcases Nat.mod_two_eq_zero_or_one a with h1 | h1 <;> rcases Nat.mod_two_eq_zero_or_one b with h2 | h2
      · rw [h1, h2, show (a ^^^ b) % 2 = 0 from by omega]; rfl
      · rw [h1, h2, show (a ^^^ b) % 2 = 1 from by omega]; rfl
      · rw [h1, h2, show (a ^^^ b) % 2 = 1 from by omega]; rfl
      · rw [h1, h2, show (a ^^^ b) % 2 = 0 from by omega]; rfl
    rw [hb]
    cases (a % 2 == 1) <;> cases (b % 2 == 1) <;> cases odd k (a / 2) <;> cases odd k (b / 2) <;> rfl
theorem odd_more (k : Nat) : ∀ w : Nat, w < 2 ^ k → odd (k + 1) w = odd k w := by
  induction k with
  | zero => intro w h; rw [show w = 0 from by omega]; rfl
  | succ k ih =>
    intro w h
    show ((w % 2 == 1) ^^ odd (k + 1) (w / 2)) = ((w % 2 == 1) ^^ odd k (w / 2))
    rw [ih (w / 2) (by rw [Nat.pow_succ] at h; omega)]
theorem odd_step {w : Nat} (h : w < 2 ^ 32) : odd 32 (step w) = odd 32 w := by
  have h1 : odd 32 w = ((w % 2 == 1) ^^ odd 31 (w / 2)) := rfl
  have h2 : odd 32 (w / 2) = odd 31 (w / 2) := odd_more 31 (w / 2) (by omega)
  rw [h1]
  unfold step
  rcases Nat.mod_two_eq_zero_or_one w with he | he
  · rw [if_neg (by omega), he, h2]
    cases odd 31 (w / 2) <;> rfl
  · rw [if_pos he, he, odd_xor, h2, show odd 32 2197175160 = true from by decide +kernel]
    cases odd 31 (w / 2) <;> rfl
theorem odd_steps (k : Nat) : ∀ {w : Nat}, w < 2 ^ 32 → odd 32 (steps k w) = odd 32 w := by
  induction k with
  | zero => intro w _; rfl
  | succ k ih => intro w h; show odd 32 (steps k (step w)) = _; rw [ih (step_lt h), odd_step h]
theorem odd_far (m : Nat) : odd 32 (far m) = true := by
  unfold far
  rw [odd_steps m (by omega)]
  decide +kernel
theorem odd_zero : odd 32 0 = false := by decide +kernel
/-- None of the next k words is 1. -/
def never : Nat → Nat → Bool
  | 0, _ => true
  | k + 1, w => (step w != 1) && never k (step w)
theorem never_spec (k : Nat) : ∀ w : Nat, never k w = true → ∀ d, 1 ≤ d → d ≤ k → steps d w ≠ 1 := by
  induction k with
  | zero => intro w _ d h1 h2; omega
  | succ k ih =>
    intro w h d h1 h2
    have h' : ((step w != 1) && never k (step w)) = true := h
    rw [Bool.and_eq_true] at h'
    match d, h1 with
    | 1, _ => exact bne_iff_ne.1 h'.1
    | d + 2, _ => exact ih (step w) h'.2 (d + 1) (by omega) (by omega)
theorem never_all : never 3240 1 = true := by decide +kernel
theorem far_inj {m k : Nat} (hm : m ≤ 3240) (hk : k ≤ 3240) (h : far m = far k) : m = k := by
  rcases Nat.lt_trichotomy m k with hlt | heq | hgt
  · exfalso
    have e : steps m (steps (k - m) 1) = steps m 1 := by
      rw [← steps_add, show m + (k - m) = k from by omega]
      exact h.symm
    exact never_spec 3240 1 never_all (k - m) (by omega) (by omega) (steps_inj m (steps_lt _ (by omega)) (by omega) e)
  · exact heq
  · exfalso
    have e : steps k (steps (m - k) 1) = steps k 1 := by
      rw [← steps_add, show k + (m - k) = m from by omega]
      exact h
    exact never_spec 3240 1 never_all (m - k) (by omega) (by omega) (steps_inj k (steps_lt _ (by omega)) (by omega) e)
/-- A bit is turned if it is there. -/
def turn (l : List UInt8) (p : Int) : List UInt8 := if 0 ≤ p ∧ p < 8 * (l.length : Int) then flip l p.toNat else l
theorem length_turn (l : List UInt8) (p : Int) : (turn l p).length = l.length := by
  unfold turn
  split
  · exact length_flip l _
  · rfl
theorem turn_no {l : List UInt8} {p : Int} (h : ¬ (0 ≤ p ∧ p < 8 * (l.length : Int))) : turn l p = l := by unfold turn; rw [if_neg h]
theorem turn_yes {l : List UInt8} {p : Int} (h : 0 ≤ p ∧ p < 8 * (l.length : Int)) : turn l p = flip l p.toNat := by unfold turn; rw [if_pos h]
/-- What a turned bit adds to the word. -/
def adds (n : Nat) (p : Int) : Nat := if 0 ≤ p ∧ p < 8 * (n : Int) then far (8 * n - p.toNat) else 0
theorem run_turn (w : Nat) (l : List UInt8) (p : Int) : run w (turn l p) = run w l ^^^ adds l.length p := by
  unfold turn adds
  by_cases h : 0 ≤ p ∧ p < 8 * (l.length : Int)
  · rw [if_pos h, if_pos h]
    exact run_flip w l p.toNat (by omega)
  · rw [if_neg h, if_neg h, Nat.xor_zero]
theorem odd_adds (n : Nat) (p : Int) : odd 32 (adds n p) = decide (0 ≤ p ∧ p < 8 * (n : Int)) := by
  unfold adds
  by_cases h : 0 ≤ p ∧ p < 8 * (n : Int)
  · rw [if_pos h, odd_far]; simp [h]
  · rw [if_neg h, odd_zero]; simp [h]
theorem adds_inj {n : Nat} (hn : n ≤ 404) {p q : Int} (hp : 0 ≤ p ∧ p < 8 * (n : Int)) (hq : 0 ≤ q ∧ q < 8 * (n : Int)) (h : adds n p = adds n q) : p = q := by
  unfold adds at h
  rw [if_pos hp, if_pos hq] at h
  have := far_inj (m := 8 * n - p.toNat) (k := 8 * n - q.toNat) (by omega) (by omega) h
  omega
theorem turn_turn (l : List UInt8) (p : Int) : turn (turn l p) p = l := by
  by_cases h : 0 ≤ p ∧ p < 8 * (l.length : Int)
  · rw [turn_yes (l := turn l p) (by rw [length_turn]; exact h), turn_yes h, flip_flip]
  · rw [turn_no h, turn_no h]
/-- Up to three turned bits that leave the word as it was leave the bytes as they were. -/
theorem three (l : List UInt8) (hl : l.length ≤ 404) (w : Nat) (p q r : Int) (h : run w (turn (turn (turn l p) q) r) = run w l) : turn (turn (turn l p) q) r = l := by
  rw [run_turn, run_turn, run_turn] at h
  simp only [length_turn] at h
  rw [Nat.xor_assoc, Nat.xor_assoc] at h
  have h0 : adds l.length p ^^^ (adds l.length q ^^^ adds l.length r) = 0 := by
    have h1 := congrArg (run w l ^^^ ·) h
    simp only [← Nat.xor_assoc, Nat.xor_self, Nat.zero_xor] at h1
    rw [← Nat.xor_assoc]
    exact h1
  have ho := congrArg (odd 32) h0
  rw [odd_xor, odd_xor, odd_adds, odd_adds, odd_adds, odd_zero] at ho
  by_cases hp : 0 ≤ p ∧ p < 8 * (l.length : Int)
  · by_cases hq : 0 ≤ q ∧ q < 8 * (l.length : Int)
    · have hr : ¬ (0 ≤ r ∧ r < 8 * (l.length : Int)) := fun hr => by simp [hp, hq, hr] at ho
      have hz : adds l.length r = 0 := by unfold adds; rw [if_neg hr]
      rw [hz, Nat.xor_zero] at h0
      have e := adds_inj hl hp hq (xor_eq_zero h0)
      subst e
      rw [turn_turn, turn_no hr]
    · have hr : 0 ≤ r ∧ r < 8 * (l.length : Int) := by
        refine Classical.byContradiction fun hr => ?_
        simp [hp, hq, hr] at ho
      have hz : adds l.length q = 0 := by unfold adds; rw [if_neg hq]
      rw [hz, Nat.zero_xor] at h0
      have e := adds_inj hl hp hr (xor_eq_zero h0)
      subst e
      rw [turn_no (l := turn l p) (by rw [length_turn]; exact hq), turn_turn]
  · by_cases hq : 0 ≤ q ∧ q < 8 * (l.length : Int)
    · have hr : 0 ≤ r ∧ r < 8 * (l.length : Int) := by
        refine Classical.byContradiction fun hr => ?_
        simp [hp, hq, hr] at ho
      have hz : adds l.length p = 0 := by unfold adds; rw [if_neg hp]
      rw [hz, Nat.zero_xor] at h0
      have e := adds_inj hl hq hr (xor_eq_zero h0)
      subst e
      rw [turn_no hp, turn_turn]
    · have hr : ¬ (0 ≤ r ∧ r < 8 * (l.length : Int)) := fun hr => by simp [hp, hq, hr] at ho
      rw [turn_no hp, turn_no hq, turn_no hr]
end Go.Proofs.Ytickdpgfiianjaa.Crc
