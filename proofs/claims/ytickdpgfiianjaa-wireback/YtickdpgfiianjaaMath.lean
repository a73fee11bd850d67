/-
  Plain mathematics of the sum of bytes (CRC-32C), over natural numbers: no Go, no program. Nothing is assumed.
-/
namespace Go.Proofs.Ytickdpgfiianjaa.Crc
/-- One bit of the word. -/
def step (w : Nat) : Nat := if w % 2 = 1 then (w / 2) ^^^ 2197175160 else w / 2
def steps : Nat → Nat → Nat
  | 0, w => w
  | k + 1, w => steps k (step w)
/-- One byte of the word. -/
def eat (w x : Nat) : Nat := steps 8 (w ^^^ x)
/-- The word behind bytes. -/
def run (w : Nat) (l : List UInt8) : Nat := l.foldl (fun w x => eat w x.toNat) w
/-- What bytes make of a sum. -/
def more (s : Nat) (l : List UInt8) : Nat := 4294967295 - run (4294967295 - s) l
def sum (l : List UInt8) : Nat := more 0 l

theorem step_lt {w : Nat} (h : w < 2 ^ 32) : step w < 2 ^ 32 := by
  unfold step
  split
  · exact Nat.xor_lt_two_pow (by omega) (by omega)
  · omega
theorem steps_lt (k : Nat) : ∀ {w : Nat}, w < 2 ^ 32 → steps k w < 2 ^ 32 := by
  induction k with
  | zero => intro w h; exact h
  | succ k ih => intro w h; exact ih (step_lt h)
theorem eat_lt {w x : Nat} (h : w < 2 ^ 32) (hx : x < 2 ^ 32) : eat w x < 2 ^ 32 := steps_lt 8 (Nat.xor_lt_two_pow h hx)
theorem run_lt (l : List UInt8) : ∀ {w : Nat}, w < 2 ^ 32 → run w l < 2 ^ 32 := by
  induction l with
  | nil => intro w h; exact h
  | cons x l ih =>
    intro w h
    exact ih (eat_lt h (Nat.lt_trans (UInt8.toNat_lt x) (by omega)))
theorem run_append (w : Nat) (a b : List UInt8) : run w (a ++ b) = run (run w a) b := by simp [run, List.foldl_append]
theorem run_snoc (w : Nat) (a : List UInt8) (x : UInt8) : run w (a ++ [x]) = eat (run w a) x.toNat := by simp [run, List.foldl_append]
theorem more_lt (s : Nat) (l : List UInt8) : more s l < 2 ^ 32 := by unfold more; omega
theorem sum_lt (l : List UInt8) : sum l < 2 ^ 32 := more_lt 0 l
theorem more_sum (a b : List UInt8) : more (sum a) b = sum (a ++ b) := by
  unfold sum more
  have h := run_lt a (w := 4294967295 - 0) (by omega)
  rw [run_append]
  rw [show 4294967295 - (4294967295 - run (4294967295 - 0) a) = run (4294967295 - 0) a from by omega]

theorem xor_mod2 (a b : Nat) : (a ^^^ b) % 2 = (a + b) % 2 := by
  have h := Nat.xor_mod_two_pow (a := a) (b := b) (n := 1)
  rw [show (2 : Nat) ^ 1 = 2 from rfl] at h
  rw [h]
  rcases Nat.mod_two_eq_zero_or_one a with ha | ha <;> rcases Nat.mod_two_eq_zero_or_one b with hb | hb <;> rw [ha, hb]
  · rw [show 0 ^^^ 0 = 0 from rfl]; omega
  · rw [show 0 ^^^ 1 = 1 from rfl]; omega
  · rw [show 1 ^^^ 0 = 1 from rfl]; omega
  · rw [show 1 ^^^ 1 = 0 from rfl]; omega
theorem step_xor (a b : Nat) : step (a ^^^ b) = step a ^^^ step b := by
  unfold step
  have hm := xor_mod2 a b
  have hd : (a ^^^ b) / 2 = a / 2 ^^^ b / 2 := Nat.xor_div_two
  rw [hd]
  rcases Nat.mod_two_eq_zero_or_one a with ha | ha <;> rcases Nat.mod_two_eq_zero_or_one b with hb | hb
  · rw [if_neg (by omega), if_neg (by omega), if_neg (by omega)]
  · rw [if_pos (by omega), if_neg (by omega), if_pos (by omega), Nat.xor_assoc]
  · rw [if_pos (by omega), if_pos (by omega), if_neg (by omega), Nat.xor_assoc, Nat.xor_assoc, Nat.xor_comm (b / 2)]
  · rw [if_neg (by omega), if_pos (by omega), if_pos (by omega)]
    rw [Nat.xor_assoc, Nat.xor_comm (b / 2), ← Nat.xor_assoc 2197175160, Nat.xor_self, Nat.zero_xor]
theorem steps_xor (k : Nat) : ∀ a b : Nat, steps k (a ^^^ b) = steps k a ^^^ steps k b := by
  induction k with
  | zero => intro a b; rfl
  | succ k ih => intro a b; show steps k (step (a ^^^ b)) = _; rw [step_xor, ih]; rfl
theorem step_two (x : Nat) : step (2 * x) = x := by
  unfold step
  rw [if_neg (by omega)]
  omega
theorem steps_shl (k : Nat) : ∀ x : Nat, steps k (2 ^ k * x) = x := by
  induction k with
  | zero => intro x; simp [steps]
  | succ k ih =>
    intro x
    show steps k (step _) = x
    rw [show 2 ^ (k + 1) * x = 2 * (2 ^ k * x) from by rw [Nat.pow_succ, Nat.mul_comm (2 ^ k) 2, Nat.mul_assoc], step_two, ih]
theorem split8 (w : Nat) : w = (2 ^ 8 * (w / 2 ^ 8)) ^^^ (w % 2 ^ 8) := by
  apply Nat.eq_of_testBit_eq
  intro i
  rw [Nat.testBit_xor, Nat.testBit_mod_two_pow, Nat.mul_comm, Nat.testBit_mul_two_pow, Nat.testBit_div_two_pow]
  by_cases h : i < 8
  · simp [h, show ¬ 8 ≤ i from by omega]
  · simp [h, show 8 ≤ i from by omega, show i - 8 + 8 = i from by omega]
theorem steps8_split (w : Nat) : steps 8 w = (w / 256) ^^^ steps 8 (w % 256) := by
  have h := split8 w
  have e : (2 : Nat) ^ 8 = 256 := rfl
  rw [e] at h
  have h2 := steps_xor 8 (256 * (w / 256)) (w % 256)
  rw [← h] at h2
  rw [h2, ← e, steps_shl]
theorem eat_table {w x : Nat} (hx : x < 256) : eat w x = (w / 256) ^^^ steps 8 ((w % 256) ^^^ x) := by
  unfold eat
  rw [steps8_split]
  have e : (2 : Nat) ^ 8 = 256 := rfl
  rw [← e, Nat.xor_div_two_pow, Nat.xor_mod_two_pow, e, Nat.div_eq_of_lt hx, Nat.mod_eq_of_lt hx, Nat.xor_zero]
theorem step_mask (w : Nat) : (w / 2) ^^^ (2197175160 &&& ((4294967296 - w % 2) % 4294967296)) = step w := by
  unfold step
  rcases Nat.mod_two_eq_zero_or_one w with h | h
  · rw [h, if_neg (by omega)]
    simp
  · rw [h, if_pos rfl]
    have : (2197175160 : Nat) &&& ((4294967296 - 1) % 4294967296) = 2197175160 := by decide +kernel
    rw [this]
end Go.Proofs.Ytickdpgfiianjaa.Crc
