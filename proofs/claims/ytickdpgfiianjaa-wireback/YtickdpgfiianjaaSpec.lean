/-
  What layer 2 (wire) answers, as functions over lists of bytes: numbers, entries, frames; and that what was written is read. Nothing is assumed.
-/
import Derived.Test.YtickdpgfiianjaaBase
namespace Go.Proofs.Ytickdpgfiianjaa
open Go.RowKit
/-- A number's bytes, by as many steps as there may be. -/
def numF : Nat → Nat → List UInt8
  | 0, n => [UInt8.ofNat n]
  | f + 1, n => if n < 128 then [UInt8.ofNat n] else UInt8.ofNat (n % 128 + 128) :: numF f (n / 128)
def num (n : Nat) : List UInt8 := numF 9 n
theorem numF_more : ∀ (f n : Nat), n < 128 ^ (f + 1) → numF f n = numF (f + 1) n
  | 0, n, h => by simp only [numF]; rw [if_pos (by simpa using h)]
  | f + 1, n, h => by
    have h1 : n / 128 < 128 ^ (f + 1) := by rw [Nat.pow_succ] at h; omega
    show (if n < 128 then _ else _ :: numF f (n / 128)) = (if n < 128 then _ else _ :: numF (f + 1) (n / 128))
    rw [numF_more f _ h1]
theorem num_less {n : Nat} (h : n < 128) : num n = [UInt8.ofNat n] := by unfold num numF; rw [if_pos h]
theorem num_more {n : Nat} (h : 128 ≤ n) (h2 : n < 9223372036854775808) : num n = UInt8.ofNat (n % 128 + 128) :: num (n / 128) := by
  have h1 : numF 8 (n / 128) = numF 9 (n / 128) := numF_more 8 _ (by omega)
  unfold num
  rw [← h1]
  show (if n < 128 then _ else _) = _
  rw [if_neg (by omega)]
theorem length_numF : ∀ (f n : Nat), (numF f n).length ≤ f + 1
  | 0, n => by simp [numF]
  | f + 1, n => by
    have := length_numF f (n / 128)
    unfold numF
    split <;> simp <;> omega
theorem length_num (n : Nat) : (num n).length ≤ 10 := length_numF 9 n
theorem length_numF_le : ∀ (f k n : Nat), n < 128 ^ (k + 1) → (numF f n).length ≤ k + 1
  | 0, k, n, h => by simp [numF]
  | f + 1, k, n, h => by
    unfold numF
    split
    · simp
    · rcases k with _ | k
      · simp at h; omega
      · have := length_numF_le f k (n / 128) (by rw [Nat.pow_succ] at h; omega)
        simp; omega
theorem numF_pos : ∀ (f n : Nat), 0 < (numF f n).length
  | 0, n => by simp [numF]
  | f + 1, n => by unfold numF; split <;> simp
/-- The number with which bytes begin: it goes on behind them; it is none; or it is one, of so many bytes. -/
inductive Tk
  | short
  | bad
  | num (n k : Nat)
deriving DecidableEq
def tkFrom : Nat → Nat → Nat → List UInt8 → Tk
  | 0, _, _, _ => .bad
  | _ + 1, _, _, [] => .short
  | f + 1, i, n, x :: l => if 128 ≤ x.toNat then tkFrom f (i + 1) (n + (x.toNat % 128) * 128 ^ i) l else if x.toNat = 0 ∧ 0 < i then .bad else .num (n + x.toNat * 128 ^ i) (i + 1)
def tk (l : List UInt8) : Tk := tkFrom 9 0 0 l
theorem toNat_ofNat_lt {n : Nat} (h : n < 256) : (UInt8.ofNat n).toNat = n := by rw [UInt8.toNat_ofNat']; omega
theorem tkFrom_numF : ∀ (g f i a q : Nat) (r : List UInt8), q < 128 ^ f → 0 < f → f ≤ g → (0 < i → q ≠ 0) → tkFrom f i a (numF g q ++ r) = .num (a + q * 128 ^ i) (i + (numF g q).length)
  | 0, f, i, a, q, r, _, h0, h1, _ => by omega
  | g + 1, 0, i, a, q, r, _, h0, h1, _ => by omega
  | g + 1, f + 1, i, a, q, r, hq, h0, h1, hi => by
    unfold numF
    by_cases hs : q < 128
    · rw [if_pos hs]
      show (if 128 ≤ (UInt8.ofNat q).toNat then _ else if (UInt8.ofNat q).toNat = 0 ∧ 0 < i then _ else _) = _
      rw [toNat_ofNat_lt (by omega), if_neg (by omega), if_neg (by intro h; exact hi h.2 h.1)]
      rfl
    · rw [if_neg hs]
      have hf : 0 < f := by
        rcases f with _ | f
        · simp at hq; omega
        · omega
      have ih := tkFrom_numF g f (i + 1) (a + (q % 128) * 128 ^ i) (q / 128) r (by rw [Nat.pow_succ] at hq; omega) hf (by omega) (by omega)
      show (if 128 ≤ (UInt8.ofNat (q % 128 + 128)).toNat then tkFrom f (i + 1) (a + ((UInt8.ofNat (q % 128 + 128)).toNat % 128) * 128 ^ i) (numF g (q / 128) ++ r) else _) = _
      rw [toNat_ofNat_lt (by omega), if_pos (by omega), show (q % 128 + 128) % 128 = q % 128 from by omega, ih]
      congr 1
      · rw [Nat.pow_succ, Nat.mul_comm (128 ^ i) 128, ← Nat.mul_assoc, Nat.add_assoc, ← Nat.add_mul]
        congr 2
        omega
      · simp; omega
theorem tk_num (q : Nat) (hq : q < 9223372036854775808) (r : List UInt8) : tk (num q ++ r) = .num q (num q).length := by
  have h := tkFrom_numF 9 9 0 0 q r (by omega) (by omega) (by omega) (by omega)
  unfold tk num
  rw [h]
  simp
theorem tkFrom_bound : ∀ (f i a : Nat) (l : List UInt8) (n k : Nat), tkFrom f i a l = .num n k → a < 128 ^ i → n < 128 ^ (i + f) ∧ i < k ∧ k ≤ i + l.length
  | 0, i, a, l, n, k, h, _ => by cases h
  | f + 1, i, a, [], n, k, h, _ => by cases h
  | f + 1, i, a, x :: l, n, k, h, ha => by
    unfold tkFrom at h
    have hp : 0 < 128 ^ i := Nat.pow_pos (by omega)
    split at h
    · have h2 : a + (x.toNat % 128) * 128 ^ i < 128 ^ (i + 1) := by
        have : (x.toNat % 128) * 128 ^ i ≤ 127 * 128 ^ i := Nat.mul_le_mul_right _ (by omega)
        rw [Nat.pow_succ]; omega
      have := tkFrom_bound f (i + 1) _ l n k h h2
      rw [show i + 1 + f = i + (f + 1) from by omega] at this
      simp; omega
    · split at h
      · cases h
      · injection h with h1 h2
        subst h1 h2
        have hx : x.toNat * 128 ^ i ≤ 127 * 128 ^ i := Nat.mul_le_mul_right _ (by omega)
        have h2 : a + x.toNat * 128 ^ i < 128 ^ (i + 1) := by rw [Nat.pow_succ]; omega
        refine ⟨Nat.lt_of_lt_of_le h2 (Nat.pow_le_pow_right (by omega) (by omega)), by omega, by simp⟩
theorem tk_bound {l : List UInt8} {n k : Nat} (h : tk l = .num n k) : n < 9223372036854775808 ∧ 0 < k ∧ k ≤ l.length := by
  have := tkFrom_bound 9 0 0 l n k h (by simp)
  omega
/-- A number with a sign as one without, and back. -/
def fold (v : Int) : Nat := if v < 0 then (-2 * v - 1).toNat else (2 * v).toNat
def unf (n : Nat) : Int := if n % 2 = 1 then -((n / 2 : Nat) : Int) - 1 else ((n / 2 : Nat) : Int)
theorem unf_fold (v : Int) : unf (fold v) = v := by
  unfold unf fold
  split <;> split <;> omega
/-- An entry. -/
structure Ent where
  epoch : Int
  id : Int
  num : Int
  seq : Int
  kind : Int
  value : Int
deriving DecidableEq
def Ent.cells (e : Ent) : Array Value := #[.int .i64 e.epoch, .int .i64 e.id, .int .i64 e.num, .int .i64 e.seq, .int .i64 e.kind, .int .i64 e.value]
def Ent.val (e : Ent) : Value := .agg e.cells
def Ent.none_ : Ent := ⟨0, 0, 0, 0, 0, 0⟩
/-- An entry may be. -/
def Right (e : Ent) : Prop := (1 ≤ e.epoch ∧ e.epoch ≤ 2147483647) ∧
  ((e.kind = 1 ∧ (-2147483648 ≤ e.value ∧ e.value ≤ 2147483647) ∧ ((e.id = -1 ∧ e.num = 0 ∧ e.seq = 0) ∨ (0 ≤ e.id ∧ e.id ≤ 3 ∧ 1 ≤ e.num ∧ e.num ≤ 2147483647 ∧ 0 ≤ e.seq ∧ e.seq ≤ 2147483647))) ∨
   ((e.kind = 2 ∨ e.kind = 3) ∧ 0 ≤ e.id ∧ e.id ≤ 3 ∧ 1 ≤ e.num ∧ e.num ≤ 2147483647 ∧ e.seq = 0 ∧ e.value = 0))
instance (e : Ent) : Decidable (Right e) := by unfold Right; infer_instance
def tail (e : Ent) : List UInt8 := if e.kind = 1 then (if e.id = -1 then num (fold e.value) else num e.num.toNat ++ num e.seq.toNat ++ num (fold e.value)) else num e.num.toNat
def body (e : Ent) : List UInt8 := num e.kind.toNat ++ num e.epoch.toNat ++ num (e.id + 1).toNat ++ tail e
def framed (b : List UInt8) : List UInt8 := les 4 (Crc.sum b) ++ [UInt8.ofNat b.length] ++ b
def frame (e : Ent) : List UInt8 := framed (body e)
def frames : List Ent → List UInt8
  | [] => []
  | e :: l => frame e ++ frames l
theorem frames_append : ∀ a b : List Ent, frames (a ++ b) = frames a ++ frames b
  | [], b => rfl
  | e :: a, b => by show frame e ++ frames (a ++ b) = frame e ++ frames a ++ frames b; rw [frames_append a b, List.append_assoc]
def fin (e : Ent) (l : List UInt8) : Option Ent := if l = [] ∧ Right e then some e else none
def entryData (ep id : Int) (b : List UInt8) : Option Ent :=
  if id = -1 then
    match tk b with
    | .num v j => fin ⟨ep, id, 0, 0, 1, unf v⟩ (b.drop j)
    | _ => none
  else
    match tk b with
    | .num n j =>
      match tk (b.drop j) with
      | .num s i =>
        match tk ((b.drop j).drop i) with
        | .num v h => fin ⟨ep, id, n, s, 1, unf v⟩ (((b.drop j).drop i).drop h)
        | _ => none
      | _ => none
    | _ => none
def entryMark (k ep id : Int) (b : List UInt8) : Option Ent :=
  match tk b with
  | .num n j => fin ⟨ep, id, n, 0, k, 0⟩ (b.drop j)
  | _ => none
/-- The entry of a body. -/
def entryOf : List UInt8 → Option Ent
  | [] => none
  | k :: b =>
    if k.toNat < 1 ∨ 3 < k.toNat then none else
    match tk b with
    | .num ep j =>
      match b.drop j with
      | [] => none
      | i :: c => if k.toNat = 1 then entryData ep ((i.toNat : Int) - 1) c else entryMark k.toNat ep ((i.toNat : Int) - 1) c
    | _ => none
/-- What is read of bytes: an error, or an entry and how many bytes its frame has. -/
inductive Rd
  | err (c : Nat)
  | ok (e : Ent) (n : Nat)
deriving DecidableEq
def rd (b : List UInt8) : Rd :=
  if b.length < 5 then .err 120 else
  if (b.getD 4 0).toNat = 0 ∨ 35 < (b.getD 4 0).toNat then .err 121 else
  if b.length < 5 + (b.getD 4 0).toNat then .err 120 else
  if les 4 (Crc.sum ((b.drop 5).take (b.getD 4 0).toNat)) ≠ b.take 4 then .err 110 else
  match entryOf ((b.drop 5).take (b.getD 4 0).toNat) with
  | none => .err 121
  | some e => .ok e (5 + (b.getD 4 0).toNat)
/-- The entries of bytes, how many bytes they have, and why they end. -/
def allF : Nat → List UInt8 → List Ent × Nat × Nat
  | 0, _ => ([], 0, 0)
  | f + 1, b => if b = [] then ([], 0, 0) else
    match rd b with
    | .err c => ([], 0, c)
    | .ok e n => (e :: (allF f (b.drop n)).1, n + (allF f (b.drop n)).2.1, (allF f (b.drop n)).2.2)
def all (b : List UInt8) : List Ent × Nat × Nat := allF b.length b
theorem fin_right {e : Ent} (h : Right e) : fin e [] = some e := by unfold fin; rw [if_pos ⟨rfl, h⟩]
theorem drop_len (a b : List UInt8) : (a ++ b).drop a.length = b := by simp
theorem drop_len' (a : List UInt8) : a.drop a.length = [] := by simp
theorem tk_num' (q : Nat) (hq : q < 9223372036854775808) : tk (num q) = .num q (num q).length := by
  have := tk_num q hq []
  rwa [List.append_nil] at this
/-- A body is read as its entry. -/
theorem entryOf_body (e : Ent) (h : Right e) : entryOf (body e) = some e := by
  obtain ⟨ep, id, n, s, k, v⟩ := e
  have h' := h
  unfold Right at h'
  simp only at h'
  have hk : num k.toNat = [UInt8.ofNat k.toNat] := num_less (by omega)
  have hi : num (id + 1).toNat = [UInt8.ofNat (id + 1).toNat] := num_less (by omega)
  have hkt : (UInt8.ofNat k.toNat).toNat = k.toNat := toNat_ofNat_lt (by omega)
  have hit : (UInt8.ofNat (id + 1).toNat).toNat = (id + 1).toNat := toNat_ofNat_lt (by omega)
  have hb : body ⟨ep, id, n, s, k, v⟩ = UInt8.ofNat k.toNat :: (num ep.toNat ++ (UInt8.ofNat (id + 1).toNat :: tail ⟨ep, id, n, s, k, v⟩)) := by
    unfold body
    simp only
    rw [hk, hi]
    simp
  rw [hb]
  unfold entryOf
  simp only
  rw [hkt, if_neg (by omega), tk_num _ (by omega)]
  simp only
  rw [drop_len]
  simp only
  rw [hit, show ((ep.toNat : Nat) : Int) = ep from by omega, show (((id + 1).toNat : Nat) : Int) - 1 = id from by omega]
  by_cases h1 : k = 1
  · subst h1
    rw [if_pos (by rfl)]
    unfold tail entryData
    simp only [if_true]
    have hv : fold v < 9223372036854775808 := by unfold fold; split <;> omega
    by_cases h2 : id = -1
    · subst h2
      simp only [if_true]
      rw [tk_num' _ hv]
      simp only
      rw [drop_len', unf_fold]
      have : n = 0 ∧ s = 0 := by omega
      obtain ⟨rfl, rfl⟩ := this
      exact fin_right h
    · rw [if_neg h2, if_neg h2, List.append_assoc, tk_num _ (by omega)]
      simp only
      rw [drop_len, tk_num _ (by omega)]
      simp only
      rw [drop_len, tk_num' _ hv]
      simp only
      rw [drop_len', unf_fold, show ((n.toNat : Nat) : Int) = n from by omega, show ((s.toNat : Nat) : Int) = s from by omega]
      exact fin_right h
  · rw [if_neg (by omega)]
    unfold tail entryMark
    simp only
    rw [if_neg h1, tk_num' _ (by omega)]
    simp only
    rw [drop_len', show ((n.toNat : Nat) : Int) = n from by omega, show ((k.toNat : Nat) : Int) = k from by omega]
    have : s = 0 ∧ v = 0 := by omega
    obtain ⟨rfl, rfl⟩ := this
    exact fin_right h
theorem length_body (e : Ent) (h : Right e) : 0 < (body e).length ∧ (body e).length ≤ 35 := by
  obtain ⟨ep, id, n, s, k, v⟩ := e
  have h' := h
  unfold Right at h'
  simp only at h'
  have hk : (num k.toNat).length = 1 := by rw [num_less (by omega)]; rfl
  have hi : (num (id + 1).toNat).length = 1 := by rw [num_less (by omega)]; rfl
  have he : (num ep.toNat).length ≤ 5 := length_numF_le 9 4 _ (by omega)
  unfold body tail
  simp only
  split
  · have hv : (num (fold v)).length ≤ 5 := length_numF_le 9 4 _ (by unfold fold; split <;> omega)
    split
    · simp; omega
    · have hn : (num n.toNat).length ≤ 5 := length_numF_le 9 4 _ (by omega)
      have hs : (num s.toNat).length ≤ 5 := length_numF_le 9 4 _ (by omega)
      simp; omega
  · have hn : (num n.toNat).length ≤ 5 := length_numF_le 9 4 _ (by omega)
    simp; omega
theorem length_framed (b : List UInt8) : (framed b).length = 5 + b.length := by unfold framed; simp [length_les]; omega
theorem framed_at (b r : List UInt8) : (framed b ++ r).getD 4 0 = UInt8.ofNat b.length := by
  unfold framed
  rw [List.getD_eq_getElem?_getD, List.append_assoc, List.append_assoc, List.getElem?_append_right (Nat.le_of_eq (length_les _ _))]
  simp [length_les]
theorem framed_take (b r : List UInt8) : (framed b ++ r).take 4 = les 4 (Crc.sum b) := by
  unfold framed
  rw [List.append_assoc, List.append_assoc, List.take_append_of_le_length (by rw [length_les]; omega), List.take_of_length_le (by rw [length_les]; omega)]
theorem framed_drop (b r : List UInt8) : (framed b ++ r).drop 5 = b ++ r := by
  unfold framed
  have : 5 = (les 4 (Crc.sum b) ++ [UInt8.ofNat b.length]).length := by simp [length_les]
  rw [List.append_assoc]
  conv => lhs; rw [this]
  rw [drop_len]
/-- A frame is read as its entry, with whatever stands behind. -/
theorem rd_frame (e : Ent) (h : Right e) (r : List UInt8) : rd (frame e ++ r) = .ok e (frame e).length := by
  have hl := length_body e h
  unfold rd frame
  rw [framed_at, framed_take, framed_drop, toNat_ofNat_lt (by omega), List.length_append, length_framed, List.take_append_of_le_length (Nat.le_refl _), List.take_of_length_le (Nat.le_refl _), if_neg (by omega), if_neg (by omega), if_neg (by omega), if_neg (by simp), entryOf_body e h]
end Go.Proofs.Ytickdpgfiianjaa
