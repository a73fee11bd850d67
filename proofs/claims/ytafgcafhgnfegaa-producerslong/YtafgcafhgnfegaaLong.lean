/-
  A log of many entries of no writer. Nothing is assumed.
-/
import Derived.Test.YtafgcafhgnfegaaWorks
namespace Go.Proofs.Ytafgcafhgnfegaa
open Go.RowKit Go.Maps
set_option linter.unusedVariables false
def pl : Ent := ⟨1, -1, 0, 0, 1, 0⟩
def rep (n : Nat) : List Ent := List.replicate n pl
theorem rep_len (n : Nat) : (rep n).length = n := List.length_replicate
theorem rep_succ (n : Nat) : rep (n + 1) = rep n ++ [pl] := List.replicate_succ'
theorem rep_wr {id : Int} (h : id ≠ -1) : ∀ n, wr id (rep n) = .none_
  | 0 => rfl
  | n + 1 => by rw [rep_succ, wr_snoc, if_neg (fun e => h e.symm)]; exact rep_wr h n
theorem rep_last (n : Nat) : lastE (rep n) ≤ 1 := by
  cases n with
  | zero => decide
  | succ n => rw [rep_succ, lastE_snoc]; decide
theorem rep_app {n : Nat} (h : n < 4096) {e : Ent} (hr : Right e) (he : e.epoch = 1) : appendE (rep n) e = 0 := by
  unfold appendE
  rw [if_pos hr, if_neg (by rw [rep_len]; omega)]
  unfold fallsE
  rw [if_neg (by have := rep_last n; omega)]
theorem rep_no {e : Ent} (hr : Right e) : appendE (rep 4096) e = 3 := by
  unfold appendE
  rw [if_pos hr, if_pos (by rw [rep_len]; exact Nat.le_refl _)]
theorem rep_noC {e : Ent} (hr : Right e) : checkE (rep 4096) e = 3 := by
  rw [check_err (by rw [rep_no hr]; decide), rep_no hr]
theorem rep_stab (n : Nat) : stab (rep n) 4 = n := by
  unfold stab stab stab stab stab
  rw [rep_wr (by decide), rep_wr (by decide), rep_wr (by decide), rep_wr (by decide), rep_len]
  rfl
theorem rep_wr1 {id : Int} (h : id ≠ -1) (h0 : id ≠ 0) (n : Nat) : wr id (rep n ++ [dat 1 0]) = .none_ := by
  rw [wr_snoc, if_neg (fun e => h0 e.symm)]; exact rep_wr h n
theorem rep_wr0 (n : Nat) : wr 0 (rep n ++ [dat 1 0]) = ⟨1, 1, 0, [(1, n)], []⟩ := by
  rw [wr_snoc, if_pos (show (dat 1 0).id = 0 from rfl), rep_wr (by decide), rep_len]
  rfl
theorem rep_stab1 (n : Nat) : stab (rep n ++ [dat 1 0]) 4 = n := by
  unfold stab stab stab stab stab
  have h : ∀ k : Nat, k ≠ 0 → wr (k : Int) (rep n ++ [dat 1 0]) = .none_ := fun k hk => rep_wr1 (by omega) (by omega) n
  have h0 : wr ((0 : Nat) : Int) (rep n ++ [dat 1 0]) = ⟨1, 1, 0, [(1, n)], []⟩ := rep_wr0 n
  rw [h 3 (by decide), h 2 (by decide), h 1 (by decide), h0, List.length_append, rep_len]
  show min (n + 1) n = n
  omega
theorem rep_take {n k : Nat} (h : k ≤ n) : (rep n).take k = rep k := by
  unfold rep
  rw [List.take_replicate, Nat.min_eq_left h]
theorem right_pl : Right pl := by decide
theorem right_d10 : Right (dat 1 0) := by decide
end Go.Proofs.Ytafgcafhgnfegaa
