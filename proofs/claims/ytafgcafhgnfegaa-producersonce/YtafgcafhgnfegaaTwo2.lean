/-
  The document's Append on a log beside a table. Conditions: at most 1000000 entries.
-/
import Derived.Test.YtafgcafhgnfegaaTwo
namespace Go.Proofs.Ytafgcafhgnfegaa
open Go.RowKit Go.Maps
set_option linter.unusedVariables false
section
variable {w : World} {g : Nat} {l l' : List Ent} {v v' : Value} {W W' : World} {S : Nat → Prop}
theorem Two.refApp (h : Two w g l l' v W) (hl : l'.length ≤ 1000000) (e : Ent) : Calls Try.prog 15 #[v, e.val] W fun r W' => ∃ v', r = .returned (.tuple #[v', .int .i64 (appendE l' e)]) ∧ Two w g l (keep1 l' e) v' W' ∧ Below W.heap.size W W' := by
  have h0 := h
  obtain ⟨⟨A, c, rfl, h1, h2, h3⟩, S, hT, hS⟩ := h
  by_cases hz : appendE l' e = 0
  · refine (refAppend_ok (c := c) (h1.rd (X := No) (fun _ _ h => h)) hz).mono ?_
    rintro r W' ⟨hb, h⟩
    rcases h with ⟨h0, -⟩ | ⟨-, A', c', rfl, hO, hv⟩
    · exact absurd hz h0
    · rw [hz]
      unfold keep1
      rw [if_pos hz]
      exact ⟨_, rfl, ⟨⟨A', c', by simp, hO, fun b eb => Nat.le_trans h3.size (hv b eb), h3.trans (hb.mono h3.size)⟩, S, hT.below hb, fun b q => ⟨(hS b q).1, Nat.lt_of_lt_of_le (hS b q).2.1 hb.size, fun eb => by have := hv b eb; have := (hS b q).2.1; omega⟩⟩, hb⟩
  · refine (refAppend_err (c := c) (h1.rd (X := No) (fun _ _ h => h)) hl hz).mono ?_
    rintro r W' ⟨hb, h⟩
    rcases h with ⟨-, rfl⟩ | ⟨h1, -⟩
    · unfold keep1
      rw [if_neg hz]
      exact ⟨_, rfl, h0.low hb, hb⟩
    · exact absurd h1 hz
end
end Go.Proofs.Ytafgcafhgnfegaa
