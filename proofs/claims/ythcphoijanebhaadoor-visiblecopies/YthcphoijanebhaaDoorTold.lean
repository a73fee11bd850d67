/-
  Open transactions in a row. Nothing is assumed.
-/
import Derived.Test.YthcphoijanebhaaDoorMisc
namespace Go.Proofs.YthcphoijanebhaaDoor
open Go.RowKit Go.Maps
set_option linter.unusedVariables false
def opA (p : Int × Nat) : Array Value := #[.int .i64 p.1, .int .i64 (p.2 : Int)]
def opsOf (o : List (Int × Nat)) : List (Array Value) := o.map opA
section
variable {w w' : World}
theorem OwnK.formO {v : Value} {o : List (Int × Nat)} (h : OwnK w 77 2 v (opsOf o)) : ∃ A c, v = .slice A o.length c ∧ o.length ≤ c ∧ c ≤ maxLen := by
  obtain ⟨A, q, c, e, hq, h1, h2⟩ := OwnK.form h
  simp [opsOf] at hq
  subst hq
  exact ⟨A, c, e, h1, h2⟩
end
end Go.Proofs.YthcphoijanebhaaDoor
