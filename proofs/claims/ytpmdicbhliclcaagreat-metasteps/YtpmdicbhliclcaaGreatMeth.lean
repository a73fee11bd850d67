/-
  What is known behind a call of a controller. Conditions: a controller as it is between two calls.
-/
import Derived.Test.YtpmdicbhliclcaaGreatArg4
import Derived.Test.YtpmdicbhliclcaaGreatAdd
namespace Go.Proofs.YtpmdicbhliclcaaGreat
open Go.RowKit Go.Maps
set_option linter.unusedVariables false
theorem cell_below {w W : World} {q : Addr} {v : Value} (h : w.cell? q = some v) (hb : Below w.heap.size w W) : W.cell? q = some v := (hb.cell (block_lt_of_cell h)).trans h
theorem if_dec {C : Prop} [Decidable C] {α : Type} (a b : α) : (if decide C = true then a else b) = if C then a else b := by by_cases h : C <;> simp [h]
theorem ans_conv {f : Nat} {args : Array Value} {W : World} {x y : Bool} (h : Calls Tryz.prog f args W fun r W' => r = .returned (.bool x) ∧ Below W.heap.size W W') (e : x = y) : Calls Tryz.prog f args W fun r W' => r = .returned (.bool y) ∧ Below W.heap.size W W' := e ▸ h
/-- A call of a controller has been done: it is that one now; its blocks are those that it had, and new ones. -/
def Did (w : World) (S : Nat → Prop) (g : Nat) (M : Mt) (w' : World) : Prop := Mm w' (fun b => S b ∨ w.heap.size ≤ b) g M ∧ Turn S w w'
theorem Did.wide {w w' : World} {S T : Nat → Prop} {g : Nat} {M : Mt} (h : Did w S g M w') (hT : ∀ b, S b → T b) : Did w T g M w' := ⟨h.1.wide (fun b q => q.imp_left (hT b)), h.2.mono (fun b _ q => hT b q)⟩
theorem Did.of_below {w w' : World} {S : Nat → Prop} {g : Nat} {M : Mt} (h : Mm w' S g M) (hb : Below w.heap.size w w') : Did w S g M w' := ⟨h.wide (fun _ q => .inl q), Turn.of_below hb S⟩
theorem Did.later {w w1 w2 : World} {S : Nat → Prop} {g : Nat} {M : Mt} (hb : Below w.heap.size w w1) (h : Did w1 S g M w2) : Did w S g M w2 := ⟨h.1.wide (fun b q => q.imp_right (fun e => Nat.le_trans hb.size e)), (Turn.of_below hb S).trans h.2 (fun _ _ e => e)⟩
theorem Did.more {w w1 w2 : World} {S : Nat → Prop} {g : Nat} {M : Mt} (h : Did w S g M w1) (hb : Below w1.heap.size w1 w2) : Did w S g M w2 := ⟨h.1.below hb, h.2.trans (Turn.of_below hb S) (fun _ _ e => e)⟩
/-- What a call that may be refused does and answers. -/
def MeP (w : World) (S : Nat → Prop) (g : Nat) (M M' : Mt) (e : Int) (ans : Value) (r : Ending) (w' : World) : Prop := r = .returned ans ∧ Did w S g (if e = 0 then M' else M) w'
theorem MeP.wide {w w' : World} {S T : Nat → Prop} {g : Nat} {M M' : Mt} {e : Int} {ans : Value} {r : Ending} (h : MeP w S g M M' e ans r w') (hT : ∀ b, S b → T b) : MeP w T g M M' e ans r w' := ⟨h.1, h.2.wide hT⟩
end Go.Proofs.YtpmdicbhliclcaaGreat
