/-
  What refuses an entry: each of the program's reasons by itself. Nothing is assumed.
-/
import Derived.Test.YthcphoijanebhaaDoorSmall
namespace Go.Proofs.YthcphoijanebhaaDoor
open Go.RowKit Go.Maps
theorem below_drewN {B : Nat} {a w : World} (h : Below B a w) (n : Nat) : Below B a (w.drewN n) := ⟨h.os, h.tape, h.output, h.size, h.block⟩
theorem when_is {b : Bool} {n r : Int} (h : r = if b = true then n else 0) (w : World) : Calls Tryd.prog 91 #[.bool b, .int .i64 n] w fun e w' => e = .returned (.int .i64 r) ∧ w' = w :=
  (when_any b n w).mono fun e w' ⟨h1, h2⟩ => ⟨by rw [h1, h], h2.symm⟩
theorem quiet_again {f : FuncId} {args : Array Value} {w : World} {p n : Nat} {v : Value} (h : Calls Tryd.prog f args (w.drewN (p + n)) fun e w' => e = .returned v ∧ w' = w.drewN (p + n)) :
    Calls Tryd.prog f args (w.drewN (p + n)) fun e w'' => e = .returned v ∧ ∃ m, w'' = (w.drewN p).drewN m := h.mono fun _ _ ⟨he, hm⟩ => ⟨he, n, by rw [hm, World.drewN_drewN]⟩
theorem quiet_more {f : FuncId} {args : Array Value} {w : World} {p n : Nat} {v : Value} (h : Calls Tryd.prog f args (w.drewN (p + n)) fun e w' => e = .returned v ∧ w' = w.drewN (p + n)) :
    Calls Tryd.prog f args (w.drewN (p + n)) fun e w'' => e = .returned v ∧ ∃ m, w'' = w.drewN (p + m) := h.mono fun _ _ ⟨he, hm⟩ => ⟨he, n, hm⟩
theorem OM.grow {w : World} {m : Nat} {l : List (Int × Nat)} (h : OM w m l) (o : Obj) (q : Nat) : OM ((w.alloc o).drewN q) m l := h.keepB (Below.heap_alloc w o m h.lt)
theorem eqb {a b : Int} (h : a = b) : (a == b) = true := by simp [h]
theorem neb {a b : Int} (h : ¬ a = b) : (a == b) = false := by simp [h]
theorem eqn {a b : Int} (h : a = b) : (a != b) = false := by simp [h]
theorem nen {a b : Int} (h : ¬ a = b) : (a != b) = true := by simp [h]
def elderD (x : Wr) (n : Int) : Int := if n ≤ x.marked ∨ n < x.high then 181 else 0
def besideO (x : Wr) (n : Int) : Int := if other x.opens n = true then 182 else 0
def doubleD (x : Wr) (n s : Int) : Int := if n = x.high ∧ s < x.next then 183 else 0
def nextOf (x : Wr) (n : Int) : Int := if x.high < n then 0 else x.next
def notNext (x : Wr) (n s : Int) : Int := if s = nextOf x n then 0 else 184
def doubleM (x : Wr) (n : Int) : Int := if n ≤ x.marked then 183 else 0
def elderM (x : Wr) (n : Int) : Int := if n < x.high ∨ other x.opens n = true then 181 else 0
end Go.Proofs.YthcphoijanebhaaDoor
