/-
  Steps in a region that draws its order: a take at a slot, an append as a step. Nothing is assumed but bounds.
-/
import Derived.Test.YthhiiimmgghhaaaAsk
namespace Go.Proofs.Ythhiiimmgghhaaa
open Go.RowKit
theorem wpAnyH_takeAt {P : Program} {md : Region.Mode} {ops : Array Oper} {Q : Exit → Act → World → Prop} {S : World → Prop} {i d : Nat} {oi : Oper} {v : Value} {fuel : Nat} {listed : Array Bool} {a : Act} {w : World}
    (hi : ops[i]? = some oi) (hd : oi.dst = some d) (hs : Region.noSelect ops = true) (hf : Region.free md ops listed i = true) (hr : (Region.ready md ops listed).contains i = true)
    (hQ : ∀ c a w, Q (.panic c) (a.put (some d) v) w → Q (.panic c) a w) (hy : YieldsIf P ops S oi v a) (hS : S w)
    (h : wpAnyH P md ops Q S fuel (listed.setIfInBounds i true) { a with tmps := a.tmps.setIfInBounds d v } w) : wpAnyH P md ops Q S (fuel + 1) listed a w :=
  wpAnyH_take hi hs hf hr (by rw [hd]; exact hQ) hy hS (by rw [hd]; exact h)
/-- A region that is shown not to panic serves whatever the post says of a panic. -/
theorem wp_region_np {P : Program} {id : Nat} {ops : Array Oper} {b : Bool} {Q : Exit → Act → World → Prop} {a : Act} {w : World}
    (h : (Code.region id ops b).wp P (fun e a w => match e with | .panic _ => False | e => Q e a w) a w) : (Code.region id ops b).wp P Q a w :=
  Code.wp_mono (fun e a w h => by cases e <;> first | exact h | exact False.elim h) h
section
variable {ops : Array Oper} {o : Oper} {a : Act} {w : World} {K : Act → World → Prop} {Q : Exit → Act → World → Prop} {E : Prop} {d : Nat}
theorem step_append_eq {t u : TypeId} (hw : Region.wanted o (yielded ops a.tmps) = true) (hd : o.dst = some d) (s x : Operand)
    (ho : o.op = .call { callee := .builtin .append, args := #[s, x], argTypes := #[t, u] }) (vs vx : Value) (hs : a.eval s = vs) (hx : a.eval x = vx) {v' : Value} {w' : World}
    (hrun : (Builtin.append_ #[t, u] o.type #[vs, vx]).run Try.prog w = .ok v' w')
    (h : K { a with tmps := a.tmps.setIfInBounds d v' } w') : if Region.wanted o (yielded ops a.tmps) = true then Oper.wp Try.prog o a w K Q else E := by
  rw [if_pos hw]
  unfold Oper.wp execOp
  simp only [ho, resolve, invoke, builtin, Sem.run_bind, Sem.run_pure, Result.andThen_ok, List.map_toArray, List.map_cons, List.map_nil, hs, hx, hrun]
  show K (a.put o.dst v') w'
  rw [hd]
  exact h
theorem step_append_str (hw : Region.wanted o (yielded ops a.tmps) = true) (hd : o.dst = some d) (s x : Operand)
    (ho : o.op = .call { callee := .builtin .append, args := #[s, x], argTypes := #[32, 9] })
    (v : Value) (l : Bs) (hs : a.eval s = v) (hown : Own w v l) (k : Bs) (hx : a.eval x = .string (str k)) (hl : l.length ≤ 1000000000) (hm : k.length ≤ 1000000000)
    (h : ∀ v' w', Own w' v' (l ++ k) → Grew v w v' w' → K { a with tmps := a.tmps.setIfInBounds d v' } w') : if Region.wanted o (yielded ops a.tmps) = true then Oper.wp Try.prog o a w K Q else E := by
  rw [if_pos hw]
  obtain ⟨v', w', hrun, h2, h3⟩ := run_append_str w v l hown k o.type hl hm
  unfold Oper.wp execOp
  simp only [ho, resolve, invoke, builtin, Sem.run_bind, Sem.run_pure, Result.andThen_ok, List.map_toArray, List.map_cons, List.map_nil, hs, hx, hrun]
  show K (a.put o.dst v') w'
  rw [hd]
  exact h v' w' h2 h3
theorem step_append_bytes (hw : Region.wanted o (yielded ops a.tmps) = true) (hd : o.dst = some d) (s x : Operand)
    (ho : o.op = .call { callee := .builtin .append, args := #[s, x], argTypes := #[32, 32] })
    (v : Value) (l : Bs) (hs : a.eval s = v) (hown : Own w v l) (X : Nat → Prop) (A : Option Addr) (m c : Nat) (k : Bs) (hx : a.eval x = .slice A m c) (hr : Bys w X A m k) (hl : l.length ≤ 1000000000) (hm : m ≤ 1000000000)
    (h : ∀ v' w', Own w' v' (l ++ k) → Grew v w v' w' → K { a with tmps := a.tmps.setIfInBounds d v' } w') : if Region.wanted o (yielded ops a.tmps) = true then Oper.wp Try.prog o a w K Q else E := by
  rw [if_pos hw]
  obtain ⟨v', w', hrun, h2, h3⟩ := run_append_bytes w v l hown X A m c k hr o.type hl hm
  unfold Oper.wp execOp
  simp only [ho, resolve, invoke, builtin, Sem.run_bind, Sem.run_pure, Result.andThen_ok, List.map_toArray, List.map_cons, List.map_nil, hs, hx, hrun]
  show K (a.put o.dst v') w'
  rw [hd]
  exact h v' w' h2 h3
theorem step_append_k {t e k by_ : Nat} {z : Value} (El : El t e k z by_) (hw : Region.wanted o (yielded ops a.tmps) = true) (hd : o.dst = some d) (s x : Operand)
    (ho : o.op = .call { callee := .builtin .append, args := #[s, x], argTypes := #[t, t] })
    (v : Value) (css : List (Array Value)) (hs : a.eval s = v) (hown : OwnK w e k v css) (X : Nat → Prop) (A : Option Addr) (m c : Nat) (kss : List (Array Value)) (hx : a.eval x = .slice A m c) (hr : Rd w X k A m kss)
    (hl : css.length ≤ 1000000000) (hm : m ≤ 1000000000)
    (h : ∀ v' w', OwnK w' e k v' (css ++ kss) → Grew v w v' w' → K { a with tmps := a.tmps.setIfInBounds d v' } w') : if Region.wanted o (yielded ops a.tmps) = true then Oper.wp Try.prog o a w K Q else E := by
  rw [if_pos hw]
  obtain ⟨v', w', hrun, h2, h3⟩ := run_append_k El w v css hown X A m c kss hr o.type hl hm
  unfold Oper.wp execOp
  simp only [ho, resolve, invoke, builtin, Sem.run_bind, Sem.run_pure, Result.andThen_ok, List.map_toArray, List.map_cons, List.map_nil, hs, hx, hrun]
  show K (a.put o.dst v') w'
  rw [hd]
  exact h v' w' h2 h3
end
set_option maxRecDepth 100000 in
theorem FM.look_keep {w w' : World} {S : Nat → Prop} {m : Nat} {l : FL} (h : FM w S m l) {n : Bs} (hn : n.length ≤ maxLen) {v : Value} (hl : (Instr.lookup 76 (.map (some m)) (.string (str n)) false).run Try.prog w = .ok v w) (hk : w'.heap[m]? = w.heap[m]?) :
    (Instr.lookup 76 (.map (some m)) (.string (str n)) false).run Try.prog w' = .ok v w' := by
  obtain ⟨vs, h1, _⟩ := h
  have e1 := h1.look hn
  have e2 := (h1.keepB hk).look hn
  rw [hl] at e1
  injection e1 with e1 _
  rw [e2, e1]
/-- A region that comes to one end, whatever its order. -/
theorem wp_region_to {P : Program} {id : Nat} {ops : Array Oper} {b : Bool} {Q : Exit → Act → World → Prop} {a : Act} {w : World} (A : Act) (W : World)
    (h : (Code.region id ops b).wp P (fun e a' w' => e = .normal ∧ a' = A ∧ w' = W) a w) (hc : Q .normal A W) : (Code.region id ops b).wp P Q a w :=
  Code.wp_mono (fun e a w h => by obtain ⟨rfl, rfl, rfl⟩ := h; exact hc) h
theorem Grew.of_drew {v v' : Value} {w w' : World} (h : Grew v w.drew v' w') : Grew v w v' w' := ⟨⟨h.1.os, h.1.tape, h.1.output, h.1.size, h.1.block⟩, h.2⟩
end Go.Proofs.Ythhiiimmgghhaaa
