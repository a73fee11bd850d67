/-
  Appending bytes to a row of the call's own, and what stays: all but the row itself. Conditions: fewer than 1000000 bytes on each side.
-/
import Derived.Test.YtickdpgfiianjaaSpec
namespace Go.Proofs.Ytickdpgfiianjaa
open Go.RowKit
/-- From v in w there came v' in w': nothing has turned but v's own block; and v' lies there, or in new memory. -/
def Grew (v : Value) (w : World) (v' : Value) (w' : World) : Prop := w.grownBy w' v.ownBlock ∧ ∀ g, v'.ownBlock = some g → v.ownBlock = some g ∨ w.heap.size ≤ g
section
variable {w w' w'' : World} {v v' v'' : Value} {base : Nat} {l : List UInt8}
theorem grown_of_low (h : Below w.heap.size w w') (row : Option Nat) : w.grownBy w' row := ⟨h.os, h.tape, h.output, h.size, fun i hi _ => h.block i hi⟩
theorem Grew.of_low (h : Below w.heap.size w w') : Grew v w v w' := ⟨grown_of_low h _, fun _ e => .inl e⟩
theorem Grew.refl : Grew v w v w := Grew.of_low (Below.refl _ _)
theorem Grew.alloc (o : Obj) : Grew v w v (w.alloc o) := Grew.of_low ((Below.refl _ _).alloc (Nat.le_refl _) _)
theorem Grew.trans (h : Grew v w v' w') (h' : Grew v' w' v'' w'') : Grew v w v'' w'' := by
  obtain ⟨⟨a1, a2, a3, a4, a5⟩, a6⟩ := h
  obtain ⟨⟨b1, b2, b3, b4, b5⟩, b6⟩ := h'
  refine ⟨⟨b1.trans a1, b2.trans a2, b3.trans a3, Nat.le_trans a4 b4, fun k hk hn => ?_⟩, fun g e => ?_⟩
  · refine (b5 k (by omega) (fun e => ?_)).trans (a5 k hk hn)
    rcases a6 k e.symm with h | h
    · exact hn h.symm
    · omega
  · rcases b6 g e with h | h
    · exact a6 g h
    · exact .inr (by omega)
theorem Own.lt (h : Own w base v l) {g : Nat} (e : v.ownBlock = some g) : base ≤ g ∧ g < w.heap.size := World.ownsRow.lt h g e
theorem Grew.low (h : Grew v w v' w') (ho : Own w base v l) (hb : base ≤ w.heap.size) : Below base w w' := below_of_grown h.1 hb (fun _ e => (ho.lt e).1)
theorem Grew.blk {g : Nat} {t : TypeId} {cs : Array Value} (h : Grew v w v' w') (hb : Blk w g t cs) (hn : v.ownBlock ≠ some g) : Blk w' g t cs := (h.1.block g hb.lt (fun e => hn e.symm)).trans hb
theorem Grew.not {g : Nat} (h : Grew v w v' w') (hn : v.ownBlock ≠ some g) (hg : g < w.heap.size) : v'.ownBlock ≠ some g := fun e => by
  rcases h.2 g e with h | h
  · exact hn h
  · omega
theorem Own.not_new (h : Own w base v l) : v.ownBlock ≠ some w.heap.size := fun e => by have := (h.lt e).2; omega
end
/-- What is known behind a call that appends to a row of the call's own. -/
def RowedG (w : World) (base : Nat) (v : Value) (l : List UInt8) (e : Ending) (w' : World) : Prop := ∃ v', e = .returned v' ∧ Own w' base v' l ∧ Grew v w v' w'
set_option maxRecDepth 100000 in
theorem run_append_grew (w : World) (base : Nat) (v : Value) (l : List UInt8) (hown : Own w base v l) (B : Nat) (A : Option Addr) (m c : Nat) (k : List UInt8) (hr : Bys w B A m k) (ty : TypeId)
    (hl : l.length < 1000000) (hm : m < 1000000) (hbase : base ≤ w.heap.size) :
    ∃ v' w', (Builtin.append_ #[22, 22] ty #[v, .slice A m c]).run Try.prog w = .ok v' w' ∧ Own w' base v' (l ++ k) ∧ Grew v w v' w' := by
  obtain ⟨i, hi, hz0, hz1, hz2⟩ := info_parts info5
  rcases A with _ | ad
  · have h0 : m = 0 := by
      rcases Nat.eq_zero_or_pos m with h0 | h0
      · exact h0
      · obtain ⟨ad, h, _⟩ := hr.2 h0
        cases h
    subst h0
    have hk : k = [] := List.eq_nil_of_length_eq_zero hr.1
    subst hk
    exact ⟨v, w, run_append_of_nil w base v l hown c ty, by simpa using hown, Grew.refl⟩
  · have hcells : ∀ j u, (k.map byteV)[j]? = some u → w.cell? (ad.add j) = some u := by
      intro j u hu
      rcases Nat.eq_zero_or_pos m with h0 | h0
      · subst h0
        have hn : k = [] := List.eq_nil_of_length_eq_zero hr.1
        subst hn
        simp at hu
      · obtain ⟨ad', h, _, hc⟩ := hr.2 h0
        injection h with h
        subst h
        rw [List.getElem?_map] at hu
        cases hx : k[j]? with
        | none => rw [hx] at hu; cases hu
        | some x => rw [hx] at hu; injection hu with hu; subst hu; exact hc j x hx
    have h1 : ∀ u ∈ k.map byteV, u.oneCell' = true := by
      intro u hu
      obtain ⟨x, _, rfl⟩ := List.mem_map.1 hu
      rfl
    obtain ⟨v', w', hrun, h2, h3, _, h5⟩ := run_append_own_at (P := Try.prog) w base 22 ty 5 i (.int .u8 0) 1 1 Try.underlying22 hi hz0 hz1 hz2 rfl (by omega) v l.length (l.map byteV) hown ad m c (k.map byteV) (by rw [List.length_map, hr.1, Nat.mul_one]) hcells h1 (by unfold maxLen; omega) (by omega) hbase
    refine ⟨v', w', hrun, ?_, h3, fun g e => ?_⟩
    · unfold Own
      rw [List.length_append, List.map_append, hr.1]
      exact h2
    · rcases h5 with h | h
      · exact .inl (h.symm.trans e)
      · rw [h] at e; injection e with e; exact .inr (by omega)
set_option maxRecDepth 100000 in
theorem wpList_append_grew (w : World) {ops : Array Oper} {rest : List Oper} {o : Oper} {a : Act} {Q : Exit → Act → World → Prop} (hw : Region.wanted o (yielded ops a.tmps) = true) (s x : Operand)
    (ho : o.op = .call { callee := .builtin .append, args := #[s, x], argTypes := #[22, 22] })
    (base : Nat) (v : Value) (l : List UInt8) (hs : a.eval s = v) (hown : Own w base v l) (B : Nat) (A : Option Addr) (m c : Nat) (k : List UInt8) (hx : a.eval x = .slice A m c) (hr : Bys w B A m k)
    (hl : l.length < 1000000) (hm : m < 1000000) (hbase : base ≤ w.heap.size)
    (h : ∀ v' w', Own w' base v' (l ++ k) → Grew v w v' w' → wpList Try.prog ops Q rest (a.put o.dst v') w') : wpList Try.prog ops Q (o :: rest) a w := by
  refine BigFrame.wpList_want hw fun K hK => ?_
  obtain ⟨v', w', hrun, h2, h3⟩ := run_append_grew w base v l hown B A m c k hr o.type hl hm hbase
  unfold Oper.wp execOp
  simp only [ho, resolve, invoke, builtin, Sem.run_bind, Sem.run_pure, Result.andThen_ok, List.map_toArray, List.map_cons, List.map_nil, hs, hx, hrun]
  exact hK _ _ (h v' w' h2 h3)
end Go.Proofs.Ytickdpgfiianjaa
