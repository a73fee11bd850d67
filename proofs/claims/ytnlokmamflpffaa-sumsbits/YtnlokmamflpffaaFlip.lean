/-
  A turned bit of a row of the call's own, and an append inside a statement whose order is open. Conditions: fewer than 1000000 bytes.
-/
import Derived.Test.YtnlokmamflpffaaLeft
namespace Go.Proofs.Ytnlokmamflpffaa
open Go.RowKit
theorem step_append_bytes {ops : Array Oper} {o : Oper} {a : Act} {w : World} {K : Act → World → Prop} {Q : Exit → Act → World → Prop} {E : Prop} {d : Nat} (hw : Region.wanted o (yielded ops a.tmps) = true) (hd : o.dst = some d) (s x : Operand)
    (ho : o.op = .call { callee := .builtin .append, args := #[s, x], argTypes := #[22, 22] })
    (base : Nat) (v : Value) (l : List UInt8) (hs : a.eval s = v) (hown : Own w base v l) (B : Nat) (A : Option Addr) (m c : Nat) (k : List UInt8) (hx : a.eval x = .slice A m c) (hr : Bys w B A m k)
    (hl : l.length < 1000000) (hm : m < 1000000) (hbase : base ≤ w.heap.size)
    (h : ∀ v' w', Own w' base v' (l ++ k) → Below base w w' → w.grownBy w' v.ownBlock → (v'.ownBlock = v.ownBlock ∨ v'.ownBlock = some w.heap.size) → K { a with tmps := a.tmps.setIfInBounds d v' } w') : if Region.wanted o (yielded ops a.tmps) = true then Oper.wp Try.prog o a w K Q else E := by
  rw [if_pos hw]
  obtain ⟨v', w', hrun, h2, h3, h4, h5⟩ : ∃ v' w', (Builtin.append_ #[22, 22] o.type #[v, .slice A m c]).run Try.prog w = .ok v' w' ∧ Own w' base v' (l ++ k) ∧ Below base w w' ∧ w.grownBy w' v.ownBlock ∧ (v'.ownBlock = v.ownBlock ∨ v'.ownBlock = some w.heap.size) := by
    obtain ⟨i, hi, hz0, hz1, hz2⟩ := info_parts info5
    rcases A with _ | ad
    · have h0 : m = 0 := by
        rcases Nat.eq_zero_or_pos m with h0 | h0
        · exact h0
        · obtain ⟨ad, h, _⟩ := hr.2 h0
          cases h
      subst h0
      have hk : k = [] := List.eq_nil_of_length_eq_zero hr.1
      subst hk
      exact ⟨v, w, run_append_of_nil w base v l hown c o.type, by simpa using hown, Below.refl _ _, World.grownBy.refl w _, .inl rfl⟩
    · have hcells : ∀ j u, (k.map byteV)[j]? = some u → w.cell? (ad.add j) = some u := by
        intro j u hu
        rcases Nat.eq_zero_or_pos m with h0 | h0
        · subst h0
          have hn : k = [] := List.eq_nil_of_length_eq_zero hr.1
          subst hn
          simp at hu
        · obtain ⟨ad', h, _, hc⟩ := hr.2 h0
          injection h with h
          subst h
          rw [List.getElem?_map] at hu
          cases hx : k[j]? with
          | none => rw [hx] at hu; cases hu
          | some x => rw [hx] at hu; injection hu with hu; subst hu; exact hc j x hx
      have h1 : ∀ u ∈ k.map byteV, u.oneCell' = true := by
        intro u hu
        obtain ⟨x, _, rfl⟩ := List.mem_map.1 hu
        rfl
      obtain ⟨v', w', hrun, h2, h3, _, h5⟩ := run_append_own_at (P := Try.prog) w base 22 o.type 5 i (.int .u8 0) 1 1 Try.underlying22 hi hz0 hz1 hz2 rfl (by omega) v l.length (l.map byteV) hown ad m c (k.map byteV) (by rw [List.length_map, hr.1, Nat.mul_one]) hcells h1 (by unfold maxLen; omega) (by omega) hbase
      refine ⟨v', w', hrun, ?_, hown.low h3 hbase, h3, h5⟩
      unfold Own
      rw [List.length_append, List.map_append, hr.1]
      exact h2
  unfold Oper.wp execOp
  simp only [ho, resolve, invoke, builtin, Sem.run_bind, Sem.run_pure, Result.andThen_ok, List.map_toArray, List.map_cons, List.map_nil, hs, hx, hrun]
  show K (a.put o.dst v') w'
  rw [hd]
  exact h v' w' h2 h3 h4 h5
theorem sum_xor (l : List UInt8) : Crc.sum l = 4294967295 ^^^ Crc.run 4294967295 l := by
  have hr := Crc.run_lt l (w := 4294967295) (by omega)
  rw [not32 _ (by omega)]
  rfl
theorem sum_flip (l : List UInt8) (p : Nat) (hp : p < 8 * l.length) : Crc.sum l ^^^ Crc.sum (Crc.flip l p) = Crc.far (8 * l.length - p) := by
  rw [sum_xor, sum_xor, Crc.run_flip 4294967295 l p hp]
  generalize Crc.run 4294967295 l = x
  generalize Crc.far (8 * l.length - p) = y
  rw [← Nat.xor_assoc 4294967295 x y, ← Nat.xor_assoc, Nat.xor_self, Nat.zero_xor]
theorem sum_flip_ne (l : List UInt8) (p : Nat) (hp : p < 8 * l.length) : Crc.sum l ≠ Crc.sum (Crc.flip l p) := by
  intro h
  have := sum_flip l p hp
  rw [← h, Nat.xor_self] at this
  exact Crc.far_ne _ this.symm
end Go.Proofs.Ytnlokmamflpffaa
