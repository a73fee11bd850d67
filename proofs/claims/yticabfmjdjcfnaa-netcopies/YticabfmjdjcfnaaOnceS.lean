/-
  Elements of the two rows, as a walk asks for them. Nothing is assumed.
-/
import Derived.Test.YticabfmjdjcfnaaOnceR
namespace Go.Proofs.Yticabfmjdjcfnaa
open Go.RowKit
theorem Blk.five {w : World} {g : Nat} {t : TypeId} {a b c d e : Value} (h : Blk w g t #[a, b, c, d, e]) : w.cell? ⟨g, 0, none⟩ = some a ∧ w.cell? ⟨g, 1, none⟩ = some b ∧ w.cell? ⟨g, 2, none⟩ = some c ∧ w.cell? ⟨g, 3, none⟩ = some d ∧ w.cell? ⟨g, 4, none⟩ = some e :=
  ⟨h.cell 0, h.cell 1, h.cell 2, h.cell 3, h.cell 4⟩
section
variable {B : Nat} {S : Nat → Prop} {ms : List Msg} {gs : List Bool} {v7 v8 : Value} {w : World}
theorem Rest.form7 (h : Rest B S ms gs v7 v8 w) : ∃ A c, v7 = .slice A ms.length c ∧ ms.length ≤ c ∧ c ≤ maxLen := by
  obtain ⟨css, h1, h2, h3⟩ := h.rows
  obtain ⟨A, q, c, e, hq, hc⟩ := h1.form
  exact ⟨A, c, by rw [e, hq, h2], by omega, hc.2⟩
theorem Rest.form8 (h : Rest B S ms gs v7 v8 w) : ∃ A c, v8 = .slice A gs.length c ∧ gs.length ≤ c ∧ c ≤ maxLen := by
  obtain ⟨A, q, c, e, hq, hc⟩ := h.gone.form
  rw [List.length_map] at hq
  exact ⟨A, c, by rw [e, hq], by omega, hc.2⟩
theorem Rest.gone_at {A : Option Addr} {n c : Nat} (h : Rest B S ms gs v7 (.slice A n c) w) {q : Nat} {b : Bool} (hq : gs[q]? = some b) : ∃ g8, A = some ⟨g8, 0, none⟩ ∧ w.cell? ⟨g8, q, none⟩ = some (.bool b) ∧ w.frozen? ⟨g8, q, none⟩ = false := by
  obtain ⟨A', n', c', e, hn, _⟩ := h.gone.form
  injection e with e1 e2 e3
  subst e1 e2 e3
  rw [List.length_map] at hn
  have hl := h.gone.1
  rw [flat_bools, List.length_map, ← hn] at hl
  have hlt := (List.getElem?_eq_some_iff.1 hq).1
  obtain ⟨g8, cap, hv, _, _⟩ := hl.form (by omega)
  have hA : A = some ⟨g8, 0, none⟩ := by injection hv
  subst hA
  have hcell := hl.cells (g := g8) rfl q _ (by rw [List.getElem?_map, hq]; rfl)
  have hadd : (⟨g8, 0, none⟩ : Addr).add q = ⟨g8, q, none⟩ := by unfold Addr.add; split <;> simp_all
  rw [hadd] at hcell
  exact ⟨g8, rfl, hcell, hl.frozenAt q⟩
theorem Rest.row_at {A : Option Addr} {n c : Nat} (h : Rest B S ms gs (.slice A n c) v8 w) {q : Nat} {m : Msg} (hq : ms[q]? = some m) : ∃ g7 Am nm cm, A = some ⟨g7, 0, none⟩ ∧ B ≤ g7 ∧ MsgV w No m (.agg #[.int .i64 m.fr, .int .i64 m.to, .slice Am nm cm]) ∧
    w.cell? ⟨g7, q * 3, none⟩ = some (.int .i64 m.fr) ∧ w.cell? ⟨g7, q * 3 + 1, none⟩ = some (.int .i64 m.to) ∧ w.cell? ⟨g7, q * 3 + 2, none⟩ = some (.slice Am nm cm) := by
  have hl7 := h.low7
  obtain ⟨css, h1, h2, h3⟩ := h.rows
  have hlt := (List.getElem?_eq_some_iff.1 hq).1
  have hcq := List.getElem?_eq_getElem (show q < css.length by omega)
  have hmv := h3 q m _ hq hcq
  obtain ⟨Am, nm, cm, e, hB⟩ := hmv
  injection e with e
  have hrd := h1.rd (X := No) (fun _ _ h => h)
  obtain ⟨ad, rfl, hb, _, hc⟩ := hrd.at_ hcq
  have hform := h1.1.2
  rcases hform with ⟨e', h0⟩ | ⟨g, cap, cur, e', hg, hh, hq1, hq2, hq3, hq4⟩
  · cases e'
  · injection e' with e1 e2 e3
    injection e1 with e1
    subst e1
    rw [e] at hc
    have hadd : ∀ j, (⟨g, 0, none⟩ : Addr).add j = ⟨g, j, none⟩ := fun j => by unfold Addr.add; split <;> simp_all
    have c0 := hc 0 _ rfl
    have c1 := hc 1 _ rfl
    have c2 := hc 2 _ rfl
    rw [hadd] at c0 c1 c2
    exact ⟨g, Am, nm, cm, rfl, (hl7 g rfl).1, ⟨Am, nm, cm, rfl, hB.wide (fun _ _ h => h.elim)⟩, c0, c1, c2⟩
end
end Go.Proofs.Yticabfmjdjcfnaa
