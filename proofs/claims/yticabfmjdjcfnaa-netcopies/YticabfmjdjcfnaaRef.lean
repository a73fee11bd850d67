/-
  The net of the document in memory: its bound, a row of items, how many numbers were given. Nothing is assumed.
-/
import Derived.Test.YticabfmjdjcfnaaOnceS
namespace Go.Proofs.Yticabfmjdjcfnaa
open Go.RowKit
/-- The cells cs are a message with its number; its bytes lie in no block of X. -/
def ItAt (w : World) (X : Nat → Prop) (p : Int × Msg) (cs : Array Value) : Prop :=
  ∃ A q c, cs = #[.int .i64 p.1, .int .i64 p.2.fr, .int .i64 p.2.to, .slice A q c] ∧ Bys w X A q p.2.b
/-- A slice of items. -/
def Its (w : World) (X : Nat → Prop) (A : Option Addr) (n : Nat) (l : Row) : Prop :=
  ∃ css, Rd w X 4 A n css ∧ css.length = l.length ∧ ∀ (i : Nat) (p : Int × Msg) (cs : Array Value), l[i]? = some p → css[i]? = some cs → ItAt w X p cs
/-- The document's net. -/
def RAt (w : World) (X : Nat → Prop) (s : St) (cs : Array Value) : Prop :=
  ∃ A n c, cs = #[.int .i64 (s.most : Int), .slice A n c, .int .i64 (s.came : Int)] ∧ Its w X A n s.l ∧ n ≤ c ∧ c ≤ maxLen
section
variable {w w' : World} {X X' S : Nat → Prop} {A : Option Addr} {n : Nat} {l : Row} {s : St} {cs : Array Value}
theorem ItAt.keep {p : Int × Msg} (h : ItAt w X p cs) (ht : Turn S w w') (hS : ∀ b, b < w.heap.size → S b → X b) : ItAt w' X p cs := by
  obtain ⟨A, q, c, e, hb⟩ := h
  exact ⟨A, q, c, e, hb.keep ht hS⟩
theorem ItAt.wide {p : Int × Msg} (h : ItAt w X p cs) (hX : ∀ b, b < w.heap.size → X' b → X b) : ItAt w X' p cs := by
  obtain ⟨A, q, c, e, hb⟩ := h
  exact ⟨A, q, c, e, hb.wide hX⟩
theorem Its.keep (h : Its w X A n l) (ht : Turn S w w') (hS : ∀ b, b < w.heap.size → S b → X b) : Its w' X A n l := by
  obtain ⟨css, h1, h2, h3⟩ := h
  exact ⟨css, h1.keep ht hS, h2, fun i t cs e1 e2 => (h3 i t cs e1 e2).keep ht hS⟩
theorem Its.wide (h : Its w X A n l) (hX : ∀ b, b < w.heap.size → X' b → X b) : Its w X' A n l := by
  obtain ⟨css, h1, h2, h3⟩ := h
  exact ⟨css, h1.wide hX, h2, fun i t cs e1 e2 => (h3 i t cs e1 e2).wide hX⟩
theorem Its.below (h : Its w X A n l) (hb : Below w.heap.size w w') : Its w' X A n l := h.keep (S := No) (Turn.of_below hb No) (fun _ _ h => h.elim)
theorem Its.len (h : Its w X A n l) : l.length = n := by
  obtain ⟨css, h1, h2, _⟩ := h
  rw [← h2]; exact h1.1
theorem Its.nil : Its w X A 0 [] := ⟨[], Rd.none_, rfl, fun i t cs e => by simp at e⟩
theorem RAt.keep (h : RAt w X s cs) (ht : Turn S w w') (hS : ∀ b, b < w.heap.size → S b → X b) : RAt w' X s cs := by
  obtain ⟨A, n, c, e, h1, h2⟩ := h
  exact ⟨A, n, c, e, h1.keep ht hS, h2⟩
theorem RAt.wide (h : RAt w X s cs) (hX : ∀ b, b < w.heap.size → X' b → X b) : RAt w X' s cs := by
  obtain ⟨A, n, c, e, h1, h2⟩ := h
  exact ⟨A, n, c, e, h1.wide hX, h2⟩
theorem RAt.below (h : RAt w X s cs) (hb : Below w.heap.size w w') : RAt w' X s cs := h.keep (S := No) (Turn.of_below hb No) (fun _ _ h => h.elim)
/-- The net's own has turned, and has grown by new memory. -/
theorem RAt.turn {S' : Nat → Prop} (h : RAt w S s cs) (ht : Turn S w w') (hS : ∀ b, S' b → S b ∨ w.heap.size ≤ b) (hSS : ∀ b, S b → S' b) : RAt w' S' s cs :=
  (h.wide (fun b hb e => (hS b e).elim id (fun e => absurd e (by omega)))).keep ht (fun b _ e => hSS b e)
/-- The cells of an item, in the form in which a load asks for them. -/
theorem Its.at_ (h : Its w X A n l) {k : Nat} (hk : k < l.length) : ∃ ad Am q c, A = some ad ∧ ad.block < w.heap.size ∧ ¬ X ad.block ∧ Bys w X Am q l[k].2.b ∧
    w.cell? (ad.add (k * 4)) = some (.int .i64 l[k].1) ∧ w.cell? ⟨(ad.add (k * 4)).block, (ad.add (k * 4)).off + 1, none⟩ = some (.int .i64 l[k].2.fr) ∧ w.cell? ⟨(ad.add (k * 4)).block, (ad.add (k * 4)).off + 2, none⟩ = some (.int .i64 l[k].2.to) ∧ w.cell? ⟨(ad.add (k * 4)).block, (ad.add (k * 4)).off + 3, none⟩ = some (.slice Am q c) := by
  obtain ⟨css, hrd, hcl, hcs⟩ := h
  have hck := List.getElem?_eq_getElem (show k < css.length by omega)
  obtain ⟨ad, h1, h2, h3, h4, h5⟩ := hrd.load hck
  obtain ⟨Am, q, c, e, hb⟩ := hcs k _ _ (List.getElem?_eq_getElem hk) hck
  rw [e] at h4 h5
  exact ⟨ad, Am, q, c, h1, h2, h3, hb, h4 _ rfl, h5 0 _ rfl, h5 1 _ rfl, h5 2 _ rfl⟩
end
theorem block_of_addk (ad : Addr) (k : Nat) : (ad.add k).block = ad.block := block_of_add ad k
end Go.Proofs.Yticabfmjdjcfnaa
