/-
  waystationlaw05.NetPuts: whether messages are few; what holds between two of them. Nothing is assumed but bounds.
-/
import Derived.Test.YticabfmjdjcfnaaActA
namespace Go.Proofs.Yticabfmjdjcfnaa
open Go.RowKit
def costM (t : Msg) : Nat := 20 + min t.b.length 9001
def fewM (ts : List Msg) : Nat := (ts.map costM).sum
theorem fewM_take (ts : List Msg) {k : Nat} (h : k < ts.length) : fewM (ts.take (k + 1)) = fewM (ts.take k) + costM ts[k] := by
  unfold fewM
  rw [List.take_succ_eq_append_getElem h, List.map_append, List.sum_append]
  simp
theorem fewM_le (ts : List Msg) (k : Nat) : fewM (ts.take k) ≤ fewM ts := by
  have : fewM ts = fewM (ts.take k) + fewM (ts.drop k) := by
    unfold fewM
    rw [← List.sum_append, ← List.map_append, List.take_append_drop]
  omega
theorem fewM_mem : ∀ (ts : List Msg) {t : Msg}, t ∈ ts → costM t ≤ fewM ts
  | x :: ts, t, h => by
    have e : fewM (x :: ts) = costM x + fewM ts := by simp [fewM]
    rcases List.mem_cons.1 h with rfl | h
    · omega
    · have := fewM_mem ts h; omega
/-- The cells of a message, in the form in which a load asks for them. -/
theorem Ms.at_ {w : World} {X : Nat → Prop} {A : Option Addr} {n : Nat} {xs : List Msg} (h : Ms w X A n xs) {k : Nat} (hk : k < xs.length) : ∃ ad cs, A = some ad ∧ ad.block < w.heap.size ∧ ¬ X ad.block ∧ MAt w X xs[k] cs ∧
    (∀ u, cs[0]? = some u → w.cell? (ad.add (k * 3)) = some u) ∧ ∀ j u, cs[j + 1]? = some u → w.cell? ⟨(ad.add (k * 3)).block, (ad.add (k * 3)).off + (j + 1), none⟩ = some u := by
  obtain ⟨css, hrd, hcl, hcs⟩ := h
  have hck := List.getElem?_eq_getElem (show k < css.length by omega)
  obtain ⟨ad, h1, h2, h3, h4, h5⟩ := hrd.load hck
  exact ⟨ad, css[k]'(by omega), h1, h2, h3, hcs k _ _ (List.getElem?_eq_getElem hk) hck, h4, h5⟩
/-- What holds between two calls by both: the net, the document's in the variable at block zv. -/
structure Pl (B : Nat) (g zv k : Nat) (S : Nat → Prop) (s : St) (cs : Array Value) (w : World) : Prop where
  net : Nt w S g s
  ref : RAt w (fun b => S b ∨ b = zv) s cs
  var : Blk w zv 28 cs
  low : ∀ b, S b → B ≤ b ∧ b ≠ zv
  zlow : B ≤ zv
  came : s.came ≤ k
theorem Pl.below {B g zv k : Nat} {S : Nat → Prop} {s : St} {cs : Array Value} {w w' : World} (h : Pl B g zv k S s cs w) (hb : Below w.heap.size w w') : Pl B g zv k S s cs w' :=
  ⟨h.net.below hb, h.ref.below hb, h.var.below hb h.var.lt, h.low, h.zlow, h.came⟩
theorem Pl.size {B g zv k : Nat} {S : Nat → Prop} {s : St} {cs : Array Value} {w : World} (h : Pl B g zv k S s cs w) : cs.size = 3 ∧ cs.all (·.oneCell') = true := by
  obtain ⟨A, n, c, e, _⟩ := h.ref
  rw [e]
  exact ⟨rfl, by simp [Value.oneCell']⟩
theorem came_putA (s : St) (m : Msg) : (s.putA m).came ≤ s.came + 1 := by
  unfold St.putA
  split
  · exact Nat.le_refl _
  · omega
theorem RAt.size {w : World} {X : Nat → Prop} {s : St} {cs : Array Value} (h : RAt w X s cs) : cs.size = 3 ∧ cs.all (·.oneCell') = true := by
  obtain ⟨A, n, c, e, _⟩ := h
  rw [e]
  exact ⟨rfl, by simp [Value.oneCell']⟩
/-- A call by both was done, and its answer is stored. -/
theorem Pl.acted {B g zv k : Nat} {S S' : Nat → Prop} {s s' : St} {cs cs' : Array Value} {w w1 w2 : World} (h : Pl B g zv k S s cs w) (hB : B ≤ w.heap.size) (hS1 : ∀ b, S' b → S b ∨ w.heap.size ≤ b) (hN : Nt w1 S' g s') (hR : RAt w1 (fun b => S' b ∨ b = zv) s' cs')
    (hc : s'.came ≤ k + 1) (hv : Blk w2 zv 28 cs') (hT : Turn (fun b => b = zv) w1 w2) : Pl B g zv (k + 1) S' s' cs' w2 := by
  have hzl := h.var.lt
  have hlow : ∀ b, S' b → B ≤ b ∧ b ≠ zv := fun b e => (hS1 b e).elim (h.low b) (fun e => ⟨by omega, by omega⟩)
  exact ⟨hN.keep hT (fun b _ e e' => (hlow b e').2 e), hR.keep hT (fun b _ e => .inr e), hv, hlow, h.zlow, hc⟩
end Go.Proofs.Yticabfmjdjcfnaa
