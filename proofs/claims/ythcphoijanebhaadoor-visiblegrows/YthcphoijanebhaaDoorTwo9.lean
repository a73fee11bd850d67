/-
  A reader beside a log of our own and a row of what was told, apart. Nothing is assumed.
-/
import Derived.Test.YthcphoijanebhaaDoorLogv9
import Derived.Test.YthcphoijanebhaaDoorDoc9
import Derived.Test.YthcphoijanebhaaDoorNums9
import Derived.Test.YthcphoijanebhaaDoorStable9
import Derived.Test.YthcphoijanebhaaDoorApp9
namespace Go.Proofs.YthcphoijanebhaaDoor
open Go.RowKit Go.Maps
set_option linter.unusedVariables false
/-- A reader at block r (its blocks in S) of the log l, that may look as far as k and was told V; beside it a value o that is the log L, a value t that is the row U, and a row UA that stays; all apart. -/
structure G3 (w W : World) (S : Nat → Prop) (r : Nat) (l : List Ent) (k : Nat) (V : List Nat) (o : Value) (L : List Ent) (t : Value) (U : List Nat) (A : Option Addr) (n : Nat) (UA : List Nat) : Prop where
  rr : Rr W S r l k V
  lt : ∀ x, S x ∨ t.ownBlock = some x → w.heap.size ≤ x ∧ x < W.heap.size
  ts : ∀ b, t.ownBlock = some b → ¬ S b
  lg : LogV w L o W
  og : ∀ b, o.ownBlock = some b → ¬ S b ∧ t.ownBlock ≠ some b
  tv : OwnK W 3 1 t (intsOf U)
  al : Rd W (fun x => S x ∨ t.ownBlock = some x) 1 A n (intsOf UA)
section
variable {w W W' : World} {S T : Nat → Prop} {r k m : Nat} {l L : List Ent} {V V' U : List Nat} {o o' t t' : Value} {A : Option Addr} {n : Nat} {UA : List Nat} {e : Ent}
theorem LogV.lt (h : LogV w L o W) {b : Nat} (hb : o.ownBlock = some b) : b < W.heap.size := h.own.lt hb
theorem LogV.turn (h : LogV w L o W) (ht : Turn T W W') (hT : ∀ b, o.ownBlock = some b → ¬ T b) (hg : ∀ x, T x → w.heap.size ≤ x) : LogV w L o W' := by
  obtain ⟨A, c, e, h1, h2, h3⟩ := h
  refine ⟨A, c, e, h1.keep ht hT, h2, ⟨ht.os.trans h3.os, ht.tape.trans h3.tape, ht.output.trans h3.output, Nat.le_trans h3.size ht.size, fun i hi => (ht.block i (Nat.lt_of_lt_of_le hi h3.size) (fun q => by have := hg i q; omega)).trans (h3.block i hi)⟩⟩
theorem G3.below (h : G3 w W S r l k V o L t U A n UA) : Below w.heap.size w W := h.lg.below
theorem G3.low (h : G3 w W S r l k V o L t U A n UA) (hb : Below W.heap.size W W') : G3 w W' S r l k V o L t U A n UA :=
  ⟨h.rr.below hb, fun x hx => ⟨(h.lt x hx).1, Nat.lt_of_lt_of_le (h.lt x hx).2 hb.size⟩, h.ts, h.lg.low hb, h.og, h.tv.below hb, h.al.below hb⟩
/-- A call of the reader. -/
theorem G3.turn (h : G3 w W S r l k V o L t U A n UA) (ht : Turn S W W') {l' : List Ent} (hr : Rr W' T r l' m V') (hT : ∀ x, T x → More S W W' x) : G3 w W' T r l' m V' o L t U A n UA := by
  have hsz := ht.size
  have hlow := h.below.size
  have hTx : ∀ x, T x → S x ∨ (W.heap.size ≤ x ∧ x < W'.heap.size) := hT
  refine ⟨hr, fun x hx => ?_, fun b hb q => ?_, h.lg.turn ht (fun b hb => (h.og b hb).1) (fun x hx => (h.lt x (.inl hx)).1), fun b hb => ⟨fun q => ?_, (h.og b hb).2⟩, h.tv.keep ht h.ts, ?_⟩
  · rcases hx with hx | hx
    · rcases hTx x hx with q | q
      · have := h.lt x (.inl q); exact ⟨this.1, by omega⟩
      · exact ⟨by omega, q.2⟩
    · have := h.lt x (.inr hx); exact ⟨this.1, by omega⟩
  · rcases hTx b q with q | q
    · exact h.ts b hb q
    · have := (h.lt b (.inr hb)).2; omega
  · rcases hTx b q with q | q
    · exact (h.og b hb).1 q
    · have := h.lg.lt hb; omega
  · have h1 := h.al.keep ht (fun b _ q => .inl q)
    refine ⟨h1.1, h1.2.1, fun hn => ?_⟩
    obtain ⟨ad, e1, e2, e3, e4⟩ := h1.2.2 hn
    obtain ⟨ad', f1, f2, -, -⟩ := h.al.2.2 hn
    have hadd : ad = ad' := by rw [e1] at f1; injection f1
    subst hadd
    refine ⟨ad, e1, e2, fun q => ?_, e4⟩
    rcases q with q | q
    · rcases hTx _ q with q | q
      · exact e3 (.inl q)
      · omega
    · exact e3 (.inr q)
/-- The log of our own grows. -/
theorem G3.log (h : G3 w W S r l k V o L t U A n UA) (ho : OwnK W' 45 6 o' (cellsOf L ++ [e.cells])) (hg : Grew o W o' W') (hn0 : n = 0) : G3 w W' S r l k V o' (L ++ [e]) t U A n UA := by
  have htu : Turn (fun b => o.ownBlock = some b) W W' := hg.turn (fun _ q => q)
  have hsz := htu.size
  refine ⟨h.rr.keep htu (fun x hx q => (h.og x q).1 hx), fun x hx => ⟨(h.lt x hx).1, by have := (h.lt x hx).2; omega⟩, h.ts, h.lg.more ho hg, fun b hb => ?_, h.tv.keep htu (fun b hb q => (h.og b q).2 hb), ?_⟩
  · rcases hg.2 b hb with q | q
    · exact h.og b q
    · exact ⟨fun q2 => by have := (h.lt b (.inl q2)).2; omega, fun q2 => by have := (h.lt b (.inr q2)).2; omega⟩
  · exact ⟨h.al.1, h.al.2.1, fun hn => by omega⟩
/-- What was told grows. -/
theorem G3.told (h : G3 w W S r l k V o L t U A n UA) {M : List Nat} (ho : OwnK W' 3 1 t' (intsOf U ++ intsOf M)) (hg : Grew t W t' W') : G3 w W' S r l k V o L t' (U ++ M) A n UA := by
  have htu : Turn (fun b => t.ownBlock = some b) W W' := hg.turn (fun _ q => q)
  have hsz := htu.size
  have hlow := h.below.size
  refine ⟨h.rr.keep htu (fun x hx q => h.ts x q hx), fun x hx => ?_, fun b hb q => ?_, h.lg.turn htu (fun b hb => (h.og b hb).2) (fun x hx => (h.lt x (.inr hx)).1), fun b hb => ⟨(h.og b hb).1, fun q => ?_⟩, by unfold intsOf at ho ⊢; rw [List.map_append]; exact ho, ?_⟩
  · rcases hx with hx | hx
    · have := h.lt x (.inl hx); exact ⟨this.1, by omega⟩
    · have hl := ho.lt hx
      rcases hg.2 x hx with q | q
      · exact ⟨(h.lt x (.inr q)).1, hl⟩
      · exact ⟨by omega, hl⟩
  · rcases hg.2 b hb with q2 | q2
    · exact h.ts b q2 q
    · have := (h.lt b (.inl q)).2; omega
  · rcases hg.2 b q with q2 | q2
    · exact (h.og b hb).2 q2
    · have := h.lg.lt hb; omega
  · have h1 := h.al.keep htu (fun b _ q => .inr q)
    refine ⟨h1.1, h1.2.1, fun hn => ?_⟩
    obtain ⟨ad, e1, e2, e3, e4⟩ := h1.2.2 hn
    obtain ⟨ad', f1, f2, -, -⟩ := h.al.2.2 hn
    have hadd : ad = ad' := by rw [e1] at f1; injection f1
    subst hadd
    refine ⟨ad, e1, e2, fun q => ?_, e4⟩
    rcases q with q | q
    · exact e3 (.inl q)
    · rcases hg.2 _ q with q | q
      · exact e3 (.inr q)
      · omega
theorem G3.made (hr : Rr W S r [] 0 []) (hS : ∀ x, S x → w.heap.size ≤ x ∧ x < W.heap.size) (hb : Below w.heap.size w W) : G3 w W S r [] 0 [] (.slice none 0 0) [] (.slice none 0 0) [] none 0 [] :=
  ⟨hr, fun x hx => hx.elim (hS x) (fun q => by cases q), fun b q => (nomatch q), LogV.nil_ hb, fun b q => (nomatch q), OwnK.nil _ _ _, Rd.none_⟩
/-- A row that stays is laid beside. -/
theorem G3.beside (h : G3 w W S r l k V o L t U A n UA) {A' : Option Addr} {n' : Nat} {UA' : List Nat} (hr : Rd W (fun x => S x ∨ t.ownBlock = some x) 1 A' n' (intsOf UA')) : G3 w W S r l k V o L t U A' n' UA' := ⟨h.rr, h.lt, h.ts, h.lg, h.og, h.tv, hr⟩
end
theorem ToldIs.begin (L : List Ent) : ToldIs L 0 [] := ⟨Nat.zero_le _, 0, ⟨Nat.le_refl _, fun i hi => by omega, fun h => by omega⟩, rfl⟩
theorem slice24_to (a : Option Addr) (n c k : Nat) (hk : k ≤ c) (W : World) : (Instr.slice 24 (.slice a n c) none (some (.int .i64 (k : Int))) none).run Tryd.prog W = .ok (.slice a k c) W := by
  obtain ⟨j, hj, hz0, hz1, hz2⟩ := info_parts el24.info
  have ha : a.map (fun x : Addr => x.add 0) = a := by cases a <;> simp [Addr.add]
  simp [Instr.slice, run_underlying Tryd.underlying24, Instr.sliceBounds, Instr.sliceBound, asIntOf, hk, sizeOf, typeInfo, hj, ha]
end Go.Proofs.YthcphoijanebhaaDoor
