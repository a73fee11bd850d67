/-
  The document answers: what is common to all. Conditions: a controller as it is between two calls.
-/
import Derived.Test.YtpmdicbhliclcaaGreatRefN
namespace Go.Proofs.YtpmdicbhliclcaaGreat
open Go.RowKit Go.Maps
set_option linter.unusedVariables false
/-- A function of the document at work: its box, its result. -/
structure Wa (w wc : World) (bx rx : Nat) (m z : Array Value) : Prop where
  low : Below w.heap.size w wc
  b : Blk wc bx 36 m
  r : Blk wc rx 36 z
theorem Wa.on {w w1 w2 : World} {bx rx : Nat} {m z : Array Value} (h : Wa w w1 bx rx m z) {S : Nat → Prop} (ht : Turn S w1 w2) (hS : ∀ b, S b → w.heap.size ≤ b) (hb : ¬ S bx) (hr : ¬ S rx) : Wa w w2 bx rx m z :=
  ⟨h.low.trans (ht.below h.low.size hS), h.b.keep ht hb, h.r.keep ht hr⟩
theorem Wa.below {w w1 w2 : World} {bx rx : Nat} {m z : Array Value} (h : Wa w w1 bx rx m z) (hb : Below w1.heap.size w1 w2) : Wa w w2 bx rx m z :=
  ⟨h.low.trans (hb.mono h.low.size), h.b.below hb h.b.lt, h.r.below hb h.r.lt⟩
theorem results_ctt {P : Program} {fn : Func} {p u u2 : Tmp} {ty : TypeId} (h : fn.results = #[.cell p ty, .tmp u, .tmp u2]) (tmps : Array Value) (w : World) (g : Nat) (t : TypeId) (cs : Array Value) (fr : Nat × Nat) (d : TypeDesc)
    (hp : tmps.getD p undef = .pointer (some ⟨g, 0, none⟩)) (hg : w.heap[g]? = some (.cells cs t fr))
    (hu : P.underlying ty = some d) (hd : (match d with | .struct _ | .array _ _ => true | _ => false) = true) (hi : (P.info? ty).map (·.size) = some cs.size) {x y : Value} (hx : tmps.getD u undef = x) (hy : tmps.getD u2 undef = y) :
    (results fn tmps).run P w = .ok (.tuple #[.agg cs, x, y]) w := by
  subst hx hy
  have hp' : tmps[p]?.getD undef = .pointer (some ⟨g, 0, none⟩) := by simpa using hp
  simp [results, h, hp', asAddr, run_loadVar_row w g t ty cs fr d hg hu hd hi]
/-- What a function of the document answers: a controller and an error. -/
def RfP (w : World) (X : Nat → Prop) (M M' : Mt) (e : Int) (r : Ending) (w' : World) : Prop :=
  ∃ v', r = .returned (.tuple #[v', .int .i64 e]) ∧ Rf w' X (if e = 0 then M' else M) v' ∧ Below w.heap.size w w'
def RfQ (w : World) (X : Nat → Prop) (M M' : Mt) (n e : Int) (r : Ending) (w' : World) : Prop :=
  ∃ v', r = .returned (.tuple #[v', .int .i64 n, .int .i64 e]) ∧ Rf w' X M' v' ∧ Below w.heap.size w w'
section
variable {w : World} {X : Nat → Prop} {M : Mt} {A1 A2 A3 : Option Addr} {rs : Nat → Value}
/-- The cells of a view, of a writing, as a load asks for them. -/
theorem RfAt.viewCells (h : RfAt w X M A1 A2 A3 rs) {p : Nat} (hp : p < M.np) : ∃ ad, A2 = some ad ∧ w.cell? (ad.add (p * 4)) = some (.int .i64 (M.views p).leader) ∧ w.cell? ⟨(ad.add (p * 4)).block, (ad.add (p * 4)).off + 1, none⟩ = some (.int .i64 (M.views p).epoch) ∧
    w.cell? ⟨(ad.add (p * 4)).block, (ad.add (p * 4)).off + 2, none⟩ = some (.int .i64 (M.views p).version) ∧ w.cell? ⟨(ad.add (p * 4)).block, (ad.add (p * 4)).off + 3, none⟩ = some (rs p) := by
  obtain ⟨ad, e, -, -, h0, h1⟩ := h.vw.load (rowsOf_at _ hp)
  exact ⟨ad, e, h0 _ rfl, h1 0 _ rfl, h1 1 _ rfl, h1 2 _ rfl⟩
theorem RfAt.wrCells (h : RfAt w X M A1 A2 A3 rs) {p : Nat} (hp : p < M.ni) : ∃ ad, A3 = some ad ∧ w.cell? (ad.add (p * 6)) = some (.int .i64 (M.wrs p).session) ∧ w.cell? ⟨(ad.add (p * 6)).block, (ad.add (p * 6)).off + 1, none⟩ = some (.int .i64 (M.wrs p).num) ∧
    w.cell? ⟨(ad.add (p * 6)).block, (ad.add (p * 6)).off + 2, none⟩ = some (.int .i64 (M.wrs p).state) ∧ w.cell? ⟨(ad.add (p * 6)).block, (ad.add (p * 6)).off + 3, none⟩ = some (rs (4 + p)) ∧
    w.cell? ⟨(ad.add (p * 6)).block, (ad.add (p * 6)).off + 4, none⟩ = some (.int .i64 (M.wrs p).offset) ∧ w.cell? ⟨(ad.add (p * 6)).block, (ad.add (p * 6)).off + 5, none⟩ = some (.int .i64 (M.wrs p).next) := by
  obtain ⟨ad, e, -, -, h0, h1⟩ := h.wr.load (rowsOf_at _ hp)
  exact ⟨ad, e, h0 _ rfl, h1 0 _ rfl, h1 1 _ rfl, h1 2 _ rfl, h1 3 _ rfl, h1 4 _ rfl⟩
theorem RfAt.lifeCell (h : RfAt w X M A1 A2 A3 rs) {b : Nat} (hb : b < M.nb) : ∃ ad, A1 = some ad ∧ w.cell? (ad.add b) = some (.bool (M.lives b)) := by
  obtain ⟨ad, e, -, -, h0, -⟩ := h.lv.load (rowsOf_at _ hb)
  exact ⟨ad, e, by have := h0 _ rfl; rwa [Nat.mul_one] at this⟩
end
end Go.Proofs.YtpmdicbhliclcaaGreat
