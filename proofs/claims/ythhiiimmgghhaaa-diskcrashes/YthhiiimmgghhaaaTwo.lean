/-
  Two disks that go on apart: one to which things are done, one that stands. Nothing is assumed.
-/
import Derived.Test.YthhiiimmgghhaaaBehind
namespace Go.Proofs.Ythhiiimmgghhaaa
open Go.RowKit
/-- The disk at x and the document's dl go on; the disk at g (its own blocks: S) and the document's d stand. E: blocks of variables. All that is written lies from z0 on. -/
structure Two (w : World) (z0 g x : Nat) (S Sx E : Nat → Prop) (d dl : RDk) (cs csl : Array Value) (wr : World) : Prop where
  dkx : Dk wr Sx (fun b => Sx b ∨ E b) x dl.st
  rdx : RDAt wr (fun b => Sx b ∨ E b) dl csl
  dkd : Dk wr S (fun b => S b ∨ Sx b ∨ E b) g d.st
  rdd : RDAt wr (fun b => Sx b ∨ E b) d cs
  okx : dl.ok
  nmx : Nmd dl.st
  low : ∀ b, Sx b ∨ E b → z0 ≤ b
  old : ∀ b, S b → b < z0
  sep : ∀ b, Sx b → ¬ E b
  elt : ∀ b, E b → b < wr.heap.size
  zlow : w.heap.size ≤ z0
  below : Below w.heap.size w wr
section
variable {w wr w' : World} {z0 g x : Nat} {S Sx E T : Nat → Prop} {d dl : RDk} {cs csl : Array Value}
theorem Two.grown (h : Two w z0 g x S Sx E d dl cs csl wr) (hb : Below wr.heap.size wr w') : Two w z0 g x S Sx E d dl cs csl w' :=
  ⟨h.dkx.below hb, h.rdx.below hb, h.dkd.below hb, h.rdd.below hb, h.okx, h.nmx, h.low, h.old, h.sep, fun b e => Nat.lt_of_lt_of_le (h.elt b e) hb.size, h.zlow, h.below.trans (hb.mono h.below.size)⟩
theorem Two.small (h : Two w z0 g x S Sx E d dl cs csl wr) : ∀ b, (Sx b ∨ E b) → b < wr.heap.size := fun b e => e.elim (fun e => h.dkx.lt e) (h.elt b)
/-- A variable more. -/
theorem Two.var (h : Two w z0 g x S Sx E d dl cs csl wr) (o : Obj) (hz : z0 ≤ wr.heap.size) : Two w z0 g x S Sx (fun b => E b ∨ b = wr.heap.size) d dl cs csl (wr.alloc o) := by
  have hb : Below wr.heap.size wr (wr.alloc o) := (Below.refl _ _).alloc (Nat.le_refl _) _
  refine ⟨(h.dkx.wide (fun b hlt e => ?_) (fun b e => .inl e)).below hb, (h.rdx.wide (fun b hlt e => ?_)).below hb, (h.dkd.wide (fun b hlt e => ?_) (fun b e => .inl e)).below hb, (h.rdd.wide (fun b hlt e => ?_)).below hb, h.okx, h.nmx, fun b e => ?_, h.old, fun b e e' => ?_, fun b e => ?_, h.zlow, h.below.trans (hb.mono h.below.size)⟩
  · rcases e with e | e | e
    · exact .inl e
    · exact .inr e
    · omega
  · rcases e with e | e | e
    · exact .inl e
    · exact .inr e
    · omega
  · rcases e with e | e | e | e
    · exact .inl e
    · exact .inr (.inl e)
    · exact .inr (.inr e)
    · omega
  · rcases e with e | e | e
    · exact .inl e
    · exact .inr e
    · omega
  · rcases e with e | e | e
    · exact h.low b (.inl e)
    · exact h.low b (.inr e)
    · omega
  · rcases e' with e' | e'
    · exact h.sep b e e'
    · have := h.dkx.lt e; omega
  · rw [World.size_alloc]
    rcases e with e | e
    · have := h.elt b e; omega
    · omega
/-- Variables are written. -/
theorem Two.wrote (h : Two w z0 g x S Sx E d dl cs csl wr) (hT : Turn T wr w') (hE : ∀ b, T b → E b) : Two w z0 g x S Sx E d dl cs csl w' :=
  ⟨h.dkx.keep hT (fun b _ e => ⟨.inr (hE b e), fun e' => h.sep b e' (hE b e)⟩), h.rdx.keep hT (fun b _ e => .inr (hE b e)), h.dkd.keep hT (fun b _ e => ⟨.inr (.inr (hE b e)), fun e' => by have h1 := h.old b e'; have h2 := h.low b (.inr (hE b e)); omega⟩), h.rdd.keep hT (fun b _ e => .inr (hE b e)), h.okx, h.nmx, h.low, h.old, h.sep,
    fun b e => Nat.lt_of_lt_of_le (h.elt b e) hT.size, h.zlow, h.below.trans (hT.below h.below.size (fun b e => by have h1 := h.low b (.inr (hE b e)); have h2 := h.zlow; omega))⟩
/-- A thing was done to the one that goes on. -/
theorem Two.acted {t : RT} {cs' : Array Value} (h : Two w z0 g x S Sx E d dl cs csl wr) (ha : ActsC wr Sx (fun b => Sx b ∨ E b) x (dl.next t) cs' w') (hb : t.bytes.length ≤ 100000000) (hk : dl.st.size < 900000) (hz : z0 ≤ wr.heap.size) :
    (dl.next t).st.size ≤ dl.st.size + 1 ∧ Turn Sx wr w' ∧ ∃ Sx', Two w z0 g x S Sx' E d (dl.next t) cs cs' w' := by
  obtain ⟨S', hm, hd, hr⟩ := ha
  have hmore := next_more h.okx hd.ok h.nmx hb hk
  have hw : ∀ b, b < wr.heap.size → S' b → Sx b := fun b hlt e => (hm.new b e).elim id (fun e => by omega)
  refine ⟨hmore.2.2, hm.turn, S', hd.wide (fun b _ e => e.elim .inr (fun e => .inl (.inr e))) (fun b e => .inl e), hr.wide (fun b _ e => e.elim .inr (fun e => .inl (.inr e))), ?_, ?_, hmore.1, hmore.2.1, fun b e => ?_, h.old, fun b e e' => ?_, fun b e => Nat.lt_of_lt_of_le (h.elt b e) hm.turn.size, h.zlow, h.below.trans (hm.turn.below h.below.size (fun b e => by have h1 := h.low b (.inl e); have h2 := h.zlow; omega))⟩
  · refine (h.dkd.wide (X' := fun b => S b ∨ S' b ∨ E b) (fun b hlt e => ?_) (fun b e => .inl e)).keep hm.turn (fun b _ e => ⟨.inr (.inl (hm.more b e)), fun e' => by have h1 := h.old b e'; have h2 := h.low b (.inl e); omega⟩)
    rcases e with e | e | e
    · exact .inl e
    · exact .inr (.inl (hw b hlt e))
    · exact .inr (.inr e)
  · refine (h.rdd.wide (X' := fun b => S' b ∨ E b) (fun b hlt e => ?_)).keep hm.turn (fun b _ e => .inl (hm.more b e))
    rcases e with e | e
    · exact .inl (hw b hlt e)
    · exact .inr e
  · rcases e with e | e
    · rcases hm.new b e with e | e
      · exact h.low b (.inl e)
      · omega
    · exact h.low b (.inr e)
  · rcases hm.new b e with e | e
    · exact h.sep b e e'
    · have := h.elt b e'; omega
end
end Go.Proofs.Ythhiiimmgghhaaa
