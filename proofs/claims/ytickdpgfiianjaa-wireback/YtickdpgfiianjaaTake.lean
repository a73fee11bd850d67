/-
  What wire.taker, its two closures and wire.number answer. Nothing is assumed but that the bytes are there.
-/
import Derived.Test.YtickdpgfiianjaaFrames
namespace Go.Proofs.Ytickdpgfiianjaa
open Go.RowKit
/-- Nothing has turned but block p. -/
def Only (p : Nat) (w w' : World) : Prop := w'.os = w.os ∧ w'.tape = w.tape ∧ w'.output = w.output ∧ w'.heap.size = w.heap.size ∧ ∀ i, i ≠ p → w'.heap[i]? = w.heap[i]?
section
variable {p : Nat} {w w' w'' : World}
theorem Only.refl : Only p w w := ⟨rfl, rfl, rfl, rfl, fun _ _ => rfl⟩
theorem Only.trans (h : Only p w w') (h' : Only p w' w'') : Only p w w'' :=
  ⟨h'.1.trans h.1, h'.2.1.trans h.2.1, h'.2.2.1.trans h.2.2.1, h'.2.2.2.1.trans h.2.2.2.1, fun i hi => (h'.2.2.2.2 i hi).trans (h.2.2.2.2 i hi)⟩
theorem Only.below {B : Nat} (h : Only p w w') (hB : B ≤ p) : Below B w w' := ⟨h.1, h.2.1, h.2.2.1, Nat.le_of_eq h.2.2.2.1.symm, fun i hi => h.2.2.2.2 i (by omega)⟩
theorem Only.set_ (v : Value) : Only p w (w.setCell ⟨p, 0, none⟩ v) := by
  have h := (Below.refl (w := w) (B := p)).setCell (p := ⟨p, 0, none⟩) (Nat.le_refl _) v
  refine ⟨h.os, h.tape, h.output, by simp [World.setCell], fun i hi => Below.heap_setCell w _ v i (by simpa using hi)⟩
theorem Only.blk {g : Nat} {t : TypeId} {cs : Array Value} (h : Only p w w') (hb : Blk w g t cs) (hg : g ≠ p) : Blk w' g t cs := (h.2.2.2.2 g hg).trans hb
end
def Taking (w : World) (p q r : Nat) (A : Option Addr) (n c : Nat) (x : Int) (l : List UInt8) (k : Nat) : Prop :=
  Blk w p 3 #[.int .i64 (k : Int)] ∧ Blk w q 22 #[.slice A n c] ∧ Blk w r 24 #[.int .i64 x] ∧ Bys w q A n l ∧ k ≤ n ∧ q < r ∧ r < p ∧ n < 1000000
/-- What takes the next byte. -/
def nextV (p q r : Nat) : Value := .func (.func 71) #[] #[.pointer (some ⟨p, 0, none⟩), .pointer (some ⟨q, 0, none⟩), .pointer (some ⟨r, 0, none⟩)]
theorem Taking.step {w : World} {p q r : Nat} {A : Option Addr} {n c : Nat} {x : Int} {l : List UInt8} {k : Nat} (h : Taking w p q r A n c x l k) (j : Nat) (hj : j ≤ n) : Taking (w.setCell ⟨p, 0, none⟩ (.int .i64 (j : Int))) p q r A n c x l j := by
  obtain ⟨h1, h2, h3, h4, h5, h6, h7, h8⟩ := h
  exact ⟨h1.set_ 0 _, h2.far (by show q ≠ p; omega) _, h3.far (by show r ≠ p; omega) _, h4.setCell (p := ⟨p, 0, none⟩) (by show q ≤ p; omega) _, hj, h6, h7, h8⟩
theorem Taking.only {w w' : World} {p q r g : Nat} {A : Option Addr} {n c : Nat} {x : Int} {l : List UInt8} {k : Nat} (h : Taking w p q r A n c x l k) (ho : Only g w w') (hg : p < g) : Taking w' p q r A n c x l k := by
  obtain ⟨h1, h2, h3, h4, h5, h6, h7, h8⟩ := h
  exact ⟨ho.blk h1 (by omega), ho.blk h2 (by omega), ho.blk h3 (by omega), h4.below (ho.below (by omega)), h5, h6, h7, h8⟩
theorem Taking.below {w w' : World} {p q r B : Nat} {A : Option Addr} {n c : Nat} {x : Int} {l : List UInt8} {k : Nat} (h : Taking w p q r A n c x l k) (ho : Below B w w') (hg : p < B) : Taking w' p q r A n c x l k := by
  obtain ⟨h1, h2, h3, h4, h5, h6, h7, h8⟩ := h
  exact ⟨h1.below ho hg, h2.below ho (by omega), h3.below ho (by omega), h4.below (ho.mono (by omega)), h5, h6, h7, h8⟩
def panicE (x : Int) : Ending := .panicked [{ v := .iface 24 (.int .i64 x), recovered := false }]
set_option maxRecDepth 100000 in
set_option maxHeartbeats 1000000 in
theorem next_some {w : World} {p q r : Nat} {A : Option Addr} {n c : Nat} {x : Int} {l : List UInt8} {k : Nat} {u : UInt8} (h : Taking w p q r A n c x l k) (hu : l[k]? = some u) :
    Calls Try.prog 71 #[.pointer (some ⟨p, 0, none⟩), .pointer (some ⟨q, 0, none⟩), .pointer (some ⟨r, 0, none⟩)] w fun e w' => e = .returned (.int .u8 (u.toNat : Int)) ∧ w.setCell ⟨p, 0, none⟩ (.int .i64 ((k + 1 : Nat) : Int)) = w' := by
  obtain ⟨h1, h2, h3, h4, h5, h6, h7, h8⟩ := h
  have hk : k < n := by have := (List.getElem?_eq_some_iff.1 hu).1; have := h4.1; omega
  obtain ⟨ad, u', rfl, hb, hx, hc⟩ := h4.at_ hk
  rw [hu] at hx
  injection hx with hx
  subst hx
  have e1 : w.cell? ⟨p, 0, none⟩ = some (.int .i64 (k : Int)) := h1.cell 0
  have e2 : w.cell? ⟨q, 0, none⟩ = some (.slice (some ad) n c) := h2.cell 0
  have z1 := h1.frozen 0
  have hne : (k : Int) ≠ (n : Int) := by omega
  have bne : ((k : Int) == (n : Int)) = false := by simpa using hne
  have f1 : (w.setCell ⟨p, 0, none⟩ (.int .i64 ((k : Int) + 1))).cell? ⟨p, 0, none⟩ = some (.int .i64 ((k : Int) + 1)) := (h1.set_ 0 _).cell 0
  have f2 : (w.setCell ⟨p, 0, none⟩ (.int .i64 ((k : Int) + 1))).cell? ⟨q, 0, none⟩ = some (.slice (some ad) n c) := (h2.far (p := ⟨p, 0, none⟩) (by show q ≠ p; omega) _).cell 0
  have f3 : (w.setCell ⟨p, 0, none⟩ (.int .i64 ((k : Int) + 1))).cell? (ad.add k) = some (.int .u8 (u.toNat : Int)) := (World.cell?_setCell_other w ⟨p, 0, none⟩ (ad.add k) _ (fun e => by have := congrArg Addr.block e; rw [block_of_add] at this; simp at this; omega)).trans hc
  have HE : Hid (((k + 1 : Nat) : Int) = (k : Int) + 1) := Lib.hid (by omega)
  clear h1 h2 h3 h4 hu hc hne
  go_enter Try.func71, Try.ntmps71
  go_wp2_with fail
  go_ret
  exact ⟨rfl, by rw [HE.out]⟩
set_option maxRecDepth 100000 in
set_option maxHeartbeats 1000000 in
theorem next_none {w : World} {p q r : Nat} {A : Option Addr} {n c : Nat} {x : Int} {l : List UInt8} {k : Nat} (h : Taking w p q r A n c x l k) (hu : k = n) :
    Calls Try.prog 71 #[.pointer (some ⟨p, 0, none⟩), .pointer (some ⟨q, 0, none⟩), .pointer (some ⟨r, 0, none⟩)] w fun e w' => e = panicE x ∧ w = w' := by
  obtain ⟨h1, h2, h3, h4, h5, h6, h7, h8⟩ := h
  have e1 : w.cell? ⟨p, 0, none⟩ = some (.int .i64 (k : Int)) := h1.cell 0
  have e2 : w.cell? ⟨q, 0, none⟩ = some (.slice A n c) := h2.cell 0
  have e3 : w.cell? ⟨r, 0, none⟩ = some (.int .i64 x) := h3.cell 0
  have bne : ((k : Int) == (n : Int)) = true := by simp [hu]
  clear h1 h2 h3 h4 hu
  go_enter Try.func71, Try.ntmps71
  go_wp2_with fail
  exact ⟨rfl, rfl, rfl⟩
end Go.Proofs.Ytickdpgfiianjaa
