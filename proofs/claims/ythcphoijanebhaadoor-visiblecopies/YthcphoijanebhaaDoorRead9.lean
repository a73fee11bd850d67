/-
  A reader in memory: it is made; whether it is there; why an entry of a transaction that has a marker is refused. Nothing is assumed.
-/
import Derived.Test.YthcphoijanebhaaDoorVapp9
import Derived.Test.YthcphoijanebhaaDoorApp9
import Derived.Test.YthcphoijanebhaaDoorChecks
namespace Go.Proofs.YthcphoijanebhaaDoor
open Go.RowKit Go.Maps
set_option linter.unusedVariables false
/-- The cells of a reader. -/
def rdA (g m1 m2 k : Nat) (v : Value) : Array Value := #[.pointer (some ⟨g, 0, none⟩), .map (some m1), .map (some m2), .int .i64 (k : Int), v]
/-- A reader at block r: its log, how far it may look, what it was told. -/
structure RX (w : World) (r g m1 m2 : Nat) (S0 : Nat → Prop) (v : Value) (l : List Ent) (k : Nat) (V : List Nat) : Prop where
  blk : Blk w r 80 (rdA g m1 m2 k v)
  tw : TW w S0 g m1 m2 l
  row : OwnK w 3 1 v (intsOf V)
  ap : ∀ x, OwnT S0 m1 m2 x → x < w.heap.size ∧ x ≠ r ∧ v.ownBlock ≠ some x
  vr : v.ownBlock ≠ some r
/-- A reader, its own blocks in S. -/
def Rr (w : World) (S : Nat → Prop) (r : Nat) (l : List Ent) (k : Nat) (V : List Nat) : Prop := ∃ g m1 m2 S0 v, RX w r g m1 m2 S0 v l k V ∧ ∀ x, (x = r ∨ OwnT S0 m1 m2 x ∨ v.ownBlock = some x) → S x
theorem RX.keep {w w' : World} {r g m1 m2 k : Nat} {S0 T : Nat → Prop} {v : Value} {l : List Ent} {V : List Nat} (h : RX w r g m1 m2 S0 v l k V) (ht : Turn T w w') (hT : ∀ x, (x = r ∨ OwnT S0 m1 m2 x ∨ v.ownBlock = some x) → ¬ T x) : RX w' r g m1 m2 S0 v l k V :=
  ⟨h.blk.keep ht (hT r (.inl rfl)), h.tw.keep ht (fun x hx => hT x (.inr (.inl hx))), h.row.keep ht (fun x hx => hT x (.inr (.inr hx))), fun x hx => ⟨Nat.lt_of_lt_of_le (h.ap x hx).1 ht.size, (h.ap x hx).2⟩, h.vr⟩
theorem RX.below {w w' : World} {r g m1 m2 k : Nat} {S0 : Nat → Prop} {v : Value} {l : List Ent} {V : List Nat} (h : RX w r g m1 m2 S0 v l k V) (hb : Below w.heap.size w w') : RX w' r g m1 m2 S0 v l k V := h.keep (T := No) (Turn.of_below hb No) (fun _ _ h => h)
theorem RX.vt {w : World} {r g m1 m2 k : Nat} {S0 : Nat → Prop} {v : Value} {l : List Ent} {V : List Nat} (h : RX w r g m1 m2 S0 v l k V) : VT w r g m1 m2 S0 l := h.tw.vt (h.blk.cell 0) (h.blk.cell 1) (h.blk.cell 2)
theorem Rr.keep {w w' : World} {S T : Nat → Prop} {r k : Nat} {l : List Ent} {V : List Nat} (h : Rr w S r l k V) (ht : Turn T w w') (hT : ∀ x, S x → ¬ T x) : Rr w' S r l k V := by
  obtain ⟨g, m1, m2, S0, v, h1, h2⟩ := h
  exact ⟨g, m1, m2, S0, v, h1.keep ht (fun x hx => hT x (h2 x hx)), h2⟩
theorem Rr.below {w w' : World} {S : Nat → Prop} {r k : Nat} {l : List Ent} {V : List Nat} (h : Rr w S r l k V) (hb : Below w.heap.size w w') : Rr w' S r l k V := h.keep (T := No) (Turn.of_below hb No) (fun _ _ h => h)
section
variable {w : World} {r k : Nat} {S : Nat → Prop} {l : List Ent} {V : List Nat} {e : Ent}
set_option maxRecDepth 100000 in
set_option maxHeartbeats 2000000 in
theorem vnew_any (w : World) : Calls Tryd.prog 21 #[] w fun r w' => ∃ z, r = .returned (.pointer (some ⟨z, 0, none⟩)) ∧ Rr w' (NewB w w') z [] 0 [] ∧ Below w.heap.size w w' := by
  go_enter Tryd.func21, Tryd.ntmps21
  go_wp2_with fail
  refine (newTable_any w).mono ?_
  rintro r w1 ⟨S0, g, m1, m2, rfl, hT, hS, hb⟩
  have hal := (Below.refl w1.heap.size w1).alloc (Nat.le_refl _) (.cells #[.pointer (some ⟨g, 0, none⟩), .map (some m1), .map (some m2), .int .i64 0, .slice none 0 0] 80)
  have HF : Hid (Rr (w1.alloc (.cells #[.pointer (some ⟨g, 0, none⟩), .map (some m1), .map (some m2), .int .i64 0, .slice none 0 0] 80)) (NewB w (w1.alloc (.cells #[.pointer (some ⟨g, 0, none⟩), .map (some m1), .map (some m2), .int .i64 0, .slice none 0 0] 80))) w1.heap.size [] 0 [] ∧ Below w.heap.size w (w1.alloc (.cells #[.pointer (some ⟨g, 0, none⟩), .map (some m1), .map (some m2), .int .i64 0, .slice none 0 0] 80))) := Lib.hid (by
    have hlt := (Blk.new w1 80 #[.pointer (some ⟨g, 0, none⟩), .map (some m1), .map (some m2), .int .i64 0, .slice none 0 0]).lt
    have hs := hb.size
    have hS2 : ∀ x, OwnT S0 m1 m2 x → w.heap.size < x ∧ x < w1.heap.size := fun x hx => hS x hx
    refine ⟨⟨g, m1, m2, S0, .slice none 0 0, ⟨Blk.new _ _ _, hT.below hal, OwnK.nil _ _ _, fun x hx => ⟨by have := hS2 x hx; omega, by have := hS2 x hx; omega, by intro e; cases e⟩, by intro e; cases e⟩, fun x hx => ?_⟩, hb.trans (hal.mono hs)⟩
    rcases hx with e | e | e
    · exact ⟨by omega, by omega⟩
    · have := hS2 x e; exact ⟨by omega, by omega⟩
    · cases e)
  unfold Tv
  clear hT hS hb hal
  go_wp2_with fail
  go_ret
  exact ⟨_, rfl, HF.out⟩
theorem vthere_yes {g : Nat} (c0 : w.cell? ⟨r, 0, none⟩ = some (.pointer (some ⟨g, 0, none⟩))) : Calls Tryd.prog 41 #[.pointer (some ⟨r, 0, none⟩)] w fun x w' => x = .returned (.bool true) ∧ w = w' := by
  go_enter Tryd.func41, Tryd.ntmps41
  go_wp2_with fail
  go_ret
  exact ⟨rfl, rfl⟩
theorem vthere_no (w : World) : Calls Tryd.prog 41 #[.pointer none] w fun x w' => x = .returned (.bool false) ∧ w = w' := by
  go_enter Tryd.func41, Tryd.ntmps41
  go_wp2_with fail
  go_ret
  exact ⟨rfl, rfl⟩
end
end Go.Proofs.YthcphoijanebhaaDoor
