/-
  A table of visible of no entries is made. Nothing is assumed.
-/
import Derived.Test.YthcphoijanebhaaDoorVis
import Derived.Test.YthcphoijanebhaaDoorMisc
namespace Go.Proofs.YthcphoijanebhaaDoor
open Go.RowKit Go.Maps
set_option linter.unusedVariables false
/-- A table of visible, as a value. -/
def Tv (g m1 m2 : Nat) : Value := .agg #[.pointer (some ⟨g, 0, none⟩), .map (some m1), .map (some m2)]
/-- What it is made of. -/
structure TW (w : World) (S : Nat → Prop) (g m1 m2 : Nat) (l : List Ent) : Prop where
  tb : Tb w S g l
  e1 : PM w m1 l.length (fstF mkE l)
  e2 : PM w m2 l.length (fstF cmE l)
  d : m1 ≠ m2 ∧ ¬ S m1 ∧ ¬ S m2
theorem TW.below {w w' : World} {S : Nat → Prop} {g m1 m2 : Nat} {l : List Ent} (h : TW w S g m1 m2 l) (hb : Below w.heap.size w w') : TW w' S g m1 m2 l := ⟨h.tb.below hb, h.e1.below hb, h.e2.below hb, h.d⟩
theorem TW.keep {w w' : World} {S T : Nat → Prop} {g m1 m2 : Nat} {l : List Ent} (h : TW w S g m1 m2 l) (ht : Turn T w w') (hT : ∀ x, S x ∨ x = m1 ∨ x = m2 → ¬ T x) : TW w' S g m1 m2 l :=
  ⟨h.tb.keep ht (fun x _ hx => hT x (.inl hx)), h.e1.keep ht (hT m1 (.inr (.inl rfl))), h.e2.keep ht (hT m2 (.inr (.inr rfl))), h.d⟩
theorem TW.vt {w : World} {S : Nat → Prop} {b g m1 m2 : Nat} {l : List Ent} (h : TW w S g m1 m2 l) (c0 : w.cell? ⟨b, 0, none⟩ = some (.pointer (some ⟨g, 0, none⟩))) (c1 : w.cell? ⟨b, 1, none⟩ = some (.map (some m1))) (c2 : w.cell? ⟨b, 2, none⟩ = some (.map (some m2))) : VT w b g m1 m2 S l :=
  ⟨c0, ⟨c1, c2, h.e1, h.e2⟩, h.tb, h.d⟩
theorem VT.tp {w : World} {S : Nat → Prop} {b g m1 m2 : Nat} {l : List Ent} (h : VT w b g m1 m2 S l) : TW w S g m1 m2 l := ⟨h.tb, h.vr.e1, h.vr.e2, h.d⟩
theorem und62 : Tryd.prog.underlying 62 = some (.struct (Tryd.prog.fieldsOf 62)) := by kernel_rfl
set_option maxRecDepth 100000 in
set_option maxHeartbeats 4000000 in
theorem newTable_any (w : World) : Calls Tryd.prog 40 #[] w fun r w' => ∃ S g m1 m2, r = .returned (Tv g m1 m2) ∧ TW w' S g m1 m2 [] ∧ (∀ x, S x ∨ x = m1 ∨ x = m2 → w.heap.size < x ∧ x < w'.heap.size) ∧ Below w.heap.size w w' := by
  have hmm := @run_makeMap Tryd.prog
  go_enter Tryd.func40, Tryd.ntmps40
  go_wp2_with fail
  have hbz := Blk.new w 62 #[.pointer none, .map none, .map none]
  have hb1 : Below w.heap.size w (w.alloc (.cells #[.pointer none, .map none, .map none] 62)) := (Below.refl _ _).alloc (Nat.le_refl _) _
  have HLT : Hid (w.heap.size < (w.alloc (.cells #[.pointer none, .map none, .map none] 62)).heap.size) := Lib.hid hbz.lt
  generalize w.alloc (.cells #[.pointer none, .map none, .map none] 62) = w1 at *
  have HBZ := Lib.hid hbz
  have HB1 := Lib.hid hb1
  clear hbz hb1
  refine (new_any w1).mono ?_
  rintro r w2 ⟨g, rfl, hT2, hb2⟩
  have HT2 := Lib.hid hT2
  have HB2 := Lib.hid hb2
  have HBZ2 := Lib.hid (HBZ.out.below hb2 HBZ.out.lt)
  clear hT2 hb2
  go_wp2_with (with_reducible refine at_store 62 rfl ?_)
  clear hmm
  have hal : Below w2.heap.size w2 ((w2.alloc (.map #[] 0)).alloc (.map #[] 0)) := ((Below.refl _ _).alloc (Nat.le_refl _) _).alloc (by simp) _
  have hp1 : PM ((w2.alloc (.map #[] 0)).alloc (.map #[] 0)) w2.heap.size 0 (fun _ => none) := by
    have := PM.made w2
    exact this.keepB (Below.heap_alloc _ _ _ this.lt)
  have hp2 : PM ((w2.alloc (.map #[] 0)).alloc (.map #[] 0)) (w2.heap.size + 1) 0 (fun _ => none) := by
    have := PM.made (w2.alloc (.map #[] 0))
    simpa using this
  have hbz := HBZ2.out.below hal HBZ2.out.lt
  have hsz : ((w2.alloc (.map #[] 0)).alloc (.map #[] 0)).heap.size = w2.heap.size + 2 := by simp
  have hT := HT2.out.below hal
  generalize (w2.alloc (.map #[] 0)).alloc (.map #[] 0) = w3 at *
  refine Stop.go (wpList_store_blk (by rfl) (by rfl) 62 _ _ (by rfl) w.heap.size _ #[.pointer (some ⟨g, 0, none⟩), .map (some w2.heap.size), .map (some (w2.heap.size + 1))] (by rfl) (by rfl) 62 hbz (by rfl) (by kernel_rfl) (by simp [Value.oneCell']) ?_)
  intro w4 hB4 hg4 hs4
  have hlt := HLT.out
  have hsz2 := HB2.out.size
  have hT4 : Turn (fun x => x = w.heap.size) w3 w4 := Turn.of_grown hg4 (fun r e => by injection e with e; exact e.symm)
  have HF : Hid (TW w4 (NewB w1 w2) g w2.heap.size (w2.heap.size + 1) [] ∧ (∀ x, NewB w1 w2 x ∨ x = w2.heap.size ∨ x = w2.heap.size + 1 → w.heap.size < x ∧ x < w4.heap.size) ∧ Below w.heap.size w w4 ∧ Blk w4 w.heap.size 62 #[.pointer (some ⟨g, 0, none⟩), .map (some w2.heap.size), .map (some (w2.heap.size + 1))]) := Lib.hid (by
    refine ⟨TW.keep (w := w3) ⟨hT, hp1, hp2, by omega, fun h => by have := h.2; omega, fun h => by have := h.2; omega⟩ hT4 (fun x hx e => ?_), fun x hx => ?_, ?_, hB4⟩
    · rcases hx with h | h | h
      · have := h.1; omega
      · omega
      · omega
    · rcases hx with h | h | h
      · have := h.1; have := h.2; omega
      · omega
      · omega
    · have h13 := HB1.out.trans ((HB2.out.trans (hal.mono hsz2)).mono HB1.out.size)
      exact h13.trans (hT4.below h13.size (fun x e => by omega)))
  clear hB4 hg4 hT4 hT hp1 hp2 hbz hal
  go_wp2_with fail
  refine bodyPost_ret (v := Tv g w2.heap.size (w2.heap.size + 1)) (results_cell_row (by rfl) _ _ w.heap.size 62 _ (0, 0) _ (by rfl) HF.out.2.2.2 und62 (by rfl) (by kernel_rfl)) rfl ?_
  exact ⟨_, _, _, _, rfl, HF.out.1, HF.out.2.1, HF.out.2.2.1⟩
theorem vlen_any {w : World} {S : Nat → Prop} {b g : Nat} {l : List Ent} (c0 : w.cell? ⟨b, 0, none⟩ = some (.pointer (some ⟨g, 0, none⟩))) (h : Tb w S g l) : Calls Tryd.prog 44 #[.pointer (some ⟨b, 0, none⟩)] w fun r w' => r = .returned (.int .i64 (l.length : Int)) ∧ w = w' := by
  go_enter Tryd.func44, Tryd.ntmps44
  go_wp2_with fail
  refine (len_any h).mono ?_
  rintro r w1 ⟨rfl, rfl⟩
  go_wp2_with fail
  go_ret
  exact ⟨rfl, rfl⟩
end Go.Proofs.YthcphoijanebhaaDoor
