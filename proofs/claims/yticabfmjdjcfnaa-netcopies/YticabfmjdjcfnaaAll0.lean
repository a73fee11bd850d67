/-
  net.All: the messages as they are when it is called, in a map of their own. Nothing is assumed but bounds.
-/
import Derived.Test.YticabfmjdjcfnaaIter
namespace Go.Proofs.Yticabfmjdjcfnaa
open Go.RowKit Go.Shelf Go.Maps
theorem clone_any {w : World} {X : Nat → Prop} {m : Nat} {l : Row} (h : NM w X m l) : Calls Try.prog 38 #[.map (some m)] w fun e w' => e = .returned (.map (some w.heap.size)) ∧ NM w' X w.heap.size l ∧ Below w.heap.size w w' := by
  obtain ⟨vs, ⟨D, hown, hag⟩, h2, h3, h4, h5⟩ := h
  have hcon := AnyW.maps_Clone_owns Try.clone38 3 hv m _ D w hown
  change Calls Try.prog 38 _ _ _ at hcon
  refine hcon.mono ?_
  rintro e w' ⟨rfl, h1, _, hB⟩
  exact ⟨rfl, ⟨vs, ⟨D, h1, hag⟩, h2, h3, h4, fun k msg e => (h5 k msg e).below hB⟩, hB⟩
set_option maxHeartbeats 4000000 in
theorem all_any {w : World} {S : Nat → Prop} {g : Nat} {s : St} (h : Nt w S g s) : Calls Try.prog 20 #[.pointer (some ⟨g, 0, none⟩)] w fun e w' => ∃ mN, e = .returned (.func (.func 39) #[] #[.pointer (some ⟨w.heap.size, 0, none⟩)]) ∧ w'.cell? ⟨w.heap.size, 0, none⟩ = some (.map (some mN)) ∧ NM w' (fun b => ¬ S b) mN s.l ∧ w.heap.size < mN ∧ Below w.heap.size w w' := by
  obtain ⟨m, h⟩ := h
  have hmf := mf
  have hb1 : Below w.heap.size w (w.alloc (.cells #[.map none] 69)) := (Below.refl _ _).alloc (Nat.le_refl _) _
  have h1 := h.below hb1
  have k1 : Blk (w.alloc (.cells #[.map none] 69)) w.heap.size 69 #[.map none] := Blk.new _ _ _
  obtain ⟨c0, c1, c2⟩ := h1.blk.three
  have HSL := Lib.hid h.lt
  clear h
  go_enter Try.func20, Try.ntmps20
  go_wp2_with fail
  generalize w.alloc (.cells #[.map none] 69) = w1 at *
  have hlt := k1.lt
  refine (made_net h1).mono ?_
  rintro e w' ⟨rfl, rfl⟩
  go_wp2_with fail
  refine (clone_any h1.map).mono ?_
  rintro e w2 ⟨rfl, hN2, hb2⟩
  have k2 := k1.below hb2 k1.lt
  have hz2 := hb2.size
  have e2 : w2.cell? ⟨w.heap.size, 0, none⟩ = some (.map none) := k2.cell 0
  have f2 := k2.frozen 0
  go_wp2_with fail
  go_ret
  have hT : Turn (fun b => b = w.heap.size) w2 (w2.setCell ⟨w.heap.size, 0, none⟩ (.map (some w1.heap.size))) := (Turn.refl (fun b => b = w.heap.size) w2).setCell (p := ⟨w.heap.size, 0, none⟩) (fun _ => rfl) _
  refine ⟨w1.heap.size, rfl, ?_, ((hN2.wide (X' := fun b => ¬ S b) (fun b _ e => .inl e)).keep hT (fun b _ e e' => ?_) (by omega)), hlt, (hb1.trans (hb2.mono hb1.size)).setCell (Nat.le_refl _) _⟩
  · exact (k2.set_ 0 (.map (some w1.heap.size))).cell 0
  · have := HSL.out b e'
    omega
end Go.Proofs.Yticabfmjdjcfnaa
