/-
  Entries of a row of our own are overwritten. Nothing is assumed.
-/
import Derived.Test.YtafgcafhgnfegaaMisc
import Derived.Deep.MidRow
namespace Go.Proofs.Ytafgcafhgnfegaa
open Go.RowKit Go.Maps
set_option linter.unusedVariables false
theorem setCells_turn (b : Nat) : ∀ (vs : List Value) (o : Nat) (w : World), Turn (fun x => x = b) w (w.setCells b o vs)
  | [], o, w => Turn.refl _ _
  | v :: r, o, w => ((Turn.refl (fun x => x = b) w).setCell (p := ⟨b, o, none⟩) (fun _ => rfl) v).trans (setCells_turn b r (o + 1) _) (fun _ _ h => h)
theorem room_below {w w' : World} {b n : Nat} (h : w.there b 0 n) (hb : Below w.heap.size w w') (hg : b < w.heap.size) : w'.there b 0 n := fun j hj =>
  ⟨by rw [World.cell?_of_block (hb.block b hg)]; exact (h j hj).1, by rw [World.frozen?_of_block (hb.block b hg)]; exact (h j hj).2⟩
section
variable {w : World} {n c : Nat} {A : Option Addr} {l : List Ent}
theorem OwnK.there (h : OwnK w 26 6 (.slice A n c) (cellsOf l)) (hn : 0 < n) : ∃ g, A = some ⟨g, 0, none⟩ ∧ Value.ownBlock (.slice A n c) = some g ∧ w.there g 0 (n * 6) := by
  obtain ⟨A', q, c', he, hq, _⟩ := h.form
  injection he with e1 e2 e3
  subst e1 e2 e3
  have hrd := h.rd (X := No) (fun _ _ h => h)
  rcases h.1.2 with ⟨he, h0⟩ | ⟨g, cap, cur, he, hg, hh, h1, h2, h3, h4⟩
  · rw [hq] at hn; omega
  · injection he with e1 e2 e3
    subst e1 e3
    refine ⟨g, rfl, rfl, fun j hj => ?_⟩
    obtain ⟨ad, e, -, -, hc⟩ := hrd.2.2 hn
    injection e with e
    subst e
    have hl : j < (flatA (cellsOf l)).length := by rw [length_flatA h.2]; omega
    have := hc j _ (List.getElem?_eq_getElem hl)
    rw [Addr.add_mid] at this
    refine ⟨by rw [this]; rfl, ?_⟩
    simp [World.frozen?, hh]
end
end Go.Proofs.Ytafgcafhgnfegaa
