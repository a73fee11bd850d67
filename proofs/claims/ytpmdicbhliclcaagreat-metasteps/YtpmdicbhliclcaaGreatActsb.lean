/-
  Acts that bear lists, in a list of one's own. Conditions of an append: at most 1000000000 on each side.
-/
import Derived.Test.YtpmdicbhliclcaaGreatThree
namespace Go.Proofs.YtpmdicbhliclcaaGreat
open Go.RowKit Go.Maps Go.ChangeShapes Go.WideShapes
set_option linter.unusedVariables false
set_option linter.unusedSimpArgs false
/-- Acts with their lists, as rows. -/
def rowB (l : List ((Ac × List Int) × Value)) : List (Array Value) := l.map fun y => aArr y.1.1 y.2
theorem rowB_len (l : List ((Ac × List Int) × Value)) : (rowB l).length = l.length := by simp [rowB]
/-- A list of acts that is being made; each act's own list lies outside of it. -/
structure AcJ (w : World) (l : List ((Ac × List Int) × Value)) (v : Value) (W : World) : Prop where
  own : OwnK W 43 8 v (rowB l)
  isr : ∀ (i : Nat) (y : (Ac × List Int) × Value), l[i]? = some y → IsR W (fun z => v.ownBlock = some z) y.2 y.1.2
  fresh : ∀ b, v.ownBlock = some b → w.heap.size ≤ b
  low : Below w.heap.size w W
theorem AcJ.nil (w : World) : AcJ w [] (.slice none 0 0) w := ⟨OwnK.nil _ _ _, fun i y h => by simp at h, fun z e => (nomatch e), Below.refl _ _⟩
theorem AcJ.below {w W W' : World} {l : List ((Ac × List Int) × Value)} {v : Value} (h : AcJ w l v W) (hb : Below W.heap.size W W') : AcJ w l v W' := ⟨h.own.below hb, fun i y hy => (h.isr i y hy).below hb, h.fresh, h.low.trans (hb.mono h.low.size)⟩
theorem AcJ.form {w W : World} {l : List ((Ac × List Int) × Value)} {v : Value} (h : AcJ w l v W) : ∃ A c, v = .slice A l.length c := by
  obtain ⟨A, q, c, e, e2, -, -⟩ := h.own.form
  rw [rowB_len] at e2
  exact ⟨A, c, by rw [e, e2]⟩
theorem IsR.grew {W w9 : World} {o : Obj} {v v9 sv : Value} {V : List Int} (h : IsR W (fun z => v.ownBlock = some z) sv V) (hv : ∀ b, v.ownBlock = some b → b < W.heap.size) (hg : Grew v (W.alloc o) v9 w9) : IsR w9 (fun z => v9.ownBlock = some z) sv V := by
  have h1 : IsR W (fun z => v.ownBlock = some z ∨ v9.ownBlock = some z) sv V := h.wide (fun b hb e => e.elim id (fun e => by
    rcases hg.2 b e with q | q
    · exact q
    · have : (W.alloc o).heap.size = W.heap.size + 1 := by simp
      omega))
  have h2 := h1.below ((Below.refl W.heap.size W).alloc (Nat.le_refl _) o)
  exact (h2.keep (hg.turn (S := fun z => v.ownBlock = some z) (fun g e => e)) (fun b _ e => .inl e)).wide (fun b _ e => .inr e)
theorem AcJ.more {w W w9 : World} {l : List ((Ac × List Int) × Value)} {v v9 sv : Value} {o : Obj} {x : Ac} {V : List Int} (h : AcJ w l v W) (ho : OwnK w9 43 8 v9 (rowB l ++ [aArr x sv])) (hg : Grew v (W.alloc o) v9 w9) (hs : IsR W (fun z => v.ownBlock = some z) sv V) : AcJ w (l ++ [((x, V), sv)]) v9 w9 := by
  have hv : ∀ b, v.ownBlock = some b → b < W.heap.size := fun b e => h.own.lt e
  refine ⟨by simpa [rowB] using ho, fun i y hy => ?_, fun z e => ?_, below_grew (h.low.alloc h.low.size _) hg h.fresh (le_alloc h.low.size _)⟩
  · by_cases hi : i < l.length
    · rw [List.getElem?_append_left hi] at hy
      exact (h.isr i y hy).grew hv hg
    · rw [List.getElem?_append_right (by omega)] at hy
      have : i - l.length = 0 := by
        have := (List.getElem?_eq_some_iff.1 hy).1
        simp at this; omega
      rw [this] at hy
      injection hy with hy
      subst hy
      exact hs.grew hv hg
  · rcases hg.2 z e with q | q
    · exact h.fresh z q
    · exact Nat.le_trans (le_alloc h.low.size _) q
theorem AcJ.acts {w W : World} {l : List ((Ac × List Int) × Value)} {A : Option Addr} {n c : Nat} (h : AcJ w l (.slice A n c) W) : ActR W No A (l.map (·.1)) := by
  have hr := h.own.rd (X := No) (fun _ _ e => e)
  have hn : n = l.length := by have := hr.1; rw [rowB_len] at this; exact this.symm
  subst hn
  refine ⟨⟨fun i => (l[i]?.map (·.2)).getD (.slice none 0 0), ?_, fun i x hx => ?_⟩⟩
  · have e : (rowsOf (l.map (·.1)).length fun i => match (l.map (·.1))[i]? with | some x => aArr x.1 ((l[i]?.map (·.2)).getD (.slice none 0 0)) | none => #[]) = rowB l := by
      refine List.ext_getElem? fun i => ?_
      by_cases hi : i < l.length
      · rw [rowsOf_at _ (by simpa using hi)]
        simp [rowB, List.getElem?_eq_getElem hi]
      · rw [List.getElem?_eq_none (by rw [rowsOf_len]; simpa using hi), List.getElem?_eq_none (by rw [rowB_len]; omega)]
    suffices hR : Rd W No 8 A (l.map (·.1)).length (rowB l) by
      rw [← e] at hR
      exact hR
    rw [List.length_map]
    exact hr
  · rw [List.getElem?_map] at hx
    cases hy : l[i]? with
    | none => rw [hy] at hx; cases hx
    | some y =>
      rw [hy] at hx
      injection hx with hx
      subst hx
      have h4 := (h.isr i y hy).wide (Y := No) (fun b _ e => e.elim)
      simpa [hy] using h4
theorem rd_act {W : World} {X : Nat → Prop} {x : Ac} {sv : Value} (h1 : sv.oneCell' = true) (hX : ¬ X W.heap.size) : Rd (W.alloc (.cells (aArr x sv) 43)) X 8 (some ⟨W.heap.size, 0, none⟩) 1 [aArr x sv] := rd_one W 43 (aArr x sv) rfl (by
  intro u hu
  simp only [aArr, List.mem_cons, List.not_mem_nil, or_false] at hu
  rcases hu with rfl | rfl | rfl | rfl | rfl | rfl | rfl | rfl
  all_goals first | exact h1 | rfl) hX
end Go.Proofs.YtpmdicbhliclcaaGreat
