/-
  A controller in memory: what it is made of, and what is left of it where one view, one writer, one broker turns. Nothing is assumed.
-/
import Derived.Test.YtpmdicbhliclcaaGreatCop
import Derived.Test.YtpmdicbhliclcaaGreatFault
namespace Go.Proofs.YtpmdicbhliclcaaGreat
open Go.RowKit Go.Maps
set_option linter.unusedVariables false
/-- A controller. -/
structure Mt where
  nb : Nat
  np : Nat
  ni : Nat
  lives : Nat → Bool
  views : Nat → Vw
  wrs : Nat → Wt
def setAt {α : Type} (f : Nat → α) (i : Nat) (v : α) : Nat → α := fun j => if j = i then v else f j
theorem setAt_self {α : Type} (f : Nat → α) (i : Nat) (v : α) : setAt f i v i = v := if_pos rfl
theorem setAt_ne {α : Type} (f : Nat → α) {i j : Nat} (h : j ≠ i) (v : α) : setAt f i v j = f j := if_neg h
/-- How its cells lie. -/
structure Lay (cs : Array Value) (M : Mt) (rv : Nat → Value) : Prop where
  sz : cs.size = 47
  n0 : cs[0]? = some (.int .i64 (M.nb : Int))
  n1 : cs[1]? = some (.int .i64 (M.np : Int))
  n2 : cs[2]? = some (.int .i64 (M.ni : Int))
  lv : ∀ b, b < 4 → cs[3 + b]? = some (.bool (M.lives b))
  vw : ∀ p, p < 4 → Seg cs (7 + p * 4) (vcells (M.views p) (rv p))
  wr : ∀ i, i < 4 → Seg cs (23 + i * 6) (wcells (M.wrs i) (rv (4 + i)))
/-- Its lists. -/
def Mt.row (M : Mt) (k : Nat) : List Int := if k < 4 then (M.views k).isr else (M.wrs (k - 4)).parts
structure Mx (w : World) (g : Nat) (M : Mt) (cs : Array Value) (rv : Nat → Value) : Prop where
  blk : Blk w g 75 cs
  lay : Lay cs M rv
  own : ∀ k, k < 8 → OwnK w 3 1 (rv k) (intsOf (M.row k))
  ap : ∀ j k, j < 8 → k < 8 → j ≠ k → ∀ b, (rv j).ownBlock = some b → (rv k).ownBlock ≠ some b
  ng : ∀ k, k < 8 → (rv k).ownBlock ≠ some g
/-- A controller at block g, its blocks in S. -/
def Mm (w : World) (S : Nat → Prop) (g : Nat) (M : Mt) : Prop := ∃ cs rv, Mx w g M cs rv ∧ S g ∧ ∀ k, k < 8 → ∀ b, (rv k).ownBlock = some b → S b
theorem Seg.keep {cs cs' : Array Value} {o k q : Nat} {l : List Value} (h : Seg cs q l) (hu : Upd cs cs' o k) (hq : q + l.length ≤ o ∨ o + k ≤ q) : Seg cs' q l := fun j v hj => by
  have hjl := (List.getElem?_eq_some_iff.1 hj).1
  rw [hu.out (q + j) (by omega)]
  exact h j v hj
section
variable {w w' : World} {S T : Nat → Prop} {g : Nat} {M : Mt} {cs cs' : Array Value} {rv : Nat → Value}
theorem Mx.keep (h : Mx w g M cs rv) (ht : Turn T w w') (hg : ¬ T g) (hT : ∀ k, k < 8 → ∀ b, (rv k).ownBlock = some b → ¬ T b) : Mx w' g M cs rv :=
  ⟨h.blk.keep ht hg, h.lay, fun k hk => (h.own k hk).keep ht (hT k hk), h.ap, h.ng⟩
theorem Mm.keep (h : Mm w S g M) (ht : Turn T w w') (hT : ∀ b, S b → ¬ T b) : Mm w' S g M := by
  obtain ⟨cs, rv, h1, h2, h3⟩ := h
  exact ⟨cs, rv, h1.keep ht (hT g h2) (fun k hk b hb => hT b (h3 k hk b hb)), h2, h3⟩
theorem Mm.below (h : Mm w S g M) (hb : Below w.heap.size w w') : Mm w' S g M := h.keep (T := No) (Turn.of_below hb No) (fun _ _ h => h)
/-- One view has turned. -/
theorem Mx.view {p : Nat} {V' : Vw} {pv' : Value} (h : Mx w g M cs rv) (hp : p < 4) (hb : Blk w' g 75 cs') (hu : Upd cs cs' (7 + p * 4) 4) (hs : Seg cs' (7 + p * 4) (vcells V' pv')) (ho : OwnK w' 3 1 pv' (intsOf V'.isr))
    (hv : ∀ b, pv'.ownBlock = some b → (rv p).ownBlock = some b ∨ w.heap.size ≤ b) (ht : Turn (fun b => b = g ∨ (rv p).ownBlock = some b) w w') :
    Mx w' g { M with views := setAt M.views p V' } cs' (setAt rv p pv') := by
  have hgl := h.blk.lt
  have hne : ∀ k, k < 8 → k ≠ p → ∀ b, (rv k).ownBlock = some b → pv'.ownBlock ≠ some b := fun k hk hkp b hbk e => by
    rcases hv b e with q | q
    · exact h.ap p k (by omega) hk (Ne.symm hkp) b q hbk
    · have := (h.own k hk).lt hbk; omega
  refine ⟨hb, ⟨by rw [hu.size]; exact h.lay.sz, by rw [hu.out 0 (by omega)]; exact h.lay.n0, by rw [hu.out 1 (by omega)]; exact h.lay.n1, by rw [hu.out 2 (by omega)]; exact h.lay.n2, fun b hb4 => by rw [hu.out (3 + b) (by omega)]; exact h.lay.lv b hb4, fun q hq => ?_, fun i hi => ?_⟩, fun k hk => ?_, fun j k hj hk hjk b hbj => ?_, fun k hk => ?_⟩
  · show Seg cs' (7 + q * 4) (vcells (setAt M.views p V' q) (setAt rv p pv' q))
    by_cases hqp : q = p
    · subst hqp; rw [setAt_self, setAt_self]; exact hs
    · rw [setAt_ne _ hqp, setAt_ne _ hqp]
      exact (h.lay.vw q hq).keep hu (by simp [vcells]; omega)
  · rw [setAt_ne _ (by omega)]
    exact (h.lay.wr i hi).keep hu (by omega)
  · by_cases hkp : k = p
    · subst hkp
      rw [setAt_self]
      show OwnK w' 3 1 pv' (intsOf (if k < 4 then (setAt M.views k V' k).isr else _))
      rw [if_pos hp, setAt_self]
      exact ho
    · rw [setAt_ne _ hkp]
      have hr : ({ M with views := setAt M.views p V' } : Mt).row k = M.row k := by
        unfold Mt.row
        by_cases hk4 : k < 4
        · rw [if_pos hk4, if_pos hk4]
          show (setAt M.views p V' k).isr = _
          rw [setAt_ne _ hkp]
        · rw [if_neg hk4, if_neg hk4]
      rw [hr]
      exact (h.own k hk).keep ht (fun b hb e => by
        rcases e with e | e
        · exact h.ng k hk (e ▸ hb)
        · exact h.ap k p hk (by omega) hkp b hb e)
  · by_cases hjp : j = p
    · subst hjp
      rw [setAt_self] at hbj
      rw [setAt_ne _ (Ne.symm hjk)]
      exact fun e => hne k hk (Ne.symm hjk) b e hbj
    · rw [setAt_ne _ hjp] at hbj
      by_cases hkp : k = p
      · subst hkp; rw [setAt_self]; exact hne j hj hjp b hbj
      · rw [setAt_ne _ hkp]; exact h.ap j k hj hk hjk b hbj
  · by_cases hkp : k = p
    · subst hkp
      rw [setAt_self]
      intro e
      rcases hv g e with q | q
      · exact h.ng k hk q
      · omega
    · rw [setAt_ne _ hkp]; exact h.ng k hk
/-- One writer has turned. -/
theorem Mx.writer {i : Nat} {W' : Wt} {pv' : Value} (h : Mx w g M cs rv) (hi : i < 4) (hb : Blk w' g 75 cs') (hu : Upd cs cs' (23 + i * 6) 6) (hs : Seg cs' (23 + i * 6) (wcells W' pv')) (ho : OwnK w' 3 1 pv' (intsOf W'.parts))
    (hv : ∀ b, pv'.ownBlock = some b → (rv (4 + i)).ownBlock = some b ∨ w.heap.size ≤ b) (ht : Turn (fun b => b = g ∨ (rv (4 + i)).ownBlock = some b) w w') :
    Mx w' g { M with wrs := setAt M.wrs i W' } cs' (setAt rv (4 + i) pv') := by
  have hgl := h.blk.lt
  have hne : ∀ k, k < 8 → k ≠ 4 + i → ∀ b, (rv k).ownBlock = some b → pv'.ownBlock ≠ some b := fun k hk hkp b hbk e => by
    rcases hv b e with q | q
    · exact h.ap (4 + i) k (by omega) hk (Ne.symm hkp) b q hbk
    · have := (h.own k hk).lt hbk; omega
  refine ⟨hb, ⟨by rw [hu.size]; exact h.lay.sz, by rw [hu.out 0 (by omega)]; exact h.lay.n0, by rw [hu.out 1 (by omega)]; exact h.lay.n1, by rw [hu.out 2 (by omega)]; exact h.lay.n2, fun b hb4 => by rw [hu.out (3 + b) (by omega)]; exact h.lay.lv b hb4, fun q hq => ?_, fun q hq => ?_⟩, fun k hk => ?_, fun j k hj hk hjk b hbj => ?_, fun k hk => ?_⟩
  · rw [setAt_ne _ (by omega)]
    exact (h.lay.vw q hq).keep hu (by simp [vcells]; omega)
  · show Seg cs' (23 + q * 6) (wcells (setAt M.wrs i W' q) (setAt rv (4 + i) pv' (4 + q)))
    by_cases hqi : q = i
    · subst hqi; rw [setAt_self, setAt_self]; exact hs
    · rw [setAt_ne _ hqi, setAt_ne _ (by omega)]
      exact (h.lay.wr q hq).keep hu (by simp [wcells]; omega)
  · by_cases hkp : k = 4 + i
    · subst hkp
      rw [setAt_self]
      show OwnK w' 3 1 pv' (intsOf (if 4 + i < 4 then _ else (setAt M.wrs i W' (4 + i - 4)).parts))
      rw [if_neg (by omega), show 4 + i - 4 = i by omega, setAt_self]
      exact ho
    · rw [setAt_ne _ hkp]
      have hr : ({ M with wrs := setAt M.wrs i W' } : Mt).row k = M.row k := by
        unfold Mt.row
        by_cases hk4 : k < 4
        · rw [if_pos hk4, if_pos hk4]
        · rw [if_neg hk4, if_neg hk4]
          show (setAt M.wrs i W' (k - 4)).parts = _
          rw [setAt_ne _ (by omega)]
      rw [hr]
      exact (h.own k hk).keep ht (fun b hb e => by
        rcases e with e | e
        · exact h.ng k hk (e ▸ hb)
        · exact h.ap k (4 + i) hk (by omega) hkp b hb e)
  · by_cases hjp : j = 4 + i
    · subst hjp
      rw [setAt_self] at hbj
      rw [setAt_ne _ (Ne.symm hjk)]
      exact fun e => hne k hk (Ne.symm hjk) b e hbj
    · rw [setAt_ne _ hjp] at hbj
      by_cases hkp : k = 4 + i
      · subst hkp; rw [setAt_self]; exact hne j hj hjp b hbj
      · rw [setAt_ne _ hkp]; exact h.ap j k hj hk hjk b hbj
  · by_cases hkp : k = 4 + i
    · subst hkp
      rw [setAt_self]
      intro e
      rcases hv g e with q | q
      · exact h.ng _ hk q
      · omega
    · rw [setAt_ne _ hkp]; exact h.ng k hk
/-- One broker has turned. -/
theorem Mx.live {b : Nat} {x : Bool} (h : Mx w g M cs rv) (hb4 : b < 4) : Mx (w.setCell ⟨g, 3 + b, none⟩ (.bool x)) g { M with lives := setAt M.lives b x } (cs.setIfInBounds (3 + b) (.bool x)) rv := by
  have ht : Turn (fun q => q = g) w (w.setCell ⟨g, 3 + b, none⟩ (.bool x)) := (Turn.refl (fun q => q = g) w).setCell (p := ⟨g, 3 + b, none⟩) (fun _ => rfl) _
  have hu : Upd cs (cs.setIfInBounds (3 + b) (.bool x)) 3 4 := (Upd.refl cs 3 4).set (j := b) hb4 _
  refine ⟨h.blk.set_ _ _, ⟨by rw [hu.size]; exact h.lay.sz, by rw [hu.out 0 (by omega)]; exact h.lay.n0, by rw [hu.out 1 (by omega)]; exact h.lay.n1, by rw [hu.out 2 (by omega)]; exact h.lay.n2, fun q hq => ?_, fun q hq => (h.lay.vw q hq).keep hu (by omega), fun q hq => (h.lay.wr q hq).keep hu (by omega)⟩, fun k hk => (h.own k hk).keep ht (fun q hq e => h.ng k hk (e ▸ hq)), h.ap, h.ng⟩
  rw [Array.getElem?_setIfInBounds]
  show _ = some (Value.bool (setAt M.lives b x q))
  by_cases hqb : q = b
  · subst hqb
    rw [if_pos rfl, if_pos (by rw [h.lay.sz]; omega), setAt_self]
  · rw [if_neg (by omega), setAt_ne _ hqb]
    exact h.lay.lv q hq
end
end Go.Proofs.YtpmdicbhliclcaaGreat
