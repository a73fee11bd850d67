/-
  Rows of files that grow; files and things that are kept while a disk is written. Nothing is assumed.
-/
import Derived.Test.YthhiiimmgghhaaaOpen
namespace Go.Proofs.Ythhiiimmgghhaaa
open Go.RowKit
/-- What a write to a disk leaves: S grew by new memory alone. -/
structure Moved (w : World) (S : Nat → Prop) (w' : World) (S' : Nat → Prop) : Prop where
  turn : Turn S w w'
  more : ∀ b, S b → S' b
  new : ∀ b, S' b → S b ∨ w.heap.size ≤ b
section
variable {w w' : World} {S S' X : Nat → Prop} {A : Option Addr} {n : Nat}
theorem Moved.old (h : Moved w S w' S') {b : Nat} (hb : b < w.heap.size) (hS : S' b) : S b := (h.new b hS).elim id (fun e => by omega)
theorem Moved.of_below (h : Below w.heap.size w w') : Moved w S w' S := ⟨Turn.of_below h S, fun _ h => h, fun _ h => .inl h⟩
theorem Moved.trans {w'' : World} {S'' : Nat → Prop} (h : Moved w S w' S') (k : Moved w' S' w'' S'') : Moved w S w'' S'' :=
  ⟨h.turn.trans k.turn (fun b hb e => h.old hb e), fun b e => k.more b (h.more b e), fun b e => (k.new b e).elim (h.new b) (fun e => .inr (by have := h.turn.size; omega))⟩
theorem Bys.move {l : Bs} (h : Bys w S A n l) (hm : Moved w S w' S') : Bys w' S' A n l := (h.wide (X' := S') (fun _ hb e => hm.old hb e)).keep hm.turn (fun b _ e => hm.more b e)
theorem RFs.move {l : FL} (h : RFs w S A n l) (hm : Moved w S w' S') : RFs w' S' A n l := (h.wide (X' := S') (fun _ hb e => hm.old hb e)).keep hm.turn (fun b _ e => hm.more b e)
theorem RTs.move {ts : List RT} (h : RTs w S A n ts) (hm : Moved w S w' S') : RTs w' S' A n ts := (h.wide (X' := S') (fun _ hb e => hm.old hb e)).keep hm.turn (fun b _ e => hm.more b e)
theorem RTAt.move {t : RT} {cs : Array Value} (h : RTAt w S t cs) (hm : Moved w S w' S') : RTAt w' S' t cs := (h.wide (X' := S') (fun _ hb e => hm.old hb e)).keep hm.turn (fun b _ e => hm.more b e)
theorem Rd.move {k : Nat} {css : List (Array Value)} (h : Rd w S k A n css) (hm : Moved w S w' S') : Rd w' S' k A n css := (h.wide (X' := S') (fun _ hb e => hm.old hb e)).keep hm.turn (fun b _ e => hm.more b e)
end
/-- A write to a disk of which nobody else holds a piece. -/
theorem Wrote.moved {w w' : World} {S : Nat → Prop} {g : Nat} {s : St} (h : Wrote w S S g s w') : ∃ S', Moved w S w' S' ∧ Dk w' S' S' g s := by
  obtain ⟨hT, S', h1, h2, h3⟩ := h
  exact ⟨S', ⟨hT, h1, h2⟩, h3.wide (fun b _ e => .inr e) (fun b e => e)⟩
theorem flat_inj {k : Nat} : ∀ {a b : List (Array Value)}, Sized k a → Sized k b → a.length = b.length → flatA a = flatA b → a = b
  | [], [], _, _, _, _ => rfl
  | [], _ :: _, _, _, h, _ => by simp at h
  | _ :: _, [], _, _, h, _ => by simp at h
  | x :: a, y :: b, ha, hb, hl, hf => by
    have hf' : x.toList ++ flatA a = y.toList ++ flatA b := hf
    have h1 : x.toList.length = y.toList.length := by simp [ha.cons.1, hb.cons.1]
    obtain ⟨e1, e2⟩ := List.append_inj hf' h1
    have e3 : x = y := Array.toList_inj.1 e1
    rw [e3, flat_inj ha.cons.2 hb.cons.2 (by simpa using hl) e2]
/-- A row of files that is the call's own; no file's bytes lie in X0, nor in the row's block. -/
def FRow (X0 : Nat → Prop) (w : World) (v : Value) (l : FL) : Prop :=
  ∃ css, OwnK w 59 2 v css ∧ css.length = l.length ∧ (∀ g, v.ownBlock = some g → ¬ X0 g) ∧
    ∀ (i : Nat) (p : Bs × Bs) (cs : Array Value), l[i]? = some p → css[i]? = some cs → ∃ A q c, cs = #[.string (str p.1), .slice A q c] ∧ Bys w (fun b => X0 b ∨ v.ownBlock = some b) A q p.2 ∧ q ≤ c ∧ c ≤ maxLen
section
variable {w w' : World} {X0 : Nat → Prop} {v v' : Value} {l : FL}
theorem FRow.nil (w : World) (X0 : Nat → Prop) : FRow X0 w (.slice none 0 0) [] := ⟨[], OwnK.nil w 59 2, rfl, fun g e => (by cases e), fun i p cs e => (by simp at e)⟩
theorem FRow.form (h : FRow X0 w v l) : ∃ A q c, v = .slice A q c ∧ q = l.length ∧ q ≤ c ∧ c ≤ maxLen := by
  obtain ⟨css, h1, h2, h3, h4⟩ := h
  obtain ⟨A, q, c, e, hq, hc⟩ := h1.form
  exact ⟨A, q, c, e, by omega, hc⟩
theorem FRow.below (h : FRow X0 w v l) (hb : Below w.heap.size w w') : FRow X0 w' v l := by
  obtain ⟨css, h1, h2, h3, h4⟩ := h
  refine ⟨css, h1.below hb, h2, h3, fun i p cs e1 e2 => ?_⟩
  obtain ⟨A, q, c, e, hb', h5⟩ := h4 i p cs e1 e2
  exact ⟨A, q, c, e, hb'.below hb, h5⟩
theorem FRow.lt (h : FRow X0 w v l) {g : Nat} (e : v.ownBlock = some g) : g < w.heap.size := by
  obtain ⟨css, h1, _⟩ := h
  exact h1.lt e
theorem FRow.rfs {A : Option Addr} {q c : Nat} (h : FRow X0 w (.slice A q c) l) : RFs w X0 A q l := by
  obtain ⟨css, h1, h2, h3, h4⟩ := h
  refine ⟨css, h1.rd h3, h2, fun i p cs e1 e2 => ?_⟩
  obtain ⟨A, q, c, e, hb', h5⟩ := h4 i p cs e1 e2
  exact ⟨A, q, c, e, hb'.wide (fun b _ e => .inl e), h5⟩
/-- A file is appended. -/
theorem FRow.snoc (h : FRow X0 w v l) {p : Bs × Bs} {A : Option Addr} {q c : Nat} (hb : Bys w (fun b => X0 b ∨ v.ownBlock = some b) A q p.2) (hq : q ≤ c) (hc : c ≤ maxLen) {css : List (Array Value)}
    (hcss : OwnK w 59 2 v css) (h' : OwnK w' 59 2 v' (css ++ [#[.string (str p.1), .slice A q c]])) (hg : Grew v w v' w') (hX : ∀ b, X0 b → b < w.heap.size) : FRow X0 w' v' (l ++ [p]) := by
  obtain ⟨css0, h1, h2, h3, h4⟩ := h
  have hcc : css0 = css := by
    have e1 := h1.1
    have e2 := hcss.1
    obtain ⟨A1, q1, c1, rfl, hq1, _⟩ := h1.form
    obtain ⟨A2, q2, c2, e, hq2, _⟩ := hcss.form
    injection e with _ e _
    have hlen : css0.length = css.length := by omega
    have hflat : flatA css0 = flatA css := by
      rcases e1.2 with ⟨_, hz⟩ | ⟨g, cap, cur, ev, _, hh, _, _, _, ht⟩
      · have z1 : css0 = [] := List.eq_nil_of_length_eq_zero hz
        have z2 : css = [] := List.eq_nil_of_length_eq_zero (by omega)
        rw [z1, z2]
      · rcases e2.2 with ⟨ev2, hz⟩ | ⟨g2, cap2, cur2, ev2, _, hh2, _, _, _, ht2⟩
        · rw [ev] at ev2; injection ev2 with ev2; cases ev2
        · rw [ev] at ev2
          injection ev2 with ev2 _ _
          injection ev2 with ev2
          injection ev2 with ev2 _ _
          subst ev2
          rw [hh] at hh2
          injection hh2 with hh2
          injection hh2 with hh2 _ _
          subst hh2
          rw [← ht, ← ht2, hlen]
    exact flat_inj h1.2 hcss.2 hlen hflat
  subst hcc
  refine ⟨_, h', by simp [h2], fun g e => ?_, fun i x cs e1 e2 => ?_⟩
  · rcases hg.2 g e with e' | e'
    · exact h3 g e'
    · exact fun hx => by have := hX g hx; omega
  · have hT : Turn (fun r => v.ownBlock = some r) w w' := hg.turn (fun _ e => e)
    have mv : ∀ {A : Option Addr} {q : Nat} {b : Bs}, Bys w (fun b => X0 b ∨ v.ownBlock = some b) A q b → Bys w' (fun b => X0 b ∨ v'.ownBlock = some b) A q b := fun hb => by
      have h6 : Bys w (fun b => (X0 b ∨ v'.ownBlock = some b) ∨ v.ownBlock = some b) _ _ _ := hb.wide (fun b hlt e => by
        rcases e with (e | e) | e
        · exact .inl e
        · rcases hg.2 b e with e | e
          · exact .inr e
          · omega
        · exact .inr e)
      exact (h6.keep hT (fun b _ e => .inr e)).wide (fun b _ e => .inl e)
    rcases Nat.lt_or_ge i l.length with hi | hi
    · rw [List.getElem?_append_left hi] at e1
      rw [List.getElem?_append_left (by omega)] at e2
      obtain ⟨A1, q1, c1, e, hb1, h5⟩ := h4 i x cs e1 e2
      exact ⟨A1, q1, c1, e, mv hb1, h5⟩
    · rw [List.getElem?_append_right hi] at e1
      rw [List.getElem?_append_right (by omega)] at e2
      have hi0 : i - l.length = 0 := by
        rcases Nat.eq_zero_or_pos (i - l.length) with q | q
        · exact q
        · rw [List.getElem?_eq_none (by simp; omega)] at e1; cases e1
      rw [hi0] at e1
      rw [h2, hi0] at e2
      simp at e1 e2
      subst e1 e2
      exact ⟨A, q, c, rfl, mv hb, hq, hc⟩
end
end Go.Proofs.Ythhiiimmgghhaaa
