/-
  What is open, stable and visible of the first entries of a log, as functions over lists; where transactions were marked first. Nothing is assumed.
-/
import Derived.Test.YthcphoijanebhaaDoorSets
import Derived.Test.YthcphoijanebhaaDoorAppend
namespace Go.Proofs.YthcphoijanebhaaDoor
open Go.RowKit Go.Maps
set_option linter.unusedVariables false
/-- At which place a transaction has its first entry of a kind. -/
def fstF (q : Ent → Bool) (l : List Ent) : Int × Int → Option Nat := fun p => l.findIdx? fun e => decide (e.key = p) && q e
def mkE (e : Ent) : Bool := decide (e.kind ≠ 1)
def cmE (e : Ent) : Bool := decide (e.kind = 2)
theorem fstF_nil (q : Ent → Bool) : fstF q [] = fun _ => none := rfl
theorem fstF_snoc (q : Ent → Bool) (l : List Ent) (e : Ent) : fstF q (l ++ [e]) = if q e = true then setF (fstF q l) e.key l.length else fstF q l := by
  funext p
  unfold fstF
  rw [List.findIdx?_append]
  by_cases hq : q e = true
  · rw [if_pos hq]
    unfold setF
    by_cases hp : p = e.key
    · subst hp
      rw [if_pos rfl]
      cases h : l.findIdx? fun x => decide (x.key = e.key) && q x with
      | some a => simp [h]
      | none => simp [hq, h]
    · have hp' : ¬ e.key = p := fun h => hp h.symm
      rw [if_neg hp]
      simp [hp']
  · rw [if_neg hq]
    simp [hq]
theorem fstF_lt {q : Ent → Bool} {l : List Ent} {p : Int × Int} {a : Nat} (h : fstF q l p = some a) : ∃ e, l[a]? = some e ∧ e.key = p ∧ q e = true ∧ ∀ j x, j < a → l[j]? = some x → ¬ (x.key = p ∧ q x = true) := by
  unfold fstF at h
  rw [List.findIdx?_eq_some_iff_getElem] at h
  obtain ⟨hl, h1, h2⟩ := h
  refine ⟨l[a], List.getElem?_eq_getElem hl, ?_, ?_, fun j x hj hx => ?_⟩
  · simp at h1; exact h1.1
  · simp at h1; exact h1.2
  · have := h2 j hj
    obtain ⟨hjl, rfl⟩ := List.getElem?_eq_some_iff.1 hx
    simp at this
    rintro ⟨a1, a2⟩
    rw [this a1] at a2
    cases a2
/-- Has a transaction an entry of a kind among the first so many? -/
def anyK (q : Ent → Bool) (l : List Ent) (n : Nat) (p : Int × Int) : Bool := (l.take n).any fun e => decide (e.key = p) && q e
theorem hasAt_fst (q : Ent → Bool) (l : List Ent) (n : Nat) (p : Int × Int) : hasAt (fstF q l) p (n : Int) = anyK q l n p := by
  unfold hasAt anyK
  rw [Bool.eq_iff_iff]
  cases h : fstF q l p with
  | none =>
    simp only [Bool.false_eq_true, false_iff]
    intro hany
    obtain ⟨x, hx, hp⟩ := List.any_eq_true.1 hany
    unfold fstF at h
    rw [List.findIdx?_eq_none_iff] at h
    have := h x (List.mem_of_mem_take hx)
    rw [hp] at this
    cases this
  | some a =>
    obtain ⟨e, he, hp, hq, hmin⟩ := fstF_lt h
    simp only [decide_eq_true_eq]
    constructor
    · intro hlt
      refine List.any_eq_true.2 ⟨e, List.mem_of_getElem? (i := a) (by rw [List.getElem?_take, if_pos (by omega)]; exact he), by simp [hp, hq]⟩
    · intro hany
      obtain ⟨x, hx, hxp⟩ := List.any_eq_true.1 hany
      obtain ⟨i, hi⟩ := List.getElem?_of_mem hx
      rw [List.getElem?_take] at hi
      split at hi
      · rename_i hin
        simp at hxp
        by_cases hia : i < a
        · exact absurd ⟨hxp.1, hxp.2⟩ (hmin i x hia hi)
        · omega
      · cases hi
def nob : Int × Int := (-1, 0)
/-- Is an entry's transaction open among the first so many? -/
def opn (l : List Ent) (n : Nat) (e : Ent) : Bool := !decide (e.key = nob) && !anyK mkE l n e.key
/-- Is an entry that is stable visible? -/
def see (l : List Ent) (n : Nat) (e : Ent) : Bool := decide (e.kind = 1) && (decide (e.key = nob) || anyK cmE l n e.key)
/-- The variable of the program. -/
def Nob (w : World) : Prop := w.cell? ⟨0, 0, none⟩ = some (.int .i64 (-1)) ∧ w.cell? ⟨0, 1, none⟩ = some (.int .i64 0) ∧ 0 < w.heap.size
theorem Nob.below {w w' : World} {B : Nat} (h : Nob w) (hb : Below B w w') (hB : 0 < B) : Nob w' :=
  ⟨(World.cell?_of_block (hb.block 0 hB)).trans h.1, (World.cell?_of_block (hb.block 0 hB)).trans h.2.1, Nat.lt_of_lt_of_le h.2.2 hb.size⟩
theorem Nob.low {w w' : World} (h : Nob w) (hb : Below w.heap.size w w') : Nob w' := h.below hb h.2.2
/-- What is read of a table of visible at block b, but its log. -/
structure VR (w : World) (b m1 m2 : Nat) (l : List Ent) : Prop where
  c1 : w.cell? ⟨b, 1, none⟩ = some (.map (some m1))
  c2 : w.cell? ⟨b, 2, none⟩ = some (.map (some m2))
  e1 : PM w m1 l.length (fstF mkE l)
  e2 : PM w m2 l.length (fstF cmE l)
theorem VR.blt {w : World} {b m1 m2 : Nat} {l : List Ent} (h : VR w b m1 m2 l) : b < w.heap.size := block_lt_of_cell h.c1
theorem VR.keepB {w w' : World} {b m1 m2 : Nat} {l : List Ent} (h : VR w b m1 m2 l) (hk : ∀ x, x = b ∨ x = m1 ∨ x = m2 → w'.heap[x]? = w.heap[x]?) : VR w' b m1 m2 l :=
  ⟨(World.cell?_of_block (hk b (.inl rfl))).trans h.c1, (World.cell?_of_block (hk b (.inl rfl))).trans h.c2, h.e1.keepB (hk m1 (.inr (.inl rfl))), h.e2.keepB (hk m2 (.inr (.inr rfl)))⟩
theorem VR.below {w w' : World} {b m1 m2 : Nat} {l : List Ent} (h : VR w b m1 m2 l) (hb : Below w.heap.size w w') : VR w' b m1 m2 l :=
  h.keepB fun x hx => hb.block x (by rcases hx with rfl | rfl | rfl; exact h.blt; exact h.e1.lt; exact h.e2.lt)
/-- A table of visible, at block b, in memory. -/
structure VT (w : World) (b g m1 m2 : Nat) (S : Nat → Prop) (l : List Ent) : Prop where
  c0 : w.cell? ⟨b, 0, none⟩ = some (.pointer (some ⟨g, 0, none⟩))
  vr : VR w b m1 m2 l
  tb : Tb w S g l
  d : m1 ≠ m2 ∧ ¬ S m1 ∧ ¬ S m2
theorem VT.blt {w : World} {b g m1 m2 : Nat} {S : Nat → Prop} {l : List Ent} (h : VT w b g m1 m2 S l) : b < w.heap.size := block_lt_of_cell h.c0
theorem VT.below {w w' : World} {b g m1 m2 : Nat} {S : Nat → Prop} {l : List Ent} (h : VT w b g m1 m2 S l) (hb : Below w.heap.size w w') : VT w' b g m1 m2 S l :=
  ⟨(World.cell?_of_block (hb.block b h.blt)).trans h.c0, h.vr.below hb, h.tb.below hb, h.d⟩
/-- Some blocks lie as they lay. -/
def KeepZ (Z : Nat → Prop) (W W' : World) : Prop := W.heap.size ≤ W'.heap.size ∧ ∀ x, Z x → W'.heap[x]? = W.heap[x]?
theorem KeepZ.refl (Z : Nat → Prop) (W : World) : KeepZ Z W W := ⟨Nat.le_refl _, fun _ _ => rfl⟩
theorem KeepZ.trans {Z : Nat → Prop} {A B C : World} (h : KeepZ Z A B) (k : KeepZ Z B C) : KeepZ Z A C := ⟨Nat.le_trans h.1 k.1, fun x hx => (k.2 x hx).trans (h.2 x hx)⟩
theorem KeepZ.of_turn {Z S : Nat → Prop} {A B : World} (h : Turn S A B) (hz : ∀ x, Z x → x < A.heap.size ∧ ¬ S x) : KeepZ Z A B := ⟨h.size, fun x hx => h.block x (hz x hx).1 (hz x hx).2⟩
theorem KeepZ.of_below {Z : Nat → Prop} {A B : World} {C : Nat} (h : Below C A B) (hz : ∀ x, Z x → x < C) : KeepZ Z A B := ⟨h.size, fun x hx => h.block x (hz x hx)⟩
theorem KeepZ.cell {Z : Nat → Prop} {A B : World} (h : KeepZ Z A B) {p : Addr} (hp : Z p.block) : B.cell? p = A.cell? p := World.cell?_of_block (h.2 _ hp)
theorem KeepZ.drew {Z : Nat → Prop} {A B : World} (h : KeepZ Z A B) : KeepZ Z A B.drew := ⟨h.1, h.2⟩
theorem Nob.keepZ {Z : Nat → Prop} {w w' : World} (h : Nob w) (hk : KeepZ Z w w') (h0 : Z 0) : Nob w' := ⟨(hk.cell h0).trans h.1, (hk.cell h0).trans h.2.1, Nat.lt_of_lt_of_le h.2.2 hk.1⟩
theorem VR.keepZ {Z : Nat → Prop} {w w' : World} {b m1 m2 : Nat} {l : List Ent} (h : VR w b m1 m2 l) (hk : KeepZ Z w w') (hz : Z b ∧ Z m1 ∧ Z m2) : VR w' b m1 m2 l :=
  h.keepB fun x hx => hk.2 x (by rcases hx with rfl | rfl | rfl; exact hz.1; exact hz.2.1; exact hz.2.2)
theorem Rd.keepZ {Z X : Nat → Prop} {w w' : World} {k n : Nat} {A : Option Addr} {css : List (Array Value)} (h : Rd w X k A n css) (hk : KeepZ Z w w') (hA : ∀ ad, A = some ad → Z ad.block) : Rd w' X k A n css :=
  ⟨h.1, h.2.1, fun hn => by
    obtain ⟨ad, e, hb, hx, hc⟩ := h.2.2 hn
    exact ⟨ad, e, Nat.lt_of_lt_of_le hb hk.1, hx, fun j u hu => (World.cell?_of_block (a := ad.add j) (by rw [block_of_add]; exact hk.2 _ (hA ad e))).trans (hc j u hu)⟩⟩
/-- How many are stable from a place on, of the first n. -/
structure StN (l : List Ent) (n fr N : Nat) : Prop where
  le : fr + N ≤ n
  yes : ∀ i, i < N → ∃ e, l[fr + i]? = some e ∧ opn l n e = false
  no : fr + N < n → ∃ e, l[fr + N]? = some e ∧ opn l n e = true
theorem stN_ex (l : List Ent) (n : Nat) (hn : n ≤ l.length) : ∀ (d fr : Nat), fr + d = n → ∃ N, StN l n fr N
  | 0, fr, h => ⟨0, by omega, fun i hi => by omega, fun h' => by omega⟩
  | d + 1, fr, h => by
    obtain ⟨e, he⟩ : ∃ e, l[fr]? = some e := ⟨_, List.getElem?_eq_getElem (by omega)⟩
    by_cases ho : opn l n e = true
    · exact ⟨0, by omega, fun i hi => by omega, fun _ => ⟨e, he, ho⟩⟩
    · obtain ⟨N, h1, h2, h3⟩ := stN_ex l n hn d (fr + 1) (by omega)
      refine ⟨N + 1, by omega, fun i hi => ?_, fun hlt => ?_⟩
      · rcases i with _ | i
        · exact ⟨e, he, by simpa using ho⟩
        · have := h2 i (by omega)
          rwa [show fr + (i + 1) = fr + 1 + i by omega]
      · have := h3 (by omega)
        rwa [show fr + (N + 1) = fr + 1 + N by omega]
theorem right_key {e : Ent} (h : Right e) : In64P e.key := by
  unfold Right at h
  unfold In64P In64 Ent.key
  constructor <;> omega
theorem nob_in : In64P nob := by unfold In64P In64 nob; constructor <;> omega
end Go.Proofs.YthcphoijanebhaaDoor
