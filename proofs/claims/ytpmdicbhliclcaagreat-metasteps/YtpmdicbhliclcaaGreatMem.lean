/-
  Words for memory: what has turned; blocks known whole; rows that are read, owned, appended to. Conditions of an append: at most 1000000000 elements on each side, of at most 64 bytes.
-/
import Derived.Test.YtpmdicbhliclcaaGreatRows
import Derived.Below
import Derived.Laws.OwnMore
import Derived.Deep.AppendLies
import Derived.Deep.Draws
import Derived.Laws.Rows
import Derived.Maps.AppendAt
import Derived.Lib.AppendStr
import Derived.RegionTactic
import Derived.OwnWalk
import Derived.Lib.Hide
import Derived.Lib.SliceRun
import Derived.Lib.SlBytesConst
import Derived.BigQuiet
import Derived.Deep.QuietTactic
import Derived.Deep.RegionHeld3
import Derived.IntWalk
import Derived.WalkKit
import Derived.WalkSpells
import Derived.WalkLawsBesides
import Derived.ProofKit
import Derived.Deep.MidRow
import Derived.Maps.OwnSet
import Derived.Maps.Ext
import Derived.Maps.RangeWalk
import Derived.Sort.KeysCollected
import Derived.Laws.Strings
import Derived.Lib.UnsafeStr
import Derived.Lib.BufferWrite
import Derived.Laws.MakeOwn
import Derived.Lib.Walk
import Derived.Shelf.Abstract
import Derived.OwnWalkIn
import Derived.TacticsInMore
namespace Go.Proofs.YtpmdicbhliclcaaGreat
open Go.RowKit Go.Shelf
attribute [local go_sem] Oper.semAt_some
theorem block_of_add (a : Addr) (n : Nat) : (a.add n).block = a.block := by unfold Addr.add; split <;> rfl
theorem add_of_add (a : Addr) (i j : Nat) : (a.add i).add j = a.add (i + j) := by
  unfold Addr.add
  by_cases hi : i = 0 <;> by_cases hj : j = 0 <;> simp [hi, hj, Nat.add_assoc]
theorem le_alloc {base : Nat} {w : World} (h : base ≤ w.heap.size) (o : Obj) : base ≤ (w.alloc o).heap.size := Nat.le_trans h (by simp)

/-- Of what was there only blocks in S have turned. -/
structure Turn (S : Nat → Prop) (w w' : World) : Prop where
  os : w'.os = w.os
  tape : w'.tape = w.tape
  output : w'.output = w.output
  size : w.heap.size ≤ w'.heap.size
  block : ∀ k, k < w.heap.size → ¬ S k → w'.heap[k]? = w.heap[k]?
section
variable {S S' T : Nat → Prop} {w w' w'' : World}
theorem Turn.refl (S : Nat → Prop) (w : World) : Turn S w w := ⟨rfl, rfl, rfl, Nat.le_refl _, fun _ _ _ => rfl⟩
theorem Turn.trans (h : Turn S w w') (k : Turn S' w' w'') (hs : ∀ b, b < w.heap.size → S' b → S b) : Turn S w w'' :=
  ⟨k.os.trans h.os, k.tape.trans h.tape, k.output.trans h.output, Nat.le_trans h.size k.size, fun i hi hn => (k.block i (Nat.lt_of_lt_of_le hi h.size) (fun e => hn (hs i hi e))).trans (h.block i hi hn)⟩
theorem Turn.mono (h : Turn S w w') (hs : ∀ b, b < w.heap.size → S b → S' b) : Turn S' w w' := ⟨h.os, h.tape, h.output, h.size, fun i hi hn => h.block i hi (fun e => hn (hs i hi e))⟩
theorem Turn.of_below (h : Below w.heap.size w w') (S : Nat → Prop) : Turn S w w' := ⟨h.os, h.tape, h.output, h.size, fun i hi _ => h.block i hi⟩
theorem Turn.of_low {B : Nat} (h : Below B w w') (hS : ∀ b, b < w.heap.size → B ≤ b → S b) : Turn S w w' := ⟨h.os, h.tape, h.output, h.size, fun i hi hn => h.block i (by
  rcases Nat.lt_or_ge i B with g | g
  · exact g
  · exact absurd (hS i hi g) hn)⟩
theorem Turn.below {B : Nat} (h : Turn S w w') (hB : B ≤ w.heap.size) (hS : ∀ b, S b → B ≤ b) : Below B w w' :=
  ⟨h.os, h.tape, h.output, h.size, fun i hi => h.block i (by omega) (fun e => by have := hS i e; omega)⟩
theorem Turn.of_grown {row : Option Nat} (h : w.grownBy w' row) (hr : ∀ r, row = some r → S r) : Turn S w w' :=
  ⟨h.os, h.tape, h.output, h.size, fun i hi hn => h.block i hi (fun e => hn (hr i e.symm))⟩
theorem Turn.alloc (h : Turn S w w') (o : Obj) : Turn S w (w'.alloc o) :=
  h.trans (S' := S) ⟨rfl, rfl, rfl, by simp, fun k hk _ => Below.heap_alloc _ _ _ hk⟩ (fun _ _ e => e)
theorem Turn.drew (h : Turn S w w') : Turn S w w'.drew := ⟨h.os, h.tape, h.output, h.size, h.block⟩
theorem Turn.setCell (h : Turn S w w') {p : Addr} (hp : p.block < w.heap.size → S p.block) (u : Value) : Turn S w (w'.setCell p u) :=
  h.trans (S' := fun b => b = p.block) ⟨rfl, rfl, rfl, by simp [World.setCell], fun k _ hk => Below.heap_setCell _ _ _ _ hk⟩ (fun b hb e => by subst e; exact hp hb)
theorem Turn.cell (h : Turn S w w') {p : Addr} (hp : p.block < w.heap.size) (hn : ¬ S p.block) : w'.cell? p = w.cell? p := World.cell?_of_block (h.block p.block hp hn)
theorem Turn.frozen (h : Turn S w w') {p : Addr} (hp : p.block < w.heap.size) (hn : ¬ S p.block) : w'.frozen? p = w.frozen? p := World.frozen?_of_block (h.block p.block hp hn)
end
/-- A set of blocks, and all that were made meanwhile. -/
def More (S : Nat → Prop) (w w' : World) : Nat → Prop := fun b => S b ∨ (w.heap.size ≤ b ∧ b < w'.heap.size)

/-- Block g is just the cells cs of element type t, none frozen. -/
def Blk (w : World) (g : Nat) (t : TypeId) (cs : Array Value) : Prop := w.heap[g]? = some (.cells cs t (0, 0))
section
variable {w w' : World} {g : Nat} {t : TypeId} {cs : Array Value} {S : Nat → Prop}
theorem lt_of_heap {w : World} {g : Nat} {o : Obj} (h : w.heap[g]? = some o) : g < w.heap.size := (Array.getElem?_eq_some_iff.1 h).1
theorem Blk.lt (h : Blk w g t cs) : g < w.heap.size := lt_of_heap h
theorem Blk.cell (h : Blk w g t cs) (i : Nat) : w.cell? ⟨g, i, none⟩ = cs[i]? := cell_of_row w g i cs t (0, 0) h
theorem Blk.frozen (h : Blk w g t cs) (i : Nat) : w.frozen? ⟨g, i, none⟩ = false := by
  unfold Blk at h
  simp [World.frozen?, h]
theorem Blk.new (w : World) (t : TypeId) (cs : Array Value) : Blk (w.alloc (.cells cs t)) w.heap.size t cs := heap_alloc_new w _
theorem Blk.drew (h : Blk w g t cs) : Blk w.drew g t cs := h
theorem Blk.drewN (h : Blk w g t cs) (n : Nat) : Blk (w.drewN n) g t cs := h
theorem Blk.alloc (h : Blk w g t cs) (o : Obj) : Blk (w.alloc o) g t cs := (Below.heap_alloc w o g h.lt).trans h
theorem Blk.set_ (h : Blk w g t cs) (i : Nat) (u : Value) : Blk (w.setCell ⟨g, i, none⟩ u) g t (cs.setIfInBounds i u) := by
  unfold Blk at h ⊢
  simp [World.setCell, Array.getElem?_modify, h]
theorem Blk.far (h : Blk w g t cs) {p : Addr} (hp : g ≠ p.block) (u : Value) : Blk (w.setCell p u) g t cs := (Below.heap_setCell w p u g hp).trans h
theorem Blk.below {B : Nat} (h : Blk w g t cs) (hb : Below B w w') (hg : g < B) : Blk w' g t cs := (hb.block g hg).trans h
theorem Blk.keep (h : Blk w g t cs) (hb : Turn S w w') (hg : ¬ S g) : Blk w' g t cs := (hb.block g h.lt hg).trans h
end

/-- Nothing. -/
def No : Nat → Prop := fun _ => False
/-- What an append has turned: v's own row, and new memory; and where the new slice lies. -/
def Grew (v : Value) (w : World) (v' : Value) (w' : World) : Prop := w.grownBy w' v.ownBlock ∧ ∀ g, v'.ownBlock = some g → v.ownBlock = some g ∨ (w.heap.size ≤ g)
section
variable {w w' w'' : World} {v v' v'' : Value} {S X : Nat → Prop}
theorem grown_of_low (h : Below w.heap.size w w') (row : Option Nat) : w.grownBy w' row := ⟨h.os, h.tape, h.output, h.size, fun i hi _ => h.block i hi⟩
theorem Grew.of_low (h : Below w.heap.size w w') : Grew v w v w' := ⟨grown_of_low h _, fun _ e => .inl e⟩
theorem Grew.refl : Grew v w v w := Grew.of_low (Below.refl _ _)
theorem Grew.alloc (o : Obj) : Grew v w v (w.alloc o) := Grew.of_low ((Below.refl _ _).alloc (Nat.le_refl _) _)
theorem Grew.trans (h : Grew v w v' w') (h' : Grew v' w' v'' w'') : Grew v w v'' w'' := by
  obtain ⟨⟨a1, a2, a3, a4, a5⟩, a6⟩ := h
  obtain ⟨⟨b1, b2, b3, b4, b5⟩, b6⟩ := h'
  refine ⟨⟨b1.trans a1, b2.trans a2, b3.trans a3, Nat.le_trans a4 b4, fun k hk hn => ?_⟩, fun g e => ?_⟩
  · refine (b5 k (by omega) (fun e => ?_)).trans (a5 k hk hn)
    rcases a6 k e.symm with h | h
    · exact hn h.symm
    · omega
  · rcases b6 g e with h | h
    · exact a6 g h
    · exact .inr (by omega)
theorem Grew.turn (h : Grew v w v' w') (hS : ∀ g, v.ownBlock = some g → S g) : Turn S w w' := Turn.of_grown h.1 hS
theorem Grew.low (h : Grew v w v' w') (hv : ∀ g, v.ownBlock = some g → w.heap.size ≤ g) : Below w.heap.size w w' := ⟨h.1.os, h.1.tape, h.1.output, h.1.size, fun i hi => h.1.block i hi (fun e => by have := hv i e.symm; omega)⟩
end
/-- A place where the walk stands still. -/
def Stop (p : Prop) : Prop := p
theorem stop {p : Prop} (h : Stop p) : p := h
theorem Stop.go {p : Prop} (h : p) : Stop p := h
theorem ret_i64 {a b : Int} (h : a = b) : Ending.returned (.int .i64 a) = .returned (.int .i64 b) := by rw [h]
theorem ret_bool {a b : Bool} (h : a = b) : Ending.returned (.bool a) = .returned (.bool b) := by rw [h]
def flatA (css : List (Array Value)) : List Value := css.flatMap Array.toList
/-- Each has k cells. -/
def Sized (k : Nat) (css : List (Array Value)) : Prop := ∀ c ∈ css, c.size = k ∧ ∀ u ∈ c.toList, u.oneCell' = true
theorem Sized.cons {k : Nat} {c : Array Value} {css : List (Array Value)} (h : Sized k (c :: css)) : c.size = k ∧ Sized k css := ⟨(h c (by simp)).1, fun x hx => h x (by simp [hx])⟩
theorem Sized.app {k : Nat} {a b : List (Array Value)} (h : Sized k a) (h' : Sized k b) : Sized k (a ++ b) := fun c hc => by
  rcases List.mem_append.1 hc with q | q
  · exact h c q
  · exact h' c q
theorem Sized.take {k : Nat} {a : List (Array Value)} (h : Sized k a) (n : Nat) : Sized k (a.take n) := fun c hc => h c (List.mem_of_mem_take hc)
theorem Sized.nil (k : Nat) : Sized k [] := fun c hc => by cases hc
theorem length_flatA {k : Nat} : ∀ {css : List (Array Value)}, Sized k css → (flatA css).length = css.length * k
  | [], _ => by simp [flatA]
  | c :: css, h => by
    show (c.toList ++ flatA css).length = (css.length + 1) * k
    rw [List.length_append, length_flatA h.cons.2, Array.length_toList, h.cons.1, Nat.succ_mul]
    omega
theorem flatA_append (a b : List (Array Value)) : flatA (a ++ b) = flatA a ++ flatA b := by unfold flatA; rw [List.flatMap_append]
theorem flatA_at {k : Nat} : ∀ {css : List (Array Value)}, Sized k css → ∀ {i : Nat} {c : Array Value}, css[i]? = some c → ∀ {j : Nat} {u : Value}, c[j]? = some u → (flatA css)[i * k + j]? = some u
  | [], _, i, c, h, j, u, hu => by simp at h
  | x :: css, hs, 0, c, h, j, u, hu => by
    simp at h
    subst h
    have hj : j < x.toList.length := by rw [Array.length_toList]; exact (Array.getElem?_eq_some_iff.1 hu).1
    show (x.toList ++ flatA css)[0 * k + j]? = some u
    rw [Nat.zero_mul, Nat.zero_add, List.getElem?_append_left hj, Array.getElem?_toList]
    exact hu
  | x :: css, hs, i + 1, c, h, j, u, hu => by
    rw [List.getElem?_cons_succ] at h
    have hx : x.toList.length = k := by rw [Array.length_toList]; exact hs.cons.1
    show (x.toList ++ flatA css)[(i + 1) * k + j]? = some u
    have e : (i + 1) * k + j = k + (i * k + j) := by rw [Nat.succ_mul]; omega
    rw [e, List.getElem?_append_right (by omega), hx, Nat.add_sub_cancel_left]
    exact flatA_at hs.cons.2 h hu
theorem flatA_get {k : Nat} : ∀ {css : List (Array Value)}, Sized k css → ∀ {j : Nat} {u : Value}, (flatA css)[j]? = some u → ∃ i c q, j = i * k + q ∧ css[i]? = some c ∧ c[q]? = some u
  | [], _, j, u, h => by simp [flatA] at h
  | x :: css, hs, j, u, h => by
    have h' : (x.toList ++ flatA css)[j]? = some u := h
    have hx : x.toList.length = k := by rw [Array.length_toList]; exact hs.cons.1
    rcases Nat.lt_or_ge j k with hj | hj
    · rw [List.getElem?_append_left (by omega), Array.getElem?_toList] at h'
      exact ⟨0, x, j, by omega, rfl, h'⟩
    · rw [List.getElem?_append_right (by omega), hx] at h'
      obtain ⟨i, c, q, e1, e2, e3⟩ := flatA_get hs.cons.2 h'
      exact ⟨i + 1, c, q, by rw [Nat.succ_mul]; omega, by simpa using e2, e3⟩
/-- The slice value '.slice A n c' holds these elements, at a block that is there and is not in X. -/
def Rd (w : World) (X : Nat → Prop) (k : Nat) (A : Option Addr) (n : Nat) (css : List (Array Value)) : Prop :=
  css.length = n ∧ Sized k css ∧ (0 < n → ∃ ad, A = some ad ∧ ad.block < w.heap.size ∧ ¬ X ad.block ∧ ∀ j u, (flatA css)[j]? = some u → w.cell? (ad.add j) = some u)
/-- The value v is a row that holds these elements (of type e), with its block for itself. -/
def OwnK (w : World) (e k : Nat) (v : Value) (css : List (Array Value)) : Prop := w.ownsRow 0 e k v css.length (flatA css) ∧ Sized k css
section
variable {w w' : World} {X X' S : Nat → Prop} {e k n c : Nat} {A : Option Addr} {v v' : Value} {css kss : List (Array Value)}
theorem Rd.none_ : Rd w X k A 0 [] := ⟨by simp, Sized.nil k, fun h => absurd h (by omega)⟩
theorem Rd.keep (h : Rd w X k A n css) (ht : Turn S w w') (hS : ∀ b, b < w.heap.size → S b → X b) : Rd w' X k A n css :=
  ⟨h.1, h.2.1, fun hn => by
    obtain ⟨ad, e, hb, hx, hc⟩ := h.2.2 hn
    exact ⟨ad, e, Nat.lt_of_lt_of_le hb ht.size, hx, fun j u hu => (ht.cell (p := ad.add j) (by rw [block_of_add]; exact hb) (by rw [block_of_add]; exact fun e => hx (hS _ hb e))).trans (hc j u hu)⟩⟩
theorem Rd.below (h : Rd w X k A n css) (hb : Below w.heap.size w w') : Rd w' X k A n css := h.keep (S := No) (Turn.of_below hb No) (fun _ _ h => h.elim)
theorem Rd.wide (h : Rd w X k A n css) (hX : ∀ b, b < w.heap.size → X' b → X b) : Rd w X' k A n css :=
  ⟨h.1, h.2.1, fun hn => by
    obtain ⟨ad, e, hb, hx, hc⟩ := h.2.2 hn
    exact ⟨ad, e, hb, fun e => hx (hX _ hb e), hc⟩⟩
theorem Rd.alloc (h : Rd w X k A n css) (o : Obj) : Rd (w.alloc o) X k A n css := h.below ((Below.refl _ _).alloc (Nat.le_refl _) _)
theorem Rd.first (h : Rd w X k A n css) {q : Nat} (hq : q ≤ n) : Rd w X k A q (css.take q) := by
  refine ⟨by rw [List.length_take, h.1]; omega, h.2.1.take q, fun h0 => ?_⟩
  obtain ⟨ad, e, hb, hx, hc⟩ := h.2.2 (by omega)
  refine ⟨ad, e, hb, hx, fun j u hu => hc j u ?_⟩
  have e2 : flatA css = flatA (css.take q) ++ flatA (css.drop q) := by rw [← flatA_append, List.take_append_drop]
  rw [e2, List.getElem?_append_left (List.getElem?_eq_some_iff.1 hu).1]
  exact hu
theorem Rd.at_ (h : Rd w X k A n css) {i : Nat} {cs : Array Value} (hi : css[i]? = some cs) : ∃ ad, A = some ad ∧ ad.block < w.heap.size ∧ ¬ X ad.block ∧ ∀ j u, cs[j]? = some u → w.cell? (ad.add (i * k + j)) = some u := by
  have hlt := (List.getElem?_eq_some_iff.1 hi).1
  obtain ⟨ad, e, hb, hx, hc⟩ := h.2.2 (by have := h.1; omega)
  exact ⟨ad, e, hb, hx, fun j u hu => hc _ u (flatA_at h.2.1 hi hu)⟩
theorem OwnK.form (h : OwnK w e k v css) : ∃ A q c, v = .slice A q c ∧ q = css.length ∧ q ≤ c ∧ c ≤ maxLen := by
  rcases h.1.2 with ⟨rfl, h0⟩ | ⟨g, cap, cur, rfl, _, _, h1, h2, _⟩
  · exact ⟨none, 0, 0, rfl, by rw [h0], by omega, by unfold maxLen; omega⟩
  · exact ⟨_, _, _, rfl, rfl, h1, h2⟩
theorem OwnK.lt (h : OwnK w e k v css) {g : Nat} (he : v.ownBlock = some g) : g < w.heap.size := (World.ownsRow.lt h.1 g he).2
theorem OwnK.keepB (h : OwnK w e k v css) (hk : ∀ g, v.ownBlock = some g → w'.heap[g]? = w.heap[g]?) : OwnK w' e k v css := by
  refine ⟨⟨h.1.1, ?_⟩, h.2⟩
  rcases h.1.2 with h | ⟨g, cap, cur, h1, h2, h3, h4⟩
  · exact .inl h
  · exact .inr ⟨g, cap, cur, h1, h2, (hk g (by rw [h1]; rfl)).trans h3, h4⟩
theorem OwnK.keep (h : OwnK w e k v css) (ht : Turn S w w') (hS : ∀ g, v.ownBlock = some g → ¬ S g) : OwnK w' e k v css := h.keepB fun g he => ht.block g (h.lt he) (hS g he)
theorem OwnK.below (h : OwnK w e k v css) (hb : Below w.heap.size w w') : OwnK w' e k v css := h.keepB fun g he => hb.block g (h.lt he)
theorem OwnK.alloc (h : OwnK w e k v css) (o : Obj) : OwnK (w.alloc o) e k v css := h.below ((Below.refl _ _).alloc (Nat.le_refl _) _)
theorem OwnK.nil (w : World) (e k : Nat) : OwnK w e k (.slice none 0 0) [] := ⟨World.ownsRow_nil w 0 e k, Sized.nil k⟩
theorem OwnK.rd (h : OwnK w e k (.slice A n c) css) (hX : ∀ g, Value.ownBlock (.slice A n c) = some g → ¬ X g) : Rd w X k A n css := by
  obtain ⟨A', q, c', he, hq, _⟩ := h.form
  injection he with e1 e2 e3
  subst e1 e2 e3
  refine ⟨hq.symm, h.2, fun hn => ?_⟩
  rcases h.1.2 with ⟨he, h0⟩ | ⟨g, cap, cur, he, hg, hh, h1, h2, h3, h4⟩
  · omega
  · injection he with e1 e2 e3
    subst e1 e2 e3
    refine ⟨⟨g, 0, none⟩, rfl, lt_of_heap hh, hX g rfl, fun j u hu => ?_⟩
    have hadd : (⟨g, 0, none⟩ : Addr).add j = ⟨g, j, none⟩ := by unfold Addr.add; split <;> simp_all
    rw [hadd, cell_of_row w g j cur e (0, 0) hh]
    have h5 := congrArg (fun z => z[j]?) h4
    simp only [hu] at h5
    rw [List.getElem?_take] at h5
    split at h5
    · rw [Array.getElem?_toList] at h5; exact h5
    · cases h5
theorem ownK_empty (w : World) (e k : Nat) : OwnK (w.alloc (.cells #[] e)) e k (.slice (some ⟨w.heap.size, 0, none⟩) 0 0) [] :=
  ⟨⟨by simp [flatA], .inr ⟨w.heap.size, 0, #[], rfl, Nat.zero_le _, heap_alloc_new w _, Nat.le_refl _, Nat.zero_le _, by simp, by simp [flatA]⟩⟩, Sized.nil k⟩
theorem rd_one (w : World) (t : TypeId) (cs : Array Value) (hk : cs.size = k) (h1 : ∀ u ∈ cs.toList, u.oneCell' = true) (hX : ¬ X w.heap.size) : Rd (w.alloc (.cells cs t)) X k (some ⟨w.heap.size, 0, none⟩) 1 [cs] := by
  refine ⟨rfl, fun c hc => by simp at hc; subst hc; exact ⟨hk, h1⟩, fun _ => ⟨_, rfl, by simp, hX, fun j u hu => ?_⟩⟩
  have hadd : (⟨w.heap.size, 0, none⟩ : Addr).add j = ⟨w.heap.size, j, none⟩ := by unfold Addr.add; split <;> simp_all
  rw [hadd, (Blk.new w t cs).cell j]
  simpa [flatA] using hu
end
/-- An element type's facts, for an append to a slice of type t. -/
structure El (t e k : Nat) (z : Value) (by_ : Nat) : Prop where
  und : Tryz.prog.underlying t = some (.slice e)
  info : (Tryz.prog.info? e).map (fun i => (i.zero, i.size, i.bytes)) = some (some z, k, by_)
  zc : z.cells.size = k
  pos : 0 < k
  by64 : by_ ≤ 64
def zV : Value := .agg #[.int .i64 0, .int .i64 0, .int .i64 0, .slice none 0 0]
def zW : Value := .agg #[.int .i64 0, .int .i64 0, .int .i64 0, .slice none 0 0, .int .i64 0, .int .i64 0]
theorem el41 : El 41 3 1 (.int .i64 0) 8 := ⟨Tryz.underlying41, by kernel_rfl, rfl, by omega, by omega⟩
theorem el32 : El 32 4 1 (.bool false) 1 := ⟨Tryz.underlying32, by kernel_rfl, rfl, by omega, by omega⟩
theorem el33 : El 33 47 4 zV 48 := ⟨Tryz.underlying33, by kernel_rfl, rfl, by omega, by omega⟩
theorem el34 : El 34 55 6 zW 64 := ⟨Tryz.underlying34, by kernel_rfl, rfl, by omega, by omega⟩
section
variable {t e k by_ : Nat} {z : Value} (E : El t e k z by_) (w : World)
include E
set_option maxRecDepth 100000 in
theorem run_append_k (v : Value) (css : List (Array Value)) (hown : OwnK w e k v css) (X : Nat → Prop) (A : Option Addr) (m c : Nat) (kss : List (Array Value)) (hr : Rd w X k A m kss) (ty : TypeId)
    (hl : css.length ≤ 1000000000) (hm : m ≤ 1000000000) :
    ∃ v' w', (Builtin.append_ #[t, t] ty #[v, .slice A m c]).run Tryz.prog w = .ok v' w' ∧ OwnK w' e k v' (css ++ kss) ∧ Grew v w v' w' := by
  obtain ⟨i, hi, hz0, hz1, hz2⟩ := info_parts E.info
  rcases A with _ | ad
  · have h0 : m = 0 := by
      rcases Nat.eq_zero_or_pos m with h0 | h0
      · exact h0
      · obtain ⟨ad, h, _⟩ := hr.2.2 h0
        cases h
    subst h0
    have hk : kss = [] := List.eq_nil_of_length_eq_zero hr.1
    subst hk
    refine ⟨v, w, ?_, by simpa using hown, Grew.refl⟩
    rcases hown.1.2 with ⟨rfl, _⟩ | ⟨g, cap, cur, rfl, _, _, hnc, _⟩
    · simp [Builtin.append_, run_underlying E.und, sizeOf, typeInfo, hi, Builtin.lenOf, Builtin.firstCells]
    · simp [Builtin.append_, run_underlying E.und, sizeOf, typeInfo, hi, Builtin.lenOf, Builtin.firstCells, hnc, storeCells]
  · have hcells : ∀ j u, (flatA kss)[j]? = some u → w.cell? (ad.add j) = some u := by
      intro j u hu
      rcases Nat.eq_zero_or_pos m with h0 | h0
      · subst h0
        have hn : kss = [] := List.eq_nil_of_length_eq_zero hr.1
        subst hn
        simp [flatA] at hu
      · obtain ⟨ad', h, _, _, hc⟩ := hr.2.2 h0
        injection h with h
        subst h
        exact hc j u hu
    have hby : (css.length + m) * by_ ≤ 140737488355328 := Nat.le_trans (Nat.mul_le_mul_left _ E.by64) (by omega)
    obtain ⟨v', w', hrun, h2, h3, _, h5⟩ := run_append_own_at (P := Tryz.prog) w 0 t ty e i z k by_ E.und hi hz0 hz1 hz2 E.zc E.pos v css.length (flatA css) hown.1 ad m c (flatA kss) (by rw [length_flatA hr.2.1, hr.1]) hcells
      (fun u hu => by
        obtain ⟨x, hx, he⟩ := List.mem_flatMap.1 hu
        exact (hr.2.1 x hx).2 u he) (by unfold maxLen; omega) hby (Nat.zero_le _)
    refine ⟨v', w', hrun, ⟨?_, hown.2.app hr.2.1⟩, h3, fun g e => ?_⟩
    · rw [List.length_append, flatA_append, hr.1]
      exact h2
    · rcases h5 with h | h
      · exact .inl (h.symm.trans e)
      · rw [h] at e; injection e with e; exact .inr (by omega)
variable {ops : Array Oper} {rest : List Oper} {o : Oper} {a : Act} {Q : Exit → Act → World → Prop}
set_option maxRecDepth 100000 in
theorem wpList_append_k (hw : Region.wanted o (yielded ops a.tmps) = true) (s x : Operand)
    (ho : o.op = .call { callee := .builtin .append, args := #[s, x], argTypes := #[t, t] })
    (v : Value) (css : List (Array Value)) (hs : a.eval s = v) (hown : OwnK w e k v css) (X : Nat → Prop) (A : Option Addr) (m c : Nat) (kss : List (Array Value)) (hx : a.eval x = .slice A m c) (hr : Rd w X k A m kss)
    (hl : css.length ≤ 1000000000) (hm : m ≤ 1000000000)
    (h : ∀ v' w', OwnK w' e k v' (css ++ kss) → Grew v w v' w' → wpList Tryz.prog ops Q rest (a.put o.dst v') w') : wpList Tryz.prog ops Q (o :: rest) a w := by
  refine BigFrame.wpList_want hw fun K hK => ?_
  obtain ⟨v', w', hrun, h2, h3⟩ := run_append_k E w v css hown X A m c kss hr o.type hl hm
  unfold Oper.wp execOp
  simp only [ho, resolve, invoke, builtin, Sem.run_bind, Sem.run_pure, Result.andThen_ok, List.map_toArray, List.map_cons, List.map_nil, hs, hx, hrun]
  exact hK _ _ (h v' w' h2 h3)
end
theorem setCells_size (b : Nat) : ∀ (vs : List Value) (o : Nat) (w : World), (w.setCells b o vs).heap.size = w.heap.size
  | [], _, _ => rfl
  | v :: r, o, w => by
    show ((w.setCell ⟨b, o, none⟩ v).setCells b (o + 1) r).heap.size = _
    rw [setCells_size b r]
    simp [World.setCell]
theorem setCells_other (b : Nat) {k : Nat} (hk : k ≠ b) : ∀ (vs : List Value) (o : Nat) (w : World), (w.setCells b o vs).heap[k]? = w.heap[k]?
  | [], _, _ => rfl
  | v :: r, o, w => by
    show ((w.setCell ⟨b, o, none⟩ v).setCells b (o + 1) r).heap[k]? = _
    rw [setCells_other b hk r]
    exact Below.heap_setCell _ _ _ _ hk
theorem setCells_os (b : Nat) : ∀ (vs : List Value) (o : Nat) (w : World), (w.setCells b o vs).os = w.os ∧ (w.setCells b o vs).tape = w.tape ∧ (w.setCells b o vs).output = w.output
  | [], _, _ => ⟨rfl, rfl, rfl⟩
  | v :: r, o, w => by
    have := setCells_os b r (o + 1) (w.setCell ⟨b, o, none⟩ v)
    exact this
theorem setCells_grown (b o : Nat) (vs : List Value) (w : World) : w.grownBy (w.setCells b o vs) (some b) :=
  ⟨(setCells_os b vs o w).1, (setCells_os b vs o w).2.1, (setCells_os b vs o w).2.2, by rw [setCells_size]; exact Nat.le_refl _, fun k _ hk => setCells_other b (fun e => hk (by rw [e])) vs o w⟩
theorem setCells_blk {t : TypeId} (b : Nat) : ∀ (vs : List Value) (pre : List Value) (old : List Value) (w : World), Blk w b t (pre ++ old).toArray → old.length = vs.length → Blk (w.setCells b pre.length vs) b t (pre ++ vs).toArray
  | [], pre, old, w, h, hl => by
    have : old = [] := List.eq_nil_of_length_eq_zero hl
    subst this
    exact h
  | v :: r, pre, o :: old, w, h, hl => by
    have h1 := h.set_ pre.length v
    have e1 : (pre ++ o :: old).toArray.setIfInBounds pre.length v = ((pre ++ [v]) ++ old).toArray := by
      simp
    rw [e1] at h1
    have h2 := setCells_blk b r (pre ++ [v]) old _ h1 (by simpa using hl)
    rw [List.length_append] at h2
    have e2 : ((pre ++ [v]) ++ r).toArray = (pre ++ v :: r).toArray := by simp
    rw [e2] at h2
    exact h2
  | v :: r, pre, [], w, h, hl => by simp at hl
theorem Blk.there {w : World} {g : Nat} {t : TypeId} {cs : Array Value} (h : Blk w g t cs) : w.there g 0 cs.size := fun j hj => by
  rw [Nat.zero_add, h.cell j, h.frozen j]
  simp [hj]
theorem Blk.cells_to {w : World} {g : Nat} {t : TypeId} {cs new : Array Value} (h : Blk w g t cs) (hn : cs.size = new.size) : Blk (w.setCells g 0 new.toList) g t new := by
  have := setCells_blk (t := t) g new.toList [] cs.toList w (by simpa using h) (by simpa using hn)
  simpa using this
section
variable {ops : Array Oper} {rest : List Oper} {o : Oper} {a : Act} {w : World} {Q : Exit → Act → World → Prop}
/-- Where a store (a load) of that type comes up the walk stands still. -/
theorem at_store (ty : TypeId) {x y : Operand} (_ho : o.op = .store ty x y) (h : Stop (wpList Tryz.prog ops Q (o :: rest) a w)) : wpList Tryz.prog ops Q (o :: rest) a w := h
theorem at_load (ty : TypeId) {x : Operand} (_ho : o.op = .load ty x) (h : Stop (wpList Tryz.prog ops Q (o :: rest) a w)) : wpList Tryz.prog ops Q (o :: rest) a w := h
/-- A struct is stored into a block that is known whole. -/
theorem wpList_store_blk (hgd : o.guard = none) (hd : o.dst = none) (ty : TypeId) (x y : Operand) (ho : o.op = .store ty x y) (g : Nat) (cs new : Array Value) (hx : a.eval x = .pointer (some ⟨g, 0, none⟩)) (hy : a.eval y = .agg new)
    (t : TypeId) (hb : Blk w g t cs) (hn : cs.size = new.size) (hi : (Tryz.prog.info? ty).map (·.size) = some new.size) (h1 : new.all (·.oneCell') = true)
    (h : ∀ w', Blk w' g t new → w.grownBy w' (some g) → w'.heap.size = w.heap.size → wpList Tryz.prog ops Q rest a w') : wpList Tryz.prog ops Q (o :: rest) a w := by
  refine wpList_store_mid hgd ty x y ho g 0 new hx hy (by have := hb.there; rwa [hn] at this) hi h1 ?_
  rw [hd]
  exact h _ (hb.cells_to hn) (setCells_grown g 0 _ w) (setCells_size g _ 0 w)
theorem wpList_load_blk (hgd : o.guard = none) (ty : TypeId) (x : Operand) (ho : o.op = .load ty x) (g : Nat) (hx : a.eval x = .pointer (some ⟨g, 0, none⟩)) (t : TypeId) (cs : Array Value) (hb : Blk w g t cs) (d : TypeDesc)
    (hu : Tryz.prog.underlying ty = some d) (hdr : d.isRow = true) (hi : (Tryz.prog.info? ty).map (·.size) = some cs.size)
    (h : wpList Tryz.prog ops Q rest (a.put o.dst (.agg cs)) w) : wpList Tryz.prog ops Q (o :: rest) a w :=
  wpList_load_row hgd ty x ho g hx t cs (0, 0) d hb hu (by cases d <;> simp_all [TypeDesc.isRow]) hi h
end
theorem Blk.grown {w w' : World} {g g' : Nat} {t : TypeId} {cs : Array Value} (h : Blk w g t cs) (hg : w.grownBy w' (some g')) (hne : g ≠ g') : Blk w' g t cs := (hg.block g h.lt (fun e => hne (by injection e))).trans h
theorem below_grown {B : Nat} {a w w' : World} {g : Nat} (h : Below B a w) (hg : w.grownBy w' (some g)) (hB : B ≤ a.heap.size) (hgB : B ≤ g) : Below B a w' :=
  h.trans ⟨hg.os, hg.tape, hg.output, hg.size, fun k hk => hg.block k (by have := h.size; omega) (fun e => by injection e with e; omega)⟩
theorem blk_new (w : World) (t : TypeId) (cs : Array Value) {g : Nat} (hg : w.heap.size = g) : Blk (w.alloc (.cells cs t)) g t cs := by subst hg; exact Blk.new w t cs
theorem wpAnyH_takeAt {P : Program} {md : Region.Mode} {ops : Array Oper} {Q : Exit → Act → World → Prop} {S : World → Prop} {i d : Nat} {oi : Oper} {v : Value} {fuel : Nat} {listed : Array Bool} {a : Act} {w : World}
    (hi : ops[i]? = some oi) (hd : oi.dst = some d) (hs : Region.noSelect ops = true) (hf : Region.free md ops listed i = true) (hr : (Region.ready md ops listed).contains i = true)
    (hQ : ∀ c a w, Q (.panic c) (a.put (some d) v) w → Q (.panic c) a w) (hy : YieldsIf P ops S oi v a) (hS : S w)
    (h : wpAnyH P md ops Q S fuel (listed.setIfInBounds i true) { a with tmps := a.tmps.setIfInBounds d v } w) : wpAnyH P md ops Q S (fuel + 1) listed a w :=
  wpAnyH_take hi hs hf hr (by rw [hd]; exact hQ) hy hS (by rw [hd]; exact h)
/-- A region that is shown not to panic serves whatever the post says of a panic. -/
theorem wp_region_np {P : Program} {id : Nat} {ops : Array Oper} {b : Bool} {Q : Exit → Act → World → Prop} {a : Act} {w : World}
    (h : (Code.region id ops b).wp P (fun e a w => match e with | .panic _ => False | e => Q e a w) a w) : (Code.region id ops b).wp P Q a w :=
  Code.wp_mono (fun e a w h => by cases e <;> first | exact h | exact False.elim h) h
section
variable {ops : Array Oper} {o : Oper} {a : Act} {w : World} {K : Act → World → Prop} {Q : Exit → Act → World → Prop} {E : Prop} {d : Nat}
theorem step_append_eq {t u : TypeId} (hw : Region.wanted o (yielded ops a.tmps) = true) (hd : o.dst = some d) (s x : Operand)
    (ho : o.op = .call { callee := .builtin .append, args := #[s, x], argTypes := #[t, u] }) (vs vx : Value) (hs : a.eval s = vs) (hx : a.eval x = vx) {v' : Value} {w' : World}
    (hrun : (Builtin.append_ #[t, u] o.type #[vs, vx]).run Tryz.prog w = .ok v' w')
    (h : K { a with tmps := a.tmps.setIfInBounds d v' } w') : if Region.wanted o (yielded ops a.tmps) = true then Oper.wp Tryz.prog o a w K Q else E := by
  rw [if_pos hw]
  unfold Oper.wp execOp
  simp only [ho, resolve, invoke, builtin, Sem.run_bind, Sem.run_pure, Result.andThen_ok, List.map_toArray, List.map_cons, List.map_nil, hs, hx, hrun]
  show K (a.put o.dst v') w'
  rw [hd]
  exact h
theorem step_append_k {t e k by_ : Nat} {z : Value} (El : El t e k z by_) (hw : Region.wanted o (yielded ops a.tmps) = true) (hd : o.dst = some d) (s x : Operand)
    (ho : o.op = .call { callee := .builtin .append, args := #[s, x], argTypes := #[t, t] })
    (v : Value) (css : List (Array Value)) (hs : a.eval s = v) (hown : OwnK w e k v css) (X : Nat → Prop) (A : Option Addr) (m c : Nat) (kss : List (Array Value)) (hx : a.eval x = .slice A m c) (hr : Rd w X k A m kss)
    (hl : css.length ≤ 1000000000) (hm : m ≤ 1000000000)
    (h : ∀ v' w', OwnK w' e k v' (css ++ kss) → Grew v w v' w' → K { a with tmps := a.tmps.setIfInBounds d v' } w') : if Region.wanted o (yielded ops a.tmps) = true then Oper.wp Tryz.prog o a w K Q else E := by
  rw [if_pos hw]
  obtain ⟨v', w', hrun, h2, h3⟩ := run_append_k El w v css hown X A m c kss hr o.type hl hm
  unfold Oper.wp execOp
  simp only [ho, resolve, invoke, builtin, Sem.run_bind, Sem.run_pure, Result.andThen_ok, List.map_toArray, List.map_cons, List.map_nil, hs, hx, hrun]
  show K (a.put o.dst v') w'
  rw [hd]
  exact h v' w' h2 h3
end
/-- A region that comes to one end, whatever its order. -/
theorem wp_region_to {P : Program} {id : Nat} {ops : Array Oper} {b : Bool} {Q : Exit → Act → World → Prop} {a : Act} {w : World} (A : Act) (W : World)
    (h : (Code.region id ops b).wp P (fun e a' w' => e = .normal ∧ a' = A ∧ w' = W) a w) (hc : Q .normal A W) : (Code.region id ops b).wp P Q a w :=
  Code.wp_mono (fun e a w h => by obtain ⟨rfl, rfl, rfl⟩ := h; exact hc) h
theorem Grew.of_drew {v v' : Value} {w w' : World} (h : Grew v w.drew v' w') : Grew v w v' w' := ⟨⟨h.1.os, h.1.tape, h.1.output, h.1.size, h.1.block⟩, h.2⟩
section
variable {ops : Array Oper} {o : Oper} {a : Act} {w : World} {K : Act → World → Prop} {Q : Exit → Act → World → Prop} {E : Prop}
/-- A struct is stored into a block that is known whole, as a step of a region that draws. -/
theorem step_store_blk (hw : Region.wanted o (yielded ops a.tmps) = true) (hd : o.dst = none) (ty : TypeId) (x y : Operand) (ho : o.op = .store ty x y) (g : Nat) (cs new : Array Value) (hx : a.eval x = .pointer (some ⟨g, 0, none⟩)) (hy : a.eval y = .agg new)
    (t : TypeId) (hb : Blk w g t cs) (hn : cs.size = new.size) (hi : (Tryz.prog.info? ty).map (·.size) = some new.size) (h1 : new.all (·.oneCell') = true)
    (h : ∀ w', Blk w' g t new → w.grownBy w' (some g) → w'.heap.size = w.heap.size → K a w') : if Region.wanted o (yielded ops a.tmps) = true then Oper.wp Tryz.prog o a w K Q else E := by
  rw [if_pos hw]
  refine wp_store_mid ty x y ho g 0 new hx hy (by have := hb.there; rwa [hn] at this) hi h1 ?_
  rw [hd]
  exact h _ (hb.cells_to hn) (setCells_grown g 0 _ w) (setCells_size g _ 0 w)
end
/-- A region whose end is told. -/
theorem wp_region_by {P : Program} {id : Nat} {ops : Array Oper} {b : Bool} {Q : Exit → Act → World → Prop} {a : Act} {w : World} (R : Act → World → Prop)
    (h : (Code.region id ops b).wp P (fun e a' w' => e = .normal ∧ R a' w') a w) (hc : ∀ a' w', R a' w' → Q .normal a' w') : (Code.region id ops b).wp P Q a w :=
  Code.wp_mono (fun e a w h => by obtain ⟨rfl, h⟩ := h; exact hc _ _ h) h
theorem add_off (ad : Addr) (n : Nat) {j : Nat} (hj : 0 < j) : (⟨(ad.add n).block, (ad.add n).off + j, none⟩ : Addr) = ad.add (n + j) := by
  unfold Addr.add
  by_cases h : n = 0
  · subst h; simp [Nat.ne_of_gt hj]
  · rw [if_neg h, if_neg (by omega)]; simp; omega
/-- The cells of the element at place i, in the form in which a load asks for them. -/
theorem Rd.load {w : World} {X : Nat → Prop} {k n : Nat} {A : Option Addr} {css : List (Array Value)} (h : Rd w X k A n css) {i : Nat} {cs : Array Value} (hi : css[i]? = some cs) : ∃ ad, A = some ad ∧ ad.block < w.heap.size ∧ ¬ X ad.block ∧
    (∀ u, cs[0]? = some u → w.cell? (ad.add (i * k)) = some u) ∧ ∀ j u, cs[j + 1]? = some u → w.cell? ⟨(ad.add (i * k)).block, (ad.add (i * k)).off + (j + 1), none⟩ = some u := by
  obtain ⟨ad, e, h1, h2, hc⟩ := h.at_ hi
  exact ⟨ad, e, h1, h2, fun u hu => hc 0 u hu, fun j u hu => by rw [add_off ad _ (Nat.succ_pos j)]; exact hc (j + 1) u hu⟩

/-- A number of 64 bits. -/
def In64 (n : Int) : Prop := -9223372036854775808 ≤ n ∧ n ≤ 9223372036854775807
end Go.Proofs.YtpmdicbhliclcaaGreat
