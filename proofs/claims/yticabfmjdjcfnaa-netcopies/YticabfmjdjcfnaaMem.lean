/-
  Words for memory: what has turned; blocks known whole; slices of bytes that read as lists; rows that are owned. Nothing is assumed.
-/
import Derived.Test.YticabfmjdjcfnaaRows
import Derived.Test.YticabfmjdjcfnaaSpec
import Derived.Below
import Derived.Laws.OwnMore
import Derived.Deep.AppendLies
import Derived.Deep.Draws
import Derived.Laws.Rows
import Derived.Maps.AppendAt
import Derived.Lib.AppendStr
import Derived.RegionTactic
import Derived.OwnWalk
import Derived.Lib.Hide
import Derived.Lib.SliceRun
import Derived.Lib.SlBytesConst
import Derived.BigQuiet
import Derived.Deep.QuietTactic
import Derived.Deep.RegionHeld3
import Derived.IntWalk
import Derived.WalkKit
import Derived.WalkSpells
import Derived.WalkLawsBesides
import Derived.ProofKit
import Derived.Deep.MidRow
import Derived.Maps.OwnSet
import Derived.Maps.Ext
import Derived.Maps.RangeWalk
import Derived.Sort.KeysCollected
import Derived.Laws.Strings
namespace Go.Proofs.Yticabfmjdjcfnaa
open Go.RowKit
/-- A byte as a value. -/
def byteV (x : UInt8) : Value := .int .u8 (x.toNat : Int)
/-- Bytes as a string. -/
def str (l : List UInt8) : ByteArray := ⟨l.toArray⟩
theorem str_toList (l : List UInt8) : (str l).toList = l := ByteArray.toList_mk l
theorem str_data (l : List UInt8) : (str l).data.toList = l := rfl
theorem str_size (l : List UInt8) : (str l).size = l.length := by simp [str, ByteArray.size]
theorem str_inj {a b : List UInt8} (h : str a = str b) : a = b := by have := congrArg ByteArray.toList h; rwa [str_toList, str_toList] at this
theorem block_of_add (a : Addr) (n : Nat) : (a.add n).block = a.block := by unfold Addr.add; split <;> rfl
theorem add_of_add (a : Addr) (i j : Nat) : (a.add i).add j = a.add (i + j) := by
  unfold Addr.add
  by_cases hi : i = 0 <;> by_cases hj : j = 0 <;> simp [hi, hj, Nat.add_assoc]
theorem le_alloc {base : Nat} {w : World} (h : base ≤ w.heap.size) (o : Obj) : base ≤ (w.alloc o).heap.size := Nat.le_trans h (by simp)

/-- Of what was there only blocks in S have turned. -/
structure Turn (S : Nat → Prop) (w w' : World) : Prop where
  os : w'.os = w.os
  tape : w'.tape = w.tape
  output : w'.output = w.output
  size : w.heap.size ≤ w'.heap.size
  block : ∀ k, k < w.heap.size → ¬ S k → w'.heap[k]? = w.heap[k]?
section
variable {S S' T : Nat → Prop} {w w' w'' : World}
theorem Turn.refl (S : Nat → Prop) (w : World) : Turn S w w := ⟨rfl, rfl, rfl, Nat.le_refl _, fun _ _ _ => rfl⟩
theorem Turn.trans (h : Turn S w w') (k : Turn S' w' w'') (hs : ∀ b, b < w.heap.size → S' b → S b) : Turn S w w'' :=
  ⟨k.os.trans h.os, k.tape.trans h.tape, k.output.trans h.output, Nat.le_trans h.size k.size, fun i hi hn => (k.block i (Nat.lt_of_lt_of_le hi h.size) (fun e => hn (hs i hi e))).trans (h.block i hi hn)⟩
theorem Turn.mono (h : Turn S w w') (hs : ∀ b, b < w.heap.size → S b → S' b) : Turn S' w w' := ⟨h.os, h.tape, h.output, h.size, fun i hi hn => h.block i hi (fun e => hn (hs i hi e))⟩
theorem Turn.of_below (h : Below w.heap.size w w') (S : Nat → Prop) : Turn S w w' := ⟨h.os, h.tape, h.output, h.size, fun i hi _ => h.block i hi⟩
theorem Turn.of_low {B : Nat} (h : Below B w w') (hS : ∀ b, b < w.heap.size → B ≤ b → S b) : Turn S w w' := ⟨h.os, h.tape, h.output, h.size, fun i hi hn => h.block i (by
  rcases Nat.lt_or_ge i B with g | g
  · exact g
  · exact absurd (hS i hi g) hn)⟩
theorem Turn.below {B : Nat} (h : Turn S w w') (hB : B ≤ w.heap.size) (hS : ∀ b, S b → B ≤ b) : Below B w w' :=
  ⟨h.os, h.tape, h.output, h.size, fun i hi => h.block i (by omega) (fun e => by have := hS i e; omega)⟩
theorem Turn.of_grown {row : Option Nat} (h : w.grownBy w' row) (hr : ∀ r, row = some r → S r) : Turn S w w' :=
  ⟨h.os, h.tape, h.output, h.size, fun i hi hn => h.block i hi (fun e => hn (hr i e.symm))⟩
theorem Turn.alloc (h : Turn S w w') (o : Obj) : Turn S w (w'.alloc o) :=
  h.trans (S' := S) ⟨rfl, rfl, rfl, by simp, fun k hk _ => Below.heap_alloc _ _ _ hk⟩ (fun _ _ e => e)
theorem Turn.drew (h : Turn S w w') : Turn S w w'.drew := ⟨h.os, h.tape, h.output, h.size, h.block⟩
theorem Turn.setCell (h : Turn S w w') {p : Addr} (hp : p.block < w.heap.size → S p.block) (u : Value) : Turn S w (w'.setCell p u) :=
  h.trans (S' := fun b => b = p.block) ⟨rfl, rfl, rfl, by simp [World.setCell], fun k _ hk => Below.heap_setCell _ _ _ _ hk⟩ (fun b hb e => by subst e; exact hp hb)
theorem Turn.cell (h : Turn S w w') {p : Addr} (hp : p.block < w.heap.size) (hn : ¬ S p.block) : w'.cell? p = w.cell? p := World.cell?_of_block (h.block p.block hp hn)
theorem Turn.frozen (h : Turn S w w') {p : Addr} (hp : p.block < w.heap.size) (hn : ¬ S p.block) : w'.frozen? p = w.frozen? p := World.frozen?_of_block (h.block p.block hp hn)
end
/-- A set of blocks, and all that were made meanwhile. -/
def More (S : Nat → Prop) (w w' : World) : Nat → Prop := fun b => S b ∨ (w.heap.size ≤ b ∧ b < w'.heap.size)

/-- Block g is just the cells cs of element type t, none frozen. -/
def Blk (w : World) (g : Nat) (t : TypeId) (cs : Array Value) : Prop := w.heap[g]? = some (.cells cs t (0, 0))
section
variable {w w' : World} {g : Nat} {t : TypeId} {cs : Array Value} {S : Nat → Prop}
theorem lt_of_heap {w : World} {g : Nat} {o : Obj} (h : w.heap[g]? = some o) : g < w.heap.size := (Array.getElem?_eq_some_iff.1 h).1
theorem Blk.lt (h : Blk w g t cs) : g < w.heap.size := lt_of_heap h
theorem Blk.cell (h : Blk w g t cs) (i : Nat) : w.cell? ⟨g, i, none⟩ = cs[i]? := cell_of_row w g i cs t (0, 0) h
theorem Blk.frozen (h : Blk w g t cs) (i : Nat) : w.frozen? ⟨g, i, none⟩ = false := by
  unfold Blk at h
  simp [World.frozen?, h]
theorem Blk.new (w : World) (t : TypeId) (cs : Array Value) : Blk (w.alloc (.cells cs t)) w.heap.size t cs := heap_alloc_new w _
theorem Blk.drew (h : Blk w g t cs) : Blk w.drew g t cs := h
theorem Blk.drewN (h : Blk w g t cs) (n : Nat) : Blk (w.drewN n) g t cs := h
theorem Blk.alloc (h : Blk w g t cs) (o : Obj) : Blk (w.alloc o) g t cs := (Below.heap_alloc w o g h.lt).trans h
theorem Blk.set_ (h : Blk w g t cs) (i : Nat) (u : Value) : Blk (w.setCell ⟨g, i, none⟩ u) g t (cs.setIfInBounds i u) := by
  unfold Blk at h ⊢
  simp [World.setCell, Array.getElem?_modify, h]
theorem Blk.far (h : Blk w g t cs) {p : Addr} (hp : g ≠ p.block) (u : Value) : Blk (w.setCell p u) g t cs := (Below.heap_setCell w p u g hp).trans h
theorem Blk.below {B : Nat} (h : Blk w g t cs) (hb : Below B w w') (hg : g < B) : Blk w' g t cs := (hb.block g hg).trans h
theorem Blk.keep (h : Blk w g t cs) (hb : Turn S w w') (hg : ¬ S g) : Blk w' g t cs := (hb.block g h.lt hg).trans h
end

/-- The slice value '.slice A n c' holds the bytes l, at a block that is there and is not in X. -/
def Bys (w : World) (X : Nat → Prop) (A : Option Addr) (n : Nat) (l : Bs) : Prop :=
  l.length = n ∧ (0 < n → ∃ ad, A = some ad ∧ ad.block < w.heap.size ∧ ¬ X ad.block ∧ ∀ j u, l[j]? = some u → w.cell? (ad.add j) = some (byteV u))
/-- Nothing. -/
def No : Nat → Prop := fun _ => False
section
variable {w w' : World} {X X' S : Nat → Prop} {n : Nat} {A : Option Addr} {l : Bs}
theorem Bys.none_ : Bys w X A 0 [] := ⟨by simp, fun h => absurd h (by omega)⟩
theorem Bys.at_ {k : Nat} (h : Bys w X A n l) (hk : k < n) : ∃ ad u, A = some ad ∧ ad.block < w.heap.size ∧ l[k]? = some u ∧ w.cell? (ad.add k) = some (.int .u8 (u.toNat : Int)) := by
  obtain ⟨ad, e, hb, _, hc⟩ := h.2 (by omega)
  have hl : k < l.length := by have := h.1; omega
  exact ⟨ad, l[k], e, hb, List.getElem?_eq_getElem hl, hc k _ (List.getElem?_eq_getElem hl)⟩
theorem Bys.keep (h : Bys w X A n l) (ht : Turn S w w') (hS : ∀ b, b < w.heap.size → S b → X b) : Bys w' X A n l :=
  ⟨h.1, fun hn => by
    obtain ⟨ad, e, hb, hx, hc⟩ := h.2 hn
    exact ⟨ad, e, Nat.lt_of_lt_of_le hb ht.size, hx, fun j u hu => (ht.cell (p := ad.add j) (by rw [block_of_add]; exact hb) (by rw [block_of_add]; exact fun e => hx (hS _ hb e))).trans (hc j u hu)⟩⟩
theorem Bys.below (h : Bys w X A n l) (hb : Below w.heap.size w w') : Bys w' X A n l := h.keep (S := No) (Turn.of_below hb No) (fun _ _ h => h.elim)
theorem Bys.wide (h : Bys w X A n l) (hX : ∀ b, b < w.heap.size → X' b → X b) : Bys w X' A n l :=
  ⟨h.1, fun hn => by
    obtain ⟨ad, e, hb, hx, hc⟩ := h.2 hn
    exact ⟨ad, e, hb, fun e => hx (hX _ hb e), hc⟩⟩
theorem Bys.no (h : Bys w X A n l) : Bys w No A n l := h.wide (fun _ _ h => h.elim)
theorem Bys.drew (h : Bys w X A n l) : Bys w.drew X A n l := h
theorem Bys.drewN (h : Bys w X A n l) (k : Nat) : Bys (w.drewN k) X A n l := h
theorem Bys.alloc (h : Bys w X A n l) (o : Obj) : Bys (w.alloc o) X A n l := h.below ((Below.refl _ _).alloc (Nat.le_refl _) _)
/-- The first k bytes. -/
theorem Bys.first (h : Bys w X A n l) {k : Nat} (hk : k ≤ n) : Bys w X A k (l.take k) := by
  refine ⟨by rw [List.length_take, h.1]; omega, fun h0 => ?_⟩
  obtain ⟨ad, e, hb, hx, hc⟩ := h.2 (by omega)
  refine ⟨ad, e, hb, hx, fun j u hu => hc j u ?_⟩
  rw [List.getElem?_take] at hu
  split at hu
  · exact hu
  · cases hu
end

/-- The value v is a row that holds the bytes l, with its block for itself. -/
def Own (w : World) (v : Value) (l : Bs) : Prop := w.ownsRow 0 5 1 v l.length (l.map byteV)
/-- What an append has turned: v's own row, and new memory; and where the new slice lies. -/
def Grew (v : Value) (w : World) (v' : Value) (w' : World) : Prop := w.grownBy w' v.ownBlock ∧ ∀ g, v'.ownBlock = some g → v.ownBlock = some g ∨ (w.heap.size ≤ g)
section
variable {w w' w'' : World} {v v' v'' : Value} {l : Bs} {S X : Nat → Prop}
theorem Own.form (h : Own w v l) : ∃ A q c, v = .slice A q c ∧ q = l.length ∧ q ≤ c ∧ c ≤ maxLen := by
  rcases h.2 with ⟨rfl, h0⟩ | ⟨g, cap, cur, rfl, _, _, h1, h2, _⟩
  · exact ⟨none, 0, 0, rfl, by rw [h0], by omega, by unfold maxLen; omega⟩
  · exact ⟨_, _, _, rfl, rfl, h1, h2⟩
theorem Own.lt (h : Own w v l) {g : Nat} (e : v.ownBlock = some g) : g < w.heap.size := (World.ownsRow.lt h g e).2
theorem Own.keepB (h : Own w v l) (hk : ∀ g, v.ownBlock = some g → w'.heap[g]? = w.heap[g]?) : Own w' v l := by
  refine ⟨h.1, ?_⟩
  rcases h.2 with h | ⟨g, cap, cur, h1, h2, h3, h4⟩
  · exact .inl h
  · exact .inr ⟨g, cap, cur, h1, h2, (hk g (by rw [h1]; rfl)).trans h3, h4⟩
theorem Own.keep (h : Own w v l) (ht : Turn S w w') (hS : ∀ g, v.ownBlock = some g → ¬ S g) : Own w' v l := h.keepB fun g e => ht.block g (h.lt e) (hS g e)
theorem Own.below (h : Own w v l) (hb : Below w.heap.size w w') : Own w' v l := h.keepB fun g e => hb.block g (h.lt e)
theorem Own.alloc (h : Own w v l) (o : Obj) : Own (w.alloc o) v l := h.below ((Below.refl _ _).alloc (Nat.le_refl _) _)
theorem Own.nil (w : World) : Own w (.slice none 0 0) [] := World.ownsRow_nil w 0 5 1
theorem Own.bys {A : Option Addr} {n c : Nat} (h : Own w (.slice A n c) l) (hX : ∀ g, Value.ownBlock (.slice A n c) = some g → ¬ X g) : Bys w X A n l := by
  obtain ⟨A', q, c', e, hq, _⟩ := h.form
  injection e with e1 e2 e3
  subst e1 e2 e3
  refine ⟨hq.symm, fun hn => ?_⟩
  have h' : w.ownsRow 0 5 1 (.slice A n c) n (l.map byteV) := by have := h; unfold Own at this; rwa [← hq] at this
  obtain ⟨g, cap, hv, _, hlt⟩ := h'.form hn
  have hA : A = some ⟨g, 0, none⟩ := by injection hv
  subst hA
  exact ⟨_, rfl, hlt, hX g rfl, fun j u hu => h'.cells (g := g) rfl j _ (by rw [List.getElem?_map, hu]; rfl)⟩
theorem own_empty (w : World) : Own (w.alloc (.cells #[] 5)) (.slice (some ⟨w.heap.size, 0, none⟩) 0 0) [] :=
  World.ownsRow_made w #[] 0 (Nat.zero_le _) (by unfold maxLen; omega) rfl
/-- The first k bytes of a row are a row. -/
theorem Own.cut {A : Option Addr} {n c k : Nat} (h : Own w (.slice A n c) l) (hk : k ≤ n) : Own w (.slice A k c) (l.take k) := by
  obtain ⟨A', q, c', e, hq, hc, hm⟩ := h.form
  injection e with e1 e2 e3
  subst e1 e2 e3
  have hk' : (l.take k).length = k := by rw [List.length_take]; omega
  unfold Own
  rw [hk']
  refine ⟨by rw [List.length_map, hk', Nat.mul_one], ?_⟩
  rcases h.2 with ⟨e, h0⟩ | ⟨g, cap, cur, e, h2, h3, h4, h5, h6, h7⟩
  · injection e with e1 e2 e3
    subst e1 e2 e3
    obtain rfl : k = 0 := by omega
    exact .inl ⟨rfl, rfl⟩
  · injection e with e1 e2 e3
    subst e1 e2 e3
    refine .inr ⟨g, c, cur, rfl, h2, h3, by omega, h5, h6, ?_⟩
    rw [List.map_take, ← h7, List.take_take, Nat.mul_one, Nat.mul_one, Nat.min_eq_left (by omega)]
theorem grown_of_low (h : Below w.heap.size w w') (row : Option Nat) : w.grownBy w' row := ⟨h.os, h.tape, h.output, h.size, fun i hi _ => h.block i hi⟩
theorem Grew.of_low (h : Below w.heap.size w w') : Grew v w v w' := ⟨grown_of_low h _, fun _ e => .inl e⟩
theorem Grew.refl : Grew v w v w := Grew.of_low (Below.refl _ _)
theorem Grew.alloc (o : Obj) : Grew v w v (w.alloc o) := Grew.of_low ((Below.refl _ _).alloc (Nat.le_refl _) _)
theorem Grew.trans (h : Grew v w v' w') (h' : Grew v' w' v'' w'') : Grew v w v'' w'' := by
  obtain ⟨⟨a1, a2, a3, a4, a5⟩, a6⟩ := h
  obtain ⟨⟨b1, b2, b3, b4, b5⟩, b6⟩ := h'
  refine ⟨⟨b1.trans a1, b2.trans a2, b3.trans a3, Nat.le_trans a4 b4, fun k hk hn => ?_⟩, fun g e => ?_⟩
  · refine (b5 k (by omega) (fun e => ?_)).trans (a5 k hk hn)
    rcases a6 k e.symm with h | h
    · exact hn h.symm
    · omega
  · rcases b6 g e with h | h
    · exact a6 g h
    · exact .inr (by omega)
theorem Grew.turn (h : Grew v w v' w') (hS : ∀ g, v.ownBlock = some g → S g) : Turn S w w' := Turn.of_grown h.1 hS
theorem Grew.low (h : Grew v w v' w') (hv : ∀ g, v.ownBlock = some g → w.heap.size ≤ g) : Below w.heap.size w w' := ⟨h.1.os, h.1.tape, h.1.output, h.1.size, fun i hi => h.1.block i hi (fun e => by have := hv i e.symm; omega)⟩
end
theorem info5 : (Try.prog.info? 5).map (fun i => (i.zero, i.size, i.bytes)) = some (some (.int .u8 0), 1, 1) := by kernel_rfl
section
variable (w : World)
set_option maxRecDepth 100000 in
theorem run_append_of_nil (v : Value) (l : Bs) (hown : Own w v l) (c : Nat) (ty : TypeId) : (Builtin.append_ #[37, 37] ty #[v, .slice none 0 c]).run Try.prog w = .ok v w := by
  obtain ⟨i, hi, hz0, hz1, hz2⟩ := info_parts info5
  rcases hown.2 with ⟨rfl, _⟩ | ⟨g, cap, cur, rfl, _, _, hnc, _⟩
  · simp [Builtin.append_, run_underlying Try.underlying37, sizeOf, typeInfo, hi, Builtin.lenOf, Builtin.firstCells]
  · simp [Builtin.append_, run_underlying Try.underlying37, sizeOf, typeInfo, hi, Builtin.lenOf, Builtin.firstCells, hnc, storeCells]
set_option maxRecDepth 100000 in
theorem run_append_bytes (v : Value) (l : Bs) (hown : Own w v l) (X : Nat → Prop) (A : Option Addr) (m c : Nat) (k : Bs) (hr : Bys w X A m k) (ty : TypeId) (hl : l.length ≤ 1000000000) (hm : m ≤ 1000000000) :
    ∃ v' w', (Builtin.append_ #[37, 37] ty #[v, .slice A m c]).run Try.prog w = .ok v' w' ∧ Own w' v' (l ++ k) ∧ Grew v w v' w' := by
  obtain ⟨i, hi, hz0, hz1, hz2⟩ := info_parts info5
  rcases A with _ | ad
  · have h0 : m = 0 := by
      rcases Nat.eq_zero_or_pos m with h0 | h0
      · exact h0
      · obtain ⟨ad, h, _⟩ := hr.2 h0
        cases h
    subst h0
    have hk : k = [] := List.eq_nil_of_length_eq_zero hr.1
    subst hk
    exact ⟨v, w, run_append_of_nil w v l hown c ty, by simpa using hown, Grew.refl⟩
  · have hcells : ∀ j u, (k.map byteV)[j]? = some u → w.cell? (ad.add j) = some u := by
      intro j u hu
      rcases Nat.eq_zero_or_pos m with h0 | h0
      · subst h0
        have hn : k = [] := List.eq_nil_of_length_eq_zero hr.1
        subst hn
        simp at hu
      · obtain ⟨ad', h, _, _, hc⟩ := hr.2 h0
        injection h with h
        subst h
        rw [List.getElem?_map] at hu
        cases hx : k[j]? with
        | none => rw [hx] at hu; cases hu
        | some x => rw [hx] at hu; injection hu with hu; subst hu; exact hc j x hx
    have h1 : ∀ u ∈ k.map byteV, u.oneCell' = true := by
      intro u hu
      obtain ⟨x, _, rfl⟩ := List.mem_map.1 hu
      rfl
    obtain ⟨v', w', hrun, h2, h3, _, h5⟩ := run_append_own_at (P := Try.prog) w 0 37 ty 5 i (.int .u8 0) 1 1 Try.underlying37 hi hz0 hz1 hz2 rfl (by omega) v l.length (l.map byteV) hown ad m c (k.map byteV) (by rw [List.length_map, hr.1, Nat.mul_one]) hcells h1 (by unfold maxLen; omega) (by omega) (Nat.zero_le _)
    refine ⟨v', w', hrun, ?_, h3, fun g e => ?_⟩
    · unfold Own
      rw [List.length_append, List.map_append, hr.1]
      exact h2
    · rcases h5 with h | h
      · exact .inl (h.symm.trans e)
      · rw [h] at e; injection e with e; exact .inr (by omega)
end
end Go.Proofs.Yticabfmjdjcfnaa
