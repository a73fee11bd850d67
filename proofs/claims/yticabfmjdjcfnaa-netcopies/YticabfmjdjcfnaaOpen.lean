/-
  How the calls, messages, bytes and numbers of a law are read. Nothing is assumed.
-/
import Derived.Test.YticabfmjdjcfnaaBound
import Derived.Deep.Slices
import Derived.ChangeArms
import Derived.ChangeSlices
import Derived.WideShapes
namespace Go.Proofs.Yticabfmjdjcfnaa
open Go.RowKit Go.ChangeShapes Go.WideShapes
theorem i64_bounds {n : Int} (h : (Lit.int .i64 n).wf = true) : -9223372036854775808 ≤ n ∧ n ≤ 9223372036854775807 := by
  have hmin : IntKind.i64.min = -9223372036854775808 := rfl
  have hmax : IntKind.i64.max = 9223372036854775807 := rfl
  simp only [Lit.wf, Bool.and_eq_true, decide_eq_true_eq] at h
  omega
theorem cells3 : Try.prog.cellsOf 3 = 1 := by kernel_rfl
theorem cells37 : Try.prog.cellsOf 37 = 1 := by kernel_rfl
theorem cells39 : Try.prog.cellsOf 39 = 3 := by kernel_rfl
theorem cells47 : Try.prog.cellsOf 47 = 5 := by kernel_rfl
/-- Bytes that came in. -/
theorem trod_bys {H : Type} {enc : TypeId × Value → H} {w : World} {base : Nat} {held : Bool} {fuel : Nat} {c : Value} {x : DataW H × List MemPlace} (h : DataW.trod enc Try.prog w base (fun _ => true) held fuel 37 [c] = some x) :
    ∃ A n k l, c = .slice A n k ∧ Bys w No A n l ∧ n ≤ k ∧ k ≤ maxLen := by
  rcases open_ints Try.underlying37 Try.underlying5 (by kernel_rfl) h with ⟨hcs, _⟩ | ⟨x, l, k, zs, hcs, _, hl, hm, hz, _, hcell, hwz⟩
  · simp at hcs
    exact ⟨none, 0, 0, [], hcs, Bys.none_, Nat.le_refl _, by unfold maxLen; omega⟩
  · simp at hcs
    have hz' : zs.length = k := by simpa using hz
    refine ⟨some x, l, k, (zs.take l).map fun z => UInt8.ofNat z.toNat, hcs, ⟨by simp; omega, fun h0 => ⟨x, rfl, ?_, fun h => h, fun j u hu => ?_⟩⟩, hl, hm⟩
    · have := block_lt_of_cell (hcell 0 (by omega))
      rwa [block_of_add] at this
    · rw [List.getElem?_map] at hu
      cases hzj : (zs.take l)[j]? with
      | none => rw [hzj] at hu; cases hu
      | some z =>
        rw [hzj] at hu
        injection hu with hu
        subst hu
        have hj : j < zs.length := by
          have := (List.getElem?_eq_some_iff.1 hzj).1
          simp at this; omega
        rw [hcell j hj]
        have hzz : zs.getD j 0 = z := by
          rw [List.getElem?_take] at hzj
          split at hzj
          · rw [List.getD_eq_getElem?_getD, hzj]; rfl
          · cases hzj
        rw [hzz]
        have hw := hwz z (by
          have := List.mem_of_getElem? hzj
          exact List.mem_of_mem_take this)
        have hmin : IntKind.u8.min = 0 := rfl
        have hmax : IntKind.u8.max = 255 := rfl
        simp only [Lit.wf, Bool.and_eq_true, decide_eq_true_eq] at hw
        unfold byteV
        rw [UInt8.toNat_ofNat']
        have : ((z.toNat % 2 ^ 8 : Nat) : Int) = z := by omega
        rw [this]
theorem add_off (ad : Addr) (n : Nat) {j : Nat} (hj : 0 < j) : (⟨(ad.add n).block, (ad.add n).off + j, none⟩ : Addr) = ad.add (n + j) := by
  unfold Addr.add
  by_cases h : n = 0
  · subst h; simp [Nat.ne_of_gt hj]
  · rw [if_neg h, if_neg (by omega)]; simp; omega
/-- The cells of the element at place i, in the form in which a load asks for them. -/
theorem Rd.load {w : World} {X : Nat → Prop} {k n : Nat} {A : Option Addr} {css : List (Array Value)} (h : Rd w X k A n css) {i : Nat} {cs : Array Value} (hi : css[i]? = some cs) : ∃ ad, A = some ad ∧ ad.block < w.heap.size ∧ ¬ X ad.block ∧
    (∀ u, cs[0]? = some u → w.cell? (ad.add (i * k)) = some u) ∧ ∀ j u, cs[j + 1]? = some u → w.cell? ⟨(ad.add (i * k)).block, (ad.add (i * k)).off + (j + 1), none⟩ = some u := by
  obtain ⟨ad, e, h1, h2, hc⟩ := h.at_ hi
  exact ⟨ad, e, h1, h2, fun u hu => hc 0 u hu, fun j u hu => by rw [add_off ad _ (Nat.succ_pos j)]; exact hc (j + 1) u hu⟩

theorem choose_list {α : Type} (p : Nat → α → Prop) : ∀ len : Nat, (∀ i, i < len → ∃ x : α, p i x) → ∃ xs : List α, xs.length = len ∧ ∀ (i : Nat) (x : α), xs[i]? = some x → p i x
  | 0, _ => ⟨[], rfl, fun i e h => by simp at h⟩
  | k + 1, each => by
    obtain ⟨es, h1, h2⟩ := choose_list p k (fun i hi => each i (by omega))
    obtain ⟨e, he⟩ := each k (by omega)
    refine ⟨es ++ [e], by simp [h1], fun i x hx => ?_⟩
    rcases Nat.lt_or_ge i k with hik | hik
    · rw [List.getElem?_append_left (by omega)] at hx
      exact h2 i x hx
    · rw [List.getElem?_append_right (by omega), h1] at hx
      rcases hd : i - k with _ | q
      · rw [hd] at hx
        simp at hx
        subst hx
        rw [show i = k from by omega]
        exact he
      · rw [hd] at hx; simp at hx
theorem list3 {α : Type} {l : List α} (h : l.length = 3) : ∃ c0 c1 c2, l = [c0, c1, c2] := by
  match l, h with
  | [c0, c1, c2], _ => exact ⟨c0, c1, c2, rfl⟩
theorem list5 {α : Type} {l : List α} (h : l.length = 5) : ∃ c0 c1 c2 c3 c4, l = [c0, c1, c2, c3, c4] := by
  match l, h with
  | [c0, c1, c2, c3, c4], _ => exact ⟨c0, c1, c2, c3, c4, rfl⟩
/-- A call of a law: what, pick, message. -/
structure Ac where
  what : Int
  pick : Int
  m : Msg
/-- A number of 64 bits. -/
def In64 (n : Int) : Prop := -9223372036854775808 ≤ n ∧ n ≤ 9223372036854775807
/-- The cells cs are the message m; its bytes lie in no block of X. -/
def MAt (w : World) (X : Nat → Prop) (m : Msg) (cs : Array Value) : Prop :=
  ∃ A q c, cs = #[.int .i64 m.fr, .int .i64 m.to, .slice A q c] ∧ Bys w X A q m.b ∧ q ≤ c ∧ c ≤ maxLen ∧ In64 m.fr ∧ In64 m.to
/-- The cells cs are the call a. -/
def AcAt (w : World) (X : Nat → Prop) (a : Ac) (cs : Array Value) : Prop :=
  ∃ A q c, cs = #[.int .i64 a.what, .int .i64 a.pick, .int .i64 a.m.fr, .int .i64 a.m.to, .slice A q c] ∧ Bys w X A q a.m.b ∧ q ≤ c ∧ c ≤ maxLen ∧ In64 a.what ∧ In64 a.pick ∧ In64 a.m.fr ∧ In64 a.m.to
/-- A slice of messages. -/
def Ms (w : World) (X : Nat → Prop) (A : Option Addr) (n : Nat) (ms : List Msg) : Prop :=
  ∃ css, Rd w X 3 A n css ∧ css.length = ms.length ∧ ∀ (i : Nat) (t : Msg) (cs : Array Value), ms[i]? = some t → css[i]? = some cs → MAt w X t cs
/-- A slice of calls. -/
def Acs (w : World) (X : Nat → Prop) (A : Option Addr) (n : Nat) (xs : List Ac) : Prop :=
  ∃ css, Rd w X 5 A n css ∧ css.length = xs.length ∧ ∀ (i : Nat) (t : Ac) (cs : Array Value), xs[i]? = some t → css[i]? = some cs → AcAt w X t cs
section
variable {w w' : World} {X X' S : Nat → Prop} {A : Option Addr} {n : Nat}
theorem MAt.keep {t : Msg} {cs : Array Value} (h : MAt w X t cs) (ht : Turn S w w') (hS : ∀ b, b < w.heap.size → S b → X b) : MAt w' X t cs := by
  obtain ⟨A, q, c, e, hb, h1⟩ := h
  exact ⟨A, q, c, e, hb.keep ht hS, h1⟩
theorem AcAt.keep {t : Ac} {cs : Array Value} (h : AcAt w X t cs) (ht : Turn S w w') (hS : ∀ b, b < w.heap.size → S b → X b) : AcAt w' X t cs := by
  obtain ⟨A, q, c, e, hb, h1⟩ := h
  exact ⟨A, q, c, e, hb.keep ht hS, h1⟩
theorem MAt.wide {t : Msg} {cs : Array Value} (h : MAt w X t cs) (hX : ∀ b, b < w.heap.size → X' b → X b) : MAt w X' t cs := by
  obtain ⟨A, q, c, e, hb, h1⟩ := h
  exact ⟨A, q, c, e, hb.wide hX, h1⟩
theorem AcAt.wide {t : Ac} {cs : Array Value} (h : AcAt w X t cs) (hX : ∀ b, b < w.heap.size → X' b → X b) : AcAt w X' t cs := by
  obtain ⟨A, q, c, e, hb, h1⟩ := h
  exact ⟨A, q, c, e, hb.wide hX, h1⟩
theorem MAt.msgV {t : Msg} {cs : Array Value} (h : MAt w X t cs) : MsgV w X t (.agg cs) := by
  obtain ⟨A, q, c, e, hb, h1⟩ := h
  exact ⟨A, q, c, by rw [e], hb⟩
theorem Ms.keep {ms : List Msg} (h : Ms w X A n ms) (ht : Turn S w w') (hS : ∀ b, b < w.heap.size → S b → X b) : Ms w' X A n ms := by
  obtain ⟨css, h1, h2, h3⟩ := h
  exact ⟨css, h1.keep ht hS, h2, fun i t cs e1 e2 => (h3 i t cs e1 e2).keep ht hS⟩
theorem Acs.keep {xs : List Ac} (h : Acs w X A n xs) (ht : Turn S w w') (hS : ∀ b, b < w.heap.size → S b → X b) : Acs w' X A n xs := by
  obtain ⟨css, h1, h2, h3⟩ := h
  exact ⟨css, h1.keep ht hS, h2, fun i t cs e1 e2 => (h3 i t cs e1 e2).keep ht hS⟩
theorem Ms.wide {ms : List Msg} (h : Ms w X A n ms) (hX : ∀ b, b < w.heap.size → X' b → X b) : Ms w X' A n ms := by
  obtain ⟨css, h1, h2, h3⟩ := h
  exact ⟨css, h1.wide hX, h2, fun i t cs e1 e2 => (h3 i t cs e1 e2).wide hX⟩
theorem Acs.wide {xs : List Ac} (h : Acs w X A n xs) (hX : ∀ b, b < w.heap.size → X' b → X b) : Acs w X' A n xs := by
  obtain ⟨css, h1, h2, h3⟩ := h
  exact ⟨css, h1.wide hX, h2, fun i t cs e1 e2 => (h3 i t cs e1 e2).wide hX⟩
theorem Ms.below {ms : List Msg} (h : Ms w X A n ms) (hb : Below w.heap.size w w') : Ms w' X A n ms := h.keep (S := No) (Turn.of_below hb No) (fun _ _ h => h.elim)
theorem Acs.below {xs : List Ac} (h : Acs w X A n xs) (hb : Below w.heap.size w w') : Acs w' X A n xs := h.keep (S := No) (Turn.of_below hb No) (fun _ _ h => h.elim)
theorem Ms.len {ms : List Msg} (h : Ms w X A n ms) : ms.length = n := by
  obtain ⟨css, h1, h2, _⟩ := h
  rw [← h2]; exact h1.1
theorem Acs.len {xs : List Ac} (h : Acs w X A n xs) : xs.length = n := by
  obtain ⟨css, h1, h2, _⟩ := h
  rw [← h2]; exact h1.1
end
set_option maxRecDepth 100000 in
theorem trod_msg {H : Type} {enc : TypeId × Value → H} {w : World} {base : Nat} {held : Bool} {fuel : Nat} {c0 c1 c2 : Value} {x : DataW H × List MemPlace}
    (h : DataW.trod enc Try.prog w base (fun _ => true) held fuel 39 [c0, c1, c2] = some x) : ∃ t : Msg, MAt w No t #[c0, c1, c2] := by
  obtain ⟨xs, n, _, _, _, hl, hf⟩ := DataW.trod_struct Try.underlying39 h
  obtain ⟨y0, y1, y2, rfl⟩ := list3 hl
  have g0 : DataW.trod enc Try.prog w base (fun _ => true) held n 3 [c0] = some y0 := by
    have := hf 0 _ rfl
    simpa [cells3] using this
  have g1 : DataW.trod enc Try.prog w base (fun _ => true) held n 3 [c1] = some y1 := by
    have := hf 1 _ rfl
    simpa [cells3] using this
  have g2 : DataW.trod enc Try.prog w base (fun _ => true) held n 37 [c2] = some y2 := by
    have := hf 2 _ rfl
    simpa [cells37] using this
  obtain ⟨z0, e0, _, wf0⟩ := DataW.trod_int Try.underlying3 g0
  obtain ⟨z1, e1, _, wf1⟩ := DataW.trod_int Try.underlying3 g1
  obtain ⟨A, q, k, l, e2, hb, hq, hk⟩ := trod_bys g2
  injection e0 with e0
  injection e1 with e1
  subst e0 e1 e2
  exact ⟨⟨z0, z1, l⟩, ⟨A, q, k, rfl, hb, hq, hk, i64_bounds wf0, i64_bounds wf1⟩⟩
set_option maxRecDepth 100000 in
theorem trod_ac {H : Type} {enc : TypeId × Value → H} {w : World} {base : Nat} {held : Bool} {fuel : Nat} {c0 c1 c2 c3 c4 : Value} {x : DataW H × List MemPlace}
    (h : DataW.trod enc Try.prog w base (fun _ => true) held fuel 47 [c0, c1, c2, c3, c4] = some x) : ∃ t : Ac, AcAt w No t #[c0, c1, c2, c3, c4] := by
  obtain ⟨xs, n, _, _, _, hl, hf⟩ := DataW.trod_struct Try.underlying47 h
  obtain ⟨y0, y1, y2, rfl⟩ := list3 hl
  have g0 : DataW.trod enc Try.prog w base (fun _ => true) held n 3 [c0] = some y0 := by
    have := hf 0 _ rfl
    simpa [cells3] using this
  have g1 : DataW.trod enc Try.prog w base (fun _ => true) held n 3 [c1] = some y1 := by
    have := hf 1 _ rfl
    simpa [cells3] using this
  have g2 : DataW.trod enc Try.prog w base (fun _ => true) held n 39 [c2, c3, c4] = some y2 := by
    have := hf 2 _ rfl
    simpa [cells39] using this
  obtain ⟨z0, e0, _, wf0⟩ := DataW.trod_int Try.underlying3 g0
  obtain ⟨z1, e1, _, wf1⟩ := DataW.trod_int Try.underlying3 g1
  obtain ⟨m, A, q, k, e2, hb, hq, hk, i1, i2⟩ := trod_msg g2
  injection e0 with e0
  injection e1 with e1
  subst e0 e1
  simp at e2
  obtain ⟨rfl, rfl, rfl⟩ := e2
  exact ⟨⟨z0, z1, m⟩, ⟨A, q, k, rfl, hb, hq, hk, i64_bounds wf0, i64_bounds wf1, i1, i2⟩⟩
set_option maxRecDepth 100000 in
theorem open_ac {H : Type} {enc : TypeId × Value → H} {w : World} {b0 base : Nat} {held : Bool} {r : Reach} {v : Value} {d : DataW H} {p : List MemPlace}
    (hv : Value.okWide Try.prog w r b0 47 v) (h : DataW.Trod enc Try.prog w base (fun _ => true) held 47 v d p) : ∃ (t : Ac) (cs : Array Value), v = .agg cs ∧ AcAt w No t cs := by
  obtain ⟨cs, rfl, hsz⟩ := okWide_struct Try.underlying47 hv
  obtain ⟨c0, c1, c2, c3, c4, hl⟩ := list5 (l := cs.toList) (by rw [Array.length_toList]; exact hsz.trans cells47)
  obtain rfl : cs = #[c0, c1, c2, c3, c4] := by cases cs; simp at hl; rw [hl]
  obtain ⟨fuel, hf⟩ := h
  obtain ⟨t, h1⟩ := trod_ac (x := (d, p)) (by simpa [Value.cells] using hf)
  exact ⟨t, _, rfl, h1⟩
set_option maxRecDepth 100000 in
/-- A slice of elements of k cells that came in. -/
theorem open_rows {α : Type} {t e k : Nat} (und : Try.prog.underlying t = some (.slice e)) (hk : Try.prog.cellsOf e = k) (kpos : 0 < k) {H : Type} {enc : TypeId × Value → H} {w : World} {base : Nat} {held : Bool} (Q : α → Array Value → Prop)
    (one : ∀ y cs, Q y cs → ∀ u ∈ cs.toList, u.oneCell' = true) (each : ∀ fuel cs x, cs.length = k → DataW.trod enc Try.prog w base (fun _ => true) held fuel e cs = some x → ∃ y, Q y cs.toArray)
    {a : Option Addr} {len cap : Nat} {d : DataW H} {p : List MemPlace}
    (h : DataW.Trod enc Try.prog w base (fun _ => true) held t (.slice a len cap) d p) : (∃ (ys : List α) (css : List (Array Value)), Rd w No k a len css ∧ css.length = ys.length ∧ ∀ (i : Nat) (y : α) (cs : Array Value), ys[i]? = some y → css[i]? = some cs → Q y cs) ∧ len ≤ cap ∧ cap ≤ maxLen := by
  obtain ⟨fuel, hf⟩ := h
  rcases Deep.open_slice und hf with ⟨hcs, _⟩ | ⟨ad, l, c, m, n, D, Pl, hcs, _, hl, hm, hmm, _, hx⟩
  · simp [Value.cells] at hcs
    obtain ⟨rfl, rfl, rfl⟩ := hcs
    exact ⟨⟨[], [], Rd.none_, rfl, fun i y cs e => by simp at e⟩, Nat.le_refl _, by unfold maxLen; omega⟩
  · simp [Value.cells] at hcs
    obtain ⟨rfl, rfl, rfl⟩ := hcs
    have hlm : len ≤ m := by rw [hmm]; split <;> omega
    have each' : ∀ i, i < len → ∃ y : α × Array Value, Q y.1 y.2 ∧ y.2.size = k ∧ ∀ j u, y.2[j]? = some u → w.cell? (ad.add (i * k + j)) = some u := by
      intro i hi
      obtain ⟨cs', h1, h2⟩ := hx i (by omega)
      rw [hk] at h1
      obtain ⟨_, hlen, hcell⟩ := World.cells?_some h1
      obtain ⟨y, hy⟩ := each _ _ _ hlen h2
      refine ⟨(y, cs'.toArray), hy, by simp [hlen], fun j u hu => ?_⟩
      have hj : j < k := by
        have := (Array.getElem?_eq_some_iff.1 hu).1
        simpa [hlen] using this
      have h3 := hcell j (by omega)
      rw [add_of_add] at h3
      rw [h3]
      simpa using hu
    obtain ⟨ys, h1, h2⟩ := choose_list _ len each'
    have hsized : Sized k (ys.map (·.2)) := fun c hc => by
      obtain ⟨y, hy, rfl⟩ := List.mem_map.1 hc
      obtain ⟨i, hi⟩ := List.getElem?_of_mem hy
      obtain ⟨q1, q2, _⟩ := h2 i y hi
      exact ⟨q2, one _ _ q1⟩
    refine ⟨⟨ys.map (·.1), ys.map (·.2), ⟨by simp [h1], hsized, fun h0 => ⟨ad, rfl, ?_, fun h => h, fun j u hu => ?_⟩⟩, by simp, fun i t cs e1 e2 => ?_⟩, hl, hm⟩
    · obtain ⟨y, _, hsz, hc⟩ := each' 0 h0
      have := block_lt_of_cell (hc 0 _ (Array.getElem?_eq_getElem (by omega)))
      rwa [block_of_add] at this
    · obtain ⟨i, c, q, rfl, hi, hq⟩ := flatA_get hsized hu
      rw [List.getElem?_map] at hi
      cases hy : ys[i]? with
      | none => rw [hy] at hi; cases hi
      | some y =>
        rw [hy] at hi
        injection hi with hi
        subst hi
        exact (h2 i y hy).2.2 q u hq
    · rw [List.getElem?_map] at e1 e2
      cases hy : ys[i]? with
      | none => rw [hy] at e1; cases e1
      | some y =>
        rw [hy] at e1 e2
        injection e1 with e1
        injection e2 with e2
        subst e1 e2
        exact (h2 i y hy).1
set_option maxRecDepth 100000 in
theorem open_msgs {H : Type} {enc : TypeId × Value → H} {w : World} {base : Nat} {held : Bool} {a : Option Addr} {len cap : Nat} {d : DataW H} {p : List MemPlace}
    (h : DataW.Trod enc Try.prog w base (fun _ => true) held 60 (.slice a len cap) d p) : (∃ ms, Ms w No a len ms) ∧ len ≤ cap ∧ cap ≤ maxLen := by
  obtain ⟨⟨ys, css, h1, h2, h3⟩, h4⟩ := open_rows Try.underlying60 cells39 (by omega) (MAt w No) (fun y cs hy u hu => by
    obtain ⟨A, q, c, rfl, _⟩ := hy
    simp at hu
    rcases hu with rfl | rfl | rfl <;> rfl) (fun fuel cs x hl hx => by
    obtain ⟨c0, c1, c2, rfl⟩ := list3 hl
    exact trod_msg hx) h
  exact ⟨⟨ys, css, h1, h2, h3⟩, h4⟩
set_option maxRecDepth 100000 in
theorem open_acs {H : Type} {enc : TypeId × Value → H} {w : World} {base : Nat} {held : Bool} {a : Option Addr} {len cap : Nat} {d : DataW H} {p : List MemPlace}
    (h : DataW.Trod enc Try.prog w base (fun _ => true) held 22 (.slice a len cap) d p) : (∃ xs, Acs w No a len xs) ∧ len ≤ cap ∧ cap ≤ maxLen := by
  obtain ⟨⟨ys, css, h1, h2, h3⟩, h4⟩ := open_rows Try.underlying22 cells47 (by omega) (AcAt w No) (fun y cs hy u hu => by
    obtain ⟨A, q, c, rfl, _⟩ := hy
    simp at hu
    rcases hu with rfl | rfl | rfl | rfl | rfl <;> rfl) (fun fuel cs x hl hx => by
    obtain ⟨c0, c1, c2, c3, c4, rfl⟩ := list5 hl
    exact trod_ac hx) h
  exact ⟨⟨ys, css, h1, h2, h3⟩, h4⟩
end Go.Proofs.Yticabfmjdjcfnaa
