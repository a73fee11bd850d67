/-
  How a law's texts, bytes, numbers, crash, things are read; things and files of the second hand in memory. Nothing is assumed.
-/
import Derived.Test.YthhiiimmgghhaaaInTurn
import Derived.Deep.Slices
import Derived.ChangeArms
import Derived.ChangeSlices
import Derived.WideShapes
namespace Go.Proofs.Ythhiiimmgghhaaa
open Go.RowKit Go.ChangeShapes Go.WideShapes
theorem i64_bounds {n : Int} (h : (Lit.int .i64 n).wf = true) : -9223372036854775808 ≤ n ∧ n ≤ 9223372036854775807 := by
  have hmin : IntKind.i64.min = -9223372036854775808 := rfl
  have hmax : IntKind.i64.max = 9223372036854775807 := rfl
  simp only [Lit.wf, Bool.and_eq_true, decide_eq_true_eq] at h
  omega
theorem str_of (s : ByteArray) : s = str s.data.toList := by cases s; rfl
theorem cells3 : Try.prog.cellsOf 3 = 1 := by kernel_rfl
theorem cells9 : Try.prog.cellsOf 9 = 1 := by kernel_rfl
theorem cells32 : Try.prog.cellsOf 32 = 1 := by kernel_rfl
theorem cells65 : Try.prog.cellsOf 65 = 4 := by kernel_rfl
theorem cells37 : Try.prog.cellsOf 37 = 2 := by kernel_rfl
/-- Bytes that came in. -/
theorem trod_bys {H : Type} {enc : TypeId × Value → H} {w : World} {base : Nat} {held : Bool} {fuel : Nat} {c : Value} {x : DataW H × List MemPlace} (h : DataW.trod enc Try.prog w base (fun _ => true) held fuel 32 [c] = some x) :
    ∃ A n k l, c = .slice A n k ∧ Bys w No A n l ∧ n ≤ k ∧ k ≤ maxLen := by
  rcases open_ints Try.underlying32 Try.underlying5 (by kernel_rfl) h with ⟨hcs, _⟩ | ⟨x, l, k, zs, hcs, _, hl, hm, hz, _, hcell, hwz⟩
  · simp at hcs
    exact ⟨none, 0, 0, [], hcs, Bys.none_, Nat.le_refl _, by unfold maxLen; omega⟩
  · simp at hcs
    have hz' : zs.length = k := by simpa using hz
    refine ⟨some x, l, k, (zs.take l).map fun z => UInt8.ofNat z.toNat, hcs, ⟨by simp; omega, fun h0 => ⟨x, rfl, ?_, fun h => h, fun j u hu => ?_⟩⟩, hl, hm⟩
    · have := block_lt_of_cell (hcell 0 (by omega))
      rwa [block_of_add] at this
    · rw [List.getElem?_map] at hu
      cases hzj : (zs.take l)[j]? with
      | none => rw [hzj] at hu; cases hu
      | some z =>
        rw [hzj] at hu
        injection hu with hu
        subst hu
        have hj : j < zs.length := by
          have := (List.getElem?_eq_some_iff.1 hzj).1
          simp at this; omega
        rw [hcell j hj]
        have hzz : zs.getD j 0 = z := by
          rw [List.getElem?_take] at hzj
          split at hzj
          · rw [List.getD_eq_getElem?_getD, hzj]; rfl
          · cases hzj
        rw [hzz]
        have hw := hwz z (by
          have := List.mem_of_getElem? hzj
          exact List.mem_of_mem_take this)
        have hmin : IntKind.u8.min = 0 := rfl
        have hmax : IntKind.u8.max = 255 := rfl
        simp only [Lit.wf, Bool.and_eq_true, decide_eq_true_eq] at hw
        unfold byteV
        rw [UInt8.toNat_ofNat']
        have : ((z.toNat % 2 ^ 8 : Nat) : Int) = z := by omega
        rw [this]
/-- A thing of the second hand: what, name, bytes, number. -/
structure RT where
  what : Int
  name : Bs
  bytes : Bs
  n : Int
/-- The cells cs are the thing t; its bytes lie in no block of X. -/
def RTAt (w : World) (X : Nat → Prop) (t : RT) (cs : Array Value) : Prop :=
  ∃ A q c, cs = #[.int .i64 t.what, .string (str t.name), .slice A q c, .int .i64 t.n] ∧ Bys w X A q t.bytes ∧ q ≤ c ∧ c ≤ maxLen
/-- A slice of things. -/
def RTs (w : World) (X : Nat → Prop) (A : Option Addr) (n : Nat) (ts : List RT) : Prop :=
  ∃ css, Rd w X 4 A n css ∧ css.length = ts.length ∧ ∀ (i : Nat) (t : RT) (cs : Array Value), ts[i]? = some t → css[i]? = some cs → RTAt w X t cs
/-- A slice of files. -/
def RFs (w : World) (X : Nat → Prop) (A : Option Addr) (n : Nat) (l : FL) : Prop :=
  ∃ css, Rd w X 2 A n css ∧ css.length = l.length ∧ ∀ (i : Nat) (p : Bs × Bs) (cs : Array Value), l[i]? = some p → css[i]? = some cs → ∃ A q c, cs = #[.string (str p.1), .slice A q c] ∧ Bys w X A q p.2 ∧ q ≤ c ∧ c ≤ maxLen
section
variable {w w' : World} {X X' S : Nat → Prop} {A : Option Addr} {n : Nat}
theorem RTAt.keep {t : RT} {cs : Array Value} (h : RTAt w X t cs) (ht : Turn S w w') (hS : ∀ b, b < w.heap.size → S b → X b) : RTAt w' X t cs := by
  obtain ⟨A, q, c, e, hb, h1⟩ := h
  exact ⟨A, q, c, e, hb.keep ht hS, h1⟩
theorem RTAt.wide {t : RT} {cs : Array Value} (h : RTAt w X t cs) (hX : ∀ b, b < w.heap.size → X' b → X b) : RTAt w X' t cs := by
  obtain ⟨A, q, c, e, hb, h1⟩ := h
  exact ⟨A, q, c, e, hb.wide hX, h1⟩
theorem RTs.keep {ts : List RT} (h : RTs w X A n ts) (ht : Turn S w w') (hS : ∀ b, b < w.heap.size → S b → X b) : RTs w' X A n ts := by
  obtain ⟨css, h1, h2, h3⟩ := h
  exact ⟨css, h1.keep ht hS, h2, fun i t cs e1 e2 => (h3 i t cs e1 e2).keep ht hS⟩
theorem RTs.wide {ts : List RT} (h : RTs w X A n ts) (hX : ∀ b, b < w.heap.size → X' b → X b) : RTs w X' A n ts := by
  obtain ⟨css, h1, h2, h3⟩ := h
  exact ⟨css, h1.wide hX, h2, fun i t cs e1 e2 => (h3 i t cs e1 e2).wide hX⟩
theorem RTs.len {ts : List RT} (h : RTs w X A n ts) : ts.length = n := by
  obtain ⟨css, h1, h2, _⟩ := h
  rw [← h2]; exact h1.1
theorem RFs.keep {l : FL} (h : RFs w X A n l) (ht : Turn S w w') (hS : ∀ b, b < w.heap.size → S b → X b) : RFs w' X A n l := by
  obtain ⟨css, h1, h2, h3⟩ := h
  refine ⟨css, h1.keep ht hS, h2, fun i p cs e1 e2 => ?_⟩
  obtain ⟨B, q, c, e, hb, h4⟩ := h3 i p cs e1 e2
  exact ⟨B, q, c, e, hb.keep ht hS, h4⟩
theorem RFs.wide {l : FL} (h : RFs w X A n l) (hX : ∀ b, b < w.heap.size → X' b → X b) : RFs w X' A n l := by
  obtain ⟨css, h1, h2, h3⟩ := h
  refine ⟨css, h1.wide hX, h2, fun i p cs e1 e2 => ?_⟩
  obtain ⟨B, q, c, e, hb, h4⟩ := h3 i p cs e1 e2
  exact ⟨B, q, c, e, hb.wide hX, h4⟩
theorem RFs.len {l : FL} (h : RFs w X A n l) : l.length = n := by
  obtain ⟨css, h1, h2, _⟩ := h
  rw [← h2]; exact h1.1
theorem RTs.below {ts : List RT} (h : RTs w X A n ts) (hb : Below w.heap.size w w') : RTs w' X A n ts := h.keep (S := No) (Turn.of_below hb No) (fun _ _ h => h.elim)
theorem RFs.below {l : FL} (h : RFs w X A n l) (hb : Below w.heap.size w w') : RFs w' X A n l := h.keep (S := No) (Turn.of_below hb No) (fun _ _ h => h.elim)
theorem RTAt.below {t : RT} {cs : Array Value} (h : RTAt w X t cs) (hb : Below w.heap.size w w') : RTAt w' X t cs := h.keep (S := No) (Turn.of_below hb No) (fun _ _ h => h.elim)
theorem RTs.nil : RTs w X A 0 [] := ⟨[], Rd.none_, rfl, fun i t cs e => by simp at e⟩
theorem RFs.nil : RFs w X A 0 [] := ⟨[], Rd.none_, rfl, fun i t cs e => by simp at e⟩
end
theorem list4 {α : Type} {l : List α} (h : l.length = 4) : ∃ c0 c1 c2 c3, l = [c0, c1, c2, c3] := by
  match l, h with
  | [c0, c1, c2, c3], _ => exact ⟨c0, c1, c2, c3, rfl⟩
set_option maxRecDepth 100000 in
theorem trod_thing {H : Type} {enc : TypeId × Value → H} {w : World} {base : Nat} {held : Bool} {fuel : Nat} {c0 c1 c2 c3 : Value} {x : DataW H × List MemPlace}
    (h : DataW.trod enc Try.prog w base (fun _ => true) held fuel 65 [c0, c1, c2, c3] = some x) : ∃ t : RT, RTAt w No t #[c0, c1, c2, c3] ∧ (-9223372036854775808 ≤ t.what ∧ t.what ≤ 9223372036854775807) ∧ (-9223372036854775808 ≤ t.n ∧ t.n ≤ 9223372036854775807) ∧ t.name.length ≤ maxLen := by
  obtain ⟨xs, n, _, _, _, hl, hf⟩ := DataW.trod_struct Try.underlying65 h
  obtain ⟨y0, y1, y2, y3, rfl⟩ := list4 hl
  have g0 : DataW.trod enc Try.prog w base (fun _ => true) held n 3 [c0] = some y0 := by
    have := hf 0 _ rfl
    simpa [cells3] using this
  have g1 : DataW.trod enc Try.prog w base (fun _ => true) held n 9 [c1] = some y1 := by
    have := hf 1 _ rfl
    simpa [cells9] using this
  have g2 : DataW.trod enc Try.prog w base (fun _ => true) held n 32 [c2] = some y2 := by
    have := hf 2 _ rfl
    simpa [cells32] using this
  have g3 : DataW.trod enc Try.prog w base (fun _ => true) held n 3 [c3] = some y3 := by
    have := hf 3 _ rfl
    simpa [cells3] using this
  obtain ⟨z0, e0, _, wf0⟩ := DataW.trod_int Try.underlying3 g0
  obtain ⟨s1, e1, _, hs1⟩ := DataW.trod_string Try.underlying9 g1
  obtain ⟨A, q, k, l, e2, hb, hq, hk⟩ := trod_bys g2
  obtain ⟨z3, e3, _, wf3⟩ := DataW.trod_int Try.underlying3 g3
  injection e0 with e0
  injection e1 with e1
  injection e3 with e3
  subst e0 e1 e2 e3
  exact ⟨⟨z0, s1.data.toList, l, z3⟩, ⟨A, q, k, by rw [← str_of], hb, hq, hk⟩, i64_bounds wf0, i64_bounds wf3, by simpa using hs1⟩
set_option maxRecDepth 100000 in
theorem open_thing {H : Type} {enc : TypeId × Value → H} {w : World} {b0 base : Nat} {held : Bool} {r : Reach} {v : Value} {d : DataW H} {p : List MemPlace}
    (hv : Value.okWide Try.prog w r b0 65 v) (h : DataW.Trod enc Try.prog w base (fun _ => true) held 65 v d p) : ∃ (t : RT) (cs : Array Value), v = .agg cs ∧ RTAt w No t cs ∧ (-9223372036854775808 ≤ t.what ∧ t.what ≤ 9223372036854775807) ∧ (-9223372036854775808 ≤ t.n ∧ t.n ≤ 9223372036854775807) ∧ t.name.length ≤ maxLen := by
  obtain ⟨cs, rfl, hsz⟩ := okWide_struct Try.underlying65 hv
  obtain ⟨c0, c1, c2, c3, rfl⟩ := four_of (hsz.trans cells65)
  obtain ⟨fuel, hf⟩ := h
  obtain ⟨t, h1⟩ := trod_thing (x := (d, p)) (by simpa [Value.cells] using hf)
  exact ⟨t, _, rfl, h1⟩
theorem list2 {α : Type} {l : List α} (h : l.length = 2) : ∃ c0 c1, l = [c0, c1] := by
  match l, h with
  | [c0, c1], _ => exact ⟨c0, c1, rfl⟩
set_option maxRecDepth 100000 in
theorem open_crash {H : Type} {enc : TypeId × Value → H} {w : World} {b0 base : Nat} {spare : Nat → Bool} {held : Bool} {r : Reach} {v : Value} {d : DataW H} {p : List MemPlace}
    (hv : Value.okWide Try.prog w r b0 37 v) (h : DataW.Trod enc Try.prog w base spare held 37 v d p) : ∃ kp tn : Int, v = .agg #[.int .i64 kp, .int .i64 tn] ∧ (-9223372036854775808 ≤ kp ∧ kp ≤ 9223372036854775807) ∧ (-9223372036854775808 ≤ tn ∧ tn ≤ 9223372036854775807) := by
  obtain ⟨cs, rfl, hsz⟩ := okWide_struct Try.underlying37 hv
  obtain ⟨c0, c1, rfl⟩ := two_of (hsz.trans cells37)
  obtain ⟨fuel, hf⟩ := h
  have hf' : DataW.trod enc Try.prog w base spare held fuel 37 [c0, c1] = some (d, p) := by simpa [Value.cells] using hf
  obtain ⟨xs, n, _, _, _, hl, hf⟩ := DataW.trod_struct Try.underlying37 hf'
  obtain ⟨y0, y1, rfl⟩ := list2 hl
  have g0 : DataW.trod enc Try.prog w base spare held n 3 [c0] = some y0 := by
    have := hf 0 _ rfl
    simpa [cells3] using this
  have g1 : DataW.trod enc Try.prog w base spare held n 3 [c1] = some y1 := by
    have := hf 1 _ rfl
    simpa [cells3] using this
  obtain ⟨z0, e0, _, wf0⟩ := DataW.trod_int Try.underlying3 g0
  obtain ⟨z1, e1, _, wf1⟩ := DataW.trod_int Try.underlying3 g1
  injection e0 with e0
  injection e1 with e1
  subst e0 e1
  exact ⟨z0, z1, rfl, i64_bounds wf0, i64_bounds wf1⟩
set_option maxRecDepth 100000 in
theorem open_str {H : Type} {enc : TypeId × Value → H} {w : World} {b0 base : Nat} {spare : Nat → Bool} {held : Bool} {r : Reach} {v : Value} {d : DataW H} {p : List MemPlace}
    (hv : Value.okWide Try.prog w r b0 9 v) (h : DataW.Trod enc Try.prog w base spare held 9 v d p) : ∃ n : Bs, v = .string (str n) ∧ n.length ≤ maxLen := by
  obtain ⟨fuel, hf⟩ := h
  obtain ⟨s, hs⟩ := okWide_string Try.underlying9 hv
  subst hs
  obtain ⟨s', e, _, hs'⟩ := DataW.trod_string Try.underlying9 hf
  simp [Value.cells] at e
  subst e
  exact ⟨s.data.toList, by rw [← str_of], by simpa using hs'⟩
theorem choose_list {α : Type} (p : Nat → α → Prop) : ∀ len : Nat, (∀ i, i < len → ∃ x : α, p i x) → ∃ xs : List α, xs.length = len ∧ ∀ (i : Nat) (x : α), xs[i]? = some x → p i x
  | 0, _ => ⟨[], rfl, fun i e h => by simp at h⟩
  | k + 1, each => by
    obtain ⟨es, h1, h2⟩ := choose_list p k (fun i hi => each i (by omega))
    obtain ⟨e, he⟩ := each k (by omega)
    refine ⟨es ++ [e], by simp [h1], fun i x hx => ?_⟩
    rcases Nat.lt_or_ge i k with hik | hik
    · rw [List.getElem?_append_left (by omega)] at hx
      exact h2 i x hx
    · rw [List.getElem?_append_right (by omega), h1] at hx
      rcases hd : i - k with _ | q
      · rw [hd] at hx
        simp at hx
        subst hx
        rw [show i = k from by omega]
        exact he
      · rw [hd] at hx; simp at hx
/-- What is known of a thing that came in. -/
def RTok (t : RT) : Prop := (-9223372036854775808 ≤ t.what ∧ t.what ≤ 9223372036854775807) ∧ (-9223372036854775808 ≤ t.n ∧ t.n ≤ 9223372036854775807) ∧ t.name.length ≤ maxLen
set_option maxRecDepth 100000 in
theorem open_things {H : Type} {enc : TypeId × Value → H} {w : World} {base : Nat} {held : Bool} {a : Option Addr} {len cap : Nat} {d : DataW H} {p : List MemPlace}
    (h : DataW.Trod enc Try.prog w base (fun _ => true) held 27 (.slice a len cap) d p) : ∃ ts, RTs w No a len ts ∧ (∀ t ∈ ts, RTok t) ∧ len ≤ cap ∧ cap ≤ maxLen := by
  obtain ⟨fuel, hf⟩ := h
  rcases Deep.open_slice Try.underlying27 hf with ⟨hcs, _⟩ | ⟨ad, l, c, m, n, D, Pl, hcs, _, hl, hm, hmm, _, hx⟩
  · simp [Value.cells] at hcs
    obtain ⟨rfl, rfl, rfl⟩ := hcs
    exact ⟨[], RTs.nil, fun t h => by simp at h, Nat.le_refl _, by unfold maxLen; omega⟩
  · simp [Value.cells] at hcs
    obtain ⟨rfl, rfl, rfl⟩ := hcs
    have hlm : len ≤ m := by rw [hmm]; split <;> omega
    have each : ∀ i, i < len → ∃ y : RT × Array Value, RTAt w No y.1 y.2 ∧ RTok y.1 ∧ ∀ j u, y.2[j]? = some u → w.cell? (ad.add (i * 4 + j)) = some u := by
      intro i hi
      obtain ⟨cs', h1, h2⟩ := hx i (by omega)
      rw [cells65] at h1
      obtain ⟨_, hlen, hcell⟩ := World.cells?_some h1
      obtain ⟨c0, c1, c2, c3, rfl⟩ := list4 hlen
      obtain ⟨t, ht, hok⟩ := trod_thing h2
      refine ⟨(t, #[c0, c1, c2, c3]), ht, hok, fun j u hu => ?_⟩
      have hj : j < 4 := by
        have := (Array.getElem?_eq_some_iff.1 hu).1
        simpa using this
      have h3 := hcell j (by omega)
      rw [add_of_add] at h3
      rw [h3]
      simpa using hu
    obtain ⟨ys, h1, h2⟩ := choose_list _ len each
    have hsized : Sized 4 (ys.map (·.2)) := fun c hc => by
      obtain ⟨y, hy, rfl⟩ := List.mem_map.1 hc
      obtain ⟨i, hi⟩ := List.getElem?_of_mem hy
      obtain ⟨⟨A, q, k, e, _⟩, _⟩ := h2 i y hi
      rw [e]
      refine ⟨rfl, fun u hu => ?_⟩
      simp at hu
      rcases hu with rfl | rfl | rfl | rfl <;> rfl
    refine ⟨ys.map (·.1), ⟨ys.map (·.2), ⟨by simp [h1], hsized, fun h0 => ⟨ad, rfl, ?_, fun h => h, fun j u hu => ?_⟩⟩, by simp, fun i t cs e1 e2 => ?_⟩, fun t ht => ?_, hl, hm⟩
    · obtain ⟨y, ⟨A, q, k, e, _⟩, _, hc⟩ := each 0 h0
      have := block_lt_of_cell (hc 0 _ (by rw [e]; rfl))
      rwa [block_of_add] at this
    · obtain ⟨i, c, q, rfl, hi, hq⟩ := flatA_get hsized hu
      rw [List.getElem?_map] at hi
      cases hy : ys[i]? with
      | none => rw [hy] at hi; cases hi
      | some y =>
        rw [hy] at hi
        injection hi with hi
        subst hi
        exact (h2 i y hy).2.2 q u hq
    · rw [List.getElem?_map] at e1 e2
      cases hy : ys[i]? with
      | none => rw [hy] at e1; cases e1
      | some y =>
        rw [hy] at e1 e2
        injection e1 with e1
        injection e2 with e2
        subst e1 e2
        exact (h2 i y hy).1
    · obtain ⟨y, hy, rfl⟩ := List.mem_map.1 ht
      obtain ⟨i, hi⟩ := List.getElem?_of_mem hy
      exact (h2 i y hi).2.1
end Go.Proofs.Ythhiiimmgghhaaa
