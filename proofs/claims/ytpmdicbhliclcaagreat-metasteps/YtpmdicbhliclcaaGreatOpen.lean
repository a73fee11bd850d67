/-
  How a law reads its form, its numbers, its acts. Conditions: a controller as it is between two calls.
-/
import Derived.Test.YtpmdicbhliclcaaGreatLaw
import Derived.Deep.Slices
import Derived.ChangeArms
import Derived.ChangeSlices
import Derived.WideShapes
namespace Go.Proofs.YtpmdicbhliclcaaGreat
open Go.RowKit Go.Maps Go.ChangeShapes Go.WideShapes
set_option linter.unusedVariables false
set_option linter.unusedSimpArgs false
theorem i64_bounds {n : Int} (h : (Lit.int .i64 n).wf = true) : -9223372036854775808 ≤ n ∧ n ≤ 9223372036854775807 := by
  have hmin : IntKind.i64.min = -9223372036854775808 := rfl
  have hmax : IntKind.i64.max = 9223372036854775807 := rfl
  simp only [Lit.wf, Bool.and_eq_true, decide_eq_true_eq] at h
  omega
theorem cells2 : Tryz.prog.cellsOf 2 = 1 := by kernel_rfl
theorem cells3 : Tryz.prog.cellsOf 3 = 1 := by kernel_rfl
theorem cells4 : Tryz.prog.cellsOf 4 = 1 := by kernel_rfl
theorem cells41 : Tryz.prog.cellsOf 41 = 1 := by kernel_rfl
theorem cells43 : Tryz.prog.cellsOf 43 = 8 := by kernel_rfl
theorem cells23 : Tryz.prog.cellsOf 23 = 3 := by kernel_rfl
/-- Numbers that came in. -/
theorem trod_nums {H : Type} {enc : TypeId × Value → H} {w : World} {base : Nat} {held : Bool} {fuel : Nat} {c : Value} {x : DataW H × List MemPlace} (h : DataW.trod enc Tryz.prog w base (fun _ => true) held fuel 41 [c] = some x) :
    ∃ V, IsR w No c V := by
  rcases open_ints Tryz.underlying41 Tryz.underlying3 cells3 h with ⟨hcs, _⟩ | ⟨x, l, k, zs, hcs, _, hl, hm, hz, _, hcell, hwz⟩
  · simp at hcs
    exact ⟨[], none, 0, hcs, Rd.none_⟩
  · simp at hcs
    have hz' : zs.length = k := by simpa using hz
    have hlen : (zs.take l).length = l := by simp; omega
    refine ⟨zs.take l, some x, k, by rw [hlen]; exact hcs, by simp [intsOf], ?_, fun h0 => ⟨x, rfl, ?_, fun h => h, fun j u hu => ?_⟩⟩
    · intro c hc
      unfold intsOf at hc
      obtain ⟨z, -, rfl⟩ := List.mem_map.1 hc
      exact ⟨rfl, by simp [Value.oneCell']⟩
    · have := block_lt_of_cell (hcell 0 (by omega))
      rwa [block_of_add] at this
    · have hsz : Sized 1 (intsOf (zs.take l)) := by
        intro c hc
        unfold intsOf at hc
        obtain ⟨z, -, rfl⟩ := List.mem_map.1 hc
        exact ⟨rfl, by simp [Value.oneCell']⟩
      obtain ⟨i, cs, q, rfl, hi, hq⟩ := flatA_get hsz hu
      unfold intsOf at hi
      rw [List.getElem?_map] at hi
      cases hzj : (zs.take l)[i]? with
      | none => rw [hzj] at hi; cases hi
      | some z =>
        rw [hzj] at hi
        injection hi with hi
        subst hi
        have hq1 : q < 1 := (Array.getElem?_eq_some_iff.1 hq).1
        obtain rfl : q = 0 := by omega
        have hj : i < zs.length := by
          have := (List.getElem?_eq_some_iff.1 hzj).1
          simp at this; omega
        rw [show i * 1 + 0 = i by omega, hcell i hj]
        have hzz : zs.getD i 0 = z := by
          rw [List.getElem?_take] at hzj
          split at hzj
          · rw [List.getD_eq_getElem?_getD, hzj]; rfl
          · cases hzj
        rw [hzz]
        simpa using hq
theorem list8 {α : Type} {l : List α} (h : l.length = 8) : ∃ c0 c1 c2 c3 c4 c5 c6 c7, l = [c0, c1, c2, c3, c4, c5, c6, c7] := by
  match l, h with
  | [c0, c1, c2, c3, c4, c5, c6, c7], _ => exact ⟨c0, c1, c2, c3, c4, c5, c6, c7, rfl⟩
theorem three_of {cs : Array Value} (h : cs.size = 3) : ∃ c0 c1 c2, cs = #[c0, c1, c2] := by
  obtain ⟨l⟩ := cs
  match l, h with
  | [c0, c1, c2], _ => exact ⟨c0, c1, c2, rfl⟩
theorem list3 {α : Type} {l : List α} (h : l.length = 3) : ∃ c0 c1 c2, l = [c0, c1, c2] := by
  match l, h with
  | [c0, c1, c2], _ => exact ⟨c0, c1, c2, rfl⟩
set_option maxRecDepth 100000 in
theorem trod_act {H : Type} {enc : TypeId × Value → H} {w : World} {base : Nat} {held : Bool} {fuel : Nat} {c0 c1 c2 c3 c4 c5 c6 c7 : Value} {x : DataW H × List MemPlace}
    (h : DataW.trod enc Tryz.prog w base (fun _ => true) held fuel 43 [c0, c1, c2, c3, c4, c5, c6, c7] = some x) : ∃ (t : Ac) (V : List Int), (#[c0, c1, c2, c3, c4, c5, c6, c7] : Array Value) = aArr t c7 ∧ IsR w No c7 V := by
  obtain ⟨xs, n, _, _, _, hl, hf⟩ := DataW.trod_struct Tryz.underlying43 h
  obtain ⟨y0, y1, y2, y3, y4, y5, y6, y7, rfl⟩ := list8 hl
  have g0 : DataW.trod enc Tryz.prog w base (fun _ => true) held n 3 [c0] = some y0 := by
    have := hf 0 _ rfl
    simpa [cells3] using this
  have g1 : DataW.trod enc Tryz.prog w base (fun _ => true) held n 3 [c1] = some y1 := by
    have := hf 1 _ rfl
    simpa [cells3] using this
  have g2 : DataW.trod enc Tryz.prog w base (fun _ => true) held n 3 [c2] = some y2 := by
    have := hf 2 _ rfl
    simpa [cells3] using this
  have g3 : DataW.trod enc Tryz.prog w base (fun _ => true) held n 2 [c3] = some y3 := by
    have := hf 3 _ rfl
    simpa [cells2] using this
  have g4 : DataW.trod enc Tryz.prog w base (fun _ => true) held n 2 [c4] = some y4 := by
    have := hf 4 _ rfl
    simpa [cells2] using this
  have g5 : DataW.trod enc Tryz.prog w base (fun _ => true) held n 4 [c5] = some y5 := by
    have := hf 5 _ rfl
    simpa [cells4] using this
  have g6 : DataW.trod enc Tryz.prog w base (fun _ => true) held n 4 [c6] = some y6 := by
    have := hf 6 _ rfl
    simpa [cells4] using this
  have g7 : DataW.trod enc Tryz.prog w base (fun _ => true) held n 41 [c7] = some y7 := by
    have := hf 7 _ rfl
    simpa [cells41] using this
  obtain ⟨z0, e0, _, _⟩ := DataW.trod_int Tryz.underlying3 g0
  obtain ⟨z1, e1, _, _⟩ := DataW.trod_int Tryz.underlying3 g1
  obtain ⟨z2, e2, _, _⟩ := DataW.trod_int Tryz.underlying3 g2
  obtain ⟨z3, e3, _, _⟩ := DataW.trod_int Tryz.underlying2 g3
  obtain ⟨z4, e4, _, _⟩ := DataW.trod_int Tryz.underlying2 g4
  obtain ⟨z5, e5, _⟩ := DataW.trod_bool Tryz.underlying4 g5
  obtain ⟨z6, e6, _⟩ := DataW.trod_bool Tryz.underlying4 g6
  obtain ⟨V, hV⟩ := trod_nums g7
  injection e0 with e0
  injection e1 with e1
  injection e2 with e2
  injection e3 with e3
  injection e4 with e4
  injection e5 with e5
  injection e6 with e6
  subst e0 e1 e2 e3 e4 e5 e6
  exact ⟨⟨z0, z1, z2, z3, z4, z5, z6⟩, V, rfl, hV⟩
theorem choose_list {α : Type} (p : Nat → α → Prop) : ∀ len : Nat, (∀ i, i < len → ∃ x : α, p i x) → ∃ xs : List α, xs.length = len ∧ ∀ (i : Nat) (x : α), xs[i]? = some x → p i x
  | 0, _ => ⟨[], rfl, fun i e h => by simp at h⟩
  | k + 1, each => by
    obtain ⟨es, h1, h2⟩ := choose_list p k (fun i hi => each i (by omega))
    obtain ⟨e, he⟩ := each k (by omega)
    refine ⟨es ++ [e], by simp [h1], fun i x hx => ?_⟩
    rcases Nat.lt_or_ge i k with hik | hik
    · rw [List.getElem?_append_left (by omega)] at hx
      exact h2 i x hx
    · rw [List.getElem?_append_right (by omega), h1] at hx
      rcases hd : i - k with _ | q
      · rw [hd] at hx
        simp at hx
        subst hx
        rw [show i = k from by omega]
        exact he
      · rw [hd] at hx; simp at hx
/-- An act lies there. -/
def ActAt (w : World) (ad : Addr) (i : Nat) (y : (Ac × List Int) × Value) : Prop := IsR w No y.2 y.1.2 ∧ ∀ j u, (aArr y.1.1 y.2)[j]? = some u → w.cell? (ad.add (i * 8 + j)) = some u
theorem acts_of {w : World} {ad : Addr} {ys : List ((Ac × List Int) × Value)} (h : ∀ (i : Nat) (y : (Ac × List Int) × Value), ys[i]? = some y → ActAt w ad i y) : ActR w No (some ad) (ys.map (·.1)) := by
  have e : (rowsOf (ys.map (·.1)).length fun i => match (ys.map (·.1))[i]? with | some x => aArr x.1 ((ys[i]?.map (·.2)).getD (.slice none 0 0)) | none => #[]) = ys.map fun y => aArr y.1.1 y.2 := by
    refine List.ext_getElem? fun i => ?_
    by_cases hi : i < ys.length
    · rw [rowsOf_at _ (by simpa using hi)]
      simp [List.getElem?_eq_getElem hi]
    · rw [List.getElem?_eq_none (by rw [rowsOf_len]; simpa using hi), List.getElem?_eq_none (by simpa using hi)]
  have hsz : Sized 8 (ys.map fun y => aArr y.1.1 y.2) := by
    intro c hc
    obtain ⟨y, hy, rfl⟩ := List.mem_map.1 hc
    obtain ⟨i, hi⟩ := List.getElem?_of_mem hy
    obtain ⟨A, k, e2, -⟩ := (h i y hi).1
    rw [e2]
    exact ⟨rfl, by simp [aArr, Value.oneCell']⟩
  refine ⟨⟨fun i => (ys[i]?.map (·.2)).getD (.slice none 0 0), ?_, fun i x hx => ?_⟩⟩
  · suffices hR : Rd w No 8 (some ad) (ys.map (·.1)).length (ys.map fun y => aArr y.1.1 y.2) by
      rw [← e] at hR
      exact hR
    refine ⟨by simp, hsz, fun h0 => ⟨ad, rfl, ?_, fun q => q, fun j u hu => ?_⟩⟩
    · have h0' : 0 < ys.length := by simpa using h0
      have := block_lt_of_cell ((h 0 ys[0] (List.getElem?_eq_getElem h0')).2 0 _ rfl)
      rwa [block_of_add] at this
    · obtain ⟨i, c, q, rfl, hi, hq⟩ := flatA_get hsz hu
      rw [List.getElem?_map] at hi
      cases hy : ys[i]? with
      | none => rw [hy] at hi; cases hi
      | some y =>
        rw [hy] at hi
        injection hi with hi
        subst hi
        exact (h i y hy).2 q u hq
  · rw [List.getElem?_map] at hx
    cases hy : ys[i]? with
    | none => rw [hy] at hx; cases hx
    | some y =>
      rw [hy] at hx
      injection hx with hx
      subst hx
      have h4 := (h i y hy).1
      simpa [hy] using h4
set_option maxRecDepth 100000 in
theorem open_acts {H : Type} {enc : TypeId × Value → H} {w : World} {base : Nat} {held : Bool} {a : Option Addr} {len cap : Nat} {d : DataW H} {p : List MemPlace}
    (h : DataW.Trod enc Tryz.prog w base (fun _ => true) held 24 (.slice a len cap) d p) : ∃ l : List (Ac × List Int), l.length = len ∧ ActR w No a l ∧ len ≤ cap ∧ cap ≤ maxLen := by
  obtain ⟨fuel, hf⟩ := h
  rcases Deep.open_slice Tryz.underlying24 hf with ⟨hcs, _⟩ | ⟨ad, l, c, m, n, D, Pl, hcs, _, hl, hm, hmm, _, hx⟩
  · simp [Value.cells] at hcs
    obtain ⟨rfl, rfl, rfl⟩ := hcs
    exact ⟨[], rfl, ⟨⟨fun _ => .slice none 0 0, Rd.none_, fun i x hx => by simp at hx⟩⟩, Nat.le_refl _, by unfold maxLen; omega⟩
  · simp [Value.cells] at hcs
    obtain ⟨rfl, rfl, rfl⟩ := hcs
    have hlm : len ≤ m := by rw [hmm]; split <;> omega
    have each : ∀ i, i < len → ∃ y, ActAt w ad i y := by
      intro i hi
      obtain ⟨cs', h1, h2⟩ := hx i (by omega)
      rw [cells43] at h1
      obtain ⟨_, hlen, hcell⟩ := World.cells?_some h1
      obtain ⟨c0, c1, c2, c3, c4, c5, c6, c7, rfl⟩ := list8 hlen
      obtain ⟨t, V, ht, hV⟩ := trod_act h2
      refine ⟨((t, V), c7), hV, fun j u hu => ?_⟩
      rw [← ht] at hu
      have hj : j < 8 := by
        have := (Array.getElem?_eq_some_iff.1 hu).1
        simpa using this
      have h3 := hcell j (by omega)
      rw [add_of_add] at h3
      rw [h3]
      simpa using hu
    obtain ⟨ys, h1, h2⟩ := choose_list _ len each
    exact ⟨ys.map (·.1), by simp [h1], acts_of h2, hl, hm⟩
set_option maxRecDepth 100000 in
theorem open_form {H : Type} {enc : TypeId × Value → H} {w : World} {b0 base : Nat} {spare : Nat → Bool} {held : Bool} {r : Reach} {v : Value} {d : DataW H} {p : List MemPlace}
    (hv : Value.okWide Tryz.prog w r b0 23 v) (h : DataW.Trod enc Tryz.prog w base spare held 23 v d p) : ∃ a b c : Int, v = frm a b c ∧ (-9223372036854775808 ≤ a ∧ a ≤ 9223372036854775807) ∧ (-9223372036854775808 ≤ b ∧ b ≤ 9223372036854775807) ∧ (-9223372036854775808 ≤ c ∧ c ≤ 9223372036854775807) := by
  obtain ⟨cs, rfl, hsz⟩ := okWide_struct Tryz.underlying23 hv
  obtain ⟨c0, c1, c2, rfl⟩ := three_of (hsz.trans cells23)
  obtain ⟨fuel, hf⟩ := h
  have hf' : DataW.trod enc Tryz.prog w base spare held fuel 23 [c0, c1, c2] = some (d, p) := by simpa [Value.cells] using hf
  obtain ⟨xs, n, _, _, _, hl, hf⟩ := DataW.trod_struct Tryz.underlying23 hf'
  obtain ⟨y0, y1, y2, rfl⟩ := list3 hl
  have g0 : DataW.trod enc Tryz.prog w base spare held n 3 [c0] = some y0 := by
    have := hf 0 _ rfl
    simpa [cells3] using this
  have g1 : DataW.trod enc Tryz.prog w base spare held n 3 [c1] = some y1 := by
    have := hf 1 _ rfl
    simpa [cells3] using this
  have g2 : DataW.trod enc Tryz.prog w base spare held n 3 [c2] = some y2 := by
    have := hf 2 _ rfl
    simpa [cells3] using this
  obtain ⟨z0, e0, _, wf0⟩ := DataW.trod_int Tryz.underlying3 g0
  obtain ⟨z1, e1, _, wf1⟩ := DataW.trod_int Tryz.underlying3 g1
  obtain ⟨z2, e2, _, wf2⟩ := DataW.trod_int Tryz.underlying3 g2
  injection e0 with e0
  injection e1 with e1
  injection e2 with e2
  subst e0 e1 e2
  exact ⟨z0, z1, z2, rfl, i64_bounds wf0, i64_bounds wf1, i64_bounds wf2⟩
set_option maxRecDepth 100000 in
theorem open_nums {H : Type} {enc : TypeId × Value → H} {w : World} {base : Nat} {held : Bool} {a : Option Addr} {len cap : Nat} {d : DataW H} {p : List MemPlace}
    (h : DataW.Trod enc Tryz.prog w base (fun _ => true) held 41 (.slice a len cap) d p) : ∃ V, V.length = len ∧ Rd w No 1 a len (intsOf V) := by
  obtain ⟨fuel, hf⟩ := h
  obtain ⟨V, A, c, e, hr⟩ := trod_nums (c := .slice a len cap) (by simpa [Value.cells] using hf)
  injection e with e1 e2 e3
  subst e1 e2 e3
  exact ⟨V, rfl, hr⟩
end Go.Proofs.YtpmdicbhliclcaaGreat
