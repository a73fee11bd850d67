/-
  How a law's entry, and a law's list of entries, is read. Nothing is assumed.
-/
import Derived.Test.YthcphoijanebhaaDoorWhole9
import Derived.Deep.Slices
import Derived.ChangeArms
import Derived.WideShapes
namespace Go.Proofs.YthcphoijanebhaaDoor
open Go.RowKit Go.ChangeShapes Go.WideShapes
theorem i64_bounds {n : Int} (h : (Lit.int .i64 n).wf = true) : -9223372036854775808 ≤ n ∧ n ≤ 9223372036854775807 := by
  have hmin : IntKind.i64.min = -9223372036854775808 := rfl
  have hmax : IntKind.i64.max = 9223372036854775807 := rfl
  simp only [Lit.wf, Bool.and_eq_true, decide_eq_true_eq] at h
  omega
theorem array6 {α : Type} {cs : Array α} (h : cs.size = 6) : ∃ c0 c1 c2 c3 c4 c5, cs = #[c0, c1, c2, c3, c4, c5] := by
  obtain ⟨l⟩ := cs
  match l, h with
  | [c0, c1, c2, c3, c4, c5], _ => exact ⟨c0, c1, c2, c3, c4, c5, rfl⟩
theorem list6 {α : Type} {l : List α} (h : l.length = 6) : ∃ c0 c1 c2 c3 c4 c5, l = [c0, c1, c2, c3, c4, c5] := by
  match l, h with
  | [c0, c1, c2, c3, c4, c5], _ => exact ⟨c0, c1, c2, c3, c4, c5, rfl⟩
theorem cells26 : Tryd.prog.cellsOf 45 = 6 := by kernel_rfl
theorem cells2 : Tryd.prog.cellsOf 2 = 1 := by kernel_rfl
theorem cells3' : Tryd.prog.cellsOf 3 = 1 := by kernel_rfl
theorem cells24 : Tryd.prog.cellsOf 43 = 1 := by kernel_rfl
set_option maxRecDepth 100000 in
theorem trod_ent {H : Type} {enc : TypeId × Value → H} {w : World} {base : Nat} {spare : Nat → Bool} {held : Bool} {fuel : Nat} {c0 c1 c2 c3 c4 c5 : Value} {x : DataW H × List MemPlace}
    (h : DataW.trod enc Tryd.prog w base spare held fuel 45 [c0, c1, c2, c3, c4, c5] = some x) : ∃ e : Ent, c0 = .int .i64 e.epoch ∧ c1 = .int .i64 e.id ∧ c2 = .int .i64 e.num ∧ c3 = .int .i64 e.seq ∧ c4 = .int .i64 e.kind ∧ c5 = .int .i64 e.value ∧ In64P e.key := by
  obtain ⟨xs, n, _, _, _, hl, hf⟩ := DataW.trod_struct Tryd.underlying45 h
  obtain ⟨y0, y1, y2, y3, y4, y5, rfl⟩ := list6 hl
  have g0 : DataW.trod enc Tryd.prog w base spare held n 2 [c0] = some y0 := by
    have := hf 0 _ rfl
    simpa [cells2] using this
  have g1 : DataW.trod enc Tryd.prog w base spare held n 3 [c1] = some y1 := by
    have := hf 1 _ rfl
    simpa [cells3'] using this
  have g2 : DataW.trod enc Tryd.prog w base spare held n 2 [c2] = some y2 := by
    have := hf 2 _ rfl
    simpa [cells2] using this
  have g3 : DataW.trod enc Tryd.prog w base spare held n 2 [c3] = some y3 := by
    have := hf 3 _ rfl
    simpa [cells2] using this
  have g4 : DataW.trod enc Tryd.prog w base spare held n 43 [c4] = some y4 := by
    have := hf 4 _ rfl
    simpa [cells24] using this
  have g5 : DataW.trod enc Tryd.prog w base spare held n 2 [c5] = some y5 := by
    have := hf 5 _ rfl
    simpa [cells2] using this
  obtain ⟨z0, e0, _⟩ := DataW.trod_int Tryd.underlying2 g0
  obtain ⟨z1, e1, _, f1⟩ := DataW.trod_int Tryd.underlying3 g1
  obtain ⟨z2, e2, _, f2⟩ := DataW.trod_int Tryd.underlying2 g2
  obtain ⟨z3, e3, _⟩ := DataW.trod_int Tryd.underlying2 g3
  obtain ⟨z4, e4, _⟩ := DataW.trod_int Tryd.underlying43 g4
  obtain ⟨z5, e5, _⟩ := DataW.trod_int Tryd.underlying2 g5
  injection e0 with e0
  injection e1 with e1
  injection e2 with e2
  injection e3 with e3
  injection e4 with e4
  injection e5 with e5
  exact ⟨⟨z0, z1, z2, z3, z4, z5⟩, e0, e1, e2, e3, e4, e5, i64_bounds f1, i64_bounds f2⟩
set_option maxRecDepth 100000 in
theorem open_ent {H : Type} {enc : TypeId × Value → H} {w : World} {b0 base : Nat} {spare : Nat → Bool} {held : Bool} {r : Reach} {v : Value} {d : DataW H} {p : List MemPlace}
    (hv : Value.okWide Tryd.prog w r b0 45 v) (h : DataW.Trod enc Tryd.prog w base spare held 45 v d p) : ∃ e : Ent, v = e.val ∧ In64P e.key := by
  obtain ⟨cs, rfl, hsz⟩ := okWide_struct Tryd.underlying45 hv
  obtain ⟨c0, c1, c2, c3, c4, c5, rfl⟩ := array6 (hsz.trans cells26)
  obtain ⟨fuel, hf⟩ := h
  obtain ⟨e, rfl, rfl, rfl, rfl, rfl, rfl, hk64⟩ := trod_ent (x := (d, p)) (by simpa [Value.cells] using hf)
  exact ⟨e, rfl, hk64⟩
theorem add_add (p : Addr) (i j : Nat) : (p.add i).add j = p.add (i + j) := by
  unfold Addr.add
  by_cases h1 : i = 0
  · subst h1; simp
  · by_cases h2 : j = 0
    · subst h2; simp
    · have h3 : i + j ≠ 0 := by omega
      simp [h1, h2, Nat.add_assoc]
/-- The entry at place i behind ad. -/
def AtE (w : World) (ad : Addr) (i : Nat) (e : Ent) : Prop := (∀ q u, e.cells[q]? = some u → w.cell? (ad.add (i * 6 + q)) = some u) ∧ In64P e.key
theorem choose_ents {w : World} (ad : Addr) : ∀ len : Nat, (∀ i, i < len → ∃ e : Ent, AtE w ad i e) → ∃ es : List Ent, es.length = len ∧ ∀ (i : Nat) (e : Ent), es[i]? = some e → AtE w ad i e
  | 0, _ => ⟨[], rfl, fun i e h => by simp at h⟩
  | k + 1, each => by
    obtain ⟨es, h1, h2⟩ := choose_ents ad k (fun i hi => each i (by omega))
    obtain ⟨e, he⟩ := each k (by omega)
    refine ⟨es ++ [e], by simp [h1], fun i x hx => ?_⟩
    rcases Nat.lt_or_ge i k with hik | hik
    · rw [List.getElem?_append_left (by omega)] at hx
      exact h2 i x hx
    · rw [List.getElem?_append_right (by omega), h1] at hx
      rcases hd : i - k with _ | q
      · rw [hd] at hx
        simp at hx
        subst hx
        rw [show i = k from by omega]
        exact he
      · rw [hd] at hx; simp at hx
theorem sized_cells (l : List Ent) : Sized 6 (cellsOf l) := by
  intro c hc
  unfold cellsOf at hc
  obtain ⟨e, -, rfl⟩ := List.mem_map.1 hc
  exact ⟨rfl, by simp [Ent.cells, Value.oneCell']⟩
set_option maxRecDepth 100000 in
theorem open_ents {H : Type} {enc : TypeId × Value → H} {w : World} {base : Nat} {spare : Nat → Bool} {held : Bool} {a : Option Addr} {len cap : Nat} {d : DataW H} {p : List MemPlace}
    (h : DataW.Trod enc Tryd.prog w base spare held 22 (.slice a len cap) d p) : ∃ es, Rd w No 6 a len (cellsOf es) ∧ len ≤ cap ∧ cap ≤ maxLen ∧ ∀ e ∈ es, In64P e.key := by
  obtain ⟨fuel, hf⟩ := h
  rcases Deep.open_slice Tryd.underlying22 hf with ⟨hcs, _⟩ | ⟨ad, l, c, m, n, D, Pl, hcs, _, hl, hm, hmm, _, hx⟩
  · simp [Value.cells] at hcs
    obtain ⟨rfl, rfl, rfl⟩ := hcs
    exact ⟨[], Rd.none_, Nat.le_refl _, by unfold maxLen; omega, fun e he => (by cases he)⟩
  · simp [Value.cells] at hcs
    obtain ⟨rfl, rfl, rfl⟩ := hcs
    have hlm : len ≤ m := by rw [hmm]; split <;> omega
    have each : ∀ i, i < len → ∃ e : Ent, AtE w ad i e := by
      intro i hi
      obtain ⟨cs', h1, h2⟩ := hx i (by omega)
      rw [cells26] at h1
      obtain ⟨_, hlen, hcell⟩ := World.cells?_some h1
      obtain ⟨c0, c1, c2, c3, c4, c5, rfl⟩ := list6 hlen
      obtain ⟨e, rfl, rfl, rfl, rfl, rfl, rfl, hk64⟩ := trod_ent h2
      refine ⟨e, fun q u hu => ?_, hk64⟩
      have hq : q < 6 := by have := (Array.getElem?_eq_some_iff.1 hu).1; exact this
      have hc := hcell q hq
      rw [add_add] at hc
      rw [hc]
      rw [← hu]
      match q, hq with
      | 0, _ => rfl
      | 1, _ => rfl
      | 2, _ => rfl
      | 3, _ => rfl
      | 4, _ => rfl
      | 5, _ => rfl
    obtain ⟨es, h1, h2⟩ := choose_ents ad len each
    refine ⟨es, ⟨by simp [cellsOf, h1], sized_cells es, fun h0 => ⟨ad, rfl, ?_, fun q => q, fun j u hu => ?_⟩⟩, hl, hm, fun e he => by obtain ⟨i, hi⟩ := List.mem_iff_getElem?.1 he; exact (h2 i e hi).2⟩
    · obtain ⟨e, he⟩ := each 0 h0
      have hc := he.1 0 _ rfl
      have := block_lt_of_cell hc
      rwa [block_of_add] at this
    · obtain ⟨i, cs, q, rfl, hi, hq⟩ := flatA_get (sized_cells es) hu
      unfold cellsOf at hi
      rw [List.getElem?_map] at hi
      obtain ⟨e, he, rfl⟩ := Option.map_eq_some_iff.1 hi
      exact (h2 i e he).1 q u hq
end Go.Proofs.YthcphoijanebhaaDoor
