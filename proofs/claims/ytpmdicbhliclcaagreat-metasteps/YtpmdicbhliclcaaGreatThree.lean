/-
  How a law reads its rows of three bytes. Nothing is assumed.
-/
import Derived.Test.YtpmdicbhliclcaaGreatActs
import Derived.OpenShut
namespace Go.Proofs.YtpmdicbhliclcaaGreat
open Go.RowKit Go.Maps Go.ChangeShapes Go.WideShapes
set_option linter.unusedVariables false
set_option linter.unusedSimpArgs false
theorem add_off3 (ad : Addr) (i : Nat) {j : Nat} (h : 0 < j) : (⟨(ad.add i).block, (ad.add i).off + j, none⟩ : Addr) = ad.add (i + j) := by
  rw [← add_of_add]
  unfold Addr.add
  rw [if_neg (show ¬ j = 0 by omega)]
set_option maxRecDepth 100000 in
theorem open_rows {α : Type} {t e k : Nat} (und : Tryz.prog.underlying t = some (.slice e)) (hk : Tryz.prog.cellsOf e = k) (kpos : 0 < k) {H : Type} {enc : TypeId × Value → H} {w : World} {base : Nat} {held : Bool} (Q : α → Array Value → Prop)
    (one : ∀ y cs, Q y cs → ∀ u ∈ cs.toList, u.oneCell' = true) (each : ∀ fuel cs x, cs.length = k → DataW.trod enc Tryz.prog w base (fun _ => true) held fuel e cs = some x → ∃ y, Q y cs.toArray)
    {a : Option Addr} {len cap : Nat} {d : DataW H} {p : List MemPlace}
    (h : DataW.Trod enc Tryz.prog w base (fun _ => true) held t (.slice a len cap) d p) : (∃ (ys : List α) (css : List (Array Value)), Rd w No k a len css ∧ css.length = ys.length ∧ ∀ (i : Nat) (y : α) (cs : Array Value), ys[i]? = some y → css[i]? = some cs → Q y cs) ∧ len ≤ cap ∧ cap ≤ maxLen := by
  obtain ⟨fuel, hf⟩ := h
  rcases Deep.open_slice und hf with ⟨hcs, _⟩ | ⟨ad, l, c, m, n, D, Pl, hcs, _, hl, hm, hmm, _, hx⟩
  · simp [Value.cells] at hcs
    obtain ⟨rfl, rfl, rfl⟩ := hcs
    exact ⟨⟨[], [], Rd.none_, rfl, fun i y cs e => by simp at e⟩, Nat.le_refl _, by unfold maxLen; omega⟩
  · simp [Value.cells] at hcs
    obtain ⟨rfl, rfl, rfl⟩ := hcs
    have hlm : len ≤ m := by rw [hmm]; split <;> omega
    have each' : ∀ i, i < len → ∃ y : α × Array Value, Q y.1 y.2 ∧ y.2.size = k ∧ ∀ j u, y.2[j]? = some u → w.cell? (ad.add (i * k + j)) = some u := by
      intro i hi
      obtain ⟨cs', h1, h2⟩ := hx i (by omega)
      rw [hk] at h1
      obtain ⟨_, hlen, hcell⟩ := World.cells?_some h1
      obtain ⟨y, hy⟩ := each _ _ _ hlen h2
      refine ⟨(y, cs'.toArray), hy, by simp [hlen], fun j u hu => ?_⟩
      have hj : j < k := by
        have := (Array.getElem?_eq_some_iff.1 hu).1
        simpa [hlen] using this
      have h3 := hcell j (by omega)
      rw [add_of_add] at h3
      rw [h3]
      simpa using hu
    obtain ⟨ys, h1, h2⟩ := choose_list _ len each'
    have hsized : Sized k (ys.map (·.2)) := fun c hc => by
      obtain ⟨y, hy, rfl⟩ := List.mem_map.1 hc
      obtain ⟨i, hi⟩ := List.getElem?_of_mem hy
      obtain ⟨q1, q2, _⟩ := h2 i y hi
      exact ⟨q2, one _ _ q1⟩
    refine ⟨⟨ys.map (·.1), ys.map (·.2), ⟨by simp [h1], hsized, fun h0 => ⟨ad, rfl, ?_, fun h => h, fun j u hu => ?_⟩⟩, by simp, fun i t cs e1 e2 => ?_⟩, hl, hm⟩
    · obtain ⟨y, _, hsz, hc⟩ := each' 0 h0
      have := block_lt_of_cell (hc 0 _ (Array.getElem?_eq_getElem (by omega)))
      rwa [block_of_add] at this
    · obtain ⟨i, c, q, rfl, hi, hq⟩ := flatA_get hsized hu
      rw [List.getElem?_map] at hi
      cases hy : ys[i]? with
      | none => rw [hy] at hi; cases hi
      | some y =>
        rw [hy] at hi
        injection hi with hi
        subst hi
        exact (h2 i y hy).2.2 q u hq
    · rw [List.getElem?_map] at e1 e2
      cases hy : ys[i]? with
      | none => rw [hy] at e1; cases e1
      | some y =>
        rw [hy] at e1 e2
        injection e1 with e1
        injection e2 with e2
        subst e1 e2
        exact (h2 i y hy).1
theorem u8_bounds {n : Int} (h : (Lit.int .u8 n).wf = true) : ∃ m : Nat, n = (m : Int) ∧ m < 256 := by
  have hmin : IntKind.u8.min = 0 := rfl
  have hmax : IntKind.u8.max = 255 := rfl
  simp only [Lit.wf, Bool.and_eq_true, decide_eq_true_eq] at h
  exact ⟨n.toNat, by omega, by omega⟩
theorem cells5 : Tryz.prog.cellsOf 5 = 1 := by kernel_rfl
theorem cells83 : Tryz.prog.cellsOf 83 = 3 := by kernel_rfl
/-- Three bytes. -/
def B3 (y : Nat × Nat × Nat) (cs : Array Value) : Prop := cs = #[.int .u8 (y.1 : Int), .int .u8 (y.2.1 : Int), .int .u8 (y.2.2 : Int)] ∧ y.1 < 256 ∧ y.2.1 < 256 ∧ y.2.2 < 256
set_option maxRecDepth 100000 in
theorem trod_b3 {H : Type} {enc : TypeId × Value → H} {w : World} {base : Nat} {held : Bool} {fuel : Nat} {cs : List Value} {x : DataW H × List MemPlace} (hl3 : cs.length = 3)
    (h : DataW.trod enc Tryz.prog w base (fun _ => true) held fuel 83 cs = some x) : ∃ y, B3 y cs.toArray := by
  obtain ⟨c0, c1, c2, rfl⟩ := list3 hl3
  obtain ⟨xs, n, _, _, _, hl, hf⟩ := DataW.trod_array Tryz.underlying83 h
  obtain ⟨y0, y1, y2, rfl⟩ := list3 hl
  have g0 : DataW.trod enc Tryz.prog w base (fun _ => true) held n 5 [c0] = some y0 := by simpa [cells5] using hf 0 (by omega)
  have g1 : DataW.trod enc Tryz.prog w base (fun _ => true) held n 5 [c1] = some y1 := by simpa [cells5] using hf 1 (by omega)
  have g2 : DataW.trod enc Tryz.prog w base (fun _ => true) held n 5 [c2] = some y2 := by simpa [cells5] using hf 2 (by omega)
  obtain ⟨z0, e0, _, wf0⟩ := DataW.trod_int Tryz.underlying5 g0
  obtain ⟨z1, e1, _, wf1⟩ := DataW.trod_int Tryz.underlying5 g1
  obtain ⟨z2, e2, _, wf2⟩ := DataW.trod_int Tryz.underlying5 g2
  injection e0 with e0
  injection e1 with e1
  injection e2 with e2
  subst e0 e1 e2
  obtain ⟨m0, rfl, q0⟩ := u8_bounds wf0
  obtain ⟨m1, rfl, q1⟩ := u8_bounds wf1
  obtain ⟨m2, rfl, q2⟩ := u8_bounds wf2
  exact ⟨(m0, m1, m2), rfl, q0, q1, q2⟩
/-- A slice of three bytes each. -/
def Rows3 (w : World) (A : Option Addr) (n : Nat) (z : Nat → Nat × Nat × Nat) : Prop :=
  ∀ i, i < n → (z i).1 < 256 ∧ (z i).2.1 < 256 ∧ (z i).2.2 < 256 ∧ ∃ ad, A = some ad ∧ ad.block < w.heap.size ∧ w.cell? (ad.add (i * 3)) = some (.int .u8 ((z i).1 : Int)) ∧ w.cell? (ad.add (i * 3 + 1)) = some (.int .u8 ((z i).2.1 : Int)) ∧ w.cell? (ad.add (i * 3 + 2)) = some (.int .u8 ((z i).2.2 : Int))
theorem Rows3.below {w w' : World} {A : Option Addr} {n : Nat} {z : Nat → Nat × Nat × Nat} (h : Rows3 w A n z) (hb : Below w.heap.size w w') : Rows3 w' A n z := fun i hi => by
  obtain ⟨h1, h2, h3, ad, e, hl, c0, c1, c2⟩ := h i hi
  exact ⟨h1, h2, h3, ad, e, Nat.lt_of_lt_of_le hl hb.size, (hb.cell (p := ad.add (i * 3)) (by rw [block_of_add]; exact hl)).trans c0, (hb.cell (p := ad.add (i * 3 + 1)) (by rw [block_of_add]; exact hl)).trans c1, (hb.cell (p := ad.add (i * 3 + 2)) (by rw [block_of_add]; exact hl)).trans c2⟩
theorem open_rows3 {H : Type} {enc : TypeId × Value → H} {w : World} {base : Nat} {held : Bool} {a : Option Addr} {len cap : Nat} {d : DataW H} {p : List MemPlace}
    (h : DataW.Trod enc Tryz.prog w base (fun _ => true) held 82 (.slice a len cap) d p) : (∃ z, Rows3 w a len z) ∧ len ≤ cap ∧ cap ≤ maxLen := by
  obtain ⟨⟨ys, css, h1, h2, h3⟩, h4, h5⟩ := open_rows Tryz.underlying82 cells83 (by omega) B3 (fun y cs hq u hu => by
    rw [hq.1] at hu
    simp at hu
    rcases hu with rfl | rfl | rfl <;> rfl) (fun fuel cs x hl hf => trod_b3 hl hf) h
  refine ⟨⟨fun i => ys.getD i (0, 0, 0), fun i hi => ?_⟩, h4, h5⟩
  have hc : css.length = len := h1.1
  have hy := List.getElem?_eq_getElem (show i < ys.length by omega)
  have hcs := List.getElem?_eq_getElem (show i < css.length by omega)
  obtain ⟨e, b1, b2, b3⟩ := h3 i _ _ hy hcs
  have hg : ys.getD i (0, 0, 0) = ys[i]'(by omega) := by rw [List.getD_eq_getElem?_getD, hy]; rfl
  simp only [hg]
  obtain ⟨ad, e1, e2, _, e4⟩ := h1.at_ hcs
  rw [e] at e4
  exact ⟨b1, b2, b3, ad, e1, e2, e4 0 _ rfl, e4 1 _ rfl, e4 2 _ rfl⟩
/-- The three bytes of a place, in the form in which a load asks for them. -/
theorem Rows3.at_ {w : World} {A : Option Addr} {n : Nat} {z : Nat → Nat × Nat × Nat} (h : Rows3 w A n z) {i : Nat} (hi : i < n) : (z i).1 < 256 ∧ (z i).2.1 < 256 ∧ (z i).2.2 < 256 ∧ ∃ ad, A = some ad ∧ ad.block < w.heap.size ∧ w.cell? (ad.add (i * 3)) = some (.int .u8 ((z i).1 : Int)) ∧ w.cell? ⟨(ad.add (i * 3)).block, (ad.add (i * 3)).off + 1, none⟩ = some (.int .u8 ((z i).2.1 : Int)) ∧ w.cell? ⟨(ad.add (i * 3)).block, (ad.add (i * 3)).off + 2, none⟩ = some (.int .u8 ((z i).2.2 : Int)) := by
  obtain ⟨h1, h2, h3, ad, e, hl, c0, c1, c2⟩ := h i hi
  exact ⟨h1, h2, h3, ad, e, hl, c0, by rw [add_off3 ad _ (by omega)]; exact c1, by rw [add_off3 ad _ (by omega)]; exact c2⟩
end Go.Proofs.YtpmdicbhliclcaaGreat
