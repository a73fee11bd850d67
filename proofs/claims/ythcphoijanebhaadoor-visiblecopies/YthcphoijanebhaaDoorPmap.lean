/-
  A map by pairs of numbers in memory: what a look and a store leave. Nothing is assumed.
-/
import Derived.Test.YthcphoijanebhaaDoorMapn
import Derived.DeepKeys3
namespace Go.Proofs.YthcphoijanebhaaDoor
open Go.RowKit Go.Maps Go.WideMaps
set_option linter.unusedVariables false
def pr (p : Int × Int) : Value := .agg #[.int .i64 p.1, .int .i64 p.2]
def kl (p : Int × Int) : Lit := .string (keyBytes [.int .i64 p.1, .int .i64 p.2])
def In64P (p : Int × Int) : Prop := In64 p.1 ∧ In64 p.2
set_option maxRecDepth 100000 in
theorem wide83 : (match Tryd.prog.underlying 83 with | some (.array _ _) | some (.struct _) => true | _ => false) = true := by kernel_rfl
set_option maxRecDepth 100000 in
theorem tiled83 : Tryd.prog.tiled 2 83 = true := by kernel_rfl
set_option maxRecDepth 100000 in
theorem law83 : KeyLaw Tryd.prog 83 := deep_law (m := 2) (by omega) (by kernel_rfl) tiled83 wide83
theorem keyed83 : Keyed Tryd.prog 83 := Keyed.of_law law83
set_option maxRecDepth 100000 in
theorem key_pr {p : Int × Int} (h : In64P p) : keyOf Tryd.prog 83 (pr p) = some (kl p) := by
  have u83 : Tryd.prog.underlying 83 = some (.array 2 2) := by kernel_rfl
  have u2 := Tryd.underlying2
  have w1 : (Lit.int .i64 p.1).wf = true := by
    have := h.1
    unfold In64 at this
    simp [Lit.wf, IntKind.min, IntKind.max, IntKind.signed, IntKind.bits]
    omega
  have w2 : (Lit.int .i64 p.2).wf = true := by
    have := h.2
    unfold In64 at this
    simp [Lit.wf, IntKind.min, IntKind.max, IntKind.signed, IntKind.bits]
    omega
  have inner : ∀ n : Int, (Lit.int .i64 n).wf = true → Tryd.prog.keyLits (158 + 1) 2 [.int .i64 n] = some [.int .i64 n] := by
    intro n hn
    unfold Program.keyLits
    rw [u2]
    simp [hn]
  have hsz : Tryd.prog.types.size + 1 = 158 + 1 + 1 := by kernel_rfl
  have h83 : Tryd.prog.cellsOf 83 = 2 := by kernel_rfl
  have h2 : Tryd.prog.cellsOf 2 = 1 := by kernel_rfl
  have hkt : Tryd.prog.keyType 83 = true := by kernel_rfl
  have hf : (pr p).formed Tryd.prog 83 = true := by
    unfold pr Value.formed
    rw [u83]
    simp [h83]
  unfold keyOf
  rw [u83]
  show (if (Tryd.prog.keyType 83 && (pr p).formed Tryd.prog 83) = true then _ else none) = _
  rw [hkt, hf, hsz]
  have hl : Tryd.prog.keyLits (158 + 1 + 1) 83 (pr p).cells.toList = some [.int .i64 p.1, .int .i64 p.2] := by
    have i1 := inner p.1 w1
    have i2 := inner p.2 w2
    unfold Program.keyLits
    simp only [u83, h83, h2]
    have hm : ∀ (g : Nat → Option (List Lit)), g 0 = some [.int .i64 p.1] → g 1 = some [.int .i64 p.2] → (if (pr p).cells.toList.length = 2 then ((List.range 2).mapM g).map List.flatten else none) = some [.int .i64 p.1, .int .i64 p.2] := by
      intro g h0 h1
      have hr : List.range 2 = [0, 1] := rfl
      rw [hr]
      simp [pr, Value.cells, h0, h1]
    exact hm _ i1 i2
  rw [hl]
  rfl
set_option maxRecDepth 100000 in
theorem kl_inj {p q : Int × Int} (hp : In64P p) (hq : In64P q) (h : kl p = kl q) : p = q := by
  have h1 := key_pr hp
  have h2 := key_pr hq
  rw [← h] at h2
  have := keyOf_inj_deep tiled83 wide83 h1 h2
  unfold pr at this
  obtain ⟨a, b⟩ := p
  obtain ⟨c, d⟩ := q
  simpa using this
/-- The map in block m has at most n keys and reads, pair by pair, as f. -/
def PM (w : World) (m n : Nat) (f : Int × Int → Option Nat) : Prop :=
  ∃ D, w.ownsMap Tryd.prog 83 hv m n D ∧ ∀ p, In64P p → Maps.has D (kl p) = (f p).isSome ∧ ∀ v, f p = some v → ∀ z, D.atKey (kl p) z = .held (.int .i64 (v : Int))
section
variable {w w' : World} {m n : Nat} {f g : Int × Int → Option Nat} {S : Nat → Prop}
theorem PM.lt (h : PM w m n f) : m < w.heap.size := by obtain ⟨D, h, _⟩ := h; exact h.lt
theorem PM.obj (h : PM w m n f) : ∃ es c, w.heap[m]? = some (.map es c) := by obtain ⟨D, ⟨es, clock, hb, _⟩, _⟩ := h; exact ⟨es, clock, hb⟩
theorem PM.keepB (h : PM w m n f) (hk : w'.heap[m]? = w.heap[m]?) : PM w' m n f := by
  obtain ⟨D, ⟨es, clock, hb, F, hs, hD⟩, h2⟩ := h
  exact ⟨D, ⟨es, clock, hk.trans hb, F, hs, hD⟩, h2⟩
theorem PM.below (h : PM w m n f) (hb : Below w.heap.size w w') : PM w' m n f := h.keepB (hb.block m h.lt)
theorem PM.keep (h : PM w m n f) (ht : Turn S w w') (hS : ¬ S m) : PM w' m n f := h.keepB (ht.block m h.lt hS)
theorem PM.made (w : World) : PM (w.alloc (.map #[] 0)) w.heap.size 0 (fun _ => none) :=
  ⟨.map [], World.ownsMap_made w _ _ _, fun k _ => ⟨rfl, fun v h => by cases h⟩⟩
theorem und60 : Tryd.prog.underlying 60 = some (.map 83 3) := by kernel_rfl
set_option maxRecDepth 100000 in
theorem PM.look_ok (h : PM w m n f) {p : Int × Int} (hp : In64P p) :
    (Instr.lookup 60 (.map (some m)) (pr p) true).run Tryd.prog w = .ok (.tuple #[.int .i64 (((f p).getD 0 : Nat) : Int), .bool (f p).isSome]) w := by
  obtain ⟨D, hown, hag⟩ := h
  obtain ⟨v, ps, hrun, hv'⟩ := hown.look_ok keyed83 und60 (zero3 w) (zd := .held (.int .i64 0)) rfl (key_pr hp)
  have e : DataW.held v = D.atKey (kl p) (.held (.int .i64 0)) := by unfold hv at hv'; injection hv' with e; injection e
  rw [hrun, (hag p hp).1]
  congr 4
  cases hf : f p with
  | none =>
    have := (hag p hp).1
    rw [hf] at this
    rw [atKey_of_not_has this] at e
    injection e
  | some u =>
    rw [(hag p hp).2 u hf] at e
    injection e
theorem kl_ne {p q : Int × Int} (hp : In64P p) (hq : In64P q) (h : p ≠ q) : kl p ≠ kl q := fun e => h (kl_inj hp hq e)
set_option maxRecDepth 100000 in
theorem PM.store (h : PM w m n f) {p : Int × Int} (hp : In64P p) (v : Nat) (hn : n < maxLen) :
    ∃ w', (Instr.mapUpdate 60 (.map (some m)) (pr p) (.int .i64 (v : Int))).run Tryd.prog w = .ok () w' ∧ PM w' m (n + 1) (fun q => if q = p then some v else f q) ∧ w.grownBy w' (some m) := by
  obtain ⟨D, hown, hag⟩ := h
  obtain ⟨w', hrun, hown', hg⟩ := hown.update keyed83 und60 hn (key_pr hp) (val := .int .i64 (v : Int)) (d := .held (.int .i64 (v : Int))) (ps := []) rfl
  refine ⟨w', hrun, ⟨_, hown', fun q hq => ?_⟩, hg⟩
  by_cases e : q = p
  · subst e
    have e1 : (if q = q then some v else f q) = some v := if_pos rfl
    show _ = (if q = q then some v else f q).isSome ∧ ∀ u, (if q = q then some v else f q) = some u → _
    rw [e1]
    exact ⟨by rw [has_put_same hown.isMap (k := kl q) trivial]; rfl, fun u hu z => by cases hu; exact atKey_put_same hown.isMap (k := kl q) trivial _ _⟩
  · simp only [if_neg e]
    exact ⟨by rw [has_put_other (kl_ne hq hp e)]; exact (hag q hq).1, fun u hu z => by rw [atKey_put_other (kl_ne hq hp e)]; exact (hag q hq).2 u hu z⟩
end
end Go.Proofs.YthcphoijanebhaaDoor
