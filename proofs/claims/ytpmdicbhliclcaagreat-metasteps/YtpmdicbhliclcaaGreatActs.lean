/-
  Acts in a list of one's own: one more, many more. Conditions of an append: at most 1000000000 on each side.
-/
import Derived.Test.YtpmdicbhliclcaaGreatOpen
import Derived.Test.YtpmdicbhliclcaaGreatRef45
namespace Go.Proofs.YtpmdicbhliclcaaGreat
open Go.RowKit Go.Maps Go.ChangeShapes Go.WideShapes
set_option linter.unusedVariables false
set_option linter.unusedSimpArgs false
/-- An element type's facts, for an append: of at most 72 bytes. -/
structure ElA (t e k : Nat) (z : Value) (by_ : Nat) : Prop where
  und : Tryz.prog.underlying t = some (.slice e)
  info : (Tryz.prog.info? e).map (fun i => (i.zero, i.size, i.bytes)) = some (some z, k, by_)
  zc : z.cells.size = k
  pos : 0 < k
  by72 : by_ ≤ 72
def zA : Value := .agg #[.int .i64 0, .int .i64 0, .int .i64 0, .int .i64 0, .int .i64 0, .bool false, .bool false, .slice none 0 0]
theorem el24 : ElA 24 43 8 zA 72 := ⟨Tryz.underlying24, by kernel_rfl, rfl, by omega, by omega⟩
section
variable {t e k by_ : Nat} {z : Value} (E : ElA t e k z by_) (w : World)
include E
set_option maxRecDepth 100000 in
theorem run_append_a (v : Value) (css : List (Array Value)) (hown : OwnK w e k v css) (X : Nat → Prop) (A : Option Addr) (m c : Nat) (kss : List (Array Value)) (hr : Rd w X k A m kss) (ty : TypeId)
    (hl : css.length ≤ 1000000000) (hm : m ≤ 1000000000) :
    ∃ v' w', (Builtin.append_ #[t, t] ty #[v, .slice A m c]).run Tryz.prog w = .ok v' w' ∧ OwnK w' e k v' (css ++ kss) ∧ Grew v w v' w' := by
  obtain ⟨i, hi, hz0, hz1, hz2⟩ := info_parts E.info
  rcases A with _ | ad
  · have h0 : m = 0 := by
      rcases Nat.eq_zero_or_pos m with h0 | h0
      · exact h0
      · obtain ⟨ad, h, _⟩ := hr.2.2 h0
        cases h
    subst h0
    have hk : kss = [] := List.eq_nil_of_length_eq_zero hr.1
    subst hk
    refine ⟨v, w, ?_, by simpa using hown, Grew.refl⟩
    rcases hown.1.2 with ⟨rfl, _⟩ | ⟨g, cap, cur, rfl, _, _, hnc, _⟩
    · simp [Builtin.append_, run_underlying E.und, sizeOf, typeInfo, hi, Builtin.lenOf, Builtin.firstCells]
    · simp [Builtin.append_, run_underlying E.und, sizeOf, typeInfo, hi, Builtin.lenOf, Builtin.firstCells, hnc, storeCells]
  · have hcells : ∀ j u, (flatA kss)[j]? = some u → w.cell? (ad.add j) = some u := by
      intro j u hu
      rcases Nat.eq_zero_or_pos m with h0 | h0
      · subst h0
        have hn : kss = [] := List.eq_nil_of_length_eq_zero hr.1
        subst hn
        simp [flatA] at hu
      · obtain ⟨ad', h, _, _, hc⟩ := hr.2.2 h0
        injection h with h
        subst h
        exact hc j u hu
    have hby : (css.length + m) * by_ ≤ 140737488355328 := Nat.le_trans (Nat.mul_le_mul_left _ E.by72) (by omega)
    obtain ⟨v', w', hrun, h2, h3, _, h5⟩ := run_append_own_at (P := Tryz.prog) w 0 t ty e i z k by_ E.und hi hz0 hz1 hz2 E.zc E.pos v css.length (flatA css) hown.1 ad m c (flatA kss) (by rw [length_flatA hr.2.1, hr.1]) hcells
      (fun u hu => by
        obtain ⟨x, hx, he⟩ := List.mem_flatMap.1 hu
        exact (hr.2.1 x hx).2 u he) (by unfold maxLen; omega) hby (Nat.zero_le _)
    refine ⟨v', w', hrun, ⟨?_, hown.2.app hr.2.1⟩, h3, fun g e => ?_⟩
    · rw [List.length_append, flatA_append, hr.1]
      exact h2
    · rcases h5 with h | h
      · exact .inl (h.symm.trans e)
      · rw [h] at e; injection e with e; exact .inr (by omega)
variable {ops : Array Oper} {rest : List Oper} {o : Oper} {a : Act} {Q : Exit → Act → World → Prop}
set_option maxRecDepth 100000 in
theorem wpList_append_a (hw : Region.wanted o (yielded ops a.tmps) = true) (s x : Operand)
    (ho : o.op = .call { callee := .builtin .append, args := #[s, x], argTypes := #[t, t] })
    (v : Value) (css : List (Array Value)) (hs : a.eval s = v) (hown : OwnK w e k v css) (X : Nat → Prop) (A : Option Addr) (m c : Nat) (kss : List (Array Value)) (hx : a.eval x = .slice A m c) (hr : Rd w X k A m kss)
    (hl : css.length ≤ 1000000000) (hm : m ≤ 1000000000)
    (h : ∀ v' w', OwnK w' e k v' (css ++ kss) → Grew v w v' w' → wpList Tryz.prog ops Q rest (a.put o.dst v') w') : wpList Tryz.prog ops Q (o :: rest) a w := by
  refine BigFrame.wpList_want hw fun K hK => ?_
  obtain ⟨v', w', hrun, h2, h3⟩ := run_append_a E w v css hown X A m c kss hr o.type hl hm
  unfold Oper.wp execOp
  simp only [ho, resolve, invoke, builtin, Sem.run_bind, Sem.run_pure, Result.andThen_ok, List.map_toArray, List.map_cons, List.map_nil, hs, hx, hrun]
  exact hK _ _ (h v' w' h2 h3)
end
section
variable {ops : Array Oper} {o : Oper} {a : Act} {w : World} {K : Act → World → Prop} {Q : Exit → Act → World → Prop} {E : Prop} {d : Nat}
theorem step_append_a {t e k by_ : Nat} {z : Value} (El : ElA t e k z by_) (hw : Region.wanted o (yielded ops a.tmps) = true) (hd : o.dst = some d) (s x : Operand)
    (ho : o.op = .call { callee := .builtin .append, args := #[s, x], argTypes := #[t, t] })
    (v : Value) (css : List (Array Value)) (hs : a.eval s = v) (hown : OwnK w e k v css) (X : Nat → Prop) (A : Option Addr) (m c : Nat) (kss : List (Array Value)) (hx : a.eval x = .slice A m c) (hr : Rd w X k A m kss)
    (hl : css.length ≤ 1000000000) (hm : m ≤ 1000000000)
    (h : ∀ v' w', OwnK w' e k v' (css ++ kss) → Grew v w v' w' → K { a with tmps := a.tmps.setIfInBounds d v' } w') : if Region.wanted o (yielded ops a.tmps) = true then Oper.wp Tryz.prog o a w K Q else E := by
  rw [if_pos hw]
  obtain ⟨v', w', hrun, h2, h3⟩ := run_append_a El w v css hown X A m c kss hr o.type hl hm
  unfold Oper.wp execOp
  simp only [ho, resolve, invoke, builtin, Sem.run_bind, Sem.run_pure, Result.andThen_ok, List.map_toArray, List.map_cons, List.map_nil, hs, hx, hrun]
  show K (a.put o.dst v') w'
  rw [hd]
  exact h v' w' h2 h3
end
/-- Acts that bear no list, as rows. -/
def rowA (l : List Ac) : List (Array Value) := l.map fun x => aArr x (.slice none 0 0)
theorem rowA_len (l : List Ac) : (rowA l).length = l.length := by simp [rowA]
theorem rowA_app (l k : List Ac) : rowA (l ++ k) = rowA l ++ rowA k := by simp [rowA]
theorem rowA_sized (l : List Ac) : Sized 8 (rowA l) := by
  intro c hc
  obtain ⟨y, -, rfl⟩ := List.mem_map.1 hc
  exact ⟨rfl, by simp [aArr, Value.oneCell']⟩
theorem rd_lit {W : World} {X : Nat → Prop} {g : Nat} {t : TypeId} {cs : Array Value} {l : List Ac} {n : Nat} (hb : Blk W g t cs) (he : cs.toList = flatA (rowA l)) (hn : l.length = n) (hX : ¬ X g) : Rd W X 8 (some ⟨g, 0, none⟩) n (rowA l) := by
  refine ⟨by rw [rowA_len, hn], rowA_sized l, fun _ => ⟨_, rfl, hb.lt, hX, fun j u hu => ?_⟩⟩
  rw [add0, hb.cell j, ← Array.getElem?_toList, he]
  exact hu
/-- A list of acts that is being made. -/
structure AcI (w : World) (l : List Ac) (v : Value) (W : World) : Prop where
  own : OwnK W 43 8 v (rowA l)
  fresh : ∀ b, v.ownBlock = some b → w.heap.size ≤ b
  low : Below w.heap.size w W
theorem AcI.one {w W : World} (h : Below w.heap.size w W) (x : Ac) : AcI w [x] (.slice (some ⟨W.heap.size, 0, none⟩) 1 1) (W.alloc (.cells (aArr x (.slice none 0 0)) 43)) := by
  refine ⟨⟨⟨by simp [flatA, rowA, aArr], .inr ⟨W.heap.size, 1, aArr x (.slice none 0 0), rfl, Nat.zero_le _, heap_alloc_new W _, Nat.le_refl _, by unfold maxLen; omega, rfl, rfl⟩⟩, rowA_sized _⟩, fun b e => ?_, h.alloc h.size _⟩
  simp [Value.ownBlock] at e
  have := h.size
  omega
theorem AcI.nil (w : World) : AcI w [] (.slice none 0 0) w := ⟨OwnK.nil _ _ _, fun z e => (nomatch e), Below.refl _ _⟩
theorem AcI.more {w W w9 : World} {l k : List Ac} {v v9 : Value} {o : Obj} (h : AcI w l v W) (ho : OwnK w9 43 8 v9 (rowA l ++ rowA k)) (hg : Grew v (W.alloc o) v9 w9) : AcI w (l ++ k) v9 w9 := by
  refine ⟨by rw [rowA_app]; exact ho, fun z e => ?_, below_grew (h.low.alloc h.low.size _) hg h.fresh (le_alloc h.low.size _)⟩
  rcases hg.2 z e with q | q
  · exact h.fresh z q
  · exact Nat.le_trans (le_alloc h.low.size _) q
theorem AcI.form {w W : World} {l : List Ac} {v : Value} (h : AcI w l v W) : ∃ A c, v = .slice A l.length c := by
  obtain ⟨A, q, c, e, e2, -, -⟩ := h.own.form
  rw [rowA_len] at e2
  exact ⟨A, c, by rw [e, e2]⟩
theorem AcI.acts {w W : World} {l : List Ac} {A : Option Addr} {n c : Nat} (h : AcI w l (.slice A n c) W) : ActR W No A (l.map fun x => (x, [])) := by
  have hr := h.own.rd (X := No) (fun _ _ e => e)
  have hn : n = l.length := by have := hr.1; rw [rowA_len] at this; exact this.symm
  subst hn
  refine ⟨⟨fun _ => .slice none 0 0, ?_, fun i x hx => ?_⟩⟩
  · have e : (rowsOf (l.map fun x => ((x, []) : Ac × List Int)).length fun i => match (l.map fun x => ((x, []) : Ac × List Int))[i]? with | some x => aArr x.1 (.slice none 0 0) | none => #[]) = rowA l := by
      refine List.ext_getElem? fun i => ?_
      by_cases hi : i < l.length
      · rw [rowsOf_at _ (by simpa using hi)]
        simp [rowA, List.getElem?_eq_getElem hi]
      · rw [List.getElem?_eq_none (by rw [rowsOf_len]; simpa using hi), List.getElem?_eq_none (by rw [rowA_len]; omega)]
    suffices hR : Rd W No 8 A (l.map fun x => ((x, []) : Ac × List Int)).length (rowA l) by
      rw [← e] at hR
      exact hR
    rw [List.length_map]
    exact hr
  · rw [List.getElem?_map] at hx
    obtain ⟨y, -, rfl⟩ := Option.map_eq_some_iff.1 hx
    exact ⟨none, 0, rfl, Rd.none_⟩
theorem cells65 : Tryz.prog.cellsOf 65 = 2 := by kernel_rfl
theorem two_of {cs : Array Value} (h : cs.size = 2) : ∃ c0 c1, cs = #[c0, c1] := by
  obtain ⟨l⟩ := cs
  match l, h with
  | [c0, c1], _ => exact ⟨c0, c1, rfl⟩
theorem list2 {α : Type} {l : List α} (h : l.length = 2) : ∃ c0 c1, l = [c0, c1] := by
  match l, h with
  | [c0, c1], _ => exact ⟨c0, c1, rfl⟩
set_option maxRecDepth 100000 in
theorem open_ending {H : Type} {enc : TypeId × Value → H} {w : World} {b0 base : Nat} {spare : Nat → Bool} {held : Bool} {r : Reach} {v : Value} {d : DataW H} {p : List MemPlace}
    (hv : Value.okWide Tryz.prog w r b0 65 v) (h : DataW.Trod enc Tryz.prog w base spare held 65 v d p) : ∃ (c : Bool) (o : Int), v = .agg #[.bool c, .int .i64 o] := by
  obtain ⟨cs, rfl, hsz⟩ := okWide_struct Tryz.underlying65 hv
  obtain ⟨c0, c1, rfl⟩ := two_of (hsz.trans cells65)
  obtain ⟨fuel, hf⟩ := h
  have hf' : DataW.trod enc Tryz.prog w base spare held fuel 65 [c0, c1] = some (d, p) := by simpa [Value.cells] using hf
  obtain ⟨xs, n, _, _, _, hl, hf⟩ := DataW.trod_struct Tryz.underlying65 hf'
  obtain ⟨y0, y1, rfl⟩ := list2 hl
  have g0 : DataW.trod enc Tryz.prog w base spare held n 4 [c0] = some y0 := by
    have := hf 0 _ rfl
    simpa [cells4] using this
  have g1 : DataW.trod enc Tryz.prog w base spare held n 2 [c1] = some y1 := by
    have := hf 1 _ rfl
    simpa [cells2] using this
  obtain ⟨z0, e0, _⟩ := DataW.trod_bool Tryz.underlying4 g0
  obtain ⟨z1, e1, _, wf1⟩ := DataW.trod_int Tryz.underlying2 g1
  injection e0 with e0
  injection e1 with e1
  subst e0 e1
  exact ⟨z0, z1, rfl⟩
end Go.Proofs.YtpmdicbhliclcaaGreat
