/-
  A number is put into a rising list at its place, unless it is there. Conditions: at most 1000000 numbers.
-/
import Derived.Test.YtpmdicbhliclcaaGreatSpecM
import Derived.Test.YtpmdicbhliclcaaGreatShelf
import Derived.Shelf.Spec.SlicesInsert
import Derived.Shelf.Spec.SlicesInsertGrow
namespace Go.Proofs
open Go.Shelf
def Tryz.laysNm221_ren : Go.Shelf.Ren := ⟨fun | 21 => 115 | 27 => 120 | 28 => 121 | 35 => 123 | 39 => 124 | n => n, fun | 22 => 41 | 3 => 3 | 4 => 4 | 0 => 0 | n => n, fun | n => n⟩
theorem Tryz.laysNm221 : Go.Proofs.Lays2.n21 Tryz.prog Tryz.laysNm221_ren := {
  mixed := by kernel_rfl
  f21 := Tryz.func115.trans (congrArg some (by kernel_rfl))
  f27 := Tryz.func120.trans (congrArg some (by kernel_rfl))
  f28 := Tryz.func121.trans (congrArg some (by kernel_rfl))
  f35 := Tryz.func123.trans (congrArg some (by kernel_rfl))
  f39 := Tryz.func124.trans (congrArg some (by kernel_rfl))
  t0 := Tryz.underlying0
  a0 := Tryz.isAgg0
  z0 := Tryz.sizeOf0
  v0 := Tryz.zeroValue0
  t3 := Tryz.underlying3
  a3 := Tryz.isAgg3
  z3 := Tryz.sizeOf3
  v3 := Tryz.zeroValue3
  t4 := Tryz.underlying4
  a4 := Tryz.isAgg4
  z4 := Tryz.sizeOf4
  v4 := Tryz.zeroValue4
  t22 := Tryz.underlying41
  a22 := Tryz.isAgg41
  z22 := Tryz.sizeOf41
  v22 := Tryz.zeroValue41
  i3 := by kernel_rfl }
end Go.Proofs
namespace Go.Proofs.YtpmdicbhliclcaaGreat
open Go.RowKit Go.Maps Go.Lib
set_option linter.unusedVariables false
def vals (V : List Int) : List Value := V.map fun z => .int .i64 z
theorem flat_ints (V : List Int) : flatA (intsOf V) = vals V := by
  induction V with
  | nil => rfl
  | cons x V ih =>
    show (#[Value.int .i64 x] : Array Value).toList ++ flatA (intsOf V) = _
    rw [ih]; rfl
theorem vals_at {V : List Int} {q : Nat} {v : Value} (h : (vals V)[q]? = some v) : ∃ y, V[q]? = some y ∧ v = .int .i64 y := by
  unfold vals at h
  rw [List.getElem?_map] at h
  cases hq : V[q]? with
  | none => rw [hq] at h; cases h
  | some y => rw [hq] at h; injection h with h; exact ⟨y, rfl, h.symm⟩
theorem vals_get {V : List Int} {q : Nat} {y : Int} (h : V[q]? = some y) : (vals V)[q]? = some (.int .i64 y) := by
  unfold vals; rw [List.getElem?_map, h]; rfl
theorem vals_one (V : List Int) : ∀ v ∈ vals V, v.oneCell' = true := fun v hv => by
  obtain ⟨y, -, rfl⟩ := List.mem_map.1 hv
  rfl
theorem own_of {g n c b : Nat} (h : (Value.slice (some ⟨g, 0, none⟩) n c).ownBlock = some b) : g = b := Option.some.inj h
theorem zc_size (n : Nat) : (Builtin.zeroCells (Value.int .i64 0).cells n).size = n := by rw [size_zeroCells]; simp [Value.cells]
theorem ren3 : Tryz.laysNm221_ren.t 3 = 3 := rfl
/-- A row that is owned, as a block. -/
theorem own_blk {w : World} {v : Value} {V : List Int} (h : OwnK w 3 1 v (intsOf V)) : (v = .slice none 0 0 ∧ V = []) ∨ ∃ g c cur, v = .slice (some ⟨g, 0, none⟩) V.length c ∧ Blk w g 3 cur ∧ V.length ≤ c ∧ c ≤ maxLen ∧ cur.size = c ∧ ∀ (q : Nat) (y : Int), V[q]? = some y → cur[q]? = some (.int .i64 y) := by
  have hl : (intsOf V).length = V.length := by simp [intsOf]
  rcases h.1.2 with ⟨h1, h2⟩ | ⟨g, cap, cur, h1, h2, h3, h4, h5, h6, h7⟩
  · exact .inl ⟨h1, List.eq_nil_of_length_eq_zero (by omega)⟩
  · refine .inr ⟨g, cap, cur, by rw [h1, hl], h3, by omega, h5, by omega, fun q y hq => ?_⟩
    have hlt := (List.getElem?_eq_some_iff.1 hq).1
    have e : (cur.toList.take ((intsOf V).length * 1))[q]? = some (.int .i64 y) := by rw [h7, flat_ints]; exact vals_get hq
    rw [List.getElem?_take, if_pos (by omega), Array.getElem?_toList] at e
    exact e
section
variable {w : World} {V : List Int} {A : Option Addr} {n c : Nat}
/-- What is known behind a number's coming. -/
def InsP (w : World) (A : Option Addr) (n c : Nat) (U : List Int) (r : Ending) (w' : World) : Prop :=
  ∃ v, r = .returned v ∧ OwnK w' 3 1 v (intsOf U) ∧ (∀ b, v.ownBlock = some b → (Value.slice A n c).ownBlock = some b ∨ w.heap.size ≤ b) ∧ Turn (fun b => (Value.slice A n c).ownBlock = some b) w w'
set_option maxRecDepth 100000 in
theorem insert_any (h : OwnK w 3 1 (.slice A n c) (intsOf V)) (hn : n ≤ 1000000) {i : Nat} (hi : i ≤ n) {vb : Nat} {x : Int} (hx : Blk w vb 3 #[.int .i64 x]) (hvb : (Value.slice A n c).ownBlock ≠ some vb) :
    Calls Tryz.prog 115 #[.slice A n c, .int .i64 i, .slice (some ⟨vb, 0, none⟩) 1 1] w (InsP w A n c (V.take i ++ x :: V.drop i)) := by
  have hvs : ∀ j v, ([Value.int .i64 x])[j]? = some v → w.cell? ⟨vb, 0 + j, none⟩ = some v := fun j v hj => by
    rcases j with _ | j
    · injection hj with hj; subst hj; exact hx.cell 0
    · simp at hj
  have h1v : ∀ v ∈ [Value.int .i64 x], v.oneCell' = true := fun v hv => by simp at hv; subst hv; rfl
  rcases own_blk h with ⟨e, rfl⟩ | ⟨g, c', cur, e, hb, hlc, hcm, hcs, hcur⟩
  · injection e with e1 e2 e3
    subst e1 e2 e3
    obtain rfl : i = 0 := by omega
    have hI := Any2.slices_Insert_int_end_grow Tryz.laysNm221 none 0 0 vb 0 1 1 [] [.int .i64 x] w (by omega) (by omega) (by omega) (by omega) rfl rfl (fun _ => rfl) (fun a q => nomatch q) hvs h1v
    refine hI.mono ?_
    rintro r w' ⟨rfl, rfl⟩
    refine ⟨_, rfl, ?_, fun b q => .inr (by have := own_of q; omega), ?_⟩
    · have hge := grownCap_ge w (0 + 1) 0 3
      have hle := grownCap_le_maxLen w (0 + 1) 0 3 (by unfold maxLen; omega)
      simp only [ren3]
      generalize grownCap w (0 + 1) 0 3 = G at *
      refine ownK_first (F := [x]) (w := w.drew.alloc _) (g := w.heap.size) (Blk.new w.drew 3 _) hle ?_ (by simp; omega) (fun q y hq => ?_)
      · simp only [Array.size_append, zc_size, List.size_toArray]
        simp
        omega
      · rcases q with _ | q
        · injection hq with hq
          subst hq
          rw [Array.getElem?_append_left (by simp)]
          rfl
        · simp at hq
    · exact (Turn.of_below (Below.refl _ _).drew _).alloc _
  · injection e with e1 e2 e3
    subst e1 e2 e3
    have hown : (Value.slice (some ⟨g, 0, none⟩) V.length c).ownBlock = some g := rfl
    have hgv : vb ≠ g := fun e => hvb (by rw [hown, e])
    have hcs' : ∀ j v, (vals V)[j]? = some v → w.cell? ⟨g, 0 + j, none⟩ = some v := fun j v hj => by
      obtain ⟨y, hy, rfl⟩ := vals_at hj
      rw [Nat.zero_add, hb.cell]
      exact hcur j y hy
    have hvl : (vals V).length = V.length := by simp [vals]
    have hsome : ∀ j, j < c → (w.cell? ⟨g, 0 + j, none⟩).isSome = true := fun j hj => by
      rw [Nat.zero_add, hb.cell]; simp [hcs, hj]
    have hfz : ∀ j, w.frozen? ⟨g, 0 + j, none⟩ = false := fun j => hb.frozen _
    have hFl : (V.take i ++ x :: V.drop i).length = V.length + 1 := by simp; omega
    -- what stands where
    have hF : ∀ (q : Nat) (y : Int), (V.take i ++ x :: V.drop i)[q]? = some y → (q < i ∧ V[q]? = some y) ∨ (q = i ∧ y = x) ∨ (i < q ∧ V[q - 1]? = some y) := fun q y hq => by
      rcases Nat.lt_trichotomy q i with r | r | r
      · rw [List.getElem?_append_left (by simp; omega), List.getElem?_take, if_pos r] at hq
        exact .inl ⟨r, hq⟩
      · subst r
        rw [List.getElem?_append_right (by simp; omega), List.length_take, show q - min q V.length = 0 by omega] at hq
        injection hq with hq
        exact .inr (.inl ⟨rfl, hq.symm⟩)
      · rw [List.getElem?_append_right (by simp; omega), List.length_take, show q - min i V.length = (q - i - 1) + 1 by omega, List.getElem?_cons_succ, List.getElem?_drop, show i + (q - i - 1) = q - 1 by omega] at hq
        exact .inr (.inr ⟨r, hq⟩)
    by_cases hroom : V.length + 1 ≤ c
    · -- there is room: the same block
      have key : ∀ W : World, (∃ cs', Blk W g 3 cs' ∧ cs'.size = c) → (∀ (q : Nat) (y : Int), (V.take i ++ x :: V.drop i)[q]? = some y → W.cell? ⟨g, q, none⟩ = some (.int .i64 y)) → Turn (fun b => b = g) w W →
          InsP w (some ⟨g, 0, none⟩) V.length c (V.take i ++ x :: V.drop i) (.returned (.slice (some ⟨g, 0, none⟩) (V.length + 1) c)) W := fun W hW hc hT => by
        obtain ⟨cs', hb', hs'⟩ := hW
        refine ⟨_, rfl, ?_, fun b q => .inl (by have := own_of q; rw [hown, this]), hT.mono (fun b _ e => by rw [hown, e])⟩
        have := ownK_first (F := V.take i ++ x :: V.drop i) hb' hcm hs' (by omega) (fun q y hq => by rw [← hb'.cell]; exact hc q y hq)
        rwa [hFl] at this
      rcases Nat.lt_or_ge i V.length with hlt | hge
      · have hI := Any2.slices_Insert_int_shift Tryz.laysNm221 g 0 V.length c i vb 0 1 1 (vals V) [.int .i64 x] w hlt (by omega) hroom (by unfold maxLen at hcm; omega) hgv hvl rfl hcs'
          (fun j hj => hsome j (by omega)) (fun j _ => hfz j) hvs (vals_one V) h1v 3 3 1 c (by unfold World.shape?; unfold Blk at hx; rw [hx]; rfl) (by unfold World.shape?; unfold Blk at hb; rw [hb]; simp [hcs]) (by omega) (hx.frozen 0) (hx.frozen 1)
        refine hI.mono ?_
        rintro r w' ⟨rfl, rfl⟩
        have hb1 : Blk w.drew g 3 cur := hb.drew
        obtain ⟨c1, hb2, hs2, -⟩ := Blk.setCells (vs := (vals V).drop i) (0 + (i + 1)) hb1
        obtain ⟨c2, hb3, hs3, -⟩ := Blk.setCells (vs := [.int .i64 x]) (0 + i) hb2
        have hdl : ((vals V).drop i).length = V.length - i := by rw [List.length_drop, hvl]
        have hs1 : ∀ j, j < ((vals V).drop i).length → (w.drew.cell? ⟨g, 0 + (i + 1) + j, none⟩).isSome = true := fun j hj => by
          have := hsome (i + 1 + j) (by omega)
          rwa [show 0 + (i + 1) + j = 0 + (i + 1 + j) by omega]
        refine key _ ⟨c2, hb3, by omega⟩ (fun q y hq => ?_) (((Turn.refl (fun b => b = g) w).drew.trans (setCells_turn g _ _ _) (fun _ _ e => e)).trans (setCells_turn g _ _ _) (fun _ _ e => e))
        rcases hF q y hq with ⟨r, e⟩ | ⟨r, e⟩ | ⟨r, e⟩
        · rw [World.cell?_setCells_out g _ _ _ ⟨g, q, none⟩ (fun _ _ => .inl (by show q < 0 + i; omega)), World.cell?_setCells_out g _ _ _ ⟨g, q, none⟩ (fun _ _ => .inl (by show q < 0 + (i + 1); omega))]
          have := hcs' q _ (vals_get e)
          rwa [Nat.zero_add] at this
        · subst r e
          have := World.cell?_setCells_in g [.int .i64 y] (0 + q) (w.drew.setCells g (0 + (q + 1)) ((vals V).drop q)) (fun j hj => by
            simp at hj
            subst hj
            rw [World.cell?_setCells_out g _ _ _ ⟨g, 0 + q + 0, none⟩ (fun _ _ => .inl (by show 0 + q + 0 < 0 + (q + 1); omega))]
            exact hsome q (by omega)) 0 (by simp)
          rw [show 0 + q + 0 = q by omega] at this
          exact this
        · rw [World.cell?_setCells_out g _ _ _ ⟨g, q, none⟩ (fun _ _ => .inr (by show 0 + i + [Value.int .i64 x].length ≤ q; simp; omega))]
          have hql := (List.getElem?_eq_some_iff.1 e).1
          have := World.cell?_setCells_in g ((vals V).drop i) (0 + (i + 1)) w.drew hs1 (q - i - 1) (by omega)
          rw [show 0 + (i + 1) + (q - i - 1) = q by omega] at this
          rw [this]
          have h2 : ((vals V).drop i)[q - i - 1]? = some (.int .i64 y) := by rw [List.getElem?_drop, show i + (q - i - 1) = q - 1 by omega]; exact vals_get e
          rw [List.getElem?_eq_getElem (by omega)] at h2
          exact h2
      · obtain rfl : i = V.length := by omega
        have hI := Any2.slices_Insert_int_end_room Tryz.laysNm221 g 0 V.length c vb 0 1 1 [.int .i64 x] w (by omega) hroom (by unfold maxLen at hcm; omega) rfl (fun j hj => by have := hsome (V.length + j) (by omega); rwa [show 0 + V.length + j = 0 + (V.length + j) by omega]) (fun j hj => by rw [Nat.add_assoc]; exact hfz _) hvs h1v
        refine hI.mono ?_
        rintro r w' ⟨rfl, rfl⟩
        obtain ⟨c2, hb3, hs3, -⟩ := Blk.setCells (vs := [.int .i64 x]) (0 + V.length) hb
        refine key _ ⟨c2, hb3, by omega⟩ (fun q y hq => ?_) (setCells_turn g _ _ _)
        rcases hF q y hq with ⟨r, e⟩ | ⟨r, e⟩ | ⟨r, e⟩
        · rw [World.cell?_setCells_out g _ _ _ ⟨g, q, none⟩ (fun _ _ => .inl (by show q < 0 + V.length; omega))]
          have := hcs' q _ (vals_get e)
          rwa [Nat.zero_add] at this
        · subst e
          have := World.cell?_setCells_in g [.int .i64 y] (0 + V.length) w (fun j hj => by
            simp at hj
            subst hj
            have := hsome V.length (by omega)
            rwa [Nat.add_zero]) 0 (by simp)
          rw [show 0 + V.length + 0 = q by omega] at this
          exact this
        · have := (List.getElem?_eq_some_iff.1 hq).1
          omega
    · -- no room: a new block
      have hge := grownCap_ge w (V.length + 1) c 3
      have hle := grownCap_le_maxLen w (V.length + 1) c 3 (by unfold maxLen; omega)
      rcases Nat.lt_or_ge i V.length with hlt | hge2
      · have hI := Any2.slices_Insert_int_grow Tryz.laysNm221 g 0 V.length c i vb 0 1 1 (vals V) [.int .i64 x] w hlt (by omega) hlc (by omega) (by omega) hvl rfl hcs' hvs (vals_one V) h1v
        refine hI.mono ?_
        rintro r w' ⟨rfl, rfl⟩
        generalize hG : grownCap w (V.length + 1) c (Tryz.laysNm221_ren.t 3) = G at *
        have hG2 : grownCap w (V.length + 1) c 3 = G := hG
        rw [hG2] at hge hle
        have htl : ((vals V).take i).length = i := by rw [List.length_take]; omega
        have hb0 : Blk (w.alloc (.cells (((vals V).take i).toArray ++ Builtin.zeroCells (Value.int .i64 0).cells (V.length + 1 - i) ++ Builtin.zeroCells (Value.int .i64 0).cells (G - (V.length + 1))) 3)) w.heap.size 3 (((vals V).take i).toArray ++ Builtin.zeroCells (Value.int .i64 0).cells (V.length + 1 - i) ++ Builtin.zeroCells (Value.int .i64 0).cells (G - (V.length + 1))) := Blk.new w 3 _
        have hT0 : Turn (fun b => (Value.slice (some ⟨g, 0, none⟩) V.length c).ownBlock = some b) w (w.alloc (.cells (((vals V).take i).toArray ++ Builtin.zeroCells (Value.int .i64 0).cells (V.length + 1 - i) ++ Builtin.zeroCells (Value.int .i64 0).cells (G - (V.length + 1))) 3)) := (Turn.refl _ w).alloc _
        have hsz : (((vals V).take i).toArray ++ Builtin.zeroCells (Value.int .i64 0).cells (V.length + 1 - i) ++ Builtin.zeroCells (Value.int .i64 0).cells (G - (V.length + 1))).size = G := by
          simp only [Array.size_append, zc_size, List.size_toArray, htl]
          omega
        have hpre : ∀ q, q < i → (((vals V).take i).toArray ++ Builtin.zeroCells (Value.int .i64 0).cells (V.length + 1 - i) ++ Builtin.zeroCells (Value.int .i64 0).cells (G - (V.length + 1)))[q]? = (vals V)[q]? := fun q hq => by
          rw [Array.getElem?_append_left (by simp only [Array.size_append, zc_size, List.size_toArray, htl]; omega), Array.getElem?_append_left (by simp only [List.size_toArray, htl]; omega)]
          simp [hq]
        show InsP w _ _ _ _ _ ((((w.alloc (.cells (((vals V).take i).toArray ++ Builtin.zeroCells (Value.int .i64 0).cells (V.length + 1 - i) ++ Builtin.zeroCells (Value.int .i64 0).cells (G - (V.length + 1))) 3)).drew.setCells w.heap.size i [.int .i64 x]).drew).setCells w.heap.size (i + 1) ((vals V).drop i))
        generalize (((vals V).take i).toArray ++ Builtin.zeroCells (Value.int .i64 0).cells (V.length + 1 - i) ++ Builtin.zeroCells (Value.int .i64 0).cells (G - (V.length + 1))) = arr at *
        generalize w.alloc (.cells arr 3) = w1 at *
        have hs1 : ∀ j, j < G → (w1.cell? ⟨w.heap.size, j, none⟩).isSome = true := fun j hj => by rw [hb0.cell]; simp [hsz, hj]
        obtain ⟨c1, hb2, hs2, -⟩ := Blk.setCells (vs := [.int .i64 x]) i hb0.drew
        obtain ⟨c2, hb3, hs3, -⟩ := Blk.setCells (vs := (vals V).drop i) (i + 1) hb2.drew
        have hdl : ((vals V).drop i).length = V.length - i := by rw [List.length_drop, hvl]
        have hne : ∀ b, (Value.slice (some ⟨g, 0, none⟩) V.length c).ownBlock = some b → b < w.heap.size := fun b e => by
          rw [hown] at e; injection e with e; rw [← e]; exact hb.lt
        have hTF : Turn (fun b => b = w.heap.size) w1 (((w1.drew.setCells w.heap.size i [.int .i64 x]).drew).setCells w.heap.size (i + 1) ((vals V).drop i)) :=
          (((Turn.refl (fun b => b = w.heap.size) w1).drew.trans (setCells_turn _ _ _ _) (fun _ _ e => e)).drew).trans (setCells_turn _ _ _ _) (fun _ _ e => e)
        refine ⟨_, rfl, ?_, fun b q => .inr (by have := own_of q; omega), ?_⟩
        · have := ownK_first (F := V.take i ++ x :: V.drop i) (c := G) hb3 hle (by omega) (by omega) (fun q y hq => by
            rw [← hb3.cell]
            rcases hF q y hq with ⟨r, e⟩ | ⟨r, e⟩ | ⟨r, e⟩
            · rw [World.cell?_setCells_out _ _ _ _ ⟨w.heap.size, q, none⟩ (fun _ _ => .inl (by show q < i + 1; omega))]
              show (w1.drew.setCells w.heap.size i [.int .i64 x]).cell? _ = _
              rw [World.cell?_setCells_out _ _ _ _ ⟨w.heap.size, q, none⟩ (fun _ _ => .inl (by show q < i; omega))]
              show w1.cell? _ = _
              rw [hb0.cell, hpre q r]
              exact vals_get e
            · subst r e
              rw [World.cell?_setCells_out _ _ _ _ ⟨w.heap.size, q, none⟩ (fun _ _ => .inl (by show q < q + 1; omega))]
              exact World.cell?_setCells_in _ [.int .i64 y] q w1.drew (fun j hj => by
                simp at hj
                subst hj
                exact hs1 _ (by omega)) 0 (by simp)
            · have hql := (List.getElem?_eq_some_iff.1 e).1
              have := World.cell?_setCells_in w.heap.size ((vals V).drop i) (i + 1) (w1.drew.setCells w.heap.size i [.int .i64 x]).drew (fun j hj => by
                rw [hb2.drew.cell]; simp; omega) (q - i - 1) (by omega)
              rw [show i + 1 + (q - i - 1) = q by omega] at this
              rw [this]
              have h2 : ((vals V).drop i)[q - i - 1]? = some (.int .i64 y) := by rw [List.getElem?_drop, show i + (q - i - 1) = q - 1 by omega]; exact vals_get e
              rw [List.getElem?_eq_getElem (by omega)] at h2
              exact h2)
          rwa [hFl] at this
        · exact hT0.trans hTF (fun b hb e => absurd hb (by omega))
      · obtain rfl : i = V.length := by omega
        have hI := Any2.slices_Insert_int_end_grow Tryz.laysNm221 (some ⟨g, 0, none⟩) V.length c vb 0 1 1 (vals V) [.int .i64 x] w (by omega) hlc (by omega) (by omega) hvl rfl (fun q => nomatch q) (fun a ea j v hj => by
          injection ea with ea
          subst ea
          rw [Addr.add_lit]
          exact hcs' j v hj) hvs h1v
        refine hI.mono ?_
        rintro r w' ⟨rfl, rfl⟩
        refine ⟨_, rfl, ?_, fun b q => .inr (by have := own_of q; omega), (Turn.of_below (Below.refl _ _).drew _).alloc _⟩
        simp only [ren3]
        have := ownK_first (F := V.take V.length ++ x :: V.drop V.length) (c := grownCap w (V.length + 1) c 3) (w := w.drew.alloc _) (g := w.heap.size) (Blk.new w.drew 3 ((vals V ++ [Value.int .i64 x]).toArray ++ Builtin.zeroCells (Value.int .i64 0).cells (grownCap w (V.length + 1) c 3 - (V.length + 1)))) hle (by simp only [Array.size_append, zc_size, List.size_toArray, List.length_append, hvl, List.length_singleton]; omega) (by omega) (fun q y hq => by
          have hql := (List.getElem?_eq_some_iff.1 hq).1
          rw [Array.getElem?_append_left (by simp only [List.size_toArray, List.length_append, hvl, List.length_singleton]; omega)]
          rw [List.take_length, List.drop_length] at hq
          have e2 : vals V ++ [Value.int .i64 x] = vals (V ++ [x]) := by simp [vals]
          rw [e2, List.getElem?_toArray]
          exact vals_get hq)
        rwa [hFl] at this
theorem count_le {V : List Int} {x : Int} : V.countP (· < x) ≤ V.length := List.countP_le_length
set_option maxRecDepth 100000 in
set_option maxHeartbeats 4000000 in
theorem with_any (h : OwnK w 3 1 (.slice A n c) (intsOf V)) (hn : n ≤ 1000000) (hs : V.Pairwise (· < ·)) (x : Int) :
    Calls Tryz.prog 107 #[.slice A n c, .int .i64 x] w (InsP w A n c (withs V x)) := by
  obtain ⟨V0, hV0⟩ : ∃ V0, V0 = V := ⟨_, rfl⟩
  have hl : V.length = n := by
    have := (h.rd (X := No) (fun _ _ q => q)).lenI
    exact this
  have hbs : Calls Tryz.prog 114 #[.slice A n c, .int .i64 x] w fun e w' => e = .returned (.tuple #[.int .i64 (V.countP (· < x) : Nat), .bool (decide (x ∈ V))]) ∧ ∃ q, w' = w.drewN q := by
    rcases own_blk h with ⟨e, rfl⟩ | ⟨g, c', cur, e, hb, hlc, hcm, hcs, hcur⟩
    · injection e with e1 e2 e3
      subst e1 e2 e3
      refine (Tryz.slices_BinarySearch_int_empty none 0 x w).mono ?_
      rintro r w' ⟨rfl, hw⟩
      exact ⟨rfl, 0, hw⟩
    · injection e with e1 e2 e3
      subst e1
      have hx := Tryz.slices_BinarySearch_int g 0 n c V x w (by omega) (by omega) (fun j hj => by
        rw [Nat.zero_add, hb.cell]
        rw [hcur j (V[j]) (List.getElem?_eq_getElem hj)]
        simp [List.getD_eq_getElem?_getD, hj]) (by rw [← hl, List.take_length]; exact hs.imp (fun h => by omega))
      rw [← hl, List.take_length] at hx
      rw [← hl]
      refine hx.mono ?_
      rintro r w' ⟨rfl, hw⟩
      exact ⟨by simp, hw⟩
  by_cases hx : x ∈ V
  · have HW : Hid (withs V x = V) := Lib.hid (if_pos hx)
    rw [decide_eq_true hx] at hbs
    have HO := Lib.hid h
    clear h hs hx
    generalize V.countP (· < x) = k at *
    go_enter Tryz.func107, Tryz.ntmps107
    go_wp2_with fail
    refine hbs.mono ?_
    rintro r w1 ⟨rfl, q, rfl⟩
    clear hbs
    go_wp2_with fail
    go_ret
    have hb := below_drewN (Below.refl w.heap.size w) q
    refine ⟨_, rfl, ?_, fun b e => .inl e, Turn.of_below hb _⟩
    rw [HW.out]
    exact HO.out.below hb
  · have HW : Hid (withs V x = V.take (V.countP (· < x)) ++ x :: V.drop (V.countP (· < x))) := Lib.hid (if_neg hx)
    have hk : V.countP (· < x) ≤ n := hl ▸ count_le
    rw [decide_eq_false hx] at hbs
    have HO := Lib.hid h
    clear h hs hx
    generalize V.countP (· < x) = k at *
    go_enter Tryz.func107, Tryz.ntmps107
    go_wp2_with fail
    refine hbs.mono ?_
    rintro r w1 ⟨rfl, q, rfl⟩
    clear hbs
    have hb := below_drewN (Below.refl w.heap.size w) q
    have hb2 := hb.alloc (by exact hb.size) (.cells #[.int .i64 x] 3)
    have hown := HO.out.below hb2
    have hvb : (Value.slice A n c).ownBlock ≠ some (w.drewN q).heap.size := fun e => by
      have := HO.out.lt e
      have := hb.size
      omega
    have hi := insert_any hown hn hk (vb := (w.drewN q).heap.size) (x := x) (Blk.new (w.drewN q) 3 _) hvb
    have HB2 := Lib.hid hb2
    clear hown hvb hb2
    go_wp2_with fail
    refine hi.mono ?_
    rintro r w2 ⟨v, rfl, h1, h2, h3⟩
    have HF : Hid (InsP w A n c (withs V x) (.returned v) w2) := Lib.hid ⟨_, rfl, by rw [HW.out]; exact h1, fun b e => by
      rcases h2 b e with r | r
      · exact .inl r
      · exact .inr (Nat.le_trans HB2.out.size r), (Turn.of_below HB2.out _).trans h3 (fun _ _ e => e)⟩
    clear hi h1 h2 h3
    go_wp2_with fail
    go_ret
    exact HF.out
end
end Go.Proofs.YtpmdicbhliclcaaGreat
