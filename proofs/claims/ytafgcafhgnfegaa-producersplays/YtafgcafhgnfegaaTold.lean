/-
  What a writer is told as. Conditions: at most 5000 open transactions.
-/
import Derived.Test.YtafgcafhgnfegaaByIter
import Derived.Test.YtafgcafhgnfegaaTurnz
namespace Go.Proofs.Ytafgcafhgnfegaa
open Go.RowKit Go.Maps Go.Shelf
attribute [local go_sem] Oper.semAt_some
set_option linter.unusedVariables false
def opA (p : Int × Nat) : Array Value := #[.int .i64 p.1, .int .i64 (p.2 : Int)]
def opsOf (o : List (Int × Nat)) : List (Array Value) := o.map opA
section
variable {w w' : World} {m : Nat} {x : Wr}
/-- What is known behind told. -/
def ToldP (w : World) (x : Wr) (e : Ending) (w' : World) : Prop :=
  ∃ A c, e = .returned (.agg #[.int .i64 x.high, .int .i64 x.next, .int .i64 x.marked, .slice A x.opens.length c]) ∧ OwnK w' 54 2 (.slice A x.opens.length c) (opsOf x.opens) ∧ (∀ b, Value.ownBlock (.slice A x.opens.length c) = some b → w.heap.size ≤ b) ∧ Below w.heap.size w w'
theorem wpListIn_append_k {t e k by_ : Nat} {z : Value} (E : El t e k z by_) {F : Fence} {n : Nat} (w : World) {ops : Array Oper} {rest : List Oper} {o : Oper} {a : Act} {Q : Exit → Act → World → Prop} (hw : Region.wanted o (yielded ops a.tmps) = true) (s x : Operand)
    (ho : o.op = .call { callee := .builtin .append, args := #[s, x], argTypes := #[t, t] })
    (v : Value) (css : List (Array Value)) (hs : a.eval s = v) (hown : OwnK w e k v css) (X : Nat → Prop) (A : Option Addr) (m c : Nat) (kss : List (Array Value)) (hx : a.eval x = .slice A m c) (hr : Rd w X k A m kss)
    (hl : css.length ≤ 1000000000) (hm : m ≤ 1000000000)
    (h : ∀ v' w', OwnK w' e k v' (css ++ kss) → Grew v w v' w' → wpListIn F n Try.prog ops Q rest (a.put o.dst v') w') : wpListIn F n Try.prog ops Q (o :: rest) a w := by
  refine BigFrame.wpListIn_want hw fun K hK => ?_
  obtain ⟨v', w', hrun, h2, h3⟩ := run_append_k E w v css hown X A m c kss hr o.type hl hm
  unfold Oper.wpIn
  refine ⟨?_, ?_⟩
  · simp [Oper.about, ho, resolve, Target.leads, Sem.run_pure]
  · rw [Oper.semAt_plain F _ _ (by rw [ho]; intro c hc'; cases hc')]
    simp [execOp, ho, resolve, invoke, builtin, hs, hx, hrun, Result.andThen]
    exact hK _ _ (h v' w' h2 h3)
/-- Between two rounds. -/
def ToldI (w : World) (B r al : Nat) (x : Wr) (k : Nat) (W : World) : Prop :=
  ∃ v, Blk W al 41 #[.int .i64 x.high, .int .i64 x.next, .int .i64 x.marked, v] ∧ OwnK W 54 2 v (opsOf (x.opens.take k)) ∧ (∀ b, v.ownBlock = some b → B + 2 ≤ b) ∧ Blk W r 41 #[.int .i64 0, .int .i64 0, .int .i64 0, .slice none 0 0] ∧ Below w.heap.size w W
theorem toldI_abide {B r al : Nat} (h1 : r < B) (h2 : al < B) (h3 : w.heap.size ≤ B) : AbideB B (ToldI w B r al x) := fun k A A' h ht => by
  obtain ⟨v, q1, q2, q3, q4, q5⟩ := h
  have hno : ∀ b, two B b → B ≤ b ∧ b ≤ B + 1 := fun b e => by rcases e with e | e <;> omega
  exact ⟨v, q1.keep ht (fun e => by have := hno _ e; omega), q2.keep ht (fun b eb e => by have := q3 b eb; have := hno _ e; omega), q3, q4.keep ht (fun e => by have := hno _ e; omega), q5.trans (ht.below q5.size (fun b e => by have := hno b e; omega))⟩
theorem OwnK.formO {v : Value} {o : List (Int × Nat)} (h : OwnK w 54 2 v (opsOf o)) : ∃ A c, v = .slice A o.length c ∧ o.length ≤ c ∧ c ≤ maxLen := by
  obtain ⟨A, q, c, e, hq, h1, h2⟩ := OwnK.form h
  simp [opsOf] at hq
  subst hq
  exact ⟨A, c, e, h1, h2⟩
set_option maxRecDepth 100000 in
set_option maxHeartbeats 4000000 in
theorem told_any {g off n : Nat} (c0 : w.cell? ⟨g, off, none⟩ = some (.int .i64 x.high)) (c1 : w.cell? ⟨g, off + 1, none⟩ = some (.int .i64 x.next)) (c2 : w.cell? ⟨g, off + 2, none⟩ = some (.int .i64 x.marked)) (c3 : w.cell? ⟨g, off + 3, none⟩ = some (.map (some m)))
    (h : OM w m x.opens) (ho : Ordered x.opens n) : Calls Try.prog 39 #[.pointer (some ⟨g, off, none⟩)] w (ToldP w x) := by
  have HH := Lib.hid h
  have HO := Lib.hid ho
  have hg : g < w.heap.size := block_lt_of_cell c0
  clear h ho
  refine (callsIn_wide (n := 3)).1 ?_
  refine callsIn_of_wp_marks Try.func39 rfl trivial ?_ rfl
  simp only [Try.ntmps39, List.size_toArray, List.length_cons, List.length_nil, Nat.reduceAdd, Nat.reduceSub, Array.replicate_succ, Array.replicate_zero, List.push_toArray, List.append_toArray, List.nil_append, List.cons_append]
  gi_wp2_with fail
  have hb1 : Below w.heap.size w (w.alloc (.cells #[.int .i64 0, .int .i64 0, .int .i64 0, .slice none 0 0] 41)) := (Below.refl _ _).alloc (Nat.le_refl _) _
  have hr1 := Blk.new w 41 #[.int .i64 0, .int .i64 0, .int .i64 0, .slice none 0 0]
  have c01 := (hb1.cell (p := ⟨g, off, none⟩) hg).trans c0
  have c11 := (hb1.cell (p := ⟨g, off + 1, none⟩) hg).trans c1
  have c21 := (hb1.cell (p := ⟨g, off + 2, none⟩) hg).trans c2
  have c31 := (hb1.cell (p := ⟨g, off + 3, none⟩) hg).trans c3
  have hz1 : (w.alloc (.cells #[.int .i64 0, .int .i64 0, .int .i64 0, .slice none 0 0] 41)).heap.size = w.heap.size + 1 := by simp
  clear c0 c1 c2 c3
  generalize w.alloc (.cells #[.int .i64 0, .int .i64 0, .int .i64 0, .slice none 0 0] 41) = w1 at *
  have hg1 : g < w1.heap.size := by omega
  have HZ1 := Lib.hid hz1
  clear hz1
  refine (wpIn_wide (n := 3)).2 ?_
  refine wp_region_np ?_
  refine wp_region_held_drew (S := fun W => Below w1.heap.size w1 W) (by kernel_rfl) (show Below w1.heap.size w1 w1.drew from (Below.refl _ _).drew) (fun hHeld => ?_)
  refine wpAnyH_takeAt (i := 0) (d := 6) (v := ?vq0x) rfl rfl (by kernel_rfl) (by kernel_rfl) (by kernel_rfl) (fun _ _ _ h => h) (Or.inl ⟨by rfl, ?hyq0x⟩) hHeld ?_
  case hyq0x =>
    intro W hSw
    clear hSw
    (go_simp; try with_reducible rfl)
  simp only [List.setIfInBounds_toArray, List.set_cons_zero, List.set_cons_succ]
  refine wpAnyH_takeAt (i := 1) (d := 7) (v := ?vq1x) rfl rfl (by kernel_rfl) (by kernel_rfl) (by kernel_rfl) (fun _ _ _ h => h) (Or.inl ⟨by rfl, ?hyq1x⟩) hHeld ?_
  case hyq1x =>
    intro W hSw
    clear hSw
    (go_simp; try with_reducible rfl)
  simp only [List.setIfInBounds_toArray, List.set_cons_zero, List.set_cons_succ]
  refine wpAnyH_takeAt (i := 2) (d := 8) (v := ?vq2x) rfl rfl (by kernel_rfl) (by kernel_rfl) (by kernel_rfl) (fun _ _ _ h => h) (Or.inl ⟨by rfl, ?hyq2x⟩) hHeld ?_
  case hyq2x =>
    intro W hSw
    clear hSw
    (go_simp; try with_reducible rfl)
  simp only [List.setIfInBounds_toArray, List.set_cons_zero, List.set_cons_succ]
  refine wpAnyH_takeAt (i := 3) (d := 9) (v := ?vq3x) rfl rfl (by kernel_rfl) (by kernel_rfl) (by kernel_rfl) (fun _ _ _ h => h) (Or.inl ⟨by rfl, ?hyq3x⟩) hHeld ?_
  case hyq3x =>
    intro W hSw
    have q0 : W.cell? ⟨g, off, none⟩ = some _ := (Below.cell hSw (p := ⟨g, off, none⟩) hg1).trans c01; clear hSw
    (go_simp; try with_reducible rfl)
  simp only [List.setIfInBounds_toArray, List.set_cons_zero, List.set_cons_succ]
  refine wpAnyH_takeAt (i := 4) (d := 10) (v := ?vq4x) rfl rfl (by kernel_rfl) (by kernel_rfl) (by kernel_rfl) (fun _ _ _ h => h) (Or.inl ⟨by rfl, ?hyq4x⟩) hHeld ?_
  case hyq4x =>
    intro W hSw
    clear hSw
    (go_simp; try with_reducible rfl)
  simp only [List.setIfInBounds_toArray, List.set_cons_zero, List.set_cons_succ]
  refine wpAnyH_takeAt (i := 5) (d := 11) (v := ?vq5x) rfl rfl (by kernel_rfl) (by kernel_rfl) (by kernel_rfl) (fun _ _ _ h => h) (Or.inl ⟨by rfl, ?hyq5x⟩) hHeld ?_
  case hyq5x =>
    intro W hSw
    clear hSw
    (go_simp; try with_reducible rfl)
  simp only [List.setIfInBounds_toArray, List.set_cons_zero, List.set_cons_succ]
  refine wpAnyH_takeAt (i := 6) (d := 12) (v := ?vq6x) rfl rfl (by kernel_rfl) (by kernel_rfl) (by kernel_rfl) (fun _ _ _ h => h) (Or.inl ⟨by rfl, ?hyq6x⟩) hHeld ?_
  case hyq6x =>
    intro W hSw
    clear hSw
    (go_simp; try with_reducible rfl)
  simp only [List.setIfInBounds_toArray, List.set_cons_zero, List.set_cons_succ]
  refine wpAnyH_takeAt (i := 7) (d := 13) (v := ?vq7x) rfl rfl (by kernel_rfl) (by kernel_rfl) (by kernel_rfl) (fun _ _ _ h => h) (Or.inl ⟨by rfl, ?hyq7x⟩) hHeld ?_
  case hyq7x =>
    intro W hSw
    have q1 : W.cell? ⟨g, off + 1, none⟩ = some _ := (Below.cell hSw (p := ⟨g, off + 1, none⟩) hg1).trans c11; clear hSw
    (go_simp; try with_reducible rfl)
  simp only [List.setIfInBounds_toArray, List.set_cons_zero, List.set_cons_succ]
  refine wpAnyH_takeAt (i := 8) (d := 14) (v := ?vq8x) rfl rfl (by kernel_rfl) (by kernel_rfl) (by kernel_rfl) (fun _ _ _ h => h) (Or.inl ⟨by rfl, ?hyq8x⟩) hHeld ?_
  case hyq8x =>
    intro W hSw
    clear hSw
    (go_simp; try with_reducible rfl)
  simp only [List.setIfInBounds_toArray, List.set_cons_zero, List.set_cons_succ]
  refine wpAnyH_takeAt (i := 9) (d := 15) (v := ?vq9x) rfl rfl (by kernel_rfl) (by kernel_rfl) (by kernel_rfl) (fun _ _ _ h => h) (Or.inl ⟨by rfl, ?hyq9x⟩) hHeld ?_
  case hyq9x =>
    intro W hSw
    clear hSw
    (go_simp; try with_reducible rfl)
  simp only [List.setIfInBounds_toArray, List.set_cons_zero, List.set_cons_succ]
  refine wpAnyH_takeAt (i := 10) (d := 16) (v := ?vq10x) rfl rfl (by kernel_rfl) (by kernel_rfl) (by kernel_rfl) (fun _ _ _ h => h) (Or.inl ⟨by rfl, ?hyq10x⟩) hHeld ?_
  case hyq10x =>
    intro W hSw
    clear hSw
    (go_simp; try with_reducible rfl)
  simp only [List.setIfInBounds_toArray, List.set_cons_zero, List.set_cons_succ]
  refine wpAnyH_takeAt (i := 11) (d := 17) (v := ?vq11x) rfl rfl (by kernel_rfl) (by kernel_rfl) (by kernel_rfl) (fun _ _ _ h => h) (Or.inl ⟨by rfl, ?hyq11x⟩) hHeld ?_
  case hyq11x =>
    intro W hSw
    have q2 : W.cell? ⟨g, off + 2, none⟩ = some _ := (Below.cell hSw (p := ⟨g, off + 2, none⟩) hg1).trans c21; clear hSw
    (go_simp; try with_reducible rfl)
  simp only [List.setIfInBounds_toArray, List.set_cons_zero, List.set_cons_succ]
  refine wpAnyH_takeAt (i := 12) (d := 18) (v := ?vq12x) rfl rfl (by kernel_rfl) (by kernel_rfl) (by kernel_rfl) (fun _ _ _ h => h) (Or.inl ⟨by rfl, ?hyq12x⟩) hHeld ?_
  case hyq12x =>
    intro W hSw
    clear hSw
    (go_simp; try with_reducible rfl)
  simp only [List.setIfInBounds_toArray, List.set_cons_zero, List.set_cons_succ]
  refine wpAnyH_ready (rs := [13]) (by kernel_rfl) (by simp) (AllReadyH.cons rfl (fun K hK => ?_) AllReadyH.nil)
  go_simp
  refine hK.out _ _ (show Below w1.heap.size w1 _ from (Below.refl w1.heap.size w1).drew.alloc (Nat.le_refl _) _) (fun hHeld => ?_)
  clear hK K
  refine wpAnyH_ready (rs := [14]) (by kernel_rfl) (by simp) (AllReadyH.cons rfl (fun K hK => ?_) AllReadyH.nil)
  go_simp
  refine hK.out _ _ (show Below w1.heap.size w1 _ from (Below.refl w1.heap.size w1).drew.alloc (Nat.le_refl _) _) (fun hHeld => ?_)
  clear hK K
  refine wpAnyH_done (by kernel_rfl) ?_ _
  have hb2 : Below w1.heap.size w1 (w1.alloc (.cells #[.int .i64 x.high, .int .i64 x.next, .int .i64 x.marked, .slice none 0 0] 41)).drew := ((Below.refl w1.heap.size w1).alloc (Nat.le_refl _) _).drew
  have hal : Blk (w1.alloc (.cells #[.int .i64 x.high, .int .i64 x.next, .int .i64 x.marked, .slice none 0 0] 41)).drew w1.heap.size 41 #[.int .i64 x.high, .int .i64 x.next, .int .i64 x.marked, .slice none 0 0] := Blk.new w1 41 _
  have hrr := hr1.below hb2 hr1.lt
  have hrl := hr1.lt
  have c32 := (hb2.cell (p := ⟨g, off + 3, none⟩) hg1).trans c31
  have hb02 := hb1.trans (hb2.mono hb1.size)
  have hz2 : (w1.alloc (.cells #[.int .i64 x.high, .int .i64 x.next, .int .i64 x.marked, .slice none 0 0] 41)).drew.heap.size = w1.heap.size + 1 := by show (w1.alloc _).heap.size = _; simp
  clear c01 c11 c21 c31 hHeld hb2
  gi_wp2_with fail
  generalize (w1.alloc (.cells #[.int .i64 x.high, .int .i64 x.next, .int .i64 x.marked, .slice none 0 0] 41)).drew = w2 at *
  have HZ2 := Lib.hid hz2
  have hbv := byValue_any (HH.out.keepB (hb02.block _ HH.out.lt)) HO.out
  have HT2 := Lib.hid (And.intro hal (And.intro hrr hb02))
  clear hz2 hal hrr hb02 hr1 hb1 c32
  refine ⟨trivial, (callsIn_wide.2 hbv).mono ?_⟩
  rintro e w3 ⟨b3, A, c, rfl, hc3, hc1, hr, hb⟩
  clear hbv
  have hml := HH.out.lt
  have hw1 : w.heap.size + 1 = w1.heap.size := HZ1.out.symm
  have hw2 : w1.heap.size + 1 = w2.heap.size := HZ2.out.symm
  have hb3l : w2.heap.size < w3.heap.size := block_lt_of_cell hc1
  have HW := Lib.hid (And.intro hw1 hw2)
  have hm3 : OM w3 m x.opens := (HH.out.keepB (HT2.out.2.2.block _ hml)).keepB (hb.block _ (by have := HT2.out.2.2.size; omega))
  have HX3 : Hid (0 < x.opens.length → ∀ ad, A = some ad → w2.heap.size ≤ ad.block ∧ ad.block < w3.heap.size) := Lib.hid (fun h0 ad e => by
    obtain ⟨ad', e', hl, hx, _⟩ := hr.2.2 h0
    rw [e] at e'
    injection e' with e'
    subst e'
    exact ⟨Nat.le_of_not_lt hx, hl⟩)
  have hI0 : ToldI w w3.heap.size w.heap.size w1.heap.size x 0 w3 := ⟨.slice none 0 0, HT2.out.1.below hb HT2.out.1.lt, OwnK.nil _ 54 2, fun b eb => (by cases eb), HT2.out.2.1.below hb HT2.out.2.1.lt, HT2.out.2.2.trans (hb.mono HT2.out.2.2.size)⟩
  clear hw1 hw2
  gi_wp2_with fail
  refine range_z rfl (by omega) (gf := 68) (lb := #[.pointer (some ⟨b3, 0, none⟩), .pointer (some ⟨w2.heap.size, 0, none⟩)]) rfl trivial (enters_of Try.func68 (by kernel_rfl) rfl)
    (by_in (3 - 1) (by omega) b3 w2.heap.size A c hc3 hc1 hr hm3 w3.heap.size (fun h0 ad e => (HX3.out h0 ad e).2))
    (fun h h' => h.trans h')
    (fun W W' ht hz => ⟨ht.size, ht.block m (by have := HW.out; omega) (fun e' => by have := HW.out; rcases e' with e' | e' <;> omega), ht.block w2.heap.size (by omega) (fun e' => by rcases e' with e' | e' <;> omega), fun r e hb => ht.block r.block (by omega) (fun e' => by rcases e' with e' | e' <;> omega)⟩) (fun _ => rfl)
    (ToldI w w3.heap.size w.heap.size w1.heap.size x) (fun _ _ _ => False) (toldI_abide (by have := HW.out; omega) (by have := HW.out; omega) (by have := HW.out; omega)) (fun _ _ _ _ h _ => h)
    hI0
    (fun k => { tmps := #[.pointer (some ⟨g, off, none⟩), undef, .pointer (some ⟨w.heap.size, 0, none⟩), .pointer (some ⟨w1.heap.size, 0, none⟩), .int .i64 (x.opens.getD k (0, 0)).1, .int .i64 ((x.opens.getD k (0, 0)).2 : Int), .pointer (some ⟨g, off, none⟩), .pointer (some ⟨g, off, none⟩), .pointer (some ⟨g, off, none⟩), .int .i64 x.high, .pointer (some ⟨g, off, none⟩), .pointer (some ⟨g, off, none⟩), .pointer (some ⟨g, off + 1, none⟩), .int .i64 x.next, .pointer (some ⟨g, off, none⟩), .pointer (some ⟨g, off, none⟩), .pointer (some ⟨g, off + 2, none⟩), .int .i64 x.marked, .agg #[.int .i64 x.high, .int .i64 x.next, .int .i64 x.marked, .slice none 0 0], .pointer (some ⟨g, off, none⟩), .pointer (some ⟨g, off, none⟩), .pointer (some ⟨g, off + 3, none⟩), .map (some m), .func (.func 68) #[] #[.pointer (some ⟨b3, 0, none⟩), .pointer (some ⟨w2.heap.size, 0, none⟩)], .int .i64 (x.opens.getD k (0, 0)).1, .int .i64 ((x.opens.getD k (0, 0)).2 : Int), undef, undef, undef, undef, undef, undef, undef, undef, undef], defers := [] }) ?assign ?body ?done ?stop
  case assign =>
    intro lo k W K hk hK
    unfold encO
    generalize x.opens.getD k (0, 0) = p at *
    gi_wp2
    exact hK
  case body =>
    intro lo k W0 W hI0 hk hbB hTW
    have hgi : x.opens[k]? = some (x.opens.getD k (0, 0)) := by
      rw [List.getD_eq_getElem?_getD, List.getElem?_eq_getElem hk]; rfl
    have hI := toldI_abide (w := w) (B := w3.heap.size) (r := w.heap.size) (al := w1.heap.size) (x := x) (by have := HW.out; omega) (by have := HW.out; omega) (by have := HW.out; omega) k W0 W hI0 hTW
    have hWz : w3.heap.size + 2 ≤ W.heap.size := Nat.le_trans hbB hTW.size
    generalize x.opens.getD k (0, 0) = p at *
    have HTK : Hid (x.opens.take (k + 1) = x.opens.take k ++ [p]) := Lib.hid (by rw [List.take_add_one, hgi]; rfl)
    have htl : (x.opens.take k).length ≤ 5000 := by rw [List.length_take]; have := HH.out.2.2.1; omega
    obtain ⟨v, q1, q2, q3, q4, q5⟩ := hI
    obtain ⟨Av, cv, rfl, hv1, hv2⟩ := q2.formO
    generalize x.opens.take k = pre at *
    have a3 : W.cell? ⟨w1.heap.size, 3, none⟩ = some (.slice Av pre.length cv) := q1.cell 3
    have HQ := Lib.hid (And.intro q1 (And.intro q2 (And.intro q3 (And.intro q4 q5))))
    clear q1 q2 q3 q4 q5 hI0 hTW hgi
    try dsimp only
    gi_wp2_with (gi_at_builtin; refine stop ?_)
    obtain ⟨q1, q2, q3, q4, q5⟩ := HQ.out
    refine Stop.go (wpListIn_append_k el39 _ (by rfl) _ _ (by rfl) (.slice Av pre.length cv) _ (by rfl) (OwnK.alloc q2 _) No _ 1 _ [opA p] (by rfl) (rd_one W 54 (opA p) rfl (by simp [opA, Value.oneCell']) (fun h => h)) (by simp [opsOf]; omega) (by omega) ?_)
    intro v9 w9 ho9 hg9
    have hTA : Turn (fun b => Value.ownBlock (.slice Av pre.length cv) = some b) W w9 :=
      (turn_alloc W (.cells (opA p) 54) _).trans (hg9.turn (S := fun b => Value.ownBlock (.slice Av pre.length cv) = some b) (fun g e => e)) (fun _ _ e => e)
    have hv9 : ∀ b, v9.ownBlock = some b → w3.heap.size + 2 ≤ b := fun b e => by
      rcases hg9.2 b e with h | h
      · exact q3 b h
      · have h' : W.heap.size < b := by simp at h; omega
        omega
    have ho9' : OwnK w9 54 2 v9 (opsOf (pre ++ [p])) := by unfold opsOf at ho9 ⊢; rw [List.map_append]; exact ho9
    have r1 := q1.keep hTA (fun e => by have := q3 _ e; have := HW.out; omega)
    have r4 := q4.keep hTA (fun e => by have := q3 _ e; have := HW.out; omega)
    obtain ⟨A9, c9, rfl, -, -⟩ := ho9'.formO
    have t3 : w9.cell? ⟨w1.heap.size, 3, none⟩ = some (.slice Av pre.length cv) := r1.cell 3
    have z3 := r1.frozen 3
    generalize (pre ++ [p]).length = n9 at *
    have hTS : Turn (fun b => b = w1.heap.size ∨ Value.ownBlock (.slice Av pre.length cv) = some b) W (w9.setCell ⟨w1.heap.size, 3, none⟩ (.slice A9 n9 c9)) := (hTA.mono (fun b _ h => .inr h)).setCell (p := ⟨w1.heap.size, 3, none⟩) (fun _ => .inl rfl) _
    have HT := Lib.hid hTS
    have HB9 := Lib.hid (r1.set_ 3 (.slice A9 n9 c9))
    have HR4 := Lib.hid (r4.far (p := ⟨w1.heap.size, 3, none⟩) (by show w.heap.size ≠ w1.heap.size; omega) (.slice A9 n9 c9))
    have HO9 : Hid (OwnK (w9.setCell ⟨w1.heap.size, 3, none⟩ (.slice A9 n9 c9)) 54 2 (.slice A9 n9 c9) (opsOf (pre ++ [p]))) := Lib.hid (ho9'.keepB fun b e => Below.heap_setCell w9 _ _ b (by show b ≠ w1.heap.size; have := hv9 b e; have := HW.out; omega))
    have HV := Lib.hid hv9
    have HW9 := Lib.hid (q5.trans (hTS.below q5.size (fun b e => by
      have := HW.out
      rcases e with e | e
      · omega
      · have := q3 b e; omega)))
    have HQ3 := Lib.hid q3
    clear ho9 hg9 hTA hv9 hTS q1 q2 q3 q4 q5 a3 r1 r4 ho9'
    gi_wp2
    refine ⟨Both.of_turn HT.out (by omega) (fun e => ?_) (fun e => ?_), ⟨HT.out.size, HT.out.block m (by have := HW.out; omega) (fun e => ?_), HT.out.block w2.heap.size (by omega) (fun e => ?_), fun ad e hb => HT.out.block ad.block (by omega) (fun e' => ?_)⟩, .slice A9 n9 c9, HB9.out, by rw [HTK.out]; exact HO9.out, HV.out, HR4.out, HW9.out⟩
    · rcases e with e | e
      · have := HW.out; omega
      · have := HQ3.out _ e; omega
    · rcases e with e | e
      · have := HW.out; omega
      · have := HQ3.out _ e; omega
    · rcases e with e | e
      · have := HW.out; omega
      · have := HQ3.out _ e; have := HW.out; omega
    · rcases e with e | e
      · have := HW.out; omega
      · have := HQ3.out _ e; omega
    · have hx := HX3.out (by omega) ad e
      rcases e' with e' | e'
      · have := HW.out; omega
      · have := HQ3.out _ e'; omega
  case done =>
    intro W hI hK
    obtain ⟨v, q1, q2, q3, q4, q5⟩ := hI
    rw [List.take_length] at q2
    obtain ⟨Av, cv, rfl, hv1, hv2⟩ := q2.formO
    have a0 : W.cell? ⟨w1.heap.size, 0, none⟩ = some (.int .i64 x.high) := q1.cell 0
    have a1 : W.cell? ⟨w1.heap.size, 1, none⟩ = some (.int .i64 x.next) := q1.cell 1
    have a2 : W.cell? ⟨w1.heap.size, 2, none⟩ = some (.int .i64 x.marked) := q1.cell 2
    have a3 : W.cell? ⟨w1.heap.size, 3, none⟩ = some (.slice Av x.opens.length cv) := q1.cell 3
    have s0 : W.cell? ⟨w.heap.size, 0, none⟩ = some (.int .i64 0) := q4.cell 0
    have s1 : W.cell? ⟨w.heap.size, 1, none⟩ = some (.int .i64 0) := q4.cell 1
    have s2 : W.cell? ⟨w.heap.size, 2, none⟩ = some (.int .i64 0) := q4.cell 2
    have s3 : W.cell? ⟨w.heap.size, 3, none⟩ = some (.slice none 0 0) := q4.cell 3
    have f0 := q4.frozen 0
    have f1 := q4.frozen 1
    have f2 := q4.frozen 2
    have f3 := q4.frozen 3
    have hTT : Turn (fun b => b = w.heap.size) W ((((W.setCell ⟨w.heap.size, 0, none⟩ (.int .i64 x.high)).setCell ⟨w.heap.size, 1, none⟩ (.int .i64 x.next)).setCell ⟨w.heap.size, 2, none⟩ (.int .i64 x.marked)).setCell ⟨w.heap.size, 3, none⟩ (.slice Av x.opens.length cv)) := ((((Turn.refl (fun b => b = w.heap.size) W).setCell (p := ⟨w.heap.size, 0, none⟩) (fun _ => rfl) _).setCell (p := ⟨w.heap.size, 1, none⟩) (fun _ => rfl) _).setCell (p := ⟨w.heap.size, 2, none⟩) (fun _ => rfl) _).setCell (p := ⟨w.heap.size, 3, none⟩) (fun _ => rfl) _
    have hBB : Blk ((((W.setCell ⟨w.heap.size, 0, none⟩ (.int .i64 x.high)).setCell ⟨w.heap.size, 1, none⟩ (.int .i64 x.next)).setCell ⟨w.heap.size, 2, none⟩ (.int .i64 x.marked)).setCell ⟨w.heap.size, 3, none⟩ (.slice Av x.opens.length cv)) w.heap.size 41 #[.int .i64 x.high, .int .i64 x.next, .int .i64 x.marked, .slice Av x.opens.length cv] := (((q4.set_ 0 (.int .i64 x.high)).set_ 1 (.int .i64 x.next)).set_ 2 (.int .i64 x.marked)).set_ 3 (.slice Av x.opens.length cv)
    have hOO := q2.keep hTT (fun b eb e => by have := q3 b eb; have := HW.out; omega)
    have hWW := q5.trans (hTT.below q5.size (fun b e => by omega))
    have hK' := (hTT.block w3.heap.size (lt_of_heap hK) (fun e => by have := HW.out; omega)).trans hK
    have HF := Lib.hid (And.intro hBB (And.intro hOO (And.intro hWW (And.intro q3 hK'))))
    clear q1 q2 q3 q4 q5 hTT hBB hOO hWW hK'
    gi_wp2_with fail
    obtain ⟨hBB, hOO, hWW, q3, hK'⟩ := HF.out
    generalize (((W.setCell ⟨w.heap.size, 0, none⟩ (.int .i64 x.high)).setCell ⟨w.heap.size, 1, none⟩ (.int .i64 x.next)).setCell ⟨w.heap.size, 2, none⟩ (.int .i64 x.marked)).setCell ⟨w.heap.size, 3, none⟩ (.slice Av x.opens.length cv) = W1 at *
    have hTp : Turn (two w3.heap.size) W1 (W1.putObj w3.heap.size (.deferred none)) := turn_putObj _ _ _ (.inl rfl)
    have hno : ∀ b, two w3.heap.size b → w3.heap.size ≤ b ∧ b ≤ w3.heap.size + 1 := fun b e => by rcases e with e | e <;> omega
    have k1 := hBB.keep hTp (fun e => by have := hno _ e; have := HW.out; omega)
    have k2 := hOO.keep hTp (fun b eb e => by have := q3 b eb; have := hno _ e; omega)
    have k3 := hWW.trans (hTp.below hWW.size (fun b e => by have := hno b e; have := HW.out; omega))
    refine ⟨by simp, .inl ⟨_, _, rfl, run_takeDeferred hK', ?_⟩⟩
    generalize W1.putObj w3.heap.size (.deferred none) = W2 at *
    exact ⟨.agg #[.int .i64 x.high, .int .i64 x.next, .int .i64 x.marked, .slice Av x.opens.length cv], results_cell_row (by rfl) _ _ w.heap.size 41 _ (0, 0) _ (by rfl) k1 Try.underlying41 (by rfl) (by kernel_rfl), Av, cv, rfl, k2, fun b eb => by have := q3 b eb; have := HW.out; omega, k3⟩
  case stop => exact fun _ _ _ _ h => h.elim
end
end Go.Proofs.Ytafgcafhgnfegaa
