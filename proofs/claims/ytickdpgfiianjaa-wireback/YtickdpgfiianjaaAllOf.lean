/-
  What wire.All answers: the entries of bytes, how many bytes their frames have, and why they end. Condition: fewer than 1000000 bytes.
-/
import Derived.Test.YtickdpgfiianjaaScan
import Derived.Test.YtickdpgfiianjaaRows6
import Derived.Test.YtickdpgfiianjaaAttempt
import Derived.RecoverIn
namespace Go.Proofs.Ytickdpgfiianjaa
open Go.RowKit Go.Shelf
attribute [local go_sem] Oper.semAt_some
theorem frames54 (A : Option Addr) (n c : Nat) (w : World) : Calls Try.prog 54 #[.slice A n c] w fun e w' => e = .returned (.func (.func 70) #[] #[.pointer (some ⟨w.heap.size, 0, none⟩)]) ∧ w.alloc (.cells #[.slice A n c] 22) = w' := by
  have hmf := mf
  go_enter Try.func54, Try.ntmps54
  go_wp2_with fail
  go_ret
  exact ⟨rfl, rfl⟩
theorem blk_keep {W W' : World} {b : Nat} {t : TypeId} {cs : Array Value} {row : Option Nat} (h : Blk W b t cs) (hg : W.grownBy W' row) (hr : ∀ r, row = some r → ∃ o : Obj, W.heap[r]? = some o ∧ o.isCells = false) : Blk W' b t cs := by
  refine (hg.block b h.lt ?_).trans h
  intro e
  obtain ⟨o, ho, hn⟩ := hr b e.symm
  unfold Blk at h
  rw [h] at ho
  injection ho with ho
  subst ho
  cases hn
theorem owne_keep {W W' : World} {base : Nat} {v : Value} {es : List Ent} {row : Option Nat} (h : OwnE W base v es) (hg : W.grownBy W' row) (hr : ∀ r, row = some r → ∃ o : Obj, W.heap[r]? = some o ∧ o.isCells = false) : OwnE W' base v es := by
  refine h.keep fun g e => hg.block g (h.lt e).2 fun e' => ?_
  obtain ⟨o, ho, hn⟩ := hr g e'.symm
  rcases h.2 with ⟨rfl, _⟩ | ⟨g', cap, cur, rfl, _, hh, _⟩
  · cases e
  · injection e with e
    have e2 : g' = g := e
    subst e2
    rw [hh] at ho
    injection ho with ho
    subst ho
    cases hn
/-- What holds between two rounds. -/
def Told (w : World) (B ps p3 : Nat) (xs : List (Ent × Nat)) (W : World) : Prop :=
  ∃ v, Blk W ps 55 #[v, .int .i64 (goodOf xs : Int), .int .i64 0] ∧ OwnE W (w.heap.size + 1) v (xs.map (·.1)) ∧ Blk W p3 24 #[.int .i64 0] ∧ Below B w W ∧ xs.length ≤ 1000000
theorem told_own (w : World) (B ps p3 : Nat) (hB : B ≤ w.heap.size) : OwnFrom w.heap.size (Told w B ps p3) := fun _ _ _ _ hs hg hr => by
  obtain ⟨v, h1, h2, h3, h4, h5⟩ := hs
  exact ⟨v, blk_keep h1 hg (fun r e => (hr r e).2), owne_keep h2 hg (fun r e => (hr r e).2), blk_keep h3 hg (fun r e => (hr r e).2), h4.trans (below_of_grown hg (Nat.le_trans hB h4.size) (fun r e => Nat.le_trans hB (hr r e).1)), h5⟩
theorem scanF_len : ∀ (f k : Nat) (b : List UInt8), (scanF f k b).1.length ≤ f
  | 0, k, b => by simp [scanF]
  | f + 1, k, b => by
    by_cases h0 : b = []
    · subst h0; rw [scanF_end]; simp
    · rcases hr : rd b with ⟨c⟩ | ⟨e, n⟩
      · rw [scanF_err h0 hr]; simp
      · rw [scanF_ok h0 hr]
        have := scanF_len f (k + n) (b.drop n)
        simp; omega
theorem Grew.low' {v v' : Value} {w w' : World} {base : Nat} {es : List Ent} (h : Grew v w v' w') (ho : OwnE w base v es) (hb : base ≤ w.heap.size) : Below base w w' := below_of_grown h.1 hb (fun _ e => (ho.lt e).1)
theorem keeps_grew {v v' : Value} {w w' : World} {base : Nat} {es : List Ent} (h : Grew v w v' w') (ho : OwnE w base v es) : KeepsOthers w w' := by
  refine KeepsOthers.of_grownBy h.1 fun j o e ho' => ?_
  rcases ho.2 with ⟨rfl, _⟩ | ⟨g, cap, cur, rfl, _, hh, _⟩
  · cases e
  · injection e with e
    have e2 : g = j := e
    subst e2
    rw [hh] at ho'
    injection ho' with ho'
    subst ho'
    rfl
set_option maxRecDepth 100000 in
set_option maxHeartbeats 4000000 in
theorem all1_any (q ps p3 B : Nat) (A : Option Addr) (n c : Nat) (l : List UInt8) (w : World) (hq : Blk w q 22 #[.slice A n c]) (h1 : Blk w ps 55 #[.slice none 0 0, .int .i64 0, .int .i64 0]) (h3 : Blk w p3 24 #[.int .i64 0])
    (hr : Bys w B A n l) (hc : n ≤ c) (hn : n < 100000) (hB : B ≤ ps ∧ ps ≠ p3) (hBw : B ≤ w.heap.size) :
    Calls Try.prog 53 #[.pointer (some ⟨q, 0, none⟩), .pointer (some ⟨ps, 0, none⟩)] w fun e w' => Blk w' p3 24 #[.int .i64 0] ∧
      ((e = .returned (.tuple #[]) ∧ (scan l).2 = 0 ∧ Told w B ps p3 (scan l).1 w') ∨
       ∃ x : Int, e = panicE x ∧ x = ((scan l).2 : Int) ∧ Told w B ps p3 (scan l).1 w') := by
  have e0 : w.cell? ⟨q, 0, none⟩ = some (.slice A n c) := hq.cell 0
  refine (callsIn_wide (n := 3)).1 ?_
  refine callsIn_of_wp_marks Try.func53 rfl trivial ?_ rfl
  simp only [Try.ntmps53, List.size_toArray, List.length_cons, List.length_nil, Nat.reduceAdd, Nat.reduceSub, Array.replicate_succ, Array.replicate_zero, List.push_toArray, List.append_toArray, List.nil_append, List.cons_append]
  gi_wp2_with fail
  refine ⟨trivial, (callsIn_wide.2 (frames54 A n c w)).mono ?_⟩
  rintro e w1 ⟨rfl, hw1⟩
  have hb1 : Below w.heap.size w w1 := by rw [← hw1]; exact (Below.refl _ _).alloc (Nat.le_refl _) _
  have hbx : w1.cell? ⟨w.heap.size, 0, none⟩ = some (.slice A n c) := by rw [← hw1]; exact (Blk.new w 22 #[.slice A n c]).cell 0
  have hz1 : w.heap.size < w1.heap.size := by rw [← hw1]; simp
  have hps : ps < w.heap.size := h1.lt
  clear e0 hw1
  gi_wp2_with fail
  refine range_p (α := Ent × Nat) rfl (by omega) (gf := 70) (lb := #[.pointer (some ⟨w.heap.size, 0, none⟩)]) rfl trivial (enters_of Try.func70 (by kernel_rfl) rfl)
    (iter_in w1 (3 - 1) (by omega) w.heap.size B hz1 A n c l (by omega) hbx (hr.below (hb1.mono hBw)) hc (by omega))
    (fun h h' => h.trans h') (fun W lo o o' hl ho _ _ => Bk.of_below ((Below.refl w1.heap.size W).grown (grownBy_putObj' W lo o') (by have := (Array.getElem?_eq_some_iff.1 ho).1; omega) (fun k e => by cases e; omega)) (by omega) hz1) (Below.refl _ _) (fun _ => rfl)
    (Told w B ps p3) ?own (fun _ _ _ _ _ hs _ _ => hs) ⟨.slice none 0 0, h1.below hb1 h1.lt, OwnE.nil _ _, h3.below hb1 h3.lt, hb1.mono hBw, by simp⟩
    (fun x => .cells x.1.cells 38) (fun W o h => Bk.of_below ((Below.refl w1.heap.size W).alloc h _) (by omega) hz1)
    (fun x W0 => { tmps := #[.pointer (some ⟨q, 0, none⟩), .pointer (some ⟨ps, 0, none⟩), .pointer (some ⟨W0.heap.size, 0, none⟩), .int .i64 (x.2 : Int), .slice A n c, .func (.func 70) #[] #[.pointer (some ⟨w.heap.size, 0, none⟩)], x.1.val, .int .i64 (x.2 : Int), undef, undef, undef, undef, undef, undef, undef, undef], defers := [] }) ?assign ?body ?done ?gave
  case own => exact fun s W W' row hs hg hr => told_own w B ps p3 hBw s W W' row hs hg (fun r e => ⟨by have := (hr r e).1; omega, (hr r e).2⟩)
  case assign =>
    intro l x W K hK
    unfold encE
    unfold Ent.val Ent.cells at *
    gi_wp2
    exact hK
  case body =>
    rintro lo pre ⟨x, en⟩ W W0 ⟨v, hs, hv, h3', hB', hlen⟩ hV hob hz0
    have hx : Blk W W0.heap.size 38 x.cells := hob
    have hV' : pre.length < 1000000 := hV
    have hW0 : W0.heap.size < W.heap.size := hx.lt
    obtain ⟨c0, c1, c2, c3, c4, c5⟩ := hx.six
    obtain ⟨Av, qv, cv, rfl, hqv, -, -⟩ := hv.form
    have s0 : W.cell? ⟨ps, 0, none⟩ = some (.slice Av qv cv) := hs.cell 0
    have HLE : Hid ((pre.map (·.1)).length < 1000000) := Lib.hid (by simp; omega)
    have HNP : Hid (Value.ownBlock (.slice Av qv cv) ≠ some ps ∧ Value.ownBlock (.slice Av qv cv) ≠ some p3) := Lib.hid ⟨fun e => by have := (hv.lt e).1; omega, fun e => by have := (hv.lt e).1; have := h3.lt; omega⟩
    have hv1 : OwnE (W.alloc (.cells #[.int .i64 x.epoch, .int .i64 x.id, .int .i64 x.num, .int .i64 x.seq, .int .i64 x.kind, .int .i64 x.value] 38)) (w.heap.size + 1) (.slice Av qv cv) (pre.map (·.1)) := hv.keep fun g e => Below.heap_alloc W _ g (hv.lt e).2
    have hx1 : Blk (W.alloc (.cells #[.int .i64 x.epoch, .int .i64 x.id, .int .i64 x.num, .int .i64 x.seq, .int .i64 x.kind, .int .i64 x.value] 38)) W.heap.size 38 x.cells := Blk.new W 38 x.cells
    have hs1 := hs.alloc (.cells #[.int .i64 x.epoch, .int .i64 x.id, .int .i64 x.num, .int .i64 x.seq, .int .i64 x.kind, .int .i64 x.value] 38)
    have h31 := h3'.alloc (.cells #[.int .i64 x.epoch, .int .i64 x.id, .int .i64 x.num, .int .i64 x.seq, .int .i64 x.kind, .int .i64 x.value] 38)
    have hBz : B ≤ W.heap.size := Nat.le_trans hBw (by omega)
    have hB1 := hB'.alloc hBz (.cells #[.int .i64 x.epoch, .int .i64 x.id, .int .i64 x.num, .int .i64 x.seq, .int .i64 x.kind, .int .i64 x.value] 38)
    have hwz : w.heap.size + 1 ≤ (W.alloc (.cells #[.int .i64 x.epoch, .int .i64 x.id, .int .i64 x.num, .int .i64 x.seq, .int .i64 x.kind, .int .i64 x.value] 38)).heap.size := le_alloc (by omega) _
    have hk1 : KeepsOthers W (W.alloc (.cells #[.int .i64 x.epoch, .int .i64 x.id, .int .i64 x.num, .int .i64 x.seq, .int .i64 x.kind, .int .i64 x.value] 38)) := KeepsOthers.alloc _ _
    have hbk1 : Bk B w.heap.size W (W.alloc (.cells #[.int .i64 x.epoch, .int .i64 x.id, .int .i64 x.num, .int .i64 x.seq, .int .i64 x.kind, .int .i64 x.value] 38)) := Bk.of_below ((Below.refl W.heap.size W).alloc (Nat.le_refl _) _) hBz (by omega)
    clear hqv hx hob hv
    dsimp only
    unfold Ent.val Ent.cells
    gi_wp2_with (gi_at_builtin; refine stop ?_)
    refine Stop.go (wpListIn_append_ents _ (by rfl) _ _ (by rfl) (w.heap.size + 1) _ (pre.map (·.1)) (by rfl) hv1 _ _ 1 _ [x] (by rfl) (ents_one hx1 hx1.lt) HLE.out (by omega) hwz ?_)
    intro v2 w2 ho2 hg2
    have hs2 := hg2.blk hs1 HNP.out.1
    have h32 := hg2.blk h31 HNP.out.2
    have hB2 : Below B w w2 := hB1.trans ((hg2.low' hv1 hwz).mono (by omega))
    have hk2 := hk1.trans (keeps_grew hg2 hv1)
    have hbk2 := hbk1.trans (Bk.of_below (bl := w.heap.size) (hg2.low' hv1 hwz) (by omega) (by omega))
    obtain ⟨A2, q2, k2, rfl, -, -, -⟩ := ho2.form
    have t0 : w2.cell? ⟨ps, 0, none⟩ = some (.slice Av qv cv) := hs2.cell 0
    have z0 := hs2.frozen 0
    have hs3 := hs2.set_ 0 (.slice A2 q2 k2)
    have t1 : (w2.setCell ⟨ps, 0, none⟩ (.slice A2 q2 k2)).cell? ⟨ps, 1, none⟩ = some (.int .i64 (goodOf pre : Int)) := hs3.cell 1
    have z1 : (w2.setCell ⟨ps, 0, none⟩ (.slice A2 q2 k2)).frozen? ⟨ps, 1, none⟩ = false := hs3.frozen 1
    have hs4 := hs3.set_ 1 (.int .i64 (en : Int))
    have HK4 := Lib.hid ((hk2.trans (KeepsOthers.setCell w2 ⟨ps, 0, none⟩ (.slice A2 q2 k2))).trans (KeepsOthers.setCell _ ⟨ps, 1, none⟩ (.int .i64 (en : Int))))
    have HB4 := Lib.hid ((hB2.setCell (p := ⟨ps, 0, none⟩) hB.1 (.slice A2 q2 k2)).setCell (p := ⟨ps, 1, none⟩) hB.1 (.int .i64 (en : Int)))
    have HBK4 : Hid (Bk B w.heap.size W ((w2.setCell ⟨ps, 0, none⟩ (.slice A2 q2 k2)).setCell ⟨ps, 1, none⟩ (.int .i64 (en : Int)))) := Lib.hid (hbk2.trans ⟨by simp [World.setCell], fun i hi => (Below.heap_setCell _ ⟨ps, 1, none⟩ _ i (by show i ≠ ps; omega)).trans (Below.heap_setCell w2 ⟨ps, 0, none⟩ _ i (by show i ≠ ps; omega))⟩)
    have H34 := Lib.hid ((h32.far (p := ⟨ps, 0, none⟩) (by show p3 ≠ ps; omega) (.slice A2 q2 k2)).far (p := ⟨ps, 1, none⟩) (by show p3 ≠ ps; omega) (.int .i64 (en : Int)))
    have HO4 : Hid (OwnE ((w2.setCell ⟨ps, 0, none⟩ (.slice A2 q2 k2)).setCell ⟨ps, 1, none⟩ (.int .i64 (en : Int))) (w.heap.size + 1) (.slice A2 q2 k2) ((pre ++ [(x, en)]).map (·.1))) := Lib.hid (by
      rw [List.map_append]
      exact ho2.keep fun g e => (Below.heap_setCell _ ⟨ps, 1, none⟩ _ g (by show g ≠ ps; have := (ho2.lt e).1; omega)).trans (Below.heap_setCell w2 ⟨ps, 0, none⟩ _ g (by show g ≠ ps; have := (ho2.lt e).1; omega)))
    have HS4 := Lib.hid hs4
    clear hs4 hs3 hs2 hk2 hbk2 hB2 h32 ho2 hg2 hs1 h31 hB1 hv1 hx1 hk1 hbk1 c0 c1 c2 c3 c4 c5 s0 hs
    gi_wp2
    refine ⟨HK4.out, HBK4.out, .slice A2 q2 k2, ?_, HO4.out, H34.out, HB4.out, ?_⟩
    · rw [goodOf_snoc]; exact HS4.out
    · simp; omega
  case done =>
    rintro D xs W hD hS hT hK
    have HS := Lib.hid hS
    clear hS
    gi_wp2_with fail
    have hT2 : Told w B ps p3 xs (W.putObj D (.deferred none)) := OwnFrom.putObj (told_own w B ps p3 hBw) (.deferred none) hT (by omega) hK rfl
    have h32 : Blk (W.putObj D (.deferred none)) p3 24 #[.int .i64 0] := hT2.choose_spec.2.2.1
    generalize hW2 : W.putObj D (.deferred none) = W2 at *
    refine ⟨by simp, .inl ⟨_, _, rfl, run_takeDeferred hK, ?_⟩⟩
    rw [hW2]
    refine ⟨.tuple #[], by simp [results, Try.results53, go_sem], h32, .inl ⟨rfl, by rw [HS.out], by rw [HS.out]; exact hT2⟩⟩
  case gave =>
    rintro D ch xs W hD ⟨cc, rfl, hS⟩ hT hK
    have HS := Lib.hid hS
    clear hS
    have hT2 : Told w B ps p3 xs (W.putObj D (.deferred none)) := OwnFrom.putObj (told_own w B ps p3 hBw) (.deferred none) hT (by omega) hK rfl
    have h32 : Blk (W.putObj D (.deferred none)) p3 24 #[.int .i64 0] := hT2.choose_spec.2.2.1
    generalize hW2 : W.putObj D (.deferred none) = W2 at *
    refine ⟨by simp, .inl ⟨_, _, rfl, run_takeDeferred hK, ?_⟩⟩
    rw [hW2]
    refine ⟨h32, .inr ⟨_, rfl, by rw [HS.out], by rw [HS.out]; exact hT2⟩⟩
end Go.Proofs.Ytickdpgfiianjaa
