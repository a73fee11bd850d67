/-
  What a note leaves of a table: a marker, data. Conditions: fewer than 5000 transactions of an ID.
-/
import Derived.Test.YthcphoijanebhaaDoorRefuse0
import Derived.Laws.EntriesVeiled
namespace Go.Proofs.YthcphoijanebhaaDoor
set_option linter.unusedVariables false
open Go.RowKit Go.Maps
theorem i64max {a b : Int} : (if a < b then b else a) = max a b := by omega
section
variable {w : World} {g : Nat} {v : Value} {x : Nat → Wr} {mp : Nat → Nat} {i : Nat}
theorem Turn.of_set (w : World) (S : Nat → Prop) {g o : Nat} (hS : S g) (u : Value) : Turn S w (w.setCell ⟨g, o, none⟩ u) := (Turn.refl S w).setCell (fun _ => hS) u
theorem own_map {g : Nat} {mp : Nat → Nat} {i : Nat} (hi : i < 8) : own g mp (mp i) := .inr ⟨i, hi, rfl⟩
def Wr.marked' (x : Wr) (n : Int) : Wr := { x with marked := max x.marked n, opens := x.opens.filter fun p => decide (p.1 ≠ n), ended := n :: x.ended }
set_option maxRecDepth 100000 in
set_option maxHeartbeats 1000000 in
theorem noteMarker_any (h : TX w g v x mp) (hlt : ∀ b, own g mp b → b < w.heap.size) (hi : i < 4) {n : Int} (hn : In64 n) (hl : (x i).ended.length < 5000) :
    Calls Tryd.prog 96 #[.pointer (some ⟨g, 1 + i * 5, none⟩), .int .i64 n] w fun e w' => e = .returned (.tuple #[]) ∧ TX w' g v (upd x i ((x i).marked' n)) mp ∧ Turn (own g mp) w w' := by
  obtain ⟨c0, c1, c2, c3, c4⟩ := h.cells hi
  have f2 := h.blk.frozen (1 + i * 5 + 2)
  obtain ⟨r, hr⟩ : ∃ r, max (x i).marked n = r := ⟨_, rfl⟩
  have h1 := h.set hi (j := 2) (by omega) r
  have T1 := Turn.of_set w (own g mp) (g := g) (o := 1 + i * 5 + 2) (.inl rfl) (.int .i64 r)
  have hlt1 : ∀ b, own g mp b → b < (w.setCell ⟨g, 1 + i * 5 + 2, none⟩ (.int .i64 r)).heap.size := fun b hb => Nat.lt_of_lt_of_le (hlt b hb) T1.size
  obtain ⟨d0, d1, d2, d3, d4⟩ := h1.cells hi
  obtain ⟨w2, r2, m2, g2⟩ := (h1.em i hi).store hn (by rw [upd_same]; exact hl)
  have h2 := h1.ended hi m2 g2 hlt1
  have T2 : Turn (own g mp) _ w2 := Turn.of_grown g2 (fun b e => by cases e; exact own_map (by omega))
  have hlt2 : ∀ b, own g mp b → b < w2.heap.size := fun b hb => Nat.lt_of_lt_of_le (hlt1 b hb) T2.size
  obtain ⟨e0, e1, e2, e3, e4⟩ := h2.cells hi
  obtain ⟨w3, r3, m3, g3⟩ := (h2.om i hi).drop hn 0
  have h3 := h2.opened hi m3 g3 hlt2
  have T3 : Turn (own g mp) _ w3 := Turn.of_grown g3 (fun b e => by cases e; exact own_map (by omega))
  have HT := Lib.hid ((T1.trans T2 (fun _ _ h => h)).trans T3 (fun _ _ h => h))
  have HX := Lib.hid h3
  have HR := Lib.hid hr
  clear h h1 h2 h3 hlt hlt1 hlt2 T1 T2 T3 m2 m3 g2 g3 c0 c1 d0 d1 d2 d3 e0 e1 e2 e4
  go_enter Tryd.func96, Tryd.ntmps96
  go_wp2_with fail
  go_end0
  refine ⟨rfl, ?_, HT.out⟩
  have hx := HX.out
  simp only [upd_upd, upd_same] at hx
  unfold Wr.marked'
  rw [HR.out]
  exact hx
theorem TX.grow (h : TX w g v x mp) (hlt : ∀ b, own g mp b → b < w.heap.size) (o : Obj) (q : Nat) : TX ((w.alloc o).drewN q) g v x mp := h.keepB fun b hb => Below.heap_alloc w o b (hlt b hb)
theorem TX.drew (h : TX w g v x mp) : TX w.drew g v x mp := h.keepB fun _ _ => rfl
theorem TX.drewN (h : TX w g v x mp) (q : Nat) : TX (w.drewN q) g v x mp := h.keepB fun _ _ => rfl
theorem turn_grow (w : World) (S : Nat → Prop) (o : Obj) (q : Nat) : Turn S w ((w.alloc o).drewN q) := ⟨rfl, rfl, rfl, by show _ ≤ (w.alloc o).heap.size; simp, fun k hk _ => Below.heap_alloc w o k hk⟩
theorem turn_drew {w w' : World} {S : Nat → Prop} (h : Turn S w w') (q : Nat) : Turn S w (w'.drewN q) := ⟨h.os, h.tape, h.output, h.size, h.block⟩
set_option maxRecDepth 100000 in
set_option maxHeartbeats 2000000 in
theorem noteData_eq (h : TX w g v x mp) (hlt : ∀ b, own g mp b → b < w.heap.size) (hi : i < 4) {ep n s k va : Int} {p : Nat} (hn : In64 n) (hs : 0 ≤ s ∧ s ≤ 2147483647) (hl : (x i).opens.length < 5000) (he : n = (x i).high) :
    Calls Tryd.prog 95 #[.pointer (some ⟨g, 1 + i * 5, none⟩), .int .i64 (p : Int), .agg #[.int .i64 ep, .int .i64 (i : Int), .int .i64 n, .int .i64 s, .int .i64 k, .int .i64 va]] w fun e w' => e = .returned (.tuple #[]) ∧ TX w' g v (upd x i ((x i).data p ⟨ep, i, n, s, k, va⟩)) mp ∧ Turn (own g mp) w w' := by
  obtain ⟨c0, c1, c2, c3, c4⟩ := h.cells hi
  have f1 := h.blk.frozen (1 + i * 5 + 1)
  have hg := h.blk.lt
  have hd := eqb he
  have HE := Lib.hid he
  have HH := Lib.hid h
  have HL := Lib.hid hlt
  have hgne : g ≠ w.heap.size := by omega
  clear he h hlt
  obtain ⟨r, hr⟩ : ∃ r, max (x i).next (s + 1) = r := ⟨_, rfl⟩
  go_enter Tryd.func95, Tryd.ntmps95
  go_wp2_with fail
  go_quiet (fail)
  go_wp2_with fail
  go_region
  go_wp2_with fail
  generalize hq : nq + 1 = q
  clear hq nq
  have hX1 := (HH.out.grow HL.out (.cells #[.int .i64 ep, .int .i64 (i : Int), .int .i64 n, .int .i64 s, .int .i64 k, .int .i64 va] 45) q).set hi (j := 1) (by omega) r
  have hT1 : Turn (own g mp) w (((w.alloc (.cells #[.int .i64 ep, .int .i64 (i : Int), .int .i64 n, .int .i64 s, .int .i64 k, .int .i64 va] 45)).drewN q).setCell ⟨g, 1 + i * 5 + 1, none⟩ (.int .i64 r)) := (turn_grow w _ _ q).setCell (fun _ => .inl rfl) _
  have hb1 : (((w.alloc (.cells #[.int .i64 ep, .int .i64 (i : Int), .int .i64 n, .int .i64 s, .int .i64 k, .int .i64 va] 45)).drewN q).setCell ⟨g, 1 + i * 5 + 1, none⟩ (.int .i64 r)).cell? ⟨w.heap.size, 2, none⟩ = some (.int .i64 n) := by
    have hB : Blk ((w.alloc (.cells #[.int .i64 ep, .int .i64 (i : Int), .int .i64 n, .int .i64 s, .int .i64 k, .int .i64 va] 45)).drewN q) w.heap.size 45 #[.int .i64 ep, .int .i64 (i : Int), .int .i64 n, .int .i64 s, .int .i64 k, .int .i64 va] := Blk.new w 45 _
    exact (hB.far (p := ⟨g, 1 + i * 5 + 1, none⟩) (Ne.symm hgne) _).cell 2
  simp only [Nat.one_ne_zero, if_false, if_true] at hX1
  generalize hw1 : (((w.alloc _).drewN q).setCell _ _) = w1 at *
  obtain ⟨y, hy⟩ : ∃ y, y = { x i with next := r } := ⟨_, rfl⟩
  rw [← hy] at hX1
  have HY : Hid (({ y with opens := if n ∈ y.ended ∨ n ∈ keys y.opens then y.opens else y.opens ++ [(n, p)] } : Wr) = (x i).data p ⟨ep, i, n, s, k, va⟩ ∧ y.ended = (x i).ended ∧ y.opens = (x i).opens) := Lib.hid (by
    rw [hy]
    unfold Wr.data
    refine ⟨?_, rfl, rfl⟩
    dsimp only
    rw [if_pos HE.out, hr])
  clear c0 c1 c2 c3 c4 f1 hy hw1 hr hd
  have HT1 := Lib.hid hT1
  have hlt1 : Hid (∀ b, own g mp b → b < w1.heap.size) := Lib.hid (fun b hb => Nat.lt_of_lt_of_le (HL.out b hb) hT1.size)
  have hs1 : Hid (w.heap.size < w1.heap.size) := Lib.hid (block_lt_of_cell hb1)
  clear hT1
  obtain ⟨c0, c1, c2, c3, c4⟩ := hX1.cells hi
  have hE := (hX1.drew.em i hi).look_ok hn
  rw [upd_same] at hE
  have hX1' := hX1.drew.grow hlt1.out (.cells #[] 133) 0
  change TX (w1.alloc (.cells #[] 133)).drew _ _ _ _ at hX1'
  have hE' := (hX1'.em i hi).look_ok hn
  rw [upd_same] at hE'
  have c4' := (hX1'.cells hi).2.2.2.2
  have hb1' : (w1.alloc (.cells #[] 133)).drew.cell? ⟨w.heap.size, 2, none⟩ = some (.int .i64 n) := (((Below.refl w1.heap.size w1).alloc (Nat.le_refl _) _).cell (p := ⟨w.heap.size, 2, none⟩) hs1.out).trans hb1
  have HX1 := Lib.hid hX1'
  have hT2 : Turn (own g mp) w (w1.alloc (.cells #[] 133)).drew := HT1.out.trans (S' := No) (turn_grow w1 No (.cells #[] 133) 1) (fun _ _ h => False.elim h)
  have HT2 := Lib.hid hT2
  clear hX1 hX1' c0 c1 c2 hT2
  obtain ⟨bE, hbE⟩ : ∃ b, b = decide (n ∈ y.ended) := ⟨_, rfl⟩
  obtain ⟨bO, hbO⟩ : ∃ b, b = decide (n ∈ keys y.opens) := ⟨_, rfl⟩
  have HBE := Lib.hid hbE
  have HBO := Lib.hid hbO
  rw [← hbE] at hE hE'
  clear hbE
  go_region
  all_goals
    go_wp2_with fail
    generalize hw2 : (w1.alloc (.cells #[] 133)).drew = w2 at *
    clear hw2 hE hE' hb1 c3 c4 c4'
    obtain ⟨c0, c1, c2, c3, c4⟩ := HX1.out.cells hi
    have hO := fun q => ((HX1.out.drewN q).om i hi).look_ok hn
    simp only [upd_same, ← hbO] at hO
    clear c0 c1 c2 c4 hbO
    generalize (((find y.opens n).getD 0 : Nat) : Int) = fi at hO
    go_quiet (fail)
    have hX3 := HX1.out.drewN nq
    have hT3 := turn_drew HT2.out nq
    have hb3 : (w2.drewN nq).cell? ⟨w.heap.size, 2, none⟩ = some (.int .i64 n) := hb1'
    generalize hw3 : w2.drewN nq = w3 at *
    have hlt3 : ∀ b, own g mp b → b < w3.heap.size := fun b hb => Nat.lt_of_lt_of_le (HL.out b hb) hT3.size
    have HX3 := Lib.hid hX3
    have HT3 := Lib.hid hT3
    have HL3 := Lib.hid hlt3
    clear hX3 hT3 hlt3 hw3 hO c3 HX1 HT2 hb1' hlt1 HT1 hs1
    cases bE
    case true =>
      go_wp2_with fail
      go_end0
      refine ⟨rfl, ?_, HT3.out⟩
      rw [← HY.out.1, if_pos (.inl (of_decide_eq_true HBE.out.symm))]
      exact HX3.out
    case false =>
    cases bO
    case true =>
      go_wp2_with fail
      go_end0
      refine ⟨rfl, ?_, HT3.out⟩
      rw [← HY.out.1, if_pos (.inr (of_decide_eq_true HBO.out.symm))]
      exact HX3.out
    case false =>
    have hne : n ∉ keys y.opens := of_decide_eq_false HBO.out.symm
    have hnE : n ∉ y.ended := of_decide_eq_false HBE.out.symm
    obtain ⟨w4, r4, m4, g4⟩ := (HX3.out.drew.om i hi).store hn (by rw [upd_same]; exact hne) p (by rw [upd_same, HY.out.2.2]; exact hl)
    have c3 := (HX3.out.cells hi).2.2.2.1
    have HX4 := Lib.hid (HX3.out.drew.opened hi m4 g4 HL3.out)
    have HT4 : Hid (Turn (own g mp) w w4) := Lib.hid ((turn_drew HT3.out 1).trans (Turn.of_grown g4 (fun b e => by cases e; exact own_map (by omega))) (fun _ _ h => h))
    clear m4 g4
    go_wp2_with fail
    go_region
    go_wp2_with fail
    go_end0
    refine ⟨rfl, ?_, HT4.out⟩
    have hx := HX4.out
    simp only [upd_upd, upd_same] at hx
    rw [← HY.out.1, if_neg (by intro q; exact q.elim hnE hne)]
    exact hx
set_option maxRecDepth 100000 in
set_option maxHeartbeats 2000000 in
theorem noteData_ne (h : TX w g v x mp) (hlt : ∀ b, own g mp b → b < w.heap.size) (hi : i < 4) {ep n s k va : Int} {p : Nat} (hn : In64 n) (hs : 0 ≤ s ∧ s ≤ 2147483647) (hl : (x i).opens.length < 5000) (he : ¬ n = (x i).high) :
    Calls Tryd.prog 95 #[.pointer (some ⟨g, 1 + i * 5, none⟩), .int .i64 (p : Int), .agg #[.int .i64 ep, .int .i64 (i : Int), .int .i64 n, .int .i64 s, .int .i64 k, .int .i64 va]] w fun e w' => e = .returned (.tuple #[]) ∧ TX w' g v (upd x i ((x i).data p ⟨ep, i, n, s, k, va⟩)) mp ∧ Turn (own g mp) w w' := by
  obtain ⟨c0, c1, c2, c3, c4⟩ := h.cells hi
  have f1 := h.blk.frozen (1 + i * 5 + 1)
  have hg := h.blk.lt
  have hd := neb he
  have HE := Lib.hid he
  have HH := Lib.hid h
  have HL := Lib.hid hlt
  have hgne : g ≠ w.heap.size := by omega
  clear he h hlt
  obtain ⟨r, hr⟩ : ∃ r, max (x i).next (s + 1) = r := ⟨_, rfl⟩
  go_enter Tryd.func95, Tryd.ntmps95
  go_wp2_with fail
  go_quiet (fail)
  go_wp2_with fail
  have hX1 : TX ((w.alloc (.cells #[.int .i64 ep, .int .i64 (i : Int), .int .i64 n, .int .i64 s, .int .i64 k, .int .i64 va] 45)).drewN nq) g v (upd x i (x i)) mp := by rw [upd_self]; exact HH.out.grow HL.out (.cells #[.int .i64 ep, .int .i64 (i : Int), .int .i64 n, .int .i64 s, .int .i64 k, .int .i64 va] 45) nq
  have hT1 : Turn (own g mp) w ((w.alloc (.cells #[.int .i64 ep, .int .i64 (i : Int), .int .i64 n, .int .i64 s, .int .i64 k, .int .i64 va] 45)).drewN nq) := turn_grow w _ _ nq
  have hb1 : ((w.alloc (.cells #[.int .i64 ep, .int .i64 (i : Int), .int .i64 n, .int .i64 s, .int .i64 k, .int .i64 va] 45)).drewN nq).cell? ⟨w.heap.size, 2, none⟩ = some (.int .i64 n) := by
    have hB : Blk ((w.alloc (.cells #[.int .i64 ep, .int .i64 (i : Int), .int .i64 n, .int .i64 s, .int .i64 k, .int .i64 va] 45)).drewN nq) w.heap.size 45 #[.int .i64 ep, .int .i64 (i : Int), .int .i64 n, .int .i64 s, .int .i64 k, .int .i64 va] := Blk.new w 45 _
    exact hB.cell 2
  generalize hw1 : ((w.alloc _).drewN nq) = w1 at *
  obtain ⟨y, hy⟩ : ∃ y, y = x i := ⟨_, rfl⟩
  rw [← hy] at hX1
  have HY : Hid (({ y with opens := if n ∈ y.ended ∨ n ∈ keys y.opens then y.opens else y.opens ++ [(n, p)] } : Wr) = (x i).data p ⟨ep, i, n, s, k, va⟩ ∧ y.ended = (x i).ended ∧ y.opens = (x i).opens) := Lib.hid (by
    rw [hy]
    unfold Wr.data
    refine ⟨?_, rfl, rfl⟩
    dsimp only
    rw [if_neg HE.out])
  clear c0 c1 c2 c3 c4 f1 hy hw1 hr hd
  have HT1 := Lib.hid hT1
  have hlt1 : Hid (∀ b, own g mp b → b < w1.heap.size) := Lib.hid (fun b hb => Nat.lt_of_lt_of_le (HL.out b hb) hT1.size)
  have hs1 : Hid (w.heap.size < w1.heap.size) := Lib.hid (block_lt_of_cell hb1)
  clear hT1
  obtain ⟨c0, c1, c2, c3, c4⟩ := hX1.cells hi
  have hE := (hX1.drew.em i hi).look_ok hn
  rw [upd_same] at hE
  have hX1' := hX1.drew.grow hlt1.out (.cells #[] 133) 0
  change TX (w1.alloc (.cells #[] 133)).drew _ _ _ _ at hX1'
  have hE' := (hX1'.em i hi).look_ok hn
  rw [upd_same] at hE'
  have c4' := (hX1'.cells hi).2.2.2.2
  have hb1' : (w1.alloc (.cells #[] 133)).drew.cell? ⟨w.heap.size, 2, none⟩ = some (.int .i64 n) := (((Below.refl w1.heap.size w1).alloc (Nat.le_refl _) _).cell (p := ⟨w.heap.size, 2, none⟩) hs1.out).trans hb1
  have HX1 := Lib.hid hX1'
  have hT2 : Turn (own g mp) w (w1.alloc (.cells #[] 133)).drew := HT1.out.trans (S' := No) (turn_grow w1 No (.cells #[] 133) 1) (fun _ _ h => False.elim h)
  have HT2 := Lib.hid hT2
  clear hX1 hX1' c0 c1 c2 hT2
  obtain ⟨bE, hbE⟩ : ∃ b, b = decide (n ∈ y.ended) := ⟨_, rfl⟩
  obtain ⟨bO, hbO⟩ : ∃ b, b = decide (n ∈ keys y.opens) := ⟨_, rfl⟩
  have HBE := Lib.hid hbE
  have HBO := Lib.hid hbO
  rw [← hbE] at hE hE'
  clear hbE
  go_region
  all_goals
    go_wp2_with fail
    generalize hw2 : (w1.alloc (.cells #[] 133)).drew = w2 at *
    clear hw2 hE hE' hb1 c3 c4 c4'
    obtain ⟨c0, c1, c2, c3, c4⟩ := HX1.out.cells hi
    have hO := fun q => ((HX1.out.drewN q).om i hi).look_ok hn
    simp only [upd_same, ← hbO] at hO
    clear c0 c1 c2 c4 hbO
    generalize (((find y.opens n).getD 0 : Nat) : Int) = fi at hO
    go_quiet (fail)
    have hX3 := HX1.out.drewN nq
    have hT3 := turn_drew HT2.out nq
    have hb3 : (w2.drewN nq).cell? ⟨w.heap.size, 2, none⟩ = some (.int .i64 n) := hb1'
    generalize hw3 : w2.drewN nq = w3 at *
    have hlt3 : ∀ b, own g mp b → b < w3.heap.size := fun b hb => Nat.lt_of_lt_of_le (HL.out b hb) hT3.size
    have HX3 := Lib.hid hX3
    have HT3 := Lib.hid hT3
    have HL3 := Lib.hid hlt3
    clear hX3 hT3 hlt3 hw3 hO c3 HX1 HT2 hb1' hlt1 HT1 hs1
    cases bE
    case true =>
      go_wp2_with fail
      go_end0
      refine ⟨rfl, ?_, HT3.out⟩
      rw [← HY.out.1, if_pos (.inl (of_decide_eq_true HBE.out.symm))]
      exact HX3.out
    case false =>
    cases bO
    case true =>
      go_wp2_with fail
      go_end0
      refine ⟨rfl, ?_, HT3.out⟩
      rw [← HY.out.1, if_pos (.inr (of_decide_eq_true HBO.out.symm))]
      exact HX3.out
    case false =>
    have hne : n ∉ keys y.opens := of_decide_eq_false HBO.out.symm
    have hnE : n ∉ y.ended := of_decide_eq_false HBE.out.symm
    obtain ⟨w4, r4, m4, g4⟩ := (HX3.out.drew.om i hi).store hn (by rw [upd_same]; exact hne) p (by rw [upd_same, HY.out.2.2]; exact hl)
    have c3 := (HX3.out.cells hi).2.2.2.1
    have HX4 := Lib.hid (HX3.out.drew.opened hi m4 g4 HL3.out)
    have HT4 : Hid (Turn (own g mp) w w4) := Lib.hid ((turn_drew HT3.out 1).trans (Turn.of_grown g4 (fun b e => by cases e; exact own_map (by omega))) (fun _ _ h => h))
    clear m4 g4
    go_wp2_with fail
    go_region
    go_wp2_with fail
    go_end0
    refine ⟨rfl, ?_, HT4.out⟩
    have hx := HX4.out
    simp only [upd_upd, upd_same] at hx
    rw [← HY.out.1, if_neg (by intro q; exact q.elim hnE hne)]
    exact hx
end
end Go.Proofs.YthcphoijanebhaaDoor
