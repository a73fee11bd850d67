/-
  What a note leaves of a table: of a writer, of a table. Conditions: fewer than 5000 transactions of an ID.
-/
import Derived.Test.YthcphoijanebhaaDoorNote
import Derived.StillTailTactics
namespace Go.Proofs.YthcphoijanebhaaDoor
set_option linter.unusedVariables false
open Go.RowKit Go.Maps
section
variable {w : World} {g : Nat} {v : Value} {x : Nat → Wr} {mp : Nat → Nat} {i : Nat}
theorem noteData_any (h : TX w g v x mp) (hlt : ∀ b, own g mp b → b < w.heap.size) (hi : i < 4) {ep n s k va : Int} {p : Nat} (hn : In64 n) (hs : 0 ≤ s ∧ s ≤ 2147483647) (hl : (x i).opens.length < 5000) :
    Calls Tryd.prog 95 #[.pointer (some ⟨g, 1 + i * 5, none⟩), .int .i64 (p : Int), .agg #[.int .i64 ep, .int .i64 (i : Int), .int .i64 n, .int .i64 s, .int .i64 k, .int .i64 va]] w fun e w' => e = .returned (.tuple #[]) ∧ TX w' g v (upd x i ((x i).data p ⟨ep, i, n, s, k, va⟩)) mp ∧ Turn (own g mp) w w' := by
  by_cases he : n = (x i).high
  · exact noteData_eq h hlt hi hn hs hl he
  · exact noteData_ne h hlt hi hn hs hl he
theorem TX.up (h : TX w g v x mp) (hi : i < 4) {e : Ent} (h1 : (x i).high < e.num) : TX ((w.setCell ⟨g, 1 + i * 5, none⟩ (.int .i64 e.num)).setCell ⟨g, 1 + i * 5 + 1, none⟩ (.int .i64 0)) g v (upd x i ((x i).up e)) mp := by
  have a := (h.set hi (j := 0) (by omega) e.num).set hi (j := 1) (by omega) 0
  simp only [upd_upd, upd_same, Nat.one_ne_zero, if_false, if_true] at a
  unfold Wr.up
  rw [if_pos h1]
  exact a
theorem up_no (x : Wr) {e : Ent} (h1 : ¬ x.high < e.num) : x.up e = x := by unfold Wr.up; rw [if_neg h1]
theorem note_data (x : Wr) (p : Nat) {e : Ent} (h : e.kind = 1) : x.note p e = (x.up e).data p e := by unfold Wr.note; rw [if_pos h]
theorem note_mark (x : Wr) (p : Nat) {e : Ent} (h : ¬ e.kind = 1) : x.note p e = (x.up e).marked' e.num := by unfold Wr.note; rw [if_neg h]; rfl
theorem up_lens (x : Wr) (e : Ent) {n : Nat} (h1 : x.opens.length < n) (h2 : x.ended.length < n) : (x.up e).opens.length < n ∧ (x.up e).ended.length < n := by
  rw [(up_opens x e).1, (up_opens x e).2.1]; exact ⟨h1, h2⟩
set_option maxRecDepth 100000 in
set_option maxHeartbeats 2000000 in
theorem note62_upD (h : TX w g v x mp) (hlt : ∀ b, own g mp b → b < w.heap.size) (hi : i < 4) {ep n s k va : Int} {p : Nat} (hn : In64 n) (hs : 0 ≤ s ∧ s ≤ 2147483647) (hl : (x i).opens.length < 5000) (hl2 : (x i).ended.length < 5000) (h1 : (x i).high < n) (hk : k = 1) :
    Calls Tryd.prog 89 #[.pointer (some ⟨g, 1 + i * 5, none⟩), .int .i64 (p : Int), .agg #[.int .i64 ep, .int .i64 (i : Int), .int .i64 n, .int .i64 s, .int .i64 k, .int .i64 va]] w fun e w' => e = .returned (.tuple #[]) ∧ TX w' g v (upd x i ((x i).note p ⟨ep, i, n, s, k, va⟩)) mp ∧ Turn (own g mp) w w' := by
  obtain ⟨c0, c1, c2, c3, c4⟩ := h.cells hi
  have f0 := h.blk.frozen (1 + i * 5)
  have f1 := h.blk.frozen (1 + i * 5 + 1)
  have hg := h.blk.lt
  have hgne : g ≠ w.heap.size := by omega
  have hd : decide ((x i).high < n) = true := by simpa using h1
  have hkb := eqb hk
  have HH := Lib.hid h
  have HL := Lib.hid hlt
  have H1 := Lib.hid h1
  have HK := Lib.hid hk
  have HLN := Lib.hid (up_lens (x i) (⟨ep, i, n, s, k, va⟩ : Ent) hl hl2)
  clear h hlt h1 hk hl hl2
  go_enter Tryd.func89, Tryd.ntmps89
  go_wp2_with fail
  go_quiet (fail)
  have hX2 := (HH.out.grow HL.out (.cells #[.int .i64 ep, .int .i64 (i : Int), .int .i64 n, .int .i64 s, .int .i64 k, .int .i64 va] 45) nq).up hi (e := (⟨ep, i, n, s, k, va⟩ : Ent)) H1.out
  have hT2 : Turn (own g mp) w ((((w.alloc (.cells #[.int .i64 ep, .int .i64 (i : Int), .int .i64 n, .int .i64 s, .int .i64 k, .int .i64 va] 45)).drewN nq).setCell ⟨g, 1 + i * 5, none⟩ (.int .i64 n)).setCell ⟨g, 1 + i * 5 + 1, none⟩ (.int .i64 0)) := ((turn_grow w _ _ nq).setCell (fun _ => .inl rfl) _).setCell (fun _ => .inl rfl) _
  have HX2 := Lib.hid hX2
  have HT2 := Lib.hid hT2
  clear hX2 hT2
  go_wp2_with fail
  refine (noteData_any HX2.out (fun b hb => Nat.lt_of_lt_of_le (HL.out b hb) HT2.out.size) hi hn hs (by rw [upd_same]; exact HLN.out.1)).mono ?_
  rintro e w3 ⟨rfl, hX3, hT3⟩
  rw [upd_same, upd_upd, ← note_data (e := (⟨ep, i, n, s, k, va⟩ : Ent)) (x i) p HK.out] at hX3
  have HX3 := Lib.hid hX3
  have HT3 := Lib.hid (HT2.out.trans hT3 (fun _ _ h => h))
  clear hX3 hT3
  go_wp2_with fail
  go_end0
  exact ⟨rfl, HX3.out, HT3.out⟩
set_option maxRecDepth 100000 in
set_option maxHeartbeats 2000000 in
theorem note62_upM (h : TX w g v x mp) (hlt : ∀ b, own g mp b → b < w.heap.size) (hi : i < 4) {ep n s k va : Int} {p : Nat} (hn : In64 n) (hs : 0 ≤ s ∧ s ≤ 2147483647) (hl : (x i).opens.length < 5000) (hl2 : (x i).ended.length < 5000) (h1 : (x i).high < n) (hk : ¬ k = 1) :
    Calls Tryd.prog 89 #[.pointer (some ⟨g, 1 + i * 5, none⟩), .int .i64 (p : Int), .agg #[.int .i64 ep, .int .i64 (i : Int), .int .i64 n, .int .i64 s, .int .i64 k, .int .i64 va]] w fun e w' => e = .returned (.tuple #[]) ∧ TX w' g v (upd x i ((x i).note p ⟨ep, i, n, s, k, va⟩)) mp ∧ Turn (own g mp) w w' := by
  obtain ⟨c0, c1, c2, c3, c4⟩ := h.cells hi
  have f0 := h.blk.frozen (1 + i * 5)
  have f1 := h.blk.frozen (1 + i * 5 + 1)
  have hg := h.blk.lt
  have hgne : g ≠ w.heap.size := by omega
  have hd : decide ((x i).high < n) = true := by simpa using h1
  have hkb := neb hk
  have HH := Lib.hid h
  have HL := Lib.hid hlt
  have H1 := Lib.hid h1
  have HK := Lib.hid hk
  have HLN := Lib.hid (up_lens (x i) (⟨ep, i, n, s, k, va⟩ : Ent) hl hl2)
  clear h hlt h1 hk hl hl2
  go_enter Tryd.func89, Tryd.ntmps89
  go_wp2_with fail
  go_quiet (fail)
  have hX2 := (HH.out.grow HL.out (.cells #[.int .i64 ep, .int .i64 (i : Int), .int .i64 n, .int .i64 s, .int .i64 k, .int .i64 va] 45) nq).up hi (e := (⟨ep, i, n, s, k, va⟩ : Ent)) H1.out
  have hT2 : Turn (own g mp) w ((((w.alloc (.cells #[.int .i64 ep, .int .i64 (i : Int), .int .i64 n, .int .i64 s, .int .i64 k, .int .i64 va] 45)).drewN nq).setCell ⟨g, 1 + i * 5, none⟩ (.int .i64 n)).setCell ⟨g, 1 + i * 5 + 1, none⟩ (.int .i64 0)) := ((turn_grow w _ _ nq).setCell (fun _ => .inl rfl) _).setCell (fun _ => .inl rfl) _
  have HX2 := Lib.hid hX2
  have HT2 := Lib.hid hT2
  clear hX2 hT2
  go_wp2_with fail
  refine (noteMarker_any HX2.out (fun b hb => Nat.lt_of_lt_of_le (HL.out b hb) HT2.out.size) hi hn (by rw [upd_same]; exact HLN.out.2)).mono ?_
  rintro e w3 ⟨rfl, hX3, hT3⟩
  rw [upd_same, upd_upd, ← note_mark (e := (⟨ep, i, n, s, k, va⟩ : Ent)) (x i) p HK.out] at hX3
  have HX3 := Lib.hid hX3
  have HT3 := Lib.hid (HT2.out.trans hT3 (fun _ _ h => h))
  clear hX3 hT3
  go_wp2_with fail
  go_end0
  exact ⟨rfl, HX3.out, HT3.out⟩
set_option maxRecDepth 100000 in
set_option maxHeartbeats 2000000 in
theorem note62_noD (h : TX w g v x mp) (hlt : ∀ b, own g mp b → b < w.heap.size) (hi : i < 4) {ep n s k va : Int} {p : Nat} (hn : In64 n) (hs : 0 ≤ s ∧ s ≤ 2147483647) (hl : (x i).opens.length < 5000) (hl2 : (x i).ended.length < 5000) (h1 : ¬ (x i).high < n) (hk : k = 1) :
    Calls Tryd.prog 89 #[.pointer (some ⟨g, 1 + i * 5, none⟩), .int .i64 (p : Int), .agg #[.int .i64 ep, .int .i64 (i : Int), .int .i64 n, .int .i64 s, .int .i64 k, .int .i64 va]] w fun e w' => e = .returned (.tuple #[]) ∧ TX w' g v (upd x i ((x i).note p ⟨ep, i, n, s, k, va⟩)) mp ∧ Turn (own g mp) w w' := by
  obtain ⟨c0, c1, c2, c3, c4⟩ := h.cells hi
  have f0 := h.blk.frozen (1 + i * 5)
  have f1 := h.blk.frozen (1 + i * 5 + 1)
  have hg := h.blk.lt
  have hgne : g ≠ w.heap.size := by omega
  have hd : decide ((x i).high < n) = false := by simpa using h1
  have hkb := eqb hk
  have HH := Lib.hid h
  have HL := Lib.hid hlt
  have H1 := Lib.hid h1
  have HK := Lib.hid hk
  have HLN := Lib.hid (up_lens (x i) (⟨ep, i, n, s, k, va⟩ : Ent) hl hl2)
  clear h hlt h1 hk hl hl2
  go_enter Tryd.func89, Tryd.ntmps89
  go_wp2_with fail
  go_quiet (fail)
  have hX2 : TX ((w.alloc (.cells #[.int .i64 ep, .int .i64 (i : Int), .int .i64 n, .int .i64 s, .int .i64 k, .int .i64 va] 45)).drewN nq) g v (upd x i ((x i).up (⟨ep, i, n, s, k, va⟩ : Ent))) mp := by
    rw [up_no (e := (⟨ep, i, n, s, k, va⟩ : Ent)) (x i) (Int.not_lt.2 H1.out), upd_self]
    exact HH.out.grow HL.out (.cells #[.int .i64 ep, .int .i64 (i : Int), .int .i64 n, .int .i64 s, .int .i64 k, .int .i64 va] 45) nq
  have hT2 : Turn (own g mp) w ((w.alloc (.cells #[.int .i64 ep, .int .i64 (i : Int), .int .i64 n, .int .i64 s, .int .i64 k, .int .i64 va] 45)).drewN nq) := turn_grow w _ _ nq
  have HX2 := Lib.hid hX2
  have HT2 := Lib.hid hT2
  clear hX2 hT2
  go_wp2_with fail
  refine (noteData_any HX2.out (fun b hb => Nat.lt_of_lt_of_le (HL.out b hb) HT2.out.size) hi hn hs (by rw [upd_same]; exact HLN.out.1)).mono ?_
  rintro e w3 ⟨rfl, hX3, hT3⟩
  rw [upd_same, upd_upd, ← note_data (e := (⟨ep, i, n, s, k, va⟩ : Ent)) (x i) p HK.out] at hX3
  have HX3 := Lib.hid hX3
  have HT3 := Lib.hid (HT2.out.trans hT3 (fun _ _ h => h))
  clear hX3 hT3
  go_wp2_with fail
  go_end0
  exact ⟨rfl, HX3.out, HT3.out⟩
set_option maxRecDepth 100000 in
set_option maxHeartbeats 2000000 in
theorem note62_noM (h : TX w g v x mp) (hlt : ∀ b, own g mp b → b < w.heap.size) (hi : i < 4) {ep n s k va : Int} {p : Nat} (hn : In64 n) (hs : 0 ≤ s ∧ s ≤ 2147483647) (hl : (x i).opens.length < 5000) (hl2 : (x i).ended.length < 5000) (h1 : ¬ (x i).high < n) (hk : ¬ k = 1) :
    Calls Tryd.prog 89 #[.pointer (some ⟨g, 1 + i * 5, none⟩), .int .i64 (p : Int), .agg #[.int .i64 ep, .int .i64 (i : Int), .int .i64 n, .int .i64 s, .int .i64 k, .int .i64 va]] w fun e w' => e = .returned (.tuple #[]) ∧ TX w' g v (upd x i ((x i).note p ⟨ep, i, n, s, k, va⟩)) mp ∧ Turn (own g mp) w w' := by
  obtain ⟨c0, c1, c2, c3, c4⟩ := h.cells hi
  have f0 := h.blk.frozen (1 + i * 5)
  have f1 := h.blk.frozen (1 + i * 5 + 1)
  have hg := h.blk.lt
  have hgne : g ≠ w.heap.size := by omega
  have hd : decide ((x i).high < n) = false := by simpa using h1
  have hkb := neb hk
  have HH := Lib.hid h
  have HL := Lib.hid hlt
  have H1 := Lib.hid h1
  have HK := Lib.hid hk
  have HLN := Lib.hid (up_lens (x i) (⟨ep, i, n, s, k, va⟩ : Ent) hl hl2)
  clear h hlt h1 hk hl hl2
  go_enter Tryd.func89, Tryd.ntmps89
  go_wp2_with fail
  go_quiet (fail)
  have hX2 : TX ((w.alloc (.cells #[.int .i64 ep, .int .i64 (i : Int), .int .i64 n, .int .i64 s, .int .i64 k, .int .i64 va] 45)).drewN nq) g v (upd x i ((x i).up (⟨ep, i, n, s, k, va⟩ : Ent))) mp := by
    rw [up_no (e := (⟨ep, i, n, s, k, va⟩ : Ent)) (x i) (Int.not_lt.2 H1.out), upd_self]
    exact HH.out.grow HL.out (.cells #[.int .i64 ep, .int .i64 (i : Int), .int .i64 n, .int .i64 s, .int .i64 k, .int .i64 va] 45) nq
  have hT2 : Turn (own g mp) w ((w.alloc (.cells #[.int .i64 ep, .int .i64 (i : Int), .int .i64 n, .int .i64 s, .int .i64 k, .int .i64 va] 45)).drewN nq) := turn_grow w _ _ nq
  have HX2 := Lib.hid hX2
  have HT2 := Lib.hid hT2
  clear hX2 hT2
  go_wp2_with fail
  refine (noteMarker_any HX2.out (fun b hb => Nat.lt_of_lt_of_le (HL.out b hb) HT2.out.size) hi hn (by rw [upd_same]; exact HLN.out.2)).mono ?_
  rintro e w3 ⟨rfl, hX3, hT3⟩
  rw [upd_same, upd_upd, ← note_mark (e := (⟨ep, i, n, s, k, va⟩ : Ent)) (x i) p HK.out] at hX3
  have HX3 := Lib.hid hX3
  have HT3 := Lib.hid (HT2.out.trans hT3 (fun _ _ h => h))
  clear hX3 hT3
  go_wp2_with fail
  go_end0
  exact ⟨rfl, HX3.out, HT3.out⟩
theorem note62_any (h : TX w g v x mp) (hlt : ∀ b, own g mp b → b < w.heap.size) (hi : i < 4) {ep n s k va : Int} {p : Nat} (hn : In64 n) (hs : 0 ≤ s ∧ s ≤ 2147483647) (hl : (x i).opens.length < 5000) (hl2 : (x i).ended.length < 5000) :
    Calls Tryd.prog 89 #[.pointer (some ⟨g, 1 + i * 5, none⟩), .int .i64 (p : Int), .agg #[.int .i64 ep, .int .i64 (i : Int), .int .i64 n, .int .i64 s, .int .i64 k, .int .i64 va]] w fun e w' => e = .returned (.tuple #[]) ∧ TX w' g v (upd x i ((x i).note p ⟨ep, i, n, s, k, va⟩)) mp ∧ Turn (own g mp) w w' := by
  by_cases h1 : (x i).high < n <;> by_cases hk : k = 1
  · exact note62_upD h hlt hi hn hs hl hl2 h1 hk
  · exact note62_upM h hlt hi hn hs hl hl2 h1 hk
  · exact note62_noD h hlt hi hn hs hl hl2 h1 hk
  · exact note62_noM h hlt hi hn hs hl hl2 h1 hk
/-- The writers behind an entry. -/
def noted (x : Nat → Wr) (p : Nat) (e : Ent) : Nat → Wr := if e.id = -1 then x else upd x e.id.toNat ((x e.id.toNat).note p e)
theorem Blk.six' {a b c d e f : Value} {t : TypeId} (h : Blk w g t #[a, b, c, d, e, f]) : w.cell? ⟨g, 0, none⟩ = some a ∧ w.cell? ⟨g, 1, none⟩ = some b ∧ w.cell? ⟨g, 2, none⟩ = some c ∧ w.cell? ⟨g, 3, none⟩ = some d ∧ w.cell? ⟨g, 4, none⟩ = some e ∧ w.cell? ⟨g, 5, none⟩ = some f := ⟨h.cell 0, h.cell 1, h.cell 2, h.cell 3, h.cell 4, h.cell 5⟩
theorem TX.congr {x' : Nat → Wr} (h : TX w g v x mp) (he : ∀ i, i < 4 → x' i = x i) : TX w g v x' mp := by
  refine ⟨?_, fun i hi => by rw [he i hi]; exact h.om i hi, fun i hi => by rw [he i hi]; exact h.em i hi, h.rise⟩
  have := h.blk
  unfold tabA at this ⊢
  rw [he 0 (by omega), he 1 (by omega), he 2 (by omega), he 3 (by omega)]
  exact this
set_option maxRecDepth 100000 in
set_option maxHeartbeats 2000000 in
/-- (*Table).note. -/
theorem note_any (h : TX w g v x mp) (hlt : ∀ b, own g mp b → b < w.heap.size) {e : Ent} (hr : Right e) {p : Nat} (hl : ∀ i, i < 4 → (x i).opens.length < 5000 ∧ (x i).ended.length < 5000) :
    Calls Tryd.prog 75 #[.pointer (some ⟨g, 0, none⟩), .int .i64 (p : Int), e.val] w fun r w' => r = .returned (.tuple #[]) ∧ TX w' g v (noted x p e) mp ∧ Turn (own g mp) w w' := by
  by_cases hid : e.id = -1
  · have hN : Hid (noted x p e = x) := Lib.hid (by unfold noted; rw [if_pos hid])
    have hb := eqn hid
    have HH := Lib.hid (h.grow hlt (.cells e.cells 45) 0)
    have HT := Lib.hid (turn_grow w (own g mp) (.cells e.cells 45) 0)
    clear h hlt hid
    unfold Ent.val
    unfold Ent.cells at *
    go_enter Tryd.func75, Tryd.ntmps75
    go_wp2_with fail
    go_end0
    refine ⟨rfl, ?_, HT.out⟩
    rw [hN.out]
    exact HH.out
  · obtain ⟨hnn, hss, hii⟩ := right_in64 hr
    obtain ⟨i, hi, hie⟩ : ∃ i : Nat, i < 4 ∧ e.id = (i : Int) := ⟨e.id.toNat, by unfold Right at hr; omega, by unfold Right at hr; omega⟩
    have hsq : 0 ≤ e.seq ∧ e.seq ≤ 2147483647 := by unfold Right at hr; omega
    have hN : noted x p e = upd x i ((x i).note p e) := by unfold noted; rw [if_neg hid, hie]; rfl
    obtain ⟨ep, id, n, s, k, va⟩ := e
    dsimp only at hie hsq hnn
    subst hie
    have hb := nen hid
    have HN := Lib.hid hN
    have HH := Lib.hid h
    have HL := Lib.hid hlt
    have HLN := Lib.hid (hl i hi)
    have hg := h.blk.lt
    clear h hlt hid hN hl hr hss hii
    unfold Ent.val Ent.cells
    dsimp only at *
    go_enter Tryd.func75, Tryd.ntmps75
    go_wp2_with fail
    have i4 : (i : Int) < 4 := by omega
    have hX1 := HH.out.grow HL.out (.cells #[.int .i64 ep, .int .i64 (i : Int), .int .i64 n, .int .i64 s, .int .i64 k, .int .i64 va] 45) 0
    have hT1 := turn_grow w (own g mp) (.cells #[.int .i64 ep, .int .i64 (i : Int), .int .i64 n, .int .i64 s, .int .i64 k, .int .i64 va] 45) 0
    change TX (w.alloc _) _ _ _ _ at hX1
    change Turn _ w (w.alloc _) at hT1
    obtain ⟨b0, b1, b2, b3, b4, b5⟩ := (Blk.new w 45 #[.int .i64 ep, .int .i64 (i : Int), .int .i64 n, .int .i64 s, .int .i64 k, .int .i64 va]).six' 
    generalize w.alloc (.cells #[.int .i64 ep, .int .i64 (i : Int), .int .i64 n, .int .i64 s, .int .i64 k, .int .i64 va] 45) = W at *
    have HX1 := Lib.hid hX1
    have HT1 := Lib.hid hT1
    clear hX1 hT1
    go_still_tail 8, (by kernel_rfl)
    change wpList _ _ _ _ _ W.drew
    go_wp2_with fail
    refine (note62_any HX1.out.drew (fun b hb => Nat.lt_of_lt_of_le (HL.out b hb) HT1.out.size) hi hnn hsq HLN.out.1 HLN.out.2).mono ?_
    rintro r w3 ⟨rfl, hX3, hT3⟩
    rw [← HN.out] at hX3
    have HX3 := Lib.hid hX3
    have HT3 := Lib.hid (HT1.out.drew.trans hT3 (fun _ _ h => h))
    clear hX3 hT3 b0 b1 b2 b3 b4 b5
    go_wp2_with fail
    go_end0
    exact ⟨rfl, HX3.out, HT3.out⟩
end
end Go.Proofs.YthcphoijanebhaaDoor
