/-
  A table of no entries, a table of any entries, or why there is none. Conditions: at most 1000000 entries.
-/
import Derived.Test.YtafgcafhgnfegaaAppend
import Derived.Laws.ResultCell
namespace Go.Proofs.Ytafgcafhgnfegaa
open Go.RowKit Go.Shelf Go.Maps
attribute [local go_sem] Oper.semAt_some
set_option linter.unusedVariables false
/-- What was made meanwhile. -/
def NewB (w w' : World) : Nat → Prop := fun b => w.heap.size ≤ b ∧ b < w'.heap.size
section
variable {w w' : World} {g : Nat} {l : List Ent} {S : Nat → Prop} {e : Ent}
theorem tb_new {v : Value} {mp : Nat → Nat} (hX : TX w' g v (fun i => wr (i : Int) l) mp) (hg : w.heap.size ≤ g ∧ ∀ i, i < 8 → w.heap.size ≤ mp i) (hb : Below w.heap.size w w') (ho : OwnK w 26 6 v (cellsOf l)) (hr : AllR l) (hl : l.length ≤ 4096) :
    Tb w' (fun b => NewB w w' b ∨ v.ownBlock = some b) g l := by
  have hlow : ∀ b, own g mp b → NewB w w' b := fun b h => ⟨by
    rcases h with rfl | ⟨i, hi, rfl⟩
    · exact hg.1
    · exact hg.2 i hi, hX.lt h⟩
  exact ⟨⟨v, mp, hX, ho.below hb, fun b h e => by have := ho.lt e; have := (hlow b h).1; omega, fun b h => h.elim (fun h => .inl (hlow b h)) .inr⟩, hr, hl⟩
theorem new_any (w : World) : Calls Try.prog 18 #[] w fun r w' => ∃ g, r = .returned (.pointer (some ⟨g, 0, none⟩)) ∧ Tb w' (NewB w w') g [] ∧ Below w.heap.size w w' := by
  have hcall := tableOf_any (w := w) (X := No) (A := none) (n := 0) (c := 0) (l := []) Rd.none_ (fun x hx => by cases hx) (by omega)
  go_enter Try.func18, Try.ntmps18
  go_wp2_with fail
  refine hcall.mono ?_
  rintro r w1 ⟨g, mp, rfl, hX, hg, hb⟩
  have HF := Lib.hid (And.intro ((tb_new hX hg hb (OwnK.nil w 26 6) (fun x hx => by cases hx) (by simp)).wide (S' := NewB w w1) (fun b _ h => h.elim id (fun h => by cases h))) hb)
  clear hX hg hb
  go_wp2_with fail
  go_ret
  exact ⟨g, rfl, HF.out⟩
/-- The first error of appending entries behind others, or 0. -/
def allE (pre : List Ent) : List Ent → Int
  | [] => 0
  | e :: r => if appendE pre e = 0 then allE (pre ++ [e]) r else appendE pre e
theorem allE_app (a b : List Ent) : ∀ pre, allE pre (a ++ b) = if allE pre a = 0 then allE (pre ++ a) b else allE pre a := by
  induction a with
  | nil => intro pre; simp [allE]
  | cons e a ih =>
    intro pre
    show (if appendE pre e = 0 then allE (pre ++ [e]) (a ++ b) else appendE pre e) = if (if appendE pre e = 0 then allE (pre ++ [e]) a else appendE pre e) = 0 then allE (pre ++ e :: a) b else (if appendE pre e = 0 then allE (pre ++ [e]) a else appendE pre e)
    by_cases h : appendE pre e = 0
    · simp only [h, if_true]
      rw [ih, List.append_assoc]; rfl
    · simp only [h, if_false]
theorem allE_one (pre : List Ent) (e : Ent) : allE pre [e] = appendE pre e := by
  show (if appendE pre e = 0 then 0 else appendE pre e) = _
  by_cases h : appendE pre e = 0 <;> simp [h]
theorem allE_take {l : List Ent} {k : Nat} {e : Ent} (h : l[k]? = some e) (hz : allE [] (l.take k) = 0) : allE [] (l.take (k + 1)) = appendE (l.take k) e := by
  have : l.take (k + 1) = l.take k ++ [e] := by rw [List.take_add_one, h]; rfl
  rw [this, allE_app, if_pos hz, List.nil_append, allE_one]
theorem allE_stop {l : List Ent} {k : Nat} {e : Ent} (h : l[k]? = some e) (hz : allE [] (l.take k) = 0) (hn : appendE (l.take k) e ≠ 0) : allE [] l = appendE (l.take k) e := by
  conv => lhs; rw [← List.take_append_drop (k + 1) l]
  rw [allE_app, allE_take h hz, if_neg hn]
/-- What is known behind Of. -/
def OfP (w : World) (l : List Ent) (r : Ending) (w' : World) : Prop :=
  Below w.heap.size w w' ∧ ((allE [] l = 0 ∧ ∃ g, r = .returned (.tuple #[.pointer (some ⟨g, 0, none⟩), .int .i64 0]) ∧ Tb w' (NewB w w') g l) ∨ (allE [] l ≠ 0 ∧ r = .returned (.tuple #[.pointer none, .int .i64 (allE [] l)])))
/-- Blocks of a table in the midst of Of. -/
def InOf (w1 w2 : World) (B : Nat) : Nat → Prop := fun b => NewB w1 w2 b ∨ B + 2 ≤ b
/-- Between two rounds. -/
def OfI (w w1 w2 : World) (B g r p : Nat) (l : List Ent) (k : Nat) (W : World) : Prop :=
  Tb W (InOf w1 w2 B) g (l.take k) ∧ allE [] (l.take k) = 0 ∧ Blk W r 27 #[.pointer none] ∧ Blk W (r + 1) 28 #[.int .i64 0] ∧ Blk W p 27 #[.pointer (some ⟨g, 0, none⟩)] ∧ Below w.heap.size w W
def OfX (w : World) (r : Nat) (l : List Ent) (c : Code) (k : Nat) (W : World) : Prop :=
  c = .ret ∧ allE [] l ≠ 0 ∧ Blk W r 27 #[.pointer none] ∧ Blk W (r + 1) 28 #[.int .i64 (allE [] l)] ∧ Below w.heap.size w W
theorem ofI_abide {w1 w2 : World} {B r p : Nat} (h1 : w.heap.size ≤ r) (h2 : r + 1 < B) (h3 : w.heap.size ≤ p) (h4 : p < B) (h5 : w2.heap.size ≤ B) (h6 : w.heap.size ≤ B) : AbideB B (OfI w w1 w2 B g r p l) := fun k A A' h ht => by
  obtain ⟨a1, a2, a3, a4, a5, a6⟩ := h
  have hno : ∀ b, two B b → B ≤ b ∧ b ≤ B + 1 := fun b e => by rcases e with e | e <;> omega
  exact ⟨a1.keep ht (fun b _ hb e => by have := hno b e; rcases hb with hb | hb; have := hb.2; omega; omega), a2, a3.keep ht (fun e => by have := hno _ e; omega), a4.keep ht (fun e => by have := hno _ e; omega), a5.keep ht (fun e => by have := hno _ e; omega), a6.trans (ht.below a6.size (fun b e => by have := hno b e; omega))⟩
theorem ofX_abide {B r : Nat} (h1 : w.heap.size ≤ r) (h2 : r + 1 < B) (c : Code) : AbideB B (OfX w r l c) := fun k A A' h ht => by
  obtain ⟨a1, a2, a3, a4, a6⟩ := h
  have hno : ∀ b, two B b → B ≤ b ∧ b ≤ B + 1 := fun b e => by rcases e with e | e <;> omega
  exact ⟨a1, a2, a3.keep ht (fun e => by have := hno _ e; omega), a4.keep ht (fun e => by have := hno _ e; omega), a6.trans (ht.below a6.size (fun b e => by have := hno b e; omega))⟩
set_option maxRecDepth 100000 in
set_option maxHeartbeats 4000000 in
theorem of_any {X : Nat → Prop} {A : Option Addr} {n c : Nat} (h : Rd w X 6 A n (cellsOf l)) (hn : n ≤ 1000000) : Calls Try.prog 13 #[.slice A n c] w (OfP w l) := by
  have HH := Lib.hid h
  have HAD : Hid (0 < n → ∀ ad, A = some ad → ad.block < w.heap.size) := Lib.hid (fun h0 ad e => by
    obtain ⟨ad', e', hb, _⟩ := h.2.2 h0
    rw [e] at e'
    injection e' with e'
    subst e'
    exact hb)
  have HLEN := Lib.hid h.lenE
  clear h
  refine (callsIn_wide (n := 3)).1 ?_
  refine callsIn_of_wp_marks Try.func13 rfl trivial ?_ rfl
  simp only [Try.ntmps13, List.size_toArray, List.length_cons, List.length_nil, Nat.reduceAdd, Nat.reduceSub, Array.replicate_succ, Array.replicate_zero, List.push_toArray, List.append_toArray, List.nil_append, List.cons_append]
  gi_wp2_with fail
  have hr1 : Blk ((w.alloc (.cells #[.pointer none] 27)).alloc (.cells #[.int .i64 0] 28)) w.heap.size 27 #[.pointer none] := (Blk.new w 27 _).alloc _
  have hr2 : Blk ((w.alloc (.cells #[.pointer none] 27)).alloc (.cells #[.int .i64 0] 28)) (w.heap.size + 1) 28 #[.int .i64 0] := by have := Blk.new (w.alloc (.cells #[.pointer none] 27)) 28 #[.int .i64 0]; simpa using this
  have hb1 : Below w.heap.size w ((w.alloc (.cells #[.pointer none] 27)).alloc (.cells #[.int .i64 0] 28)) := ((Below.refl _ _).alloc (Nat.le_refl _) _).alloc (by simp) _
  have hz1 : ((w.alloc (.cells #[.pointer none] 27)).alloc (.cells #[.int .i64 0] 28)).heap.size = w.heap.size + 2 := by simp
  generalize (w.alloc (.cells #[.pointer none] 27)).alloc (.cells #[.int .i64 0] 28) = w1 at *
  refine ⟨trivial, (callsIn_wide.2 (new_any w1)).mono ?_⟩
  rintro r w2 ⟨g, rfl, hT2, hb2⟩
  have hr1' := hr1.below hb2 hr1.lt
  have hr2' := hr2.below hb2 hr2.lt
  have hz2 := hb2.size
  have hb02 := hb1.trans (hb2.mono hb1.size)
  clear hr1 hr2 hb1
  gi_wp2_with fail
  have hT3 := hT2.below ((Below.refl w2.heap.size w2).alloc (Nat.le_refl _) (.cells #[.pointer (some ⟨g, 0, none⟩)] 27))
  have hr13 := hr1'.alloc (.cells #[.pointer (some ⟨g, 0, none⟩)] 27)
  have hr23 := hr2'.alloc (.cells #[.pointer (some ⟨g, 0, none⟩)] 27)
  have hp3 := Blk.new w2 27 #[.pointer (some ⟨g, 0, none⟩)]
  have hb03 := hb02.alloc hb02.size (.cells #[.pointer (some ⟨g, 0, none⟩)] 27)
  have hz3 : (w2.alloc (.cells #[.pointer (some ⟨g, 0, none⟩)] 27)).heap.size = w2.heap.size + 1 := by simp
  clear hT2 hr1' hr2' hb2 hb02
  generalize hw3 : w2.alloc (.cells #[.pointer (some ⟨g, 0, none⟩)] 27) = w3 at *
  clear hw3
  refine ⟨trivial, (callsIn_wide.2 (log_all A n c w3)).mono ?_⟩
  rintro r w4 ⟨rfl, hw4⟩
  have hbA : Below w3.heap.size w3 w4 := by rw [← hw4]; exact (Below.refl _ _).alloc (Nat.le_refl _) _
  have hx4 : w4.cell? ⟨w3.heap.size, 0, none⟩ = some (.slice A n c) := by rw [← hw4]; exact (Blk.new _ _ _).cell 0
  have hz4 : w3.heap.size < w4.heap.size := by rw [← hw4]; simp
  have hb04 := hb03.trans (hbA.mono hb03.size)
  have hl4 : Rd w4 X 6 A n (cellsOf l) := HH.out.below hb04
  have hI0 : OfI w w1 w2 w4.heap.size g w.heap.size w2.heap.size l 0 w4 := ⟨(hT3.below hbA).wide (fun b _ h => .inl h), rfl, hr13.below hbA hr13.lt, hr23.below hbA hr23.lt, hp3.below hbA hp3.lt, hb04⟩
  rw [hz3] at hx4
  clear hw4 hT3 hr13 hr23 hp3 hb03 hbA
  gi_wp2_with fail
  refine range_n rfl (by omega) (gf := 48) (lb := #[.pointer (some ⟨w2.heap.size + 1, 0, none⟩)]) rfl trivial (enters_of Try.func48 (by kernel_rfl) rfl)
    (all_in (3 - 1) (by omega) (w2.heap.size + 1) A n c l w4 hx4 hl4 (by omega) w.heap.size HAD.out)
    (fun h h' => ⟨Nat.le_trans h.1 h'.1, fun r e hb => (h'.2 r e hb).trans (h.2 r e hb)⟩)
    (fun W W' ht hz => ⟨ht.size, fun r e hb => ht.block r.block (by omega) (fun e' => by rcases e' with e' | e' <;> omega)⟩) (fun _ => rfl)
    (OfI w w1 w2 w4.heap.size g w.heap.size w2.heap.size l) (OfX w w.heap.size l) (ofI_abide (Nat.le_refl _) (by omega) (by omega) (by omega) (by omega) (by omega)) (ofX_abide (Nat.le_refl _) (by omega))
    hI0 (fun k => .cells (l.getD k .none_).cells 26)
    (fun k b => { tmps := #[.slice A n c, undef, .pointer (some ⟨w.heap.size, 0, none⟩), .pointer (some ⟨w.heap.size + 1, 0, none⟩), .pointer (some ⟨w2.heap.size, 0, none⟩), undef, .pointer (some ⟨b, 0, none⟩), undef, .pointer (some ⟨g, 0, none⟩), .slice A n c, .func (.func 48) #[] #[.pointer (some ⟨w2.heap.size + 1, 0, none⟩)], .int .i64 (k : Int), (l.getD k .none_).val, undef, undef, undef, undef, undef, undef, undef], defers := [] }) ?assign ?body ?done ?stop
  case assign =>
    intro lo k W K hk hK
    unfold encE
    generalize l.getD k .none_ = e at *
    unfold Ent.val at *
    unfold Ent.cells at *
    gi_wp2
    exact hK
  case body =>
    intro lo k W0 W hI0 hk hob hbB hTW
    have hgi : l[k]? = some (l.getD k .none_) := by
      rw [List.getD_eq_getElem?_getD, List.getElem?_eq_getElem (by rw [HLEN.out]; exact hk)]; rfl
    have hI := ofI_abide (w := w) (w1 := w1) (w2 := w2) (B := w4.heap.size) (g := g) (r := w.heap.size) (p := w2.heap.size) (l := l) (Nat.le_refl _) (by omega) (by omega) (by omega) (by omega) (by omega) k W0 W hI0 hTW
    have hWz : w4.heap.size + 2 ≤ W.heap.size := Nat.le_trans hbB hTW.size
    generalize l.getD k .none_ = e at *
    have hsb : Blk W W0.heap.size 26 e.cells := hob
    obtain ⟨q1, q2, q3, q4, q5, q6⟩ := hI
    have p0 : W.cell? ⟨w2.heap.size, 0, none⟩ = some (.pointer (some ⟨g, 0, none⟩)) := q5.cell 0
    obtain ⟨s0, s1, s2, s3, s4, s5⟩ := hsb.six
    have hcall := append_any q1 e
    have HQ := Lib.hid (And.intro q1 (And.intro q2 (And.intro q3 (And.intro q4 (And.intro q5 q6)))))
    have HGI := Lib.hid hgi
    clear q1 q2 q3 q4 q5 q6 hob hsb hI0 hTW hgi
    unfold Ent.val at *
    unfold Ent.cells at *
    try dsimp only
    gi_wp2_with fail
    refine ⟨trivial, (callsIn_wide.2 hcall).mono ?_⟩
    rintro r w9 ⟨rfl, hT9, hU9⟩
    obtain ⟨q1, q2, q3, q4, q5, q6⟩ := HQ.out
    have hlow : ∀ b, InOf w1 w2 w4.heap.size b → w.heap.size + 2 ≤ b ∧ b ≠ w4.heap.size ∧ b ≠ w4.heap.size + 1 ∧ b ≠ w2.heap.size := fun b hb => by
      rcases hb with hb | hb
      · have := hb.1; have := hb.2; omega
      · omega
    have hBoth : Both w4.heap.size W w9 := Both.of_turn hU9 (by omega) (fun e => by have := hlow _ e; omega) (fun e => by have := hlow _ e; omega)
    have hKeep : KeepL A w.heap.size W w9 := ⟨hU9.size, fun ad e hb => hU9.block ad.block (by omega) (fun e' => by have := hlow _ e'; omega)⟩
    have hb9 : Below w.heap.size w w9 := q6.trans (hU9.below q6.size (fun b e => by have := hlow b e; omega))
    have r1 := q3.keep hU9 (fun e => by have := hlow _ e; omega)
    have r2 := q4.keep hU9 (fun e => by have := hlow _ e; omega)
    have r3 := q5.keep hU9 (fun e => by have := hlow _ e; omega)
    by_cases hz : appendE (l.take k) e = 0
    case pos =>
      have hN : OfI w w1 w2 w4.heap.size g w.heap.size w2.heap.size l (k + 1) w9 := by
        rw [if_pos hz] at hT9
        refine ⟨?_, by rw [allE_take HGI.out q2]; exact hz, r1, r2, r3, hb9⟩
        rw [show l.take (k + 1) = l.take k ++ [e] by rw [List.take_add_one, HGI.out]; rfl]
        exact hT9.wide (fun b _ h => h.elim id (fun h => .inr (by have := h.1; omega)))
      have HF := Lib.hid (And.intro hBoth (And.intro hKeep hN))
      rw [hz]
      clear hBoth hKeep hN hT9 hU9 hlow q1 q2 q3 q4 q5 q6 p0 s0 s1 s2 s3 s4 s5 hcall r1 r2 r3 hb9 hz
      gi_wp2
      exact HF.out
    case neg =>
      have hzb := nen hz
      have HA : Hid (allE [] l = appendE (l.take k) e) := Lib.hid (allE_stop HGI.out q2 hz)
      have HNZ := Lib.hid hz
      generalize hzv : appendE (l.take k) e = z at *
      have HF := Lib.hid (And.intro hBoth (And.intro r1 (And.intro r2 hb9)))
      have t1 := r1.cell 0
      have t2 := r2.cell 0
      have f1 := r1.frozen 0
      have f2 := r2.frozen 0
      clear hBoth hKeep hT9 hU9 hlow q1 q2 q3 q4 q5 q6 p0 s0 s1 s2 s3 s4 s5 hcall r1 r2 r3 hb9 hz hzv
      gi_wp2
      obtain ⟨⟨e1, e2⟩, r1, r2, hb9⟩ := HF.out
      refine ⟨⟨?_, ?_⟩, rfl, by rw [HA.out]; exact HNZ.out, ?_, ?_, ?_⟩
      · exact (Below.heap_setCell _ _ _ _ (by show w4.heap.size ≠ w.heap.size + 1; omega)).trans ((Below.heap_setCell _ _ _ _ (by show w4.heap.size ≠ w.heap.size; omega)).trans e1)
      · exact (Below.heap_setCell _ _ _ _ (by show w4.heap.size + 1 ≠ w.heap.size + 1; omega)).trans ((Below.heap_setCell _ _ _ _ (by show w4.heap.size + 1 ≠ w.heap.size; omega)).trans e2)
      · exact (r1.set_ 0 (.pointer none)).far (p := ⟨w.heap.size + 1, 0, none⟩) (by show w.heap.size ≠ w.heap.size + 1; omega) _
      · rw [HA.out]
        exact (r2.far (p := ⟨w.heap.size, 0, none⟩) (by show w.heap.size + 1 ≠ w.heap.size; omega) _).set_ 0 (.int .i64 z)
      · exact (hb9.setCell (p := ⟨w.heap.size, 0, none⟩) (Nat.le_refl _) _).setCell (p := ⟨w.heap.size + 1, 0, none⟩) (by show w.heap.size ≤ w.heap.size + 1; omega) _
  case done =>
    intro W hI hK
    obtain ⟨q1, q2, q3, q4, q5, q6⟩ := hI
    rw [List.take_of_length_le (by rw [HLEN.out]; exact Nat.le_refl _)] at q1 q2
    have p0 : W.cell? ⟨w2.heap.size, 0, none⟩ = some (.pointer (some ⟨g, 0, none⟩)) := q5.cell 0
    have t1 : W.cell? ⟨w.heap.size, 0, none⟩ = some (.pointer none) := q3.cell 0
    have t2 : W.cell? ⟨w.heap.size + 1, 0, none⟩ = some (.int .i64 0) := q4.cell 0
    have f1 := q3.frozen 0
    have f2 := q4.frozen 0
    have hlow : ∀ b, InOf w1 w2 w4.heap.size b → w.heap.size + 2 ≤ b ∧ b ≠ w4.heap.size ∧ b ≠ w4.heap.size + 1 ∧ b ≠ w2.heap.size := fun b hb => by
      rcases hb with hb | hb
      · have := hb.1; have := hb.2; omega
      · omega
    have hTT : Turn (fun b => b = w.heap.size ∨ b = w.heap.size + 1) W ((W.setCell ⟨w.heap.size, 0, none⟩ (.pointer (some ⟨g, 0, none⟩))).setCell ⟨w.heap.size + 1, 0, none⟩ (.int .i64 0)) := ((Turn.refl _ W).setCell (fun _ => .inl rfl) _).setCell (fun _ => .inr rfl) _
    have hK' := (hTT.block w4.heap.size (lt_of_heap hK) (fun e => by rcases e with e | e <;> omega)).trans hK
    have hQ' : Blk ((W.setCell ⟨w.heap.size, 0, none⟩ (.pointer (some ⟨g, 0, none⟩))).setCell ⟨w.heap.size + 1, 0, none⟩ (.int .i64 0)) w.heap.size 27 #[.pointer (some ⟨g, 0, none⟩)] := (q3.set_ 0 (.pointer (some ⟨g, 0, none⟩))).far (p := ⟨w.heap.size + 1, 0, none⟩) (by show w.heap.size ≠ w.heap.size + 1; omega) _
    have hR' : Blk ((W.setCell ⟨w.heap.size, 0, none⟩ (.pointer (some ⟨g, 0, none⟩))).setCell ⟨w.heap.size + 1, 0, none⟩ (.int .i64 0)) (w.heap.size + 1) 28 #[.int .i64 0] := (q4.far (p := ⟨w.heap.size, 0, none⟩) (by show w.heap.size + 1 ≠ w.heap.size; omega) _).set_ 0 (.int .i64 0)
    have hT' := q1.keep hTT (fun b _ hb e => by have := hlow b hb; omega)
    have hB' := q6.trans (hTT.below q6.size (fun b e => by omega))
    have HF := Lib.hid (And.intro hQ' (And.intro hR' (And.intro hT' (And.intro hB' (And.intro q2 hK')))))
    clear q1 q2 q3 q4 q5 q6 hTT hK' hQ' hR' hT' hB' hlow
    gi_wp2_with fail
    obtain ⟨hQ', hR', hT', hB', q2, hK'⟩ := HF.out
    generalize (W.setCell ⟨w.heap.size, 0, none⟩ (.pointer (some ⟨g, 0, none⟩))).setCell ⟨w.heap.size + 1, 0, none⟩ (.int .i64 0) = W1 at *
    have hTp : Turn (two w4.heap.size) W1 (W1.putObj w4.heap.size (.deferred none)) := turn_putObj _ _ _ (.inl rfl)
    have hno : ∀ b, two w4.heap.size b → w4.heap.size ≤ b ∧ b ≤ w4.heap.size + 1 := fun b e => by rcases e with e | e <;> omega
    have c1 : (W1.putObj w4.heap.size (.deferred none)).cell? ⟨w.heap.size, 0, none⟩ = some (.pointer (some ⟨g, 0, none⟩)) := (hQ'.keep hTp (fun e => by have := hno _ e; omega)).cell 0
    have c2 : (W1.putObj w4.heap.size (.deferred none)).cell? ⟨w.heap.size + 1, 0, none⟩ = some (.int .i64 0) := (hR'.keep hTp (fun e => by have := hno _ e; omega)).cell 0
    have hT2 := (hT'.keep hTp (fun b _ hb e => by have := hno _ e; rcases hb with hb | hb; have := hb.2; omega; omega))
    have hB2 := hB'.trans (hTp.below hB'.size (fun b e => by have := hno b e; omega))
    refine ⟨by simp, .inl ⟨_, _, rfl, run_takeDeferred hK', ?_⟩⟩
    generalize W1.putObj w4.heap.size (.deferred none) = W2 at *
    refine ⟨.tuple #[.pointer (some ⟨g, 0, none⟩), .int .i64 0], by simp [results, Try.results13, go_sem, c1, c2], hB2, .inl ⟨q2, g, rfl, hT2.wide (fun b hb h => ⟨?_, hb⟩)⟩⟩
    rcases h with h | h
    · have := h.1; omega
    · omega
  case stop =>
    intro cd k W hk hX hK
    obtain ⟨rfl, q2, q3, q4, q6⟩ := hX
    have HQ := Lib.hid (And.intro q2 (And.intro q3 (And.intro q4 q6)))
    clear q2 q3 q4 q6
    gi_wp2_with fail
    obtain ⟨q2, q3, q4, q6⟩ := HQ.out
    have hTp : Turn (two w4.heap.size) W (W.putObj w4.heap.size (.deferred none)) := turn_putObj _ _ _ (.inl rfl)
    have hno : ∀ b, two w4.heap.size b → w4.heap.size ≤ b ∧ b ≤ w4.heap.size + 1 := fun b e => by rcases e with e | e <;> omega
    have c1 : (W.putObj w4.heap.size (.deferred none)).cell? ⟨w.heap.size, 0, none⟩ = some (.pointer none) := (q3.keep hTp (fun e => by have := hno _ e; omega)).cell 0
    have c2 : (W.putObj w4.heap.size (.deferred none)).cell? ⟨w.heap.size + 1, 0, none⟩ = some (.int .i64 (allE [] l)) := (q4.keep hTp (fun e => by have := hno _ e; omega)).cell 0
    have hB2 := q6.trans (hTp.below q6.size (fun b e => by have := hno b e; omega))
    refine ⟨by simp, .inl ⟨_, _, rfl, run_takeDeferred hK, ?_⟩⟩
    generalize W.putObj w4.heap.size (.deferred none) = W2 at *
    exact ⟨.tuple #[.pointer none, .int .i64 (allE [] l)], by simp [results, Try.results13, go_sem, c1, c2], hB2, .inr ⟨q2, rfl⟩⟩
end
end Go.Proofs.Ytafgcafhgnfegaa
