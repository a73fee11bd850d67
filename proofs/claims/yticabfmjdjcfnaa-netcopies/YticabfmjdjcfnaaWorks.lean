/-
  A net all of which is made since a block; the chapter's rows (works). Nothing is assumed.
-/
import Derived.Test.YticabfmjdjcfnaaCalls
namespace Go.Proofs.Yticabfmjdjcfnaa
open Go.RowKit
theorem bys_lit (w : World) (l : Bs) (X : Nat → Prop) (fr : Nat × Nat) (hX : ¬ X w.heap.size) : Bys (w.alloc (.cells (l.map byteV).toArray 5 fr)) X (some ⟨w.heap.size, 0, none⟩) l.length l := by
  refine ⟨rfl, fun _ => ⟨_, rfl, by simp, hX, fun j u hu => ?_⟩⟩
  have hadd : (⟨w.heap.size, 0, none⟩ : Addr).add j = ⟨w.heap.size, j, none⟩ := by unfold Addr.add; split <;> simp_all
  rw [hadd, cell_of_row _ w.heap.size j _ 5 fr (heap_alloc_new w _)]
  simp [hu]
theorem lit_step (w : World) (C : Array Value) (n c : Nat) : (convert 37 37 (.slice (some ⟨w.heap.size, 0, none⟩) n c)).run Try.prog (w.alloc (.cells C 5)) = .ok (.slice (some ⟨w.heap.size, 0, none⟩) n c) (w.alloc (.cells C 5 (C.size, C.size + 1))) := Lib.run_convert_bytes_const w 37 5 C n c Try.underlying37 Try.underlying5
/-- A net in memory of which all is made since block B. -/
def Mine (B : Nat) (g : Nat) (s : St) (w : World) : Prop := ∃ S, Nt w S g s ∧ (∀ b, S b → B ≤ b) ∧ B ≤ w.heap.size
section
variable {B g : Nat} {s : St} {w w' : World}
theorem Mine.below (h : Mine B g s w) (hb : Below w.heap.size w w') : Mine B g s w' := by
  obtain ⟨S, h1, h2, h3⟩ := h
  exact ⟨S, h1.below hb, h2, Nat.le_trans h3 hb.size⟩
theorem Mine.ok (h : Mine B g s w) : s.ok := by obtain ⟨S, h1, _⟩ := h; exact h1.ok
theorem Mine.g_lt (h : Mine B g s w) : g < w.heap.size := by obtain ⟨S, h1, _⟩ := h; exact h1.lt h1.g_in
theorem Mine.g_ge (h : Mine B g s w) : B ≤ g := by obtain ⟨S, h1, h2, _⟩ := h; exact h2 g h1.g_in
theorem Mine.le (h : Mine B g s w) : B ≤ w.heap.size := by obtain ⟨S, h1, h2, h3⟩ := h; exact h3
theorem Mine.wrote {S : Nat → Prop} {s' : St} (h2 : ∀ b, S b → B ≤ b) (h3 : B ≤ w.heap.size) (ha : Wrote w S g s' w') : Mine B g s' w' ∧ Below B w w' := by
  obtain ⟨h4, S', h5, h6, h7⟩ := ha
  exact ⟨⟨S', h7, fun b e => (h6 b e).elim (h2 b) (fun q => Nat.le_trans h3 q), Nat.le_trans h3 h4.size⟩, h4.below h3 h2⟩
theorem new_mine (r : Nat) (w : World) (h1 : 1 ≤ r) (h2 : r ≤ 4096) : Calls Try.prog 12 #[.int .i64 (r : Int)] w fun e w' => ∃ g, e = .returned (.tuple #[.pointer (some ⟨g, 0, none⟩), .int .i64 0]) ∧ Mine w.heap.size g ⟨r, [], 0⟩ w' ∧ Below w.heap.size w w' :=
  (new_yes r w h1 h2).mono fun _ _ ⟨g, S, e, h3, h4, h5⟩ => ⟨g, e, ⟨S, h3, h4, h5.size⟩, h5⟩
theorem put_mine (h : Mine B g s w) {X : Nat → Prop} {m : Msg} {v : Value} (hv : MsgV w X m v) (hX : X g) (hc : s.came ≤ 1000000000) :
    Calls Try.prog 15 #[.pointer (some ⟨g, 0, none⟩), v] w fun e w' => e = .returned (.tuple #[.int .i64 (putN s m), .int .i64 (putC s m)]) ∧ Mine B g (s.putA m) w' ∧ Below B w w' := by
  obtain ⟨S, h1, h2, h3⟩ := h
  exact (put_any h1 hv hX hc).mono fun _ _ ⟨e, ha⟩ => ⟨e, Mine.wrote h2 h3 ha⟩
theorem low_mine (h : Mine B g s w) (hb : Below w.heap.size w w') : Mine B g s w' ∧ Below B w w' := ⟨h.below hb, hb.mono h.le⟩
theorem peek_mine (h : Mine B g s w) {k num : Int} {m : Msg} (hi : s.l[pick k s.l.length]? = some (num, m)) : Calls Try.prog 26 #[.pointer (some ⟨g, 0, none⟩), .int .i64 k] w fun e w' => Told w m num e w' ∧ Mine B g s w' ∧ Below B w w' := by
  have h' := h
  obtain ⟨S, h1, h2, h3⟩ := h
  exact (peek_some h1 hi).mono fun _ _ ⟨e, hb⟩ => ⟨e, low_mine h' hb⟩
theorem peek_mine0 (h : Mine B g s w) (k : Int) (hl : s.l.length = 0) : Calls Try.prog 26 #[.pointer (some ⟨g, 0, none⟩), .int .i64 k] w fun e w' => e = .returned (.tuple #[zMsg, .int .i64 0, .int .i64 5]) ∧ Mine B g s w' ∧ Below B w w' := by
  have h' := h
  obtain ⟨S, h1, h2, h3⟩ := h
  exact (peek_none h1 k hl).mono fun _ _ ⟨e, hb⟩ => ⟨e, low_mine h' hb⟩
theorem take_mine (h : Mine B g s w) {k num : Int} {m : Msg} (hi : s.l[pick k s.l.length]? = some (num, m)) : Calls Try.prog 24 #[.pointer (some ⟨g, 0, none⟩), .int .i64 k] w fun e w' => Told w m num e w' ∧ Mine B g (s.cut (pick k s.l.length)) w' ∧ Below B w w' := by
  obtain ⟨S, h1, h2, h3⟩ := h
  exact (take_some h1 hi).mono fun _ _ ⟨e, hT, hN⟩ => ⟨e, ⟨S, hN, h2, Nat.le_trans h3 hT.size⟩, hT.below h3 h2⟩
theorem take_mine0 (h : Mine B g s w) (k : Int) (hl : s.l.length = 0) : Calls Try.prog 24 #[.pointer (some ⟨g, 0, none⟩), .int .i64 k] w fun e w' => e = .returned (.tuple #[zMsg, .int .i64 0, .int .i64 5]) ∧ Mine B g s w' ∧ Below B w w' := by
  have h' := h
  obtain ⟨S, h1, h2, h3⟩ := h
  exact (take_none h1 k hl).mono fun _ _ ⟨e, hb⟩ => ⟨e, low_mine h' hb⟩
theorem drop_mine (h : Mine B g s w) {k num : Int} {m : Msg} (hi : s.l[pick k s.l.length]? = some (num, m)) : Calls Try.prog 27 #[.pointer (some ⟨g, 0, none⟩), .int .i64 k] w fun e w' => e = .returned (.tuple #[.int .i64 num, .int .i64 0]) ∧ Mine B g (s.cut (pick k s.l.length)) w' ∧ Below B w w' := by
  obtain ⟨S, h1, h2, h3⟩ := h
  exact (drop_some h1 hi).mono fun _ _ ⟨e, hT, hN⟩ => ⟨e, ⟨S, hN, h2, Nat.le_trans h3 hT.size⟩, hT.below h3 h2⟩
theorem drop_mine0 (h : Mine B g s w) (k : Int) (hl : s.l.length = 0) : Calls Try.prog 27 #[.pointer (some ⟨g, 0, none⟩), .int .i64 k] w fun e w' => e = .returned (.tuple #[.int .i64 0, .int .i64 5]) ∧ Mine B g s w' ∧ Below B w w' := by
  have h' := h
  obtain ⟨S, h1, h2, h3⟩ := h
  exact (drop_none h1 k hl).mono fun _ _ ⟨e, hb⟩ => ⟨e, low_mine h' hb⟩
theorem dup_mine (h : Mine B g s w) {k num : Int} {m : Msg} (hi : s.l[pick k s.l.length]? = some (num, m)) (hroom : s.l.length < s.most) (hc : s.came ≤ 1000000000) : Calls Try.prog 23 #[.pointer (some ⟨g, 0, none⟩), .int .i64 k] w fun e w' => e = .returned (.tuple #[.int .i64 (s.came : Int), .int .i64 0]) ∧ Mine B g (s.put m) w' ∧ Below B w w' := by
  obtain ⟨S, h1, h2, h3⟩ := h
  exact (dup_some h1 hi hroom hc).mono fun _ _ ⟨e, ha⟩ => ⟨e, Mine.wrote h2 h3 ha⟩
theorem dup_mine1 (h : Mine B g s w) {k num : Int} {m : Msg} (hi : s.l[pick k s.l.length]? = some (num, m)) (hfull : s.most ≤ s.l.length) : Calls Try.prog 23 #[.pointer (some ⟨g, 0, none⟩), .int .i64 k] w fun e w' => e = .returned (.tuple #[.int .i64 0, .int .i64 150]) ∧ Mine B g s w' ∧ Below B w w' := by
  have h' := h
  obtain ⟨S, h1, h2, h3⟩ := h
  exact (dup_crowd h1 hi hfull).mono fun _ _ ⟨e, hb⟩ => ⟨e, low_mine h' hb⟩
theorem dup_mine0 (h : Mine B g s w) (k : Int) (hl : s.l.length = 0) : Calls Try.prog 23 #[.pointer (some ⟨g, 0, none⟩), .int .i64 k] w fun e w' => e = .returned (.tuple #[.int .i64 0, .int .i64 5]) ∧ Mine B g s w' ∧ Below B w w' := by
  have h' := h
  obtain ⟨S, h1, h2, h3⟩ := h
  exact (dup_none h1 k hl).mono fun _ _ ⟨e, hb⟩ => ⟨e, low_mine h' hb⟩
theorem len_mine (h : Mine B g s w) : Calls Try.prog 29 #[.pointer (some ⟨g, 0, none⟩)] w fun e w' => e = .returned (.int .i64 (s.l.length : Int)) ∧ w = w' := by
  obtain ⟨S, ⟨m, h1⟩, h2, h3⟩ := h
  exact len_any h1
theorem came_mine (h : Mine B g s w) : Calls Try.prog 25 #[.pointer (some ⟨g, 0, none⟩)] w fun e w' => e = .returned (.int .i64 (s.came : Int)) ∧ w = w' := by
  obtain ⟨S, ⟨m, h1⟩, h2, h3⟩ := h
  exact came_any h1
end
def mA : Msg := ⟨1, 2, [97]⟩
def mB : Msg := ⟨2, 1, [98]⟩
def wk0 : St := ⟨2, [], 0⟩
def wk1 : St := ⟨2, [(0, mA)], 1⟩
def wk2 : St := ⟨2, [(0, mA), (1, mB)], 2⟩
def wk3 : St := ⟨2, [(0, mA)], 2⟩
def wk4 : St := ⟨2, [(0, mA), (2, mA)], 3⟩
theorem wk_p1 : putC wk0 mA = 0 := by decide
theorem wk_p2 : putC wk1 mB = 0 := by decide
theorem wk_p3 : putC wk2 ⟨0, 0, []⟩ = 150 := by decide
theorem wk_s1 : wk0.putA mA = wk1 := (putA_yes wk_p1).1
theorem wk_s2 : wk1.putA mB = wk2 := (putA_yes wk_p2).1
theorem wk_s3 : wk2.putA ⟨0, 0, []⟩ = wk2 := (putA_no (by rw [wk_p3]; decide)).1
theorem wk_n1 : putN wk0 mA = 0 := (putA_yes wk_p1).2
theorem wk_n2 : putN wk1 mB = 1 := (putA_yes wk_p2).2
theorem wk_n3 : putN wk2 ⟨0, 0, []⟩ = 0 := (putA_no (by rw [wk_p3]; decide)).2
set_option maxRecDepth 100000 in
set_option maxHeartbeats 8000000 in
theorem works_any (w : World) : Calls Try.prog 10 #[] w fun e w' => e = .returned (.bool true) ∧ Below w.heap.size w w' := by
  have hlit := lit_step
  go_enter Try.func10, Try.ntmps10
  go_wp2_with fail
  refine (new_mine 2 w (by omega) (by omega)).mono ?_
  rintro e w1 ⟨g, rfl, hM1, hb1⟩
  have hg1 := hM1.g_lt
  go_wp2_with fail
  have hM2 : Mine w.heap.size g wk0 _ := hM1.below ((Below.refl _ w1).alloc (Nat.le_refl _) (.cells (([97] : Bs).map byteV).toArray 5 (1, 2)))
  have hb2 := hb1.alloc hb1.size (.cells (([97] : Bs).map byteV).toArray 5 (1, 2))
  refine (put_mine hM2 (X := fun b => b = g) (m := mA) ⟨_, 1, _, rfl, bys_lit w1 [97] _ (1, 2) (by omega)⟩ rfl (by decide)).mono ?_
  rintro e w3 ⟨rfl, hM3, hb3⟩
  rw [wk_p1, wk_n1]
  rw [wk_s1] at hM3
  have hb3' := hb2.trans hb3
  have hg3 := hM3.g_lt
  clear hM1 hM2 hb1 hb2 hb3
  go_wp2_with fail
  have hM4 := hM3.below ((Below.refl _ w3).alloc (Nat.le_refl _) (.cells (([98] : Bs).map byteV).toArray 5 (1, 2)))
  have hb4 := hb3'.alloc hb3'.size (.cells (([98] : Bs).map byteV).toArray 5 (1, 2))
  refine (put_mine hM4 (X := fun b => b = g) (m := mB) ⟨_, 1, _, rfl, bys_lit w3 [98] _ (1, 2) (by omega)⟩ rfl (by decide)).mono ?_
  rintro e w5 ⟨rfl, hM5, hb5⟩
  rw [wk_p2, wk_n2]
  rw [wk_s2] at hM5
  have hb5' := hb4.trans hb5
  clear hM3 hM4 hb3' hb4 hb5
  go_wp2_with fail
  refine (put_mine hM5 (X := fun b => b = g) (m := ⟨0, 0, []⟩) (msgV_z _ _) rfl (by decide)).mono ?_
  rintro e w6 ⟨rfl, hM6, hb6⟩
  rw [wk_p3, wk_n3]
  rw [wk_s3] at hM6
  have hb6' := hb5'.trans hb6
  clear hM5 hb5' hb6
  go_wp2_with fail
  obtain ⟨S, hN6, hS, hle⟩ := hM6
  refine (take_some hN6 (k := 1) (num := 1) (m := mB) rfl).mono ?_
  rintro e w7 ⟨⟨v7, rfl, hn7⟩, hT7, hN7⟩
  have hN7' : Nt w7 S g wk3 := hN7
  have hb7' := hb6'.trans (hT7.below hle hS)
  have hlt := fun b => hN6.lt (b := b)
  clear hN6 hN7 hb6'
  obtain ⟨A, n, c, rfl, ho7, hnw⟩ := hn7
  have hz7 := hT7.size
  go_wp2_with (with_reducible refine at_store 39 rfl ?_)
  have k7 := Blk.new w7 39 #[.int .i64 0, .int .i64 0, .slice none 0 0]
  refine Stop.go (wpList_store_blk (by rfl) (by rfl) 39 _ _ (by rfl) w7.heap.size _ #[.int .i64 mB.fr, .int .i64 mB.to, .slice A n c] (by rfl) (by rfl) 39 k7 (by rfl) (info39 _ rfl) (by simp [Value.oneCell']) ?_)
  intro w9 f9 g9 s9
  clear s9
  have hb9 : Below w7.heap.size w7 w9 := below_grown ((Below.refl _ _).alloc (Nat.le_refl _) _) g9 (Nat.le_refl _) (Nat.le_refl _)
  have hN9 := hN7'.below hb9
  have ho9 := ho7.below hb9
  have hb9' := hb7'.trans (hb9.mono hb7'.size)
  have hz9 := hb9.size
  clear hN7' ho7 hb7' hb9 g9 k7
  go_wp2_with fail
  refine (dup_some hN9 (k := 0) (num := 0) (m := mA) rfl (by decide) (by decide)).mono ?_
  rintro e w10 ⟨rfl, hw10⟩
  have f10 := f9.keep hw10.1 (fun e => by have := hlt _ e; omega)
  have ho10 := ho9.keep hw10.1 (fun r e e' => by have := hlt _ e'; have := hnw r e; omega)
  obtain ⟨hM10, hb10⟩ := Mine.wrote hS (Nat.le_trans hle (by omega)) hw10
  have hM10' : Mine w.heap.size g wk4 w10 := hM10
  have hb10' := hb9'.trans hb10
  have hconv := conv_str w10 No A n c [98] (ho10.bys (fun _ _ h => h))
  obtain ⟨c0, c1, c2⟩ := f10.three
  have hst := str_toList [98]
  have hl := len_mine hM10'
  have hcm := came_mine hM10'
  clear hM10 hM10' hw10 hN9 ho9 ho10 f9 f10 hb9' hb10 hT7
  go_wp2_with (first
    | (go_at_call 18; refine (num_any _ _).mono ?_; rintro e w' ⟨rfl, rfl⟩)
    | (go_at_call 29; refine hl.mono ?_; rintro e w' ⟨rfl, rfl⟩)
    | (go_at_call 25; refine hcm.mono ?_; rintro e w' ⟨rfl, rfl⟩))
  go_ret
  exact ⟨rfl, hb10'⟩
end Go.Proofs.Yticabfmjdjcfnaa
