/-
  net.Peek, Take, Dup, Drop: what they tell and leave. Conditions: bounds.
-/
import Derived.Test.YticabfmjdjcfnaaPick
import Derived.Test.YticabfmjdjcfnaaPut
namespace Go.Proofs.Yticabfmjdjcfnaa
open Go.RowKit
theorem NewMsg.cs {w w' : World} {m : Msg} {v : Value} (h : NewMsg w m v w') : ∃ cs, v = .agg cs ∧ cs.size = 3 ∧ cs.all (·.oneCell') = true := by
  obtain ⟨A, n, c, e, _⟩ := h
  exact ⟨_, e, rfl, by simp [Value.oneCell']⟩
theorem nth_map {l : Row} {i : Nat} {k : Int} {m : Msg} (h : l[i]? = some (k, m)) : (l.map (·.1))[i]? = some k := by rw [List.getElem?_map, h]; rfl
theorem did_stay {w : World} {S : Nat → Prop} {g mb : Nat} {s : St} (h : NtAt w S g s mb) {i : Nat} {num : Int} {m : Msg} (hi : s.l[i]? = some (num, m)) :
    Calls Try.prog 45 #[.pointer (some ⟨g, 0, none⟩), .int .i64 num] w (Did w S fun v a b w1 w2 => a = num ∧ b = 0 ∧ NewMsg w1 m v w2 ∧ Below w1.heap.size w1 w2) := by
  refine (stay_any h (find_nth h.ok.rises hi)).mono ?_
  rintro e w' ⟨⟨v, rfl, hn⟩, hb⟩
  obtain ⟨cs, rfl, h1, h2⟩ := hn.cs
  exact ⟨cs, num, 0, rfl, h1, h2, Turn.of_below hb S, rfl, rfl, hn, hb⟩
theorem did_leave {w : World} {S : Nat → Prop} {g mb : Nat} {s : St} (h : NtAt w S g s mb) {i : Nat} {num : Int} {m : Msg} (hi : s.l[i]? = some (num, m)) :
    Calls Try.prog 44 #[.pointer (some ⟨g, 0, none⟩), .int .i64 num] w (Did w S fun v a b w1 w2 => a = num ∧ b = 0 ∧ NewMsg w1 m v w2 ∧ Turn S w1 w2 ∧ Nt w2 S g (s.cut i)) := by
  refine (leave_any h hi).mono ?_
  rintro e w' ⟨⟨v, rfl, hn⟩, hT, hN⟩
  obtain ⟨cs, rfl, h1, h2⟩ := hn.cs
  exact ⟨cs, num, 0, rfl, h1, h2, hT, rfl, rfl, hn, hT, mb, hN⟩
theorem zMsg_cs : zMsg = .agg #[.int .i64 0, .int .i64 0, .slice none 0 0] := rfl
theorem did_double {w : World} {S : Nat → Prop} {g mb : Nat} {s : St} (h : NtAt w S g s mb) {i : Nat} {num : Int} {m : Msg} (hi : s.l[i]? = some (num, m)) (hroom : s.l.length < s.most) (hc : s.came ≤ 1000000000) :
    Calls Try.prog 43 #[.pointer (some ⟨g, 0, none⟩), .int .i64 num] w (Did w S fun _ a b w1 w2 => a = (s.came : Int) ∧ b = 0 ∧ Wrote w1 S g (s.put m) w2) := by
  refine (double_yes h (find_nth h.ok.rises hi) hroom hc).mono ?_
  rintro e w' ⟨rfl, hw⟩
  exact ⟨#[.int .i64 0, .int .i64 0, .slice none 0 0], _, _, rfl, rfl, by simp [Value.oneCell'], hw.1, rfl, rfl, hw⟩
theorem did_crowd {w : World} {S : Nat → Prop} {g mb : Nat} {s : St} (h : NtAt w S g s mb) (num : Int) (hfull : s.most ≤ s.l.length) :
    Calls Try.prog 43 #[.pointer (some ⟨g, 0, none⟩), .int .i64 num] w (Did w S fun _ a b w1 w2 => a = 0 ∧ b = 150 ∧ Below w1.heap.size w1 w2) := by
  refine (double_no h num hfull).mono ?_
  rintro e w' ⟨rfl, hb⟩
  exact ⟨#[.int .i64 0, .int .i64 0, .slice none 0 0], _, _, rfl, rfl, by simp [Value.oneCell'], Turn.of_below hb S, rfl, rfl, hb⟩
theorem NewMsg.kept {w w' w'' : World} {m : Msg} {v : Value} {g : Nat} (h : NewMsg w m v w') (hg : w'.grownBy w'' (some g)) (hl : g < w.heap.size) : NewMsg w m v w'' := h.grown hg hl
theorem grown_low {w0 w w' : World} {b : Nat} (h : Below w0.heap.size w0 w) (hg : w.grownBy w' (some b)) (hl : w0.heap.size ≤ b) : Below w0.heap.size w0 w' := below_grown h hg (Nat.le_refl _) hl
set_option maxRecDepth 100000 in
set_option maxHeartbeats 4000000 in
theorem peek_none {w : World} {S : Nat → Prop} {g : Nat} {s : St} (h : Nt w S g s) (k : Int) (hl : s.l.length = 0) : Calls Try.prog 26 #[.pointer (some ⟨g, 0, none⟩), .int .i64 k] w fun e w' => e = .returned (.tuple #[zMsg, .int .i64 0, .int .i64 5]) ∧ Below w.heap.size w w' := by
  obtain ⟨mb, h⟩ := h
  have k0 : Blk (w.alloc (.cells #[.int .i64 0, .int .i64 0, .slice none 0 0] 39)) w.heap.size 39 #[.int .i64 0, .int .i64 0, .slice none 0 0] := Blk.new _ _ _
  have hb1 : Below w.heap.size w (w.alloc (.cells #[.int .i64 0, .int .i64 0, .slice none 0 0] 39)) := (Below.refl _ _).alloc (Nat.le_refl _) _
  have h1 := h.below hb1
  clear h
  go_enter Try.func26, Try.ntmps26
  go_wp2_with fail
  generalize w.alloc (.cells #[.int .i64 0, .int .i64 0, .slice none 0 0] 39) = w1 at *
  refine (doPicked_none h1 k _ hl).mono ?_
  rintro e w2 ⟨rfl, hb2⟩
  rw [zMsg_cs]
  have k2 := k0.below hb2 k0.lt
  go_wp2_with (with_reducible refine at_store 39 rfl ?_)
  refine Stop.go (wpList_store_blk (by rfl) (by rfl) 39 _ _ (by rfl) w.heap.size _ #[.int .i64 0, .int .i64 0, .slice none 0 0] (by rfl) (by rfl) 39 k2 (by rfl) (info39 _ rfl) (by simp [Value.oneCell']) ?_)
  intro w3 f3 g3 s3
  clear s3
  go_wp2_with fail
  refine bodyPost_ret (v := .tuple #[zMsg, .int .i64 0, .int .i64 5]) (results_ctt (by rfl) _ _ w.heap.size 39 _ (0, 0) _ (by rfl) f3 Try.underlying39 (by rfl) (info39 _ rfl) (by rfl) (by rfl)) rfl ?_
  exact ⟨rfl, below_grown (hb1.trans (hb2.mono hb1.size)) g3 (Nat.le_refl _) (Nat.le_refl _)⟩
set_option maxRecDepth 100000 in
set_option maxHeartbeats 4000000 in
theorem take_none {w : World} {S : Nat → Prop} {g : Nat} {s : St} (h : Nt w S g s) (k : Int) (hl : s.l.length = 0) : Calls Try.prog 24 #[.pointer (some ⟨g, 0, none⟩), .int .i64 k] w fun e w' => e = .returned (.tuple #[zMsg, .int .i64 0, .int .i64 5]) ∧ Below w.heap.size w w' := by
  obtain ⟨mb, h⟩ := h
  have k0 : Blk (w.alloc (.cells #[.int .i64 0, .int .i64 0, .slice none 0 0] 39)) w.heap.size 39 #[.int .i64 0, .int .i64 0, .slice none 0 0] := Blk.new _ _ _
  have hb1 : Below w.heap.size w (w.alloc (.cells #[.int .i64 0, .int .i64 0, .slice none 0 0] 39)) := (Below.refl _ _).alloc (Nat.le_refl _) _
  have h1 := h.below hb1
  clear h
  go_enter Try.func24, Try.ntmps24
  go_wp2_with fail
  generalize w.alloc (.cells #[.int .i64 0, .int .i64 0, .slice none 0 0] 39) = w1 at *
  refine (doPicked_none h1 k _ hl).mono ?_
  rintro e w2 ⟨rfl, hb2⟩
  rw [zMsg_cs]
  have k2 := k0.below hb2 k0.lt
  go_wp2_with (with_reducible refine at_store 39 rfl ?_)
  refine Stop.go (wpList_store_blk (by rfl) (by rfl) 39 _ _ (by rfl) w.heap.size _ #[.int .i64 0, .int .i64 0, .slice none 0 0] (by rfl) (by rfl) 39 k2 (by rfl) (info39 _ rfl) (by simp [Value.oneCell']) ?_)
  intro w3 f3 g3 s3
  clear s3
  go_wp2_with fail
  refine bodyPost_ret (v := .tuple #[zMsg, .int .i64 0, .int .i64 5]) (results_ctt (by rfl) _ _ w.heap.size 39 _ (0, 0) _ (by rfl) f3 Try.underlying39 (by rfl) (info39 _ rfl) (by rfl) (by rfl)) rfl ?_
  exact ⟨rfl, below_grown (hb1.trans (hb2.mono hb1.size)) g3 (Nat.le_refl _) (Nat.le_refl _)⟩
set_option maxRecDepth 100000 in
set_option maxHeartbeats 4000000 in
theorem dup_none {w : World} {S : Nat → Prop} {g : Nat} {s : St} (h : Nt w S g s) (k : Int) (hl : s.l.length = 0) : Calls Try.prog 23 #[.pointer (some ⟨g, 0, none⟩), .int .i64 k] w fun e w' => e = .returned (.tuple #[.int .i64 0, .int .i64 5]) ∧ Below w.heap.size w w' := by
  obtain ⟨mb, h⟩ := h
  go_enter Try.func23, Try.ntmps23
  go_wp2_with fail
  refine (doPicked_none h k _ hl).mono ?_
  rintro e w2 ⟨rfl, hb2⟩
  rw [zMsg_cs]
  go_wp2_with (with_reducible refine at_store 39 rfl ?_)
  refine Stop.go (wpList_store_blk (by rfl) (by rfl) 39 _ _ (by rfl) w2.heap.size _ #[.int .i64 0, .int .i64 0, .slice none 0 0] (by rfl) (by rfl) 39 (Blk.new w2 39 #[.int .i64 0, .int .i64 0, .slice none 0 0]) (by rfl) (info39 _ rfl) (by simp [Value.oneCell']) ?_)
  intro w3 f3 g3 s3
  clear s3
  go_wp2_with fail
  go_ret2
  exact ⟨rfl, below_grown (hb2.alloc hb2.size _) g3 (Nat.le_refl _) hb2.size⟩
set_option maxRecDepth 100000 in
set_option maxHeartbeats 4000000 in
theorem drop_none {w : World} {S : Nat → Prop} {g : Nat} {s : St} (h : Nt w S g s) (k : Int) (hl : s.l.length = 0) : Calls Try.prog 27 #[.pointer (some ⟨g, 0, none⟩), .int .i64 k] w fun e w' => e = .returned (.tuple #[.int .i64 0, .int .i64 5]) ∧ Below w.heap.size w w' := by
  obtain ⟨mb, h⟩ := h
  go_enter Try.func27, Try.ntmps27
  go_wp2_with fail
  refine (doPicked_none h k _ hl).mono ?_
  rintro e w2 ⟨rfl, hb2⟩
  rw [zMsg_cs]
  go_wp2_with (with_reducible refine at_store 39 rfl ?_)
  refine Stop.go (wpList_store_blk (by rfl) (by rfl) 39 _ _ (by rfl) w2.heap.size _ #[.int .i64 0, .int .i64 0, .slice none 0 0] (by rfl) (by rfl) 39 (Blk.new w2 39 #[.int .i64 0, .int .i64 0, .slice none 0 0]) (by rfl) (info39 _ rfl) (by simp [Value.oneCell']) ?_)
  intro w3 f3 g3 s3
  clear s3
  go_wp2_with fail
  go_ret2
  exact ⟨rfl, below_grown (hb2.alloc hb2.size _) g3 (Nat.le_refl _) hb2.size⟩
set_option maxRecDepth 100000 in
set_option maxHeartbeats 4000000 in
theorem peek_some {w : World} {S : Nat → Prop} {g : Nat} {s : St} (h : Nt w S g s) {k num : Int} {m : Msg} (hi : s.l[pick k s.l.length]? = some (num, m)) : Calls Try.prog 26 #[.pointer (some ⟨g, 0, none⟩), .int .i64 k] w fun e w' => Told w m num e w' ∧ Below w.heap.size w w' := by
  obtain ⟨mb, h⟩ := h
  have hl : 1 ≤ s.l.length := by
    have := (List.getElem?_eq_some_iff.1 hi).1
    omega
  have HSL := Lib.hid h.lt
  have k0 : Blk (w.alloc (.cells #[.int .i64 0, .int .i64 0, .slice none 0 0] 39)) w.heap.size 39 #[.int .i64 0, .int .i64 0, .slice none 0 0] := Blk.new _ _ _
  have hb1 : Below w.heap.size w (w.alloc (.cells #[.int .i64 0, .int .i64 0, .slice none 0 0] 39)) := (Below.refl _ _).alloc (Nat.le_refl _) _
  have h1 := h.below hb1
  clear h
  go_enter Try.func26, Try.ntmps26
  go_wp2_with fail
  generalize w.alloc (.cells #[.int .i64 0, .int .i64 0, .slice none 0 0] 39) = w1 at *
  refine (doPicked_45 h1 k num hl (nth_map hi) _ (fun wx hbx => did_stay (h1.below hbx) hi)).mono ?_
  rintro e w4 ⟨cs, a, b, w2, w3, rfl, hcs, hall, hb2, hlt2, hR, g4⟩
  have hz1 := hb1.size
  have hz2 := hb2.size
  have hlt := k0.lt
  obtain ⟨rfl, rfl, hn, hb3⟩ := hR
  have hz3 := hb3.size
  have hz4 := g4.size
  have k4 := ((k0.below hb2 k0.lt).below hb3 (by omega)).grown g4 (by omega)
  go_wp2_with (with_reducible refine at_store 39 rfl ?_)
  refine Stop.go (wpList_store_blk (by rfl) (by rfl) 39 _ _ (by rfl) w.heap.size _ cs (by rfl) (by rfl) 39 k4 (by rw [hcs]; rfl) (info39 _ hcs) hall ?_)
  intro w5 f5 g5 s5
  clear s5
  go_wp2_with fail
  refine bodyPost_ret (v := .tuple #[.agg cs, .int .i64 a, .int .i64 0]) (results_ctt (by rfl) _ _ w.heap.size 39 _ (0, 0) _ (by rfl) f5 Try.underlying39 (by rfl) (info39 _ hcs) (by rfl) (by rfl)) rfl ?_
  have hb4 : Below w1.heap.size w1 w4 := grown_low (hb2.trans (hb3.mono hz2)) g4 (Nat.le_refl _)
  exact ⟨⟨_, rfl, ((hn.grown g4 (by omega)).grown g5 (by omega)).since (by omega)⟩, below_grown (hb1.trans (hb4.mono hz1)) g5 (Nat.le_refl _) (Nat.le_refl _)⟩
set_option maxRecDepth 100000 in
set_option maxHeartbeats 4000000 in
theorem take_some {w : World} {S : Nat → Prop} {g : Nat} {s : St} (h : Nt w S g s) {k num : Int} {m : Msg} (hi : s.l[pick k s.l.length]? = some (num, m)) : Calls Try.prog 24 #[.pointer (some ⟨g, 0, none⟩), .int .i64 k] w fun e w' => Told w m num e w' ∧ Turn S w w' ∧ Nt w' S g (s.cut (pick k s.l.length)) := by
  obtain ⟨mb, h⟩ := h
  have hl : 1 ≤ s.l.length := by
    have := (List.getElem?_eq_some_iff.1 hi).1
    omega
  have HSL := Lib.hid h.lt
  have k0 : Blk (w.alloc (.cells #[.int .i64 0, .int .i64 0, .slice none 0 0] 39)) w.heap.size 39 #[.int .i64 0, .int .i64 0, .slice none 0 0] := Blk.new _ _ _
  have hb1 : Below w.heap.size w (w.alloc (.cells #[.int .i64 0, .int .i64 0, .slice none 0 0] 39)) := (Below.refl _ _).alloc (Nat.le_refl _) _
  have h1 := h.below hb1
  clear h
  go_enter Try.func24, Try.ntmps24
  go_wp2_with fail
  generalize w.alloc (.cells #[.int .i64 0, .int .i64 0, .slice none 0 0] 39) = w1 at *
  refine (doPicked_44 h1 k num hl (nth_map hi) _ (fun wx hbx => did_leave (h1.below hbx) hi)).mono ?_
  rintro e w4 ⟨cs, a, b, w2, w3, rfl, hcs, hall, hb2, hlt2, hR, g4⟩
  have hz1 := hb1.size
  have hz2 := hb2.size
  have hlt := k0.lt
  obtain ⟨rfl, rfl, hn, hT3, hN3⟩ := hR
  have hz3 := hT3.size
  have hz4 := g4.size
  have k4 := ((k0.below hb2 k0.lt).keep hT3 (fun e => by have := HSL.out _ e; omega)).grown g4 (by omega)
  go_wp2_with (with_reducible refine at_store 39 rfl ?_)
  refine Stop.go (wpList_store_blk (by rfl) (by rfl) 39 _ _ (by rfl) w.heap.size _ cs (by rfl) (by rfl) 39 k4 (by rw [hcs]; rfl) (info39 _ hcs) hall ?_)
  intro w5 f5 g5 s5
  clear s5
  go_wp2_with fail
  refine bodyPost_ret (v := .tuple #[.agg cs, .int .i64 a, .int .i64 0]) (results_ctt (by rfl) _ _ w.heap.size 39 _ (0, 0) _ (by rfl) f5 Try.underlying39 (by rfl) (info39 _ hcs) (by rfl) (by rfl)) rfl ?_
  have hT4 : Turn (fun b => b = w1.heap.size) w3 w4 := Turn.of_grown g4 (fun r e => by injection e with e; exact e.symm)
  have hT5 : Turn (fun b => b = w.heap.size) w4 w5 := Turn.of_grown g5 (fun r e => by injection e with e; exact e.symm)
  have q1 : Turn S w w2 := Turn.of_below (hb1.trans (hb2.mono hz1)) S
  have q2 : Turn S w w3 := q1.trans hT3 (fun _ _ e => e)
  have q3 : Turn S w w4 := q2.trans hT4 (fun b hb e => by omega)
  have q4 : Turn S w w5 := q3.trans hT5 (fun b hb e => by omega)
  exact ⟨⟨_, rfl, ((hn.grown g4 (by omega)).grown g5 (by omega)).since (by omega)⟩, q4, (hN3.keep hT4 (fun b _ e e' => by have := HSL.out _ e'; omega)).keep hT5 (fun b _ e e' => by have := HSL.out _ e'; omega)⟩
set_option maxRecDepth 100000 in
set_option maxHeartbeats 4000000 in
theorem drop_some {w : World} {S : Nat → Prop} {g : Nat} {s : St} (h : Nt w S g s) {k num : Int} {m : Msg} (hi : s.l[pick k s.l.length]? = some (num, m)) : Calls Try.prog 27 #[.pointer (some ⟨g, 0, none⟩), .int .i64 k] w fun e w' => e = .returned (.tuple #[.int .i64 num, .int .i64 0]) ∧ Turn S w w' ∧ Nt w' S g (s.cut (pick k s.l.length)) := by
  obtain ⟨mb, h⟩ := h
  have hl : 1 ≤ s.l.length := by
    have := (List.getElem?_eq_some_iff.1 hi).1
    omega
  have HSL := Lib.hid h.lt
  go_enter Try.func27, Try.ntmps27
  go_wp2_with fail
  refine (doPicked_44 h k num hl (nth_map hi) _ (fun wx hbx => did_leave (h.below hbx) hi)).mono ?_
  rintro e w4 ⟨cs, a, b, w2, w3, rfl, hcs, hall, hb2, hlt2, hR, g4⟩
  have hz2 := hb2.size
  obtain ⟨rfl, rfl, hn, hT3, hN3⟩ := hR
  have hz3 := hT3.size
  have hz4 := g4.size
  go_wp2_with (with_reducible refine at_store 39 rfl ?_)
  refine Stop.go (wpList_store_blk (by rfl) (by rfl) 39 _ _ (by rfl) w4.heap.size _ cs (by rfl) (by rfl) 39 (Blk.new w4 39 #[.int .i64 0, .int .i64 0, .slice none 0 0]) (by rw [hcs]; rfl) (info39 _ hcs) hall ?_)
  intro w5 f5 g5 s5
  clear s5
  go_wp2_with fail
  go_ret2
  have hT4 : Turn (fun b => b = w.heap.size) w3 w4 := Turn.of_grown g4 (fun r e => by injection e with e; exact e.symm)
  have hT5 : Turn (fun b => b = w4.heap.size) (w4.alloc (.cells #[.int .i64 0, .int .i64 0, .slice none 0 0] 39)) w5 := Turn.of_grown g5 (fun r e => by injection e with e; exact e.symm)
  have q1 : Turn S w w2 := Turn.of_below hb2 S
  have q2 : Turn S w w3 := q1.trans hT3 (fun _ _ e => e)
  have q3 : Turn S w w4 := q2.trans hT4 (fun b hb e => by omega)
  have q4 : Turn S w w5 := (q3.alloc _).trans hT5 (fun b hb e => by omega)
  have hN4 := (hN3.keep hT4 (fun b _ e e' => by have := HSL.out _ e'; omega)).below ((Below.refl _ _).alloc (Nat.le_refl _) (.cells #[.int .i64 0, .int .i64 0, .slice none 0 0] 39))
  exact ⟨rfl, q4, hN4.keep hT5 (fun b _ e e' => by have := HSL.out _ e'; omega)⟩
set_option maxRecDepth 100000 in
set_option maxHeartbeats 4000000 in
theorem dup_some {w : World} {S : Nat → Prop} {g : Nat} {s : St} (h : Nt w S g s) {k num : Int} {m : Msg} (hi : s.l[pick k s.l.length]? = some (num, m)) (hroom : s.l.length < s.most) (hc : s.came ≤ 1000000000) : Calls Try.prog 23 #[.pointer (some ⟨g, 0, none⟩), .int .i64 k] w fun e w' => e = .returned (.tuple #[.int .i64 (s.came : Int), .int .i64 0]) ∧ Wrote w S g (s.put m) w' := by
  obtain ⟨mb, h⟩ := h
  have hl : 1 ≤ s.l.length := by
    have := (List.getElem?_eq_some_iff.1 hi).1
    omega
  have HSL := Lib.hid h.lt
  go_enter Try.func23, Try.ntmps23
  go_wp2_with fail
  refine (doPicked_43 h k num hl (nth_map hi) _ (fun wx hbx => did_double (h.below hbx) hi hroom hc)).mono ?_
  rintro e w4 ⟨cs, a, b, w2, w3, rfl, hcs, hall, hb2, hlt2, hR, g4⟩
  have hz2 := hb2.size
  obtain ⟨rfl, rfl, hw3⟩ := hR
  have hz4 := g4.size
  go_wp2_with (with_reducible refine at_store 39 rfl ?_)
  refine Stop.go (wpList_store_blk (by rfl) (by rfl) 39 _ _ (by rfl) w4.heap.size _ cs (by rfl) (by rfl) 39 (Blk.new w4 39 #[.int .i64 0, .int .i64 0, .slice none 0 0]) (by rw [hcs]; rfl) (info39 _ hcs) hall ?_)
  intro w5 f5 g5 s5
  clear s5
  go_wp2_with fail
  go_ret2
  have hw4 := Wrote.cellw hb2 hw3 g4 (fun e => by have := HSL.out _ e; omega) (Nat.le_refl _) (by omega)
  have hbz : Below w4.heap.size w4 w5 := below_grown ((Below.refl _ _).alloc (Nat.le_refl _) _) g5 (Nat.le_refl _) (Nat.le_refl _)
  exact ⟨rfl, hw4.then hbz⟩
set_option maxRecDepth 100000 in
set_option maxHeartbeats 4000000 in
theorem dup_crowd {w : World} {S : Nat → Prop} {g : Nat} {s : St} (h : Nt w S g s) {k num : Int} {m : Msg} (hi : s.l[pick k s.l.length]? = some (num, m)) (hfull : s.most ≤ s.l.length) : Calls Try.prog 23 #[.pointer (some ⟨g, 0, none⟩), .int .i64 k] w fun e w' => e = .returned (.tuple #[.int .i64 0, .int .i64 150]) ∧ Below w.heap.size w w' := by
  obtain ⟨mb, h⟩ := h
  have hl : 1 ≤ s.l.length := by
    have := (List.getElem?_eq_some_iff.1 hi).1
    omega
  have HSL := Lib.hid h.lt
  go_enter Try.func23, Try.ntmps23
  go_wp2_with fail
  refine (doPicked_43 h k num hl (nth_map hi) _ (fun wx hbx => did_crowd (h.below hbx) num hfull)).mono ?_
  rintro e w4 ⟨cs, a, b, w2, w3, rfl, hcs, hall, hb2, hlt2, hR, g4⟩
  have hz2 := hb2.size
  obtain ⟨rfl, rfl, hb3⟩ := hR
  have hz4 := g4.size
  go_wp2_with (with_reducible refine at_store 39 rfl ?_)
  refine Stop.go (wpList_store_blk (by rfl) (by rfl) 39 _ _ (by rfl) w4.heap.size _ cs (by rfl) (by rfl) 39 (Blk.new w4 39 #[.int .i64 0, .int .i64 0, .slice none 0 0]) (by rw [hcs]; rfl) (info39 _ hcs) hall ?_)
  intro w5 f5 g5 s5
  clear s5
  go_wp2_with fail
  go_ret2
  have hb4 : Below w.heap.size w w4 := grown_low (hb2.trans (hb3.mono hz2)) g4 (Nat.le_refl _)
  have hbz : Below w4.heap.size w4 w5 := below_grown ((Below.refl _ _).alloc (Nat.le_refl _) _) g5 (Nat.le_refl _) (Nat.le_refl _)
  exact ⟨rfl, hb4.trans (hbz.mono hb4.size)⟩
end Go.Proofs.Yticabfmjdjcfnaa
