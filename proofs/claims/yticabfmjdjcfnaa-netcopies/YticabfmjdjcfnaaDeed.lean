/-
  What a pick does with the message that it picked: stay, leave, double. Conditions: bounds.
-/
import Derived.Test.YticabfmjdjcfnaaSend2
namespace Go.Proofs.Yticabfmjdjcfnaa
open Go.RowKit
theorem find_short {s : St} (h : s.ok) {k : Int} {m : Msg} (hf : find s.l k = some m) : m.b.length ≤ 4096 := h.short (k, m) (find_mem hf)
theorem find_place {s : St} (h : s.ok) {k : Int} {m : Msg} (hf : find s.l k = some m) : 0 ≤ m.fr ∧ m.fr < 64 ∧ 0 ≤ m.to ∧ m.to < 64 := h.place (k, m) (find_mem hf)
/-- A message, a number, an error. -/
def Told (w : World) (m : Msg) (k : Int) (e : Ending) (w' : World) : Prop := ∃ v, e = .returned (.tuple #[v, .int .i64 k, .int .i64 0]) ∧ NewMsg w m v w'
theorem NewMsg.row {w w' : World} {m : Msg} {v : Value} (h : NewMsg w m v w') : ∃ A n c, v = .agg #[.int .i64 m.fr, .int .i64 m.to, .slice A n c] := by
  obtain ⟨A, n, c, e, _⟩ := h
  exact ⟨A, n, c, e⟩
theorem NewMsg.grown {w w' w'' : World} {m : Msg} {v : Value} {g : Nat} (h : NewMsg w m v w') (hg : w'.grownBy w'' (some g)) (hl : g < w.heap.size) : NewMsg w m v w'' := by
  obtain ⟨A, n, c, e, h1, h2⟩ := h
  exact ⟨A, n, c, e, h1.keep (Turn.of_grown (S := fun b => b = g) hg (fun r e => by injection e with e; exact e.symm)) (fun r e e' => by have := h2 r e; omega), h2⟩
/-- A write at a block that was made ahead of the call, and is none of the net's. -/
theorem Wrote.cellw {w0 w w' w'' : World} {S : Nat → Prop} {g b : Nat} {s : St} (hb : Below w0.heap.size w0 w) (h : Wrote w S g s w') (hg : w'.grownBy w'' (some b)) (hn : ¬ S b) (hl : w0.heap.size ≤ b) (hu : b < w.heap.size) : Wrote w0 S g s w'' := by
  have hA := Wrote.after hb h
  obtain ⟨h1, S', h2, h3, h4⟩ := h
  obtain ⟨k1, _⟩ := hA
  have hT : Turn (fun r => r = b) w' w'' := Turn.of_grown hg (fun r e => by injection e with e; exact e.symm)
  exact ⟨k1.trans hT (fun r hr e => by omega), S', h2, fun r e => (h3 r e).elim .inl (fun q => .inr (Nat.le_trans hb.size q)), h4.keep hT (fun r _ e e' => by subst e; exact (h3 r e').elim hn (fun q => by omega))⟩
set_option maxRecDepth 100000 in
set_option maxHeartbeats 4000000 in
theorem stay_any {w : World} {S : Nat → Prop} {g mb : Nat} {s : St} (h : NtAt w S g s mb) {k : Int} {m : Msg} (hf : find s.l k = some m) :
    Calls Try.prog 45 #[.pointer (some ⟨g, 0, none⟩), .int .i64 k] w fun e w' => Told w m k e w' ∧ Below w.heap.size w w' := by
  have k0 : Blk (w.alloc (.cells #[.int .i64 0, .int .i64 0, .slice none 0 0] 39)) w.heap.size 39 #[.int .i64 0, .int .i64 0, .slice none 0 0] := Blk.new _ _ _
  have hb1 : Below w.heap.size w (w.alloc (.cells #[.int .i64 0, .int .i64 0, .slice none 0 0] 39)) := (Below.refl _ _).alloc (Nat.le_refl _) _
  have h1 := h.below hb1
  have hsh := find_short h.ok hf
  clear h
  obtain ⟨c0, c1, c2⟩ := h1.blk.three
  obtain ⟨v, hlook, hmv⟩ := h1.map.look hf
  go_enter Try.func45, Try.ntmps45
  go_wp2_with fail
  generalize w.alloc (.cells #[.int .i64 0, .int .i64 0, .slice none 0 0] 39) = w1 at *
  have hz1 := hb1.size
  refine (another_any hmv (by omega)).mono ?_
  rintro e w2 ⟨v2, rfl, hn2, hb2⟩
  have k2 := k0.below hb2 k0.lt
  have hlt := k0.lt
  obtain ⟨A, n, c, rfl⟩ := hn2.row
  go_wp2_with (with_reducible refine at_store 39 rfl ?_)
  refine Stop.go (wpList_store_blk (by rfl) (by rfl) 39 _ _ (by rfl) w.heap.size _ #[.int .i64 m.fr, .int .i64 m.to, .slice A n c] (by rfl) (by rfl) 39 k2 (by rfl) (info39 _ rfl) (by simp [Value.oneCell']) ?_)
  intro w3 f3 g3 s3
  clear s3
  go_wp2_with fail
  refine bodyPost_ret (v := .tuple #[.agg #[.int .i64 m.fr, .int .i64 m.to, .slice A n c], .int .i64 k, .int .i64 0]) (results_ctt (by rfl) _ _ w.heap.size 39 _ (0, 0) _ (by rfl) f3 Try.underlying39 (by rfl) (info39 _ rfl) (by rfl) (by rfl)) rfl ?_
  exact ⟨⟨_, rfl, (hn2.grown g3 (by omega)).since hz1⟩, below_grown (hb1.trans (hb2.mono hz1)) g3 (Nat.le_refl _) (Nat.le_refl _)⟩
theorem NM.drop' {w : World} {X : Nat → Prop} {mb : Nat} {l : Row} (h : NM w X mb l) {i : Nat} {k : Int} {m : Msg} (hi : l[i]? = some (k, m)) (hX : X mb) (ty : TypeId) :
    ∃ w', (Builtin.delete_ #[69, 3] ty #[.map (some mb), .int .i64 k]).run Try.prog w = .ok (.tuple #[]) w' ∧ NM w' X mb (l.eraseIdx i) ∧ w.grownBy w' (some mb) := by
  obtain ⟨hlt, e⟩ := List.getElem?_eq_some_iff.1 hi
  have := h.drop hlt hX ty
  rw [e] at this
  exact this
theorem find_nth {l : Row} (hr : Rises l) {i : Nat} {k : Int} {m : Msg} (hi : l[i]? = some (k, m)) : find l k = some m := by
  obtain ⟨hlt, e⟩ := List.getElem?_eq_some_iff.1 hi
  have := find_at hr hlt
  rw [e] at this
  exact this
set_option maxRecDepth 100000 in
set_option maxHeartbeats 4000000 in
theorem leave_any {w : World} {S : Nat → Prop} {g mb : Nat} {s : St} (h : NtAt w S g s mb) {i : Nat} {k : Int} {m : Msg} (hi : s.l[i]? = some (k, m)) :
    Calls Try.prog 44 #[.pointer (some ⟨g, 0, none⟩), .int .i64 k] w fun e w' => Told w m k e w' ∧ Turn S w w' ∧ NtAt w' S g (s.cut i) mb := by
  have hf := find_nth h.ok.rises hi
  have HI := Lib.hid hi
  have HOK := Lib.hid h.ok
  have k0 : Blk (w.alloc (.cells #[.int .i64 0, .int .i64 0, .slice none 0 0] 39)) w.heap.size 39 #[.int .i64 0, .int .i64 0, .slice none 0 0] := Blk.new _ _ _
  have hb1 : Below w.heap.size w (w.alloc (.cells #[.int .i64 0, .int .i64 0, .slice none 0 0] 39)) := (Below.refl _ _).alloc (Nat.le_refl _) _
  have h1 := h.below hb1
  have hsh := find_short h.ok hf
  have HSL := Lib.hid h.lt
  have HGI := Lib.hid (And.intro h.g_in h.m_in)
  have HNE := Lib.hid h.ne
  clear h hi
  obtain ⟨c0, c1, c2⟩ := h1.blk.three
  obtain ⟨v, hlook, hmv⟩ := h1.map.look hf
  go_enter Try.func44, Try.ntmps44
  go_wp2_with fail
  generalize w.alloc (.cells #[.int .i64 0, .int .i64 0, .slice none 0 0] 39) = w1 at *
  have hz1 := hb1.size
  refine (another_any hmv (by omega)).mono ?_
  rintro e w2 ⟨v2, rfl, hn2, hb2⟩
  have k2 := (k0.below hb2 k0.lt).alloc (.cells #[.int .i64 0, .int .i64 0, .slice none 0 0] 39)
  have hlt := k0.lt
  obtain ⟨A, n, c, rfl⟩ := hn2.row
  go_wp2_with (with_reducible refine at_store 39 rfl ?_)
  have j2 : Blk (w2.alloc (.cells #[.int .i64 0, .int .i64 0, .slice none 0 0] 39)) w2.heap.size 39 #[.int .i64 0, .int .i64 0, .slice none 0 0] := Blk.new _ _ _
  have hbx : Below w2.heap.size w2 (w2.alloc (.cells #[.int .i64 0, .int .i64 0, .slice none 0 0] 39)) := (Below.refl _ _).alloc (Nat.le_refl _) _
  have hb3 := hb2.trans (hbx.mono hb2.size)
  have h3 := h1.below hb3
  have hz3 := hb3.size
  have hz2 := hb2.size
  generalize w2.alloc (.cells #[.int .i64 0, .int .i64 0, .slice none 0 0] 39) = w3 at *
  refine Stop.go (wpList_store_blk (by rfl) (by rfl) 39 _ _ (by rfl) w2.heap.size _ #[.int .i64 m.fr, .int .i64 m.to, .slice A n c] (by rfl) (by rfl) 39 j2 (by rfl) (info39 _ rfl) (by simp [Value.oneCell']) ?_)
  intro w4 f4 g4 s4
  have hT4 : Turn (fun b => b = w2.heap.size) w3 w4 := Turn.of_grown g4 (fun r e => by injection e with e; exact e.symm)
  have k4 := k2.keep hT4 (by omega)
  have h4 := h3.keep hT4 (fun b _ e e' => by have := HSL.out b e'; omega)
  have hb4 : Below w2.heap.size w2 w4 := below_grown hbx g4 (Nat.le_refl _) (Nat.le_refl _)
  have hn4 := hn2.keep hb4
  clear s4
  obtain ⟨w5, hdel, m5, g5⟩ := h4.map.drop' HI.out (.inr (.inl rfl)) 0
  have hT5 : Turn (fun b => b = mb) w4 w5 := Turn.of_grown g5 (fun r e => by injection e with e; exact e.symm)
  have b5 := h4.blk.keep hT5 (fun e => HNE.out e.symm)
  obtain ⟨hgi, hmi⟩ := HGI.out
  have hml := HSL.out mb hmi
  have f5 := f4.keep hT5 (by omega)
  have k5 := k4.keep hT5 (by omega)
  have hn5 := hn4.grown g5 (by omega)
  have hT : Turn S w w5 := ((Turn.of_below (hb1.trans (hb2.mono hz1)) S).trans (Turn.of_below hb4 S) (fun _ _ e => e)).trans hT5 (fun b _ e => by subst e; exact hmi)
  obtain ⟨d0, d1, d2⟩ := h4.blk.three
  obtain ⟨e0, e1, e2⟩ := f5.three
  go_wp2_with (with_reducible refine at_store 39 rfl ?_)
  refine Stop.go (wpList_store_blk (by rfl) (by rfl) 39 _ _ (by rfl) w.heap.size _ #[.int .i64 m.fr, .int .i64 m.to, .slice A n c] (by rfl) (by rfl) 39 k5 (by rfl) (info39 _ rfl) (by simp [Value.oneCell']) ?_)
  intro w6 f6 g6 s6
  clear s6
  have hT6 : Turn (fun b => b = w.heap.size) w5 w6 := Turn.of_grown g6 (fun r e => by injection e with e; exact e.symm)
  have hgl := HSL.out g hgi
  go_wp2_with fail
  refine bodyPost_ret (v := .tuple #[.agg #[.int .i64 m.fr, .int .i64 m.to, .slice A n c], .int .i64 k, .int .i64 0]) (results_ctt (by rfl) _ _ w.heap.size 39 _ (0, 0) _ (by rfl) f6 Try.underlying39 (by rfl) (info39 _ rfl) (by rfl) (by rfl)) rfl ?_
  refine ⟨⟨_, rfl, (hn5.grown g6 (by omega)).since hz1⟩, hT.trans hT6 (fun b hb e => by omega), ?_⟩
  have n5 : NtAt w5 S g (s.cut i) mb := ⟨b5, m5, ok_cut HOK.out i, hgi, hmi, HNE.out, fun b e => by have := HSL.out b e; have := hT.size; omega⟩
  exact n5.keep hT6 (fun b _ e e' => by have := HSL.out b e'; omega)
set_option maxRecDepth 100000 in
set_option maxHeartbeats 4000000 in
theorem double_no {w : World} {S : Nat → Prop} {g mb : Nat} {s : St} (h : NtAt w S g s mb) (k : Int) (hfull : s.most ≤ s.l.length) :
    Calls Try.prog 43 #[.pointer (some ⟨g, 0, none⟩), .int .i64 k] w fun e w' => e = .returned (.tuple #[zMsg, .int .i64 0, .int .i64 150]) ∧ Below w.heap.size w w' := by
  have k0 : Blk (w.alloc (.cells #[.int .i64 0, .int .i64 0, .slice none 0 0] 39)) w.heap.size 39 #[.int .i64 0, .int .i64 0, .slice none 0 0] := Blk.new _ _ _
  have hb1 : Below w.heap.size w (w.alloc (.cells #[.int .i64 0, .int .i64 0, .slice none 0 0] 39)) := (Below.refl _ _).alloc (Nat.le_refl _) _
  have h1 := h.below hb1
  have hd2 : decide (s.most ≤ s.l.length) = true := by simpa using hfull
  clear h
  go_enter Try.func43, Try.ntmps43
  go_wp2_with fail
  generalize w.alloc (.cells #[.int .i64 0, .int .i64 0, .slice none 0 0] 39) = w1 at *
  have hz1 := hb1.size
  refine (full_any h1).mono ?_
  rw [hd2]
  rintro e w2 ⟨rfl, hb2⟩
  have k2 := k0.below hb2 k0.lt
  go_wp2_with (with_reducible refine at_store 39 rfl ?_)
  refine Stop.go (wpList_store_blk (by rfl) (by rfl) 39 _ _ (by rfl) w.heap.size _ #[.int .i64 0, .int .i64 0, .slice none 0 0] (by rfl) (by rfl) 39 k2 (by rfl) (info39 _ rfl) (by simp [Value.oneCell']) ?_)
  intro w3 f3 g3 s3
  clear s3
  go_wp2_with fail
  refine bodyPost_ret (v := .tuple #[zMsg, .int .i64 0, .int .i64 150]) (results_ctt (by rfl) _ _ w.heap.size 39 _ (0, 0) _ (by rfl) f3 Try.underlying39 (by rfl) (info39 _ rfl) (by rfl) (by rfl)) rfl ?_
  exact ⟨rfl, below_grown (hb1.trans (hb2.mono hz1)) g3 (Nat.le_refl _) (Nat.le_refl _)⟩
set_option maxRecDepth 100000 in
set_option maxHeartbeats 4000000 in
theorem double_yes {w : World} {S : Nat → Prop} {g mb : Nat} {s : St} (h : NtAt w S g s mb) {k : Int} {m : Msg} (hf : find s.l k = some m) (hroom : s.l.length < s.most) (hc : s.came ≤ 1000000000) :
    Calls Try.prog 43 #[.pointer (some ⟨g, 0, none⟩), .int .i64 k] w fun e w' => e = .returned (.tuple #[zMsg, .int .i64 (s.came : Int), .int .i64 0]) ∧ Wrote w S g (s.put m) w' := by
  have k0 : Blk (w.alloc (.cells #[.int .i64 0, .int .i64 0, .slice none 0 0] 39)) w.heap.size 39 #[.int .i64 0, .int .i64 0, .slice none 0 0] := Blk.new _ _ _
  have hb1 : Below w.heap.size w (w.alloc (.cells #[.int .i64 0, .int .i64 0, .slice none 0 0] 39)) := (Below.refl _ _).alloc (Nat.le_refl _) _
  have h1 := h.below hb1
  have HSL := Lib.hid h.lt
  have hd2 : decide (s.most ≤ s.l.length) = false := by simp; omega
  have hsh := find_short h.ok hf
  have hpl := find_place h.ok hf
  clear h
  go_enter Try.func43, Try.ntmps43
  go_wp2_with fail
  generalize w.alloc (.cells #[.int .i64 0, .int .i64 0, .slice none 0 0] 39) = w1 at *
  have hz1 := hb1.size
  refine (full_any h1).mono ?_
  rw [hd2]
  rintro e w2 ⟨rfl, hb2⟩
  have k2 := k0.below hb2 k0.lt
  have h2 := h1.below hb2
  obtain ⟨c0, c1, c2⟩ := h2.blk.three
  obtain ⟨v, hlook, hmv⟩ := h2.map.look hf
  have hbw := hb1.trans (hb2.mono hz1)
  go_wp2_with fail
  refine (send_any h2 hmv (.inr (.inr rfl)) hroom hsh hpl hc).mono ?_
  rintro e w3 ⟨rfl, hw3⟩
  have hlt := k0.lt
  have hT3 := hw3.1
  have k3 := k2.keep hT3 (fun e => by have := HSL.out _ e; omega)
  go_wp2_with (with_reducible refine at_store 39 rfl ?_)
  refine Stop.go (wpList_store_blk (by rfl) (by rfl) 39 _ _ (by rfl) w.heap.size _ #[.int .i64 0, .int .i64 0, .slice none 0 0] (by rfl) (by rfl) 39 k3 (by rfl) (info39 _ rfl) (by simp [Value.oneCell']) ?_)
  intro w4 f4 g4 s4
  clear s4
  go_wp2_with fail
  refine bodyPost_ret (v := .tuple #[zMsg, .int .i64 (s.came : Int), .int .i64 0]) (results_ctt (by rfl) _ _ w.heap.size 39 _ (0, 0) _ (by rfl) f4 Try.underlying39 (by rfl) (info39 _ rfl) (by rfl) (by rfl)) rfl ?_
  exact ⟨rfl, Wrote.cellw hbw hw3 g4 (fun e => by have := HSL.out _ e; omega) (Nat.le_refl _) (by have := hb2.size; omega)⟩
end Go.Proofs.Yticabfmjdjcfnaa
