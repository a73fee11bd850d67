/-
  net.full, another, give, New, Len, Came. Conditions: bounds.
-/
import Derived.Test.YticabfmjdjcfnaaNet
import Derived.Laws.EntriesVeiled
namespace Go.Proofs.Yticabfmjdjcfnaa
open Go.RowKit
theorem Blk.three {w : World} {g : Nat} {t : TypeId} {a b c : Value} (h : Blk w g t #[a, b, c]) : w.cell? ⟨g, 0, none⟩ = some a ∧ w.cell? ⟨g, 1, none⟩ = some b ∧ w.cell? ⟨g, 2, none⟩ = some c := ⟨h.cell 0, h.cell 1, h.cell 2⟩
set_option maxHeartbeats 1000000 in
theorem full_any {w : World} {S : Nat → Prop} {g m : Nat} {s : St} (h : NtAt w S g s m) : Calls Try.prog 32 #[.pointer (some ⟨g, 0, none⟩)] w fun e w' => e = .returned (.bool (decide (s.most ≤ s.l.length))) ∧ Below w.heap.size w w' := by
  obtain ⟨c0, c1, c2⟩ := h.blk.three
  have hl : ∀ ty n, (Builtin.len_ #[69] ty #[.map (some m)]).run Try.prog (w.drewN n) = .ok (.int .i64 (s.l.length : Int)) (w.drewN n) := fun ty n => (h.map.below (w' := w.drewN n) ⟨rfl, rfl, rfl, Nat.le_refl _, fun _ _ => rfl⟩).len_ ty
  clear h
  go_enter Try.func32, Try.ntmps32
  go_wp2_with fail
  go_quiet (fail)
  go_wp2_with fail
  go_ret
  exact ⟨ret_bool (by simp), ⟨rfl, rfl, rfl, Nat.le_refl _, fun _ _ => rfl⟩⟩
set_option maxRecDepth 100000 in
set_option maxHeartbeats 2000000 in
/-- net.another: a message like m, with bytes of its own. -/
theorem another_any {w : World} {X : Nat → Prop} {m : Msg} {v : Value} (h : MsgV w X m v) (hb : m.b.length ≤ 1000000000) : Calls Try.prog 37 #[v] w fun e w' => ∃ v', e = .returned v' ∧ NewMsg w m v' w' ∧ Below w.heap.size w w' := by
  obtain ⟨A, n, c, rfl, hB⟩ := h
  have HL := Lib.hid hB.1
  have k0 : Blk ((w.alloc (.cells #[.int .i64 m.fr, .int .i64 m.to, .slice A n c] 39)).alloc (.cells #[.int .i64 0, .int .i64 0, .slice none 0 0] 39)) w.heap.size 39 #[.int .i64 m.fr, .int .i64 m.to, .slice A n c] := (Blk.new _ _ _).alloc _
  have k1 : Blk ((w.alloc (.cells #[.int .i64 m.fr, .int .i64 m.to, .slice A n c] 39)).alloc (.cells #[.int .i64 0, .int .i64 0, .slice none 0 0] 39)) (w.heap.size + 1) 39 #[.int .i64 0, .int .i64 0, .slice none 0 0] := blk_new _ 39 _ (by simp)
  have hb2 : Below w.heap.size w ((w.alloc (.cells #[.int .i64 m.fr, .int .i64 m.to, .slice A n c] 39)).alloc (.cells #[.int .i64 0, .int .i64 0, .slice none 0 0] 39)) := ((Below.refl _ _).alloc (Nat.le_refl _) _).alloc (by simp) _
  have HB := Lib.hid (hB.below hb2)
  clear hB
  go_enter Try.func37, Try.ntmps37
  go_wp2_with fail
  generalize (w.alloc (.cells #[.int .i64 m.fr, .int .i64 m.to, .slice A n c] 39)).alloc (.cells #[.int .i64 0, .int .i64 0, .slice none 0 0] 39) = w2 at *
  obtain ⟨c0, c1, c2⟩ := k0.three
  go_wp2_with fail
  refine (copied_any A n c m.b X w2 HB.out (by have := HL.out; omega)).mono ?_
  rintro e w3 ⟨v', rfl, ho, hnew, hb3⟩
  have k0' := k0.below hb3 k0.lt
  have k1' := k1.below hb3 k1.lt
  obtain ⟨A', n', c', rfl, hq, _⟩ := ho.form
  have HQ := Lib.hid hq
  clear hq
  have hlt := k0.lt
  have hlt1 := k1.lt
  have hz3 := hb3.size
  obtain ⟨d0, d1, d2⟩ := k0'.three
  have hfz := k0'.frozen 2
  go_wp2_with (with_reducible refine at_store 39 rfl ?_)
  have k0'' := k0'.set_ 2 (.slice A' n' c')
  have k1'' := k1'.far (p := ⟨w.heap.size, 2, none⟩) (by simp) (.slice A' n' c')
  have ho' : Own (w3.setCell ⟨w.heap.size, 2, none⟩ (.slice A' n' c')) (.slice A' n' c') m.b := ho.keep (S := fun b => b = w.heap.size) ((Turn.refl (fun b => b = w.heap.size) w3).setCell (p := ⟨w.heap.size, 2, none⟩) (fun _ => rfl) _) (fun g e e' => by have := hnew g e; omega)
  have hb4 : Below w.heap.size w (w3.setCell ⟨w.heap.size, 2, none⟩ (.slice A' n' c')) := (hb2.trans (hb3.mono (by omega))).setCell (Nat.le_refl _) _
  refine Stop.go (wpList_store_blk (by rfl) (by rfl) 39 _ _ (by rfl) (w.heap.size + 1) _ #[.int .i64 m.fr, .int .i64 m.to, .slice A' n' c'] (by rfl) (by rfl) 39 k1'' (by rfl) (info39 _ rfl) (by simp [Value.oneCell']) ?_)
  intro w5 f5 g5 s5
  clear s5
  go_wp2_with fail
  refine bodyPost_ret (v := .agg #[.int .i64 m.fr, .int .i64 m.to, .slice A' n' c']) (results_cell_row (by rfl) _ _ (w.heap.size + 1) 39 _ (0, 0) _ (by rfl) f5 Try.underlying39 (by rfl) (info39 _ rfl)) rfl ?_
  exact ⟨_, rfl, ⟨A', n', c', rfl, ho'.keep (Turn.of_grown (S := fun b => b = w.heap.size + 1) g5 (fun r e => by injection e with e; exact e.symm)) (fun g e e' => by have := hnew g e; omega), fun g e => by have := hnew g e; omega⟩, below_grown hb4 g5 (Nat.le_refl _) (by omega)⟩
/-- What is written into the net's own block, at its first cell. -/
theorem Blk.first {w : World} {g : Nat} {t : TypeId} {a b c : Value} (h : Blk w g t #[a, b, c]) (u : Value) : Blk (w.setCell ⟨g, 0, none⟩ u) g t #[u, b, c] := h.set_ 0 u
set_option maxHeartbeats 1000000 in
theorem give_any {w : World} {g : Nat} {k : Nat} (hc : w.cell? ⟨g, 0, none⟩ = some (.int .i64 (k : Int))) (hf : w.frozen? ⟨g, 0, none⟩ = false) (hk : k ≤ 1000000000) : Calls Try.prog 46 #[.pointer (some ⟨g, 0, none⟩)] w fun e w' => e = .returned (.int .i64 (k : Int)) ∧ w' = w.setCell ⟨g, 0, none⟩ (.int .i64 ((k + 1 : Nat) : Int)) := by
  go_enter Try.func46, Try.ntmps46
  go_wp2
  go_ret
  exact ⟨ret_i64 (by omega), rfl⟩
set_option maxRecDepth 100000 in
set_option maxHeartbeats 2000000 in
theorem new_yes (r : Nat) (w : World) (h1 : 1 ≤ r) (h2 : r ≤ 4096) : Calls Try.prog 12 #[.int .i64 (r : Int)] w fun e w' => ∃ g S, e = .returned (.tuple #[.pointer (some ⟨g, 0, none⟩), .int .i64 0]) ∧ Nt w' S g ⟨r, [], 0⟩ ∧ (∀ b, S b → w.heap.size ≤ b) ∧ Below w.heap.size w w' := by
  have hmm := @run_makeMap Try.prog
  go_enter Try.func12, Try.ntmps12
  go_wp2_with fail
  go_ret2
  refine ⟨w.heap.size + 1, fun b => b = w.heap.size ∨ b = w.heap.size + 1, rfl, ⟨w.heap.size, ⟨blk_new _ 73 _ (by simp), ?_, ok_new h1 h2, .inr rfl, .inl rfl, by omega, ?_⟩⟩, ?_, ((Below.refl _ _).alloc (Nat.le_refl _) _).alloc (by simp) _⟩
  · exact (NM.made w _).below ((Below.refl _ _).alloc (Nat.le_refl _) _)
  · rintro b (rfl | rfl) <;> simp <;> omega
  · rintro b (rfl | rfl) <;> omega
set_option maxRecDepth 100000 in
set_option maxHeartbeats 2000000 in
theorem new_no (r : Int) (w : World) (h : r < 1 ∨ 4096 < r) : Calls Try.prog 12 #[.int .i64 r] w fun e w' => e = .returned (.tuple #[.pointer none, .int .i64 2]) ∧ w = w' := by
  go_enter Try.func12, Try.ntmps12
  go_wp2_with fail
  all_goals first
    | (go_ret2; exact ⟨rfl, rfl⟩)
    | (exfalso; omega)
set_option maxHeartbeats 1000000 in
theorem came_any {w : World} {S : Nat → Prop} {g m : Nat} {s : St} (h : NtAt w S g s m) : Calls Try.prog 25 #[.pointer (some ⟨g, 0, none⟩)] w fun e w' => e = .returned (.int .i64 (s.came : Int)) ∧ w = w' := by
  obtain ⟨c0, c1, c2⟩ := h.blk.three
  have hm := made_net h
  clear h
  go_enter Try.func25, Try.ntmps25
  go_wp2_with (go_at_call 30; refine hm.mono ?_; rintro e w' ⟨rfl, rfl⟩)
  go_ret
  exact ⟨rfl, rfl⟩
set_option maxHeartbeats 1000000 in
theorem len_any {w : World} {S : Nat → Prop} {g m : Nat} {s : St} (h : NtAt w S g s m) : Calls Try.prog 29 #[.pointer (some ⟨g, 0, none⟩)] w fun e w' => e = .returned (.int .i64 (s.l.length : Int)) ∧ w = w' := by
  obtain ⟨c0, c1, c2⟩ := h.blk.three
  have hl := h.map.len_
  have hm := made_net h
  clear h
  go_enter Try.func29, Try.ntmps29
  go_wp2_with (go_at_call 30; refine hm.mono ?_; rintro e w' ⟨rfl, rfl⟩)
  go_ret
  exact ⟨rfl, rfl⟩
end Go.Proofs.Yticabfmjdjcfnaa
