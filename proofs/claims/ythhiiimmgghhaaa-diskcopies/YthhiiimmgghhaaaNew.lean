/-
  disk.New: a disk without files, or why there is none. Nothing is assumed.
-/
import Derived.Test.YthhiiimmgghhaaaStore
namespace Go.Proofs.Ythhiiimmgghhaaa
open Go.RowKit
set_option maxRecDepth 100000 in
set_option maxHeartbeats 2000000 in
theorem noFiles_any (w : World) : Calls Try.prog 40 #[] w fun e w' => ∃ m, e = .returned (.agg #[.map (some m), .int .i64 0]) ∧ w.heap.size ≤ m ∧ FM w' (fun b => b = m) m [] ∧ Below w.heap.size w w' := by
  have hmm := @run_makeMap Try.prog
  go_enter Try.func40, Try.ntmps40
  go_wp2_with (with_reducible refine at_store 78 rfl ?_)
  have b0 : Blk ((w.alloc (.cells #[.map none, .int .i64 0] 78)).alloc (.map #[] 0)) w.heap.size 78 #[.map none, .int .i64 0] := (Blk.new w 78 _).alloc _
  have hf : FM ((w.alloc (.cells #[.map none, .int .i64 0] 78)).alloc (.map #[] 0)) (fun b => b = w.heap.size + 1) (w.heap.size + 1) [] := by have := FM.made (w.alloc (.cells #[.map none, .int .i64 0] 78)); simpa using this
  have hb : Below w.heap.size w ((w.alloc (.cells #[.map none, .int .i64 0] 78)).alloc (.map #[] 0)) := ((Below.refl _ _).alloc (Nat.le_refl _) _).alloc (by simp) _
  have hsz : (w.alloc (.cells #[.map none, .int .i64 0] 78)).heap.size = w.heap.size + 1 := by simp
  generalize (w.alloc (.cells #[.map none, .int .i64 0] 78)).alloc (.map #[] 0) = w2 at *
  refine Stop.go (wpList_store_blk (by rfl) (by rfl) 78 _ _ (by rfl) w.heap.size _ #[.map (some (w.heap.size + 1)), .int .i64 0] (by rfl) (by simp [go_sem]) 78 b0 (by rfl) (by kernel_rfl) (by simp [Value.oneCell']) ?_)
  intro w3 f3 g3 s3
  have HS3 := Lib.hid s3
  clear s3 hsz
  go_wp2_with fail
  refine bodyPost_ret (v := .agg #[.map (some (w.heap.size + 1)), .int .i64 0]) (results_cell_row (by rfl) _ _ w.heap.size 78 _ (0, 0) _ (by rfl) f3 Try.underlying78 (by rfl) (by kernel_rfl)) rfl ?_
  refine ⟨w.heap.size + 1, rfl, by omega, hf.keep (T := fun b => b = w.heap.size) (Turn.of_grown g3 (fun r e => by injection e with e; exact e.symm)) (fun b hb => by omega), below_grown hb g3 (Nat.le_refl _) (Nat.le_refl _)⟩
set_option maxRecDepth 100000 in
set_option maxHeartbeats 2000000 in
theorem new_yes (r : Nat) (w : World) (h1 : 1 ≤ r) (h2 : r ≤ 16777216) : Calls Try.prog 12 #[.int .i64 (r : Int)] w fun e w' => ∃ g S, e = .returned (.tuple #[.pointer (some ⟨g, 0, none⟩), .int .i64 0]) ∧ Dk w' S S g ⟨r, [], []⟩ ∧ (∀ b, S b → w.heap.size ≤ b) ∧ Below w.heap.size w w' := by
  go_enter Try.func12, Try.ntmps12
  go_wp2_with fail
  refine (noFiles_any _).mono ?_
  rintro e w1 ⟨m1, rfl, hm1, hF1, hb1⟩
  go_wp2_with fail
  refine (noFiles_any _).mono ?_
  rintro e w2 ⟨m2, rfl, hm2, hF2, hb2⟩
  go_wp2_with fail
  have hz1 := hb1.size
  have hz2 := hb2.size
  have hlt1 := hF1.lt (b := m1) rfl
  have hlt2 := hF2.lt (b := m2) rfl
  go_ret2
  refine ⟨w2.heap.size, fun b => b = w2.heap.size ∨ b = m1 ∨ b = m2, rfl, ⟨m1, m2, fun b => b = m1, fun b => b = m2, .slice none 0 0, ?_⟩, ?_, (hb1.trans (hb2.mono hz1)).alloc (by omega) _⟩
  · refine { blk := Blk.new _ _ _, f1 := (hF1.below hb2).keep (T := No) ((Turn.refl No _).alloc _) (fun _ _ h => h), f2 := hF2.keep (T := No) ((Turn.refl No _).alloc _) (fun _ _ h => h), ts := OwnT.nil _ _, ok := ⟨h1, h2, List.Pairwise.nil, by show (0 : Nat) ≤ r; omega⟩, g_in := .inl rfl, s1_in := fun b e => .inr (.inl e), s2_in := fun b e => .inr (.inr e), wv_in := fun r e => (by cases e), g1 := fun e => (by omega), g2 := fun e => (by omega), apart := fun b e e' => (by omega), wvn := fun r e => (by cases e), inX := fun b e => e, lt := ?_ }
    rintro b (rfl | rfl | rfl)
    · simp
    · simp; omega
    · simp; omega
  · rintro b (rfl | rfl | rfl) <;> omega
set_option maxRecDepth 100000 in
set_option maxHeartbeats 2000000 in
theorem new_no (r : Int) (w : World) (h : r < 1 ∨ 16777216 < r) : Calls Try.prog 12 #[.int .i64 r] w fun e w' => e = .returned (.tuple #[.pointer none, .int .i64 2]) ∧ w = w' := by
  go_enter Try.func12, Try.ntmps12
  go_wp2_with fail
  all_goals first
    | (go_ret2; exact ⟨rfl, rfl⟩)
    | (exfalso; omega)
end Go.Proofs.Ythhiiimmgghhaaa
