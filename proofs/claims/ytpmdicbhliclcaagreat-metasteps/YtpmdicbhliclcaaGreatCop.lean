/-
  A view and a writer copied. Conditions: at most 1000000 on a list.
-/
import Derived.Test.YtpmdicbhliclcaaGreatNew
namespace Go.Proofs.YtpmdicbhliclcaaGreat
open Go.RowKit Go.Maps
set_option linter.unusedVariables false
section
variable {w : World} {X : Nat → Prop} {A : Option Addr} {n c : Nat} {I : List Int}
set_option maxRecDepth 100000 in
set_option maxHeartbeats 4000000 in
theorem vcopied_any (h : Rd w X 1 A n (intsOf I)) (hn : n ≤ 1000000) (x0 x1 x2 : Int) : Calls Tryz.prog 49 #[.agg #[.int .i64 x0, .int .i64 x1, .int .i64 x2, .slice A n c]] w fun r w' => ∃ v, r = .returned (.agg #[.int .i64 x0, .int .i64 x1, .int .i64 x2, v]) ∧ OwnK w' 3 1 v (intsOf I) ∧ (∀ b, v.ownBlock = some b → w.heap.size ≤ b) ∧ Below w.heap.size w w' := by
  have hal := ((Below.refl w.heap.size w).alloc (Nat.le_refl _) (.cells #[.int .i64 x0, .int .i64 x1, .int .i64 x2, .slice A n c] 70)).alloc (by simp) (.cells #[.int .i64 0, .int .i64 0, .int .i64 0, .slice none 0 0] 70)
  have hR0 : Blk ((w.alloc (.cells #[.int .i64 x0, .int .i64 x1, .int .i64 x2, .slice A n c] 70)).alloc (.cells #[.int .i64 0, .int .i64 0, .int .i64 0, .slice none 0 0] 70)) w.heap.size 70 #[.int .i64 x0, .int .i64 x1, .int .i64 x2, .slice A n c] := (Blk.new w 70 _).alloc _
  have hZ0 : Blk ((w.alloc (.cells #[.int .i64 x0, .int .i64 x1, .int .i64 x2, .slice A n c] 70)).alloc (.cells #[.int .i64 0, .int .i64 0, .int .i64 0, .slice none 0 0] 70)) (w.heap.size + 1) 70 #[.int .i64 0, .int .i64 0, .int .i64 0, .slice none 0 0] := by
    have := Blk.new (w.alloc (.cells #[.int .i64 x0, .int .i64 x1, .int .i64 x2, .slice A n c] 70)) 70 #[.int .i64 0, .int .i64 0, .int .i64 0, .slice none 0 0]
    rwa [show (w.alloc (.cells #[.int .i64 x0, .int .i64 x1, .int .i64 x2, .slice A n c] 70)).heap.size = w.heap.size + 1 by simp] at this
  have HB0 := Lib.hid hal
  have HR0 := Lib.hid hR0
  have HZ0 := Lib.hid hZ0
  have HH := Lib.hid (h.below hal)
  clear hal hR0 hZ0 h
  go_enter Tryz.func49, Tryz.ntmps49
  go_upto_region 1 with fail
  generalize hw3 : (w.alloc (.cells #[.int .i64 x0, .int .i64 x1, .int .i64 x2, .slice A n c] 70)).alloc (.cells #[.int .i64 0, .int .i64 0, .int .i64 0, .slice none 0 0] 70) = w3 at *
  clear hw3
  have r3 := HR0.out.cell 3
  have hcp := copied_any (c := c) HH.out hn
  have HS3 : Hid (w.heap.size + 1 < w3.heap.size) := Lib.hid HZ0.out.lt
  go_wp2_with fail
  refine hcp.mono ?_
  rintro r w4 ⟨v, rfl, ho, hv, hb⟩
  obtain ⟨Ap, cp, rfl, -⟩ := ints_form ho
  have hB4 := HB0.out.trans (hb.mono (by have := HS3.out; omega))
  have hR4 := HR0.out.below hb HR0.out.lt
  have hZ4 := HZ0.out.below hb HZ0.out.lt
  have f3 := hR4.frozen 3
  have d3 : w4.cell? ⟨w.heap.size, 3, none⟩ = some (.slice A n c) := hR4.cell 3
  have hR5 : Blk (w4.setCell ⟨w.heap.size, 3, none⟩ (.slice Ap I.length cp)) w.heap.size 70 #[.int .i64 x0, .int .i64 x1, .int .i64 x2, .slice Ap I.length cp] := hR4.set_ 3 _
  have hT5 : Turn (fun x => x = w.heap.size) w4 (w4.setCell ⟨w.heap.size, 3, none⟩ (.slice Ap I.length cp)) := (Turn.refl (fun x => x = w.heap.size) w4).setCell (p := ⟨w.heap.size, 3, none⟩) (fun _ => rfl) _
  have HR5 := Lib.hid hR5
  have HZ5 := Lib.hid (hZ4.keep hT5 (by omega))
  have HB5 := Lib.hid (hB4.trans (hT5.below hB4.size (fun x e => by omega)))
  have HO5 := Lib.hid (And.intro (ho.keep hT5 (fun b hb e => by have := hv b hb; have := HS3.out; omega)) hv)
  clear hcp ho hv hb hB4 hR4 hZ4 hR5 hT5 r3
  go_upto_region 2 with fail
  generalize w4.setCell ⟨w.heap.size, 3, none⟩ (.slice Ap I.length cp) = w5 at *
  clear f3 d3
  go_wp2_with (with_reducible refine at_load 70 rfl ?_)
  refine Stop.go (wpList_load_blk (by rfl) 70 _ (by rfl) w.heap.size (by rfl) 70 _ HR5.out _ und70 (by rfl) (by kernel_rfl) ?_)
  go_wp2_with (with_reducible refine at_store 70 rfl ?_)
  refine Stop.go (wpList_store_blk (by rfl) (by rfl) 70 _ _ (by rfl) (w.heap.size + 1) _ #[.int .i64 x0, .int .i64 x1, .int .i64 x2, .slice Ap I.length cp] (by rfl) (by rfl) 70 HZ5.out (by rfl) (by kernel_rfl) (by simp [Value.oneCell']) ?_)
  intro w7 hB7 hg7 hs7
  have hT7 : Turn (fun x => x = w.heap.size + 1) w5 w7 := Turn.of_grown hg7 (fun r e => by injection e with e; exact e.symm)
  have HF : Hid (Blk w7 (w.heap.size + 1) 70 #[.int .i64 x0, .int .i64 x1, .int .i64 x2, .slice Ap I.length cp] ∧ OwnK w7 3 1 (.slice Ap I.length cp) (intsOf I) ∧ Below w.heap.size w w7) := Lib.hid ⟨hB7, HO5.out.1.keep hT7 (fun b hb e => by have := HO5.out.2 b hb; have := HS3.out; omega), HB5.out.trans (hT7.below HB5.out.size (fun x e => by omega))⟩
  clear hB7 hg7 hs7 hT7
  go_wp2_with fail
  refine bodyPost_ret (v := .agg #[.int .i64 x0, .int .i64 x1, .int .i64 x2, .slice Ap I.length cp]) (results_cell (by rfl) _ _ (w.heap.size + 1) 70 _ (0, 0) _ (by rfl) HF.out.1 und70 (by rfl) (by kernel_rfl)) rfl ?_
  exact ⟨_, rfl, HF.out.2.1, fun b hb => by have := HO5.out.2 b hb; have := HS3.out; omega, HF.out.2.2⟩
set_option maxRecDepth 100000 in
set_option maxHeartbeats 4000000 in
theorem wcopied_any (h : Rd w X 1 A n (intsOf I)) (hn : n ≤ 1000000) (x0 x1 x2 x4 x5 : Int) : Calls Tryz.prog 50 #[.agg #[.int .i64 x0, .int .i64 x1, .int .i64 x2, .slice A n c, .int .i64 x4, .int .i64 x5]] w fun r w' => ∃ v, r = .returned (.agg #[.int .i64 x0, .int .i64 x1, .int .i64 x2, v, .int .i64 x4, .int .i64 x5]) ∧ OwnK w' 3 1 v (intsOf I) ∧ (∀ b, v.ownBlock = some b → w.heap.size ≤ b) ∧ Below w.heap.size w w' := by
  have hal := ((Below.refl w.heap.size w).alloc (Nat.le_refl _) (.cells #[.int .i64 x0, .int .i64 x1, .int .i64 x2, .slice A n c, .int .i64 x4, .int .i64 x5] 72)).alloc (by simp) (.cells #[.int .i64 0, .int .i64 0, .int .i64 0, .slice none 0 0, .int .i64 0, .int .i64 0] 72)
  have hR0 : Blk ((w.alloc (.cells #[.int .i64 x0, .int .i64 x1, .int .i64 x2, .slice A n c, .int .i64 x4, .int .i64 x5] 72)).alloc (.cells #[.int .i64 0, .int .i64 0, .int .i64 0, .slice none 0 0, .int .i64 0, .int .i64 0] 72)) w.heap.size 72 #[.int .i64 x0, .int .i64 x1, .int .i64 x2, .slice A n c, .int .i64 x4, .int .i64 x5] := (Blk.new w 72 _).alloc _
  have hZ0 : Blk ((w.alloc (.cells #[.int .i64 x0, .int .i64 x1, .int .i64 x2, .slice A n c, .int .i64 x4, .int .i64 x5] 72)).alloc (.cells #[.int .i64 0, .int .i64 0, .int .i64 0, .slice none 0 0, .int .i64 0, .int .i64 0] 72)) (w.heap.size + 1) 72 #[.int .i64 0, .int .i64 0, .int .i64 0, .slice none 0 0, .int .i64 0, .int .i64 0] := by
    have := Blk.new (w.alloc (.cells #[.int .i64 x0, .int .i64 x1, .int .i64 x2, .slice A n c, .int .i64 x4, .int .i64 x5] 72)) 72 #[.int .i64 0, .int .i64 0, .int .i64 0, .slice none 0 0, .int .i64 0, .int .i64 0]
    rwa [show (w.alloc (.cells #[.int .i64 x0, .int .i64 x1, .int .i64 x2, .slice A n c, .int .i64 x4, .int .i64 x5] 72)).heap.size = w.heap.size + 1 by simp] at this
  have HB0 := Lib.hid hal
  have HR0 := Lib.hid hR0
  have HZ0 := Lib.hid hZ0
  have HH := Lib.hid (h.below hal)
  clear hal hR0 hZ0 h
  go_enter Tryz.func50, Tryz.ntmps50
  go_upto_region 1 with fail
  generalize hw3 : (w.alloc (.cells #[.int .i64 x0, .int .i64 x1, .int .i64 x2, .slice A n c, .int .i64 x4, .int .i64 x5] 72)).alloc (.cells #[.int .i64 0, .int .i64 0, .int .i64 0, .slice none 0 0, .int .i64 0, .int .i64 0] 72) = w3 at *
  clear hw3
  have r3 := HR0.out.cell 3
  have hcp := copied_any (c := c) HH.out hn
  have HS3 : Hid (w.heap.size + 1 < w3.heap.size) := Lib.hid HZ0.out.lt
  go_wp2_with fail
  refine hcp.mono ?_
  rintro r w4 ⟨v, rfl, ho, hv, hb⟩
  obtain ⟨Ap, cp, rfl, -⟩ := ints_form ho
  have hB4 := HB0.out.trans (hb.mono (by have := HS3.out; omega))
  have hR4 := HR0.out.below hb HR0.out.lt
  have hZ4 := HZ0.out.below hb HZ0.out.lt
  have f3 := hR4.frozen 3
  have d3 : w4.cell? ⟨w.heap.size, 3, none⟩ = some (.slice A n c) := hR4.cell 3
  have hR5 : Blk (w4.setCell ⟨w.heap.size, 3, none⟩ (.slice Ap I.length cp)) w.heap.size 72 #[.int .i64 x0, .int .i64 x1, .int .i64 x2, .slice Ap I.length cp, .int .i64 x4, .int .i64 x5] := hR4.set_ 3 _
  have hT5 : Turn (fun x => x = w.heap.size) w4 (w4.setCell ⟨w.heap.size, 3, none⟩ (.slice Ap I.length cp)) := (Turn.refl (fun x => x = w.heap.size) w4).setCell (p := ⟨w.heap.size, 3, none⟩) (fun _ => rfl) _
  have HR5 := Lib.hid hR5
  have HZ5 := Lib.hid (hZ4.keep hT5 (by omega))
  have HB5 := Lib.hid (hB4.trans (hT5.below hB4.size (fun x e => by omega)))
  have HO5 := Lib.hid (And.intro (ho.keep hT5 (fun b hb e => by have := hv b hb; have := HS3.out; omega)) hv)
  clear hcp ho hv hb hB4 hR4 hZ4 hR5 hT5 r3
  go_upto_region 2 with fail
  generalize w4.setCell ⟨w.heap.size, 3, none⟩ (.slice Ap I.length cp) = w5 at *
  clear f3 d3
  go_wp2_with (with_reducible refine at_load 72 rfl ?_)
  refine Stop.go (wpList_load_blk (by rfl) 72 _ (by rfl) w.heap.size (by rfl) 72 _ HR5.out _ und72 (by rfl) (by kernel_rfl) ?_)
  go_wp2_with (with_reducible refine at_store 72 rfl ?_)
  refine Stop.go (wpList_store_blk (by rfl) (by rfl) 72 _ _ (by rfl) (w.heap.size + 1) _ #[.int .i64 x0, .int .i64 x1, .int .i64 x2, .slice Ap I.length cp, .int .i64 x4, .int .i64 x5] (by rfl) (by rfl) 72 HZ5.out (by rfl) (by kernel_rfl) (by simp [Value.oneCell']) ?_)
  intro w7 hB7 hg7 hs7
  have hT7 : Turn (fun x => x = w.heap.size + 1) w5 w7 := Turn.of_grown hg7 (fun r e => by injection e with e; exact e.symm)
  have HF : Hid (Blk w7 (w.heap.size + 1) 72 #[.int .i64 x0, .int .i64 x1, .int .i64 x2, .slice Ap I.length cp, .int .i64 x4, .int .i64 x5] ∧ OwnK w7 3 1 (.slice Ap I.length cp) (intsOf I) ∧ Below w.heap.size w w7) := Lib.hid ⟨hB7, HO5.out.1.keep hT7 (fun b hb e => by have := HO5.out.2 b hb; have := HS3.out; omega), HB5.out.trans (hT7.below HB5.out.size (fun x e => by omega))⟩
  clear hB7 hg7 hs7 hT7
  go_wp2_with fail
  refine bodyPost_ret (v := .agg #[.int .i64 x0, .int .i64 x1, .int .i64 x2, .slice Ap I.length cp, .int .i64 x4, .int .i64 x5]) (results_cell (by rfl) _ _ (w.heap.size + 1) 72 _ (0, 0) _ (by rfl) HF.out.1 und72 (by rfl) (by kernel_rfl)) rfl ?_
  exact ⟨_, rfl, HF.out.2.1, fun b hb => by have := HO5.out.2 b hb; have := HS3.out; omega, HF.out.2.2⟩
end
end Go.Proofs.YtpmdicbhliclcaaGreat
