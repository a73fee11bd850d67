/-
  disk.thing.tears, torn: whether a pick leaves some of a thing's bytes, and the thing that puts these. Condition: bytes within bounds.
-/
import Derived.Test.YthhiiimmgghhaaaActs
import Derived.Test.YthhiiimmgghhaaaCopied
namespace Go.Proofs.Ythhiiimmgghhaaa
open Go.RowKit
theorem Blk.five5 {w : World} {g : Nat} {t : TypeId} {a b c d e : Value} (h : Blk w g t #[a, b, c, d, e]) : w.cell? ⟨g, 0, none⟩ = some a ∧ w.cell? ⟨g, 1, none⟩ = some b ∧ w.cell? ⟨g, 2, none⟩ = some c ∧ w.cell? ⟨g, 3, none⟩ = some d ∧ w.cell? ⟨g, 4, none⟩ = some e :=
  ⟨h.cell 0, h.cell 1, h.cell 2, h.cell 3, h.cell 4⟩
set_option maxRecDepth 100000 in
set_option maxHeartbeats 2000000 in
theorem tears_any (t : Th) (p q : Nat) (k : Int) (w : World) (hb : t.bytes.length ≤ 1000000000) : Calls Try.prog 46 #[.agg (t.cells p q), .int .i64 k] w fun e w' => e = .returned (.bool (decide (0 < pick k t.bytes.length))) ∧ Below w.heap.size w w' := by
  rw [Th.cells_eq]
  have hs := str_size t.bytes
  go_enter Try.func46, Try.ntmps46
  go_wp2_with fail
  have hb1 : Below w.heap.size w (w.alloc (.cells #[.int .i64 t.deed, .string (str t.name), .string (str t.bytes), .int .i64 t.num, .func (.func t.fn) #[] (t.lb p q)] 92)) := (Below.refl _ _).alloc (Nat.le_refl _) _
  generalize w.alloc (.cells #[.int .i64 t.deed, .string (str t.name), .string (str t.bytes), .int .i64 t.num, .func (.func t.fn) #[] (t.lb p q)] 92) = w1 at *
  refine (picked_any k t.bytes.length w1 hb).mono ?_
  rintro e w' ⟨rfl, rfl⟩
  go_wp2_with fail
  go_ret
  exact ⟨rfl, hb1⟩
section
variable {ops : Array Oper} {o : Oper} {a : Act} {w : World} {K : Act → World → Prop} {Q : Exit → Act → World → Prop} {E : Prop}
/-- A struct is stored into a block that is known whole, as a step of a region that draws. -/
theorem step_store_blk (hw : Region.wanted o (yielded ops a.tmps) = true) (hd : o.dst = none) (ty : TypeId) (x y : Operand) (ho : o.op = .store ty x y) (g : Nat) (cs new : Array Value) (hx : a.eval x = .pointer (some ⟨g, 0, none⟩)) (hy : a.eval y = .agg new)
    (t : TypeId) (hb : Blk w g t cs) (hn : cs.size = new.size) (hi : (Try.prog.info? ty).map (·.size) = some new.size) (h1 : new.all (·.oneCell') = true)
    (h : ∀ w', Blk w' g t new → w.grownBy w' (some g) → w'.heap.size = w.heap.size → K a w') : if Region.wanted o (yielded ops a.tmps) = true then Oper.wp Try.prog o a w K Q else E := by
  rw [if_pos hw]
  refine wp_store_mid ty x y ho g 0 new hx hy (by have := hb.there; rwa [hn] at this) hi h1 ?_
  rw [hd]
  exact h _ (hb.cells_to hn) (setCells_grown g 0 _ w) (setCells_size g _ 0 w)
end
theorem slice_str (b : Bs) (n : Nat) (hn : n ≤ b.length) (w : World) : (Instr.slice 9 (.string (str b)) none (some (.int .i64 (n : Int))) none).run Try.prog w = .ok (.string (str (b.take n))) w := by
  rw [run_slice_string_h w 9 (str b) Try.underlying9 .i64 (n : Int) (by omega) (by rw [str_size]; omega)]
  congr 2
  apply ByteArray.ext
  simp [str]
set_option maxRecDepth 100000 in
set_option maxHeartbeats 2000000 in
theorem torn_any (t : Th) (p q : Nat) (k : Int) (w : World) (hb : t.bytes.length ≤ 1000000000) (hn : t.name.length ≤ 1000000000) : Calls Try.prog 47 #[.agg (t.cells p q), .int .i64 k] w (NewTh w (.put t.name (t.bytes.take (pick k t.bytes.length)))) := by
  rw [Th.cells_eq]
  have hs := str_size t.bytes
  have hsl := slice_str t.bytes (pick k t.bytes.length) (pick_le _ _)
  go_enter Try.func47, Try.ntmps47
  go_wp2_with fail
  have hb1 : Below w.heap.size w ((w.alloc (.cells #[.int .i64 t.deed, .string (str t.name), .string (str t.bytes), .int .i64 t.num, .func (.func t.fn) #[] (t.lb p q)] 92)).alloc (.cells #[.int .i64 0, .string ⟨#[]⟩, .string ⟨#[]⟩, .int .i64 0, .nilFunc] 92)) := ((Below.refl _ _).alloc (Nat.le_refl _) _).alloc (by simp) _
  have k1 : Blk ((w.alloc (.cells #[.int .i64 t.deed, .string (str t.name), .string (str t.bytes), .int .i64 t.num, .func (.func t.fn) #[] (t.lb p q)] 92)).alloc (.cells #[.int .i64 0, .string ⟨#[]⟩, .string ⟨#[]⟩, .int .i64 0, .nilFunc] 92)) w.heap.size 92 #[.int .i64 t.deed, .string (str t.name), .string (str t.bytes), .int .i64 t.num, .func (.func t.fn) #[] (t.lb p q)] := (Blk.new _ _ _).alloc _
  have k2 : Blk ((w.alloc (.cells #[.int .i64 t.deed, .string (str t.name), .string (str t.bytes), .int .i64 t.num, .func (.func t.fn) #[] (t.lb p q)] 92)).alloc (.cells #[.int .i64 0, .string ⟨#[]⟩, .string ⟨#[]⟩, .int .i64 0, .nilFunc] 92)) (w.heap.size + 1) 92 #[.int .i64 0, .string ⟨#[]⟩, .string ⟨#[]⟩, .int .i64 0, .nilFunc] := blk_new _ 92 _ (by simp)
  have HZ : Hid (((w.alloc (.cells #[.int .i64 t.deed, .string (str t.name), .string (str t.bytes), .int .i64 t.num, .func (.func t.fn) #[] (t.lb p q)] 92)).alloc (.cells #[.int .i64 0, .string ⟨#[]⟩, .string ⟨#[]⟩, .int .i64 0, .nilFunc] 92)).heap.size = w.heap.size + 2) := Lib.hid (by simp)
  generalize (w.alloc (.cells #[.int .i64 t.deed, .string (str t.name), .string (str t.bytes), .int .i64 t.num, .func (.func t.fn) #[] (t.lb p q)] 92)).alloc (.cells #[.int .i64 0, .string ⟨#[]⟩, .string ⟨#[]⟩, .int .i64 0, .nilFunc] 92) = w1 at *
  refine wp_region_by (fun a' w' => ∃ p1 q1, a'.tmps.getD 4 undef = .pointer (some ⟨w.heap.size + 1, 0, none⟩) ∧ a'.defers = [] ∧ Blk w' (w.heap.size + 1) 92 (Th.cells (.put t.name (t.bytes.take (pick k t.bytes.length))) p1 q1) ∧ w.heap.size ≤ p1 ∧ w.heap.size ≤ q1 ∧ ThAt w' No (.put t.name (t.bytes.take (pick k t.bytes.length))) (Th.cells (.put t.name (t.bytes.take (pick k t.bytes.length))) p1 q1) ∧ Below w.heap.size w w') ?reg ?rest
  case reg =>
    refine wp_region_np ?_
    refine wp_region_held_drew (S := fun W => Blk W w.heap.size 92 #[.int .i64 t.deed, .string (str t.name), .string (str t.bytes), .int .i64 t.num, .func (.func t.fn) #[] (t.lb p q)]) (by kernel_rfl) k1 (fun hHeld => ?_)
    refine wpAnyH_takeAt (i := 0) (d := 5) (v := ?vt0) rfl rfl (by kernel_rfl) (by kernel_rfl) (by kernel_rfl) (fun _ _ _ h => h) (Or.inl ⟨by rfl, ?hyt0⟩) hHeld ?_
    case hyt0 =>
      intro W hSw
      clear hSw
      (go_simp; try with_reducible rfl)
    simp only [List.setIfInBounds_toArray, List.set_cons_zero, List.set_cons_succ]
    refine wpAnyH_takeAt (i := 1) (d := 6) (v := ?vt1) rfl rfl (by kernel_rfl) (by kernel_rfl) (by kernel_rfl) (fun _ _ _ h => h) (Or.inl ⟨by rfl, ?hyt1⟩) hHeld ?_
    case hyt1 =>
      intro W hSw
      clear hSw
      (go_simp; try with_reducible rfl)
    simp only [List.setIfInBounds_toArray, List.set_cons_zero, List.set_cons_succ]
    refine wpAnyH_takeAt (i := 2) (d := 7) (v := ?vt2) rfl rfl (by kernel_rfl) (by kernel_rfl) (by kernel_rfl) (fun _ _ _ h => h) (Or.inl ⟨by rfl, ?hyt2⟩) hHeld ?_
    case hyt2 =>
      intro W hSw
      obtain ⟨s0, s1, s2, s3, s4⟩ := Blk.five5 (show Blk W w.heap.size 92 #[.int .i64 t.deed, .string (str t.name), .string (str t.bytes), .int .i64 t.num, .func (.func t.fn) #[] (t.lb p q)] from hSw)
      (go_simp; try with_reducible rfl)
    simp only [List.setIfInBounds_toArray, List.set_cons_zero, List.set_cons_succ]
    refine wpAnyH_takeAt (i := 3) (d := 8) (v := ?vt3) rfl rfl (by kernel_rfl) (by kernel_rfl) (by kernel_rfl) (fun _ _ _ h => h) (Or.inl ⟨by rfl, ?hyt3⟩) hHeld ?_
    case hyt3 =>
      intro W hSw
      clear hSw
      (go_simp; try with_reducible rfl)
    simp only [List.setIfInBounds_toArray, List.set_cons_zero, List.set_cons_succ]
    refine wpAnyH_takeAt (i := 4) (d := 9) (v := ?vt4) rfl rfl (by kernel_rfl) (by kernel_rfl) (by kernel_rfl) (fun _ _ _ h => h) (Or.inl ⟨by rfl, ?hyt4⟩) hHeld ?_
    case hyt4 =>
      intro W hSw
      clear hSw
      (go_simp; try with_reducible rfl)
    simp only [List.setIfInBounds_toArray, List.set_cons_zero, List.set_cons_succ]
    refine wpAnyH_takeAt (i := 5) (d := 10) (v := ?vt5) rfl rfl (by kernel_rfl) (by kernel_rfl) (by kernel_rfl) (fun _ _ _ h => h) (Or.inl ⟨by rfl, ?hyt5⟩) hHeld ?_
    case hyt5 =>
      intro W hSw
      obtain ⟨s0, s1, s2, s3, s4⟩ := Blk.five5 (show Blk W w.heap.size 92 #[.int .i64 t.deed, .string (str t.name), .string (str t.bytes), .int .i64 t.num, .func (.func t.fn) #[] (t.lb p q)] from hSw)
      (go_simp; try with_reducible rfl)
    simp only [List.setIfInBounds_toArray, List.set_cons_zero, List.set_cons_succ]
    refine wpAnyH_takeAt (i := 6) (d := 11) (v := ?vt6) rfl rfl (by kernel_rfl) (by kernel_rfl) (by kernel_rfl) (fun _ _ _ h => h) (Or.inl ⟨by rfl, ?hyt6⟩) hHeld ?_
    case hyt6 =>
      intro W hSw
      clear hSw
      (go_simp; try with_reducible rfl)
    simp only [List.setIfInBounds_toArray, List.set_cons_zero, List.set_cons_succ]
    refine wpAnyH_takeAt (i := 7) (d := 12) (v := ?vt7) rfl rfl (by kernel_rfl) (by kernel_rfl) (by kernel_rfl) (fun _ _ _ h => h) (Or.inl ⟨by rfl, ?hyt7⟩) hHeld ?_
    case hyt7 =>
      intro W hSw
      clear hSw
      (go_simp; try with_reducible rfl)
    simp only [List.setIfInBounds_toArray, List.set_cons_zero, List.set_cons_succ]
    refine wpAnyH_takeAt (i := 8) (d := 13) (v := ?vt8) rfl rfl (by kernel_rfl) (by kernel_rfl) (by kernel_rfl) (fun _ _ _ h => h) (Or.inl ⟨by rfl, ?hyt8⟩) hHeld ?_
    case hyt8 =>
      intro W hSw
      clear hSw
      (go_simp; try with_reducible rfl)
    simp only [List.setIfInBounds_toArray, List.set_cons_zero, List.set_cons_succ]
    refine wpAnyH_takeAt (i := 9) (d := 14) (v := ?vt9) rfl rfl (by kernel_rfl) (by kernel_rfl) (by kernel_rfl) (fun _ _ _ h => h) (Or.inl ⟨by rfl, ?hyt9⟩) hHeld ?_
    case hyt9 =>
      intro W hSw
      obtain ⟨s0, s1, s2, s3, s4⟩ := Blk.five5 (show Blk W w.heap.size 92 #[.int .i64 t.deed, .string (str t.name), .string (str t.bytes), .int .i64 t.num, .func (.func t.fn) #[] (t.lb p q)] from hSw)
      (go_simp; try with_reducible rfl)
    simp only [List.setIfInBounds_toArray, List.set_cons_zero, List.set_cons_succ]
    refine wpAnyH_takeAt (i := 10) (d := 15) (v := ?vt10) rfl rfl (by kernel_rfl) (by kernel_rfl) (by kernel_rfl) (fun _ _ _ h => h) (Or.inl ⟨by rfl, ?hyt10⟩) hHeld ?_
    case hyt10 =>
      intro W hSw
      clear hSw
      (go_simp; try with_reducible rfl)
    simp only [List.setIfInBounds_toArray, List.set_cons_zero, List.set_cons_succ]
    refine wpAnyH_ready (rs := [11]) (by kernel_rfl) (by simp) (AllReadyH.cons rfl (fun K hK => ?_) AllReadyH.nil)
    go_simp
    refine (picked_any k t.bytes.length w1.drew hb).mono ?_
    rintro e w' ⟨rfl, rfl⟩
    dsimp only
    refine hK.out _ _ hHeld (fun hHeld => ?_)
    clear hK K
    try simp only [List.setIfInBounds_toArray, List.set_cons_zero, List.set_cons_succ]
    refine wpAnyH_takeAt (i := 12) (d := 17) (v := ?vt12) rfl rfl (by kernel_rfl) (by kernel_rfl) (by kernel_rfl) (fun _ _ _ h => h) (Or.inl ⟨by rfl, ?hyt12⟩) hHeld ?_
    case hyt12 =>
      intro W hSw
      clear hSw
      (go_simp; try with_reducible rfl)
    simp only [List.setIfInBounds_toArray, List.set_cons_zero, List.set_cons_succ]
    refine wpAnyH_ready (rs := [13]) (by kernel_rfl) (by simp) (AllReadyH.cons rfl (fun K hK => ?_) AllReadyH.nil)
    go_simp
    refine (putting_any t.name (t.bytes.take (pick k t.bytes.length)) w1.drew hn).mono ?_
    rintro e w2 ⟨p1, q1, rfl, hp1, hq1, ht1, hb2⟩
    have hb2' : Below w1.heap.size w1 w2 := ⟨hb2.os, hb2.tape, hb2.output, hb2.size, hb2.block⟩
    dsimp only
    refine hK.out _ _ (k1.below hb2' k1.lt) (fun hHeld => ?_)
    clear hK K
    try simp only [List.setIfInBounds_toArray, List.set_cons_zero, List.set_cons_succ]
    refine wpAnyH_ready (rs := [14]) (by kernel_rfl) (by simp) (AllReadyH.cons rfl (fun K hK => ?_) AllReadyH.nil)
    refine step_store_blk (by rfl) (by rfl) 92 _ _ (by rfl) (w.heap.size + 1) _ (Th.cells (.put t.name (t.bytes.take (pick k t.bytes.length))) p1 q1) (by rfl) (by rfl) 92 (k2.below hb2' k2.lt) (by rfl) (by kernel_rfl) (Th.cells_all _ _ _) ?_
    intro w3 f3 g3 s3
    have hp1' : w1.heap.size ≤ p1 := hp1
    have hq1' : w1.heap.size ≤ q1 := hq1
    have hz := HZ.out
    have k12 := (k1.below hb2' k1.lt).grown g3 (by omega)
    refine hK.out _ _ k12 (fun hHeld => ?_)
    clear hK K
    refine wpAnyH_done (by kernel_rfl) ?_ _
    refine ⟨rfl, p1, q1, rfl, rfl, f3, by omega, by omega, ?_, below_grown (hb1.trans (hb2'.mono hb1.size)) g3 (Nat.le_refl _) (by omega)⟩
    exact (ht1.fit (X' := fun b => b = w.heap.size + 1) (B := w1.heap.size) hp1' hq1' (fun b e => by omega)).keep (Turn.of_grown g3 (fun r e => by injection e with e; exact e.symm)) (fun b _ e => e) |>.wide (fun _ _ e => e.elim)
  case rest =>
    rintro a' w' ⟨p1, q1, e4, ed, f3, hp1, hq1, ht1, hb2⟩
    obtain ⟨tm, df⟩ := a'
    dsimp only at e4 ed
    subst ed
    go_wp2_with fail
    refine bodyPost_ret (v := .agg (Th.cells (.put t.name (t.bytes.take (pick k t.bytes.length))) p1 q1)) (results_cell_row (by rfl) _ _ (w.heap.size + 1) 92 _ (0, 0) _ e4 f3 Try.underlying92 (by rfl) (by kernel_rfl)) rfl ?_
    exact ⟨p1, q1, rfl, hp1, hq1, ht1, hb2⟩
end Go.Proofs.Ythhiiimmgghhaaa
