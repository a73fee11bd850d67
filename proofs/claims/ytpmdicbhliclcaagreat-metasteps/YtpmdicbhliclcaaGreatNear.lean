/-
  An act whose numbers are told from those that count. Conditions: a controller as it is between two calls.
-/
import Derived.Test.YtpmdicbhliclcaaGreatRef15
namespace Go.Proofs.YtpmdicbhliclcaaGreat
open Go.RowKit Go.Maps
set_option linter.unusedVariables false
set_option linter.unusedSimpArgs false
structure Ac where
  kind : Int
  a : Int
  b : Int
  n : Int
  o : Int
  flag : Bool
  near : Bool
def aArr (x : Ac) (s : Value) : Array Value := #[.int .i64 x.kind, .int .i64 x.a, .int .i64 x.b, .int .i64 x.n, .int .i64 x.o, .bool x.flag, .bool x.near, s]
theorem wr_eq (z : Int) : wrap64 z = IntKind.i64.wrap z := by rw [IntKind.wrap_i64]; first | rfl | (unfold wrap64; rfl) | (simp [wrap64]; done)
/-- The act that is meant. -/
def Mt.near (M : Mt) (x : Ac) : Ac :=
  if x.near = false ∨ x.n < -5 ∨ 5 < x.n ∨ x.o < -5 ∨ 5 < x.o then x
  else if x.kind = 4 ∧ 0 ≤ x.a ∧ x.a < (M.np : Int) then { x with n := wrap64 (x.n + (M.views x.a.toNat).epoch), o := wrap64 (x.o + (M.views x.a.toNat).version) }
  else if 6 ≤ x.kind ∧ 0 ≤ x.a ∧ x.a < (M.ni : Int) then (if x.kind = 8 then { x with n := wrap64 (x.n + (M.wrs x.a.toNat).num), o := wrap64 (x.o + (M.wrs x.a.toNat).offset) } else { x with n := wrap64 (x.n + (M.wrs x.a.toNat).session), o := wrap64 (x.o + (M.wrs x.a.toNat).offset) })
  else x
theorem und43 : Tryz.prog.underlying 43 = some (.struct (Tryz.prog.fieldsOf 43)) := by kernel_rfl
/-- The blocks of near. -/
structure NrI (w W : World) (m : Array Value) (a z : Array Value) : Prop where
  low : Below w.heap.size w W
  ax : Blk W w.heap.size 43 a
  bx : Blk W (w.heap.size + 1) 36 m
  rx : Blk W (w.heap.size + 2) 43 z
theorem NrI.below {w W W1 : World} {m a z : Array Value} (h : NrI w W m a z) (hb : Below W.heap.size W W1) : NrI w W1 m a z := ⟨h.low.trans (hb.mono h.low.size), h.ax.below hb h.ax.lt, h.bx.below hb h.bx.lt, h.rx.below hb h.rx.lt⟩
theorem NrI.set {w W : World} {m a z : Array Value} (h : NrI w W m a z) (j : Nat) (u : Value) : NrI w (W.setCell ⟨w.heap.size, j, none⟩ u) m (a.setIfInBounds j u) z := by
  have ht : Turn (fun y => y = w.heap.size) W (W.setCell ⟨w.heap.size, j, none⟩ u) := (Turn.refl (fun y => y = w.heap.size) W).setCell (p := ⟨w.heap.size, j, none⟩) (fun _ => rfl) _
  exact ⟨h.low.trans (ht.below h.low.size (fun y e => by omega)), h.ax.set_ j u, h.bx.keep ht (by omega), h.rx.keep ht (by omega)⟩
section
variable {w : World} {X : Nat → Prop} {M : Mt} {v : Value}
set_option maxRecDepth 100000 in
set_option maxHeartbeats 8000000 in
theorem near39_any (h : Rf w X M v) (x : Ac) (L : Option Addr) (ll lk : Nat) : Calls Tryz.prog 39 #[.agg (aArr x (.slice L ll lk)), v] w fun r w' => r = .returned (.agg (aArr (M.near x) (.slice L ll lk))) ∧ Below w.heap.size w w' := by
  obtain ⟨A1, A2, A3, c1, c2, c3, rs, rfl, hR⟩ := h
  have HR := Lib.hid hR
  obtain ⟨x9, hx9⟩ : ∃ x9, M.near x = x9 := ⟨_, rfl⟩
  rw [hx9]
  have HX9 := Lib.hid hx9
  have HI : Hid (NrI w (((w.alloc (.cells #[.int .i64 x.kind, .int .i64 x.a, .int .i64 x.b, .int .i64 x.n, .int .i64 x.o, .bool x.flag, .bool x.near, .slice L ll lk] 43)).alloc (.cells #[.int .i64 (M.nb : Int), .int .i64 (M.np : Int), .int .i64 (M.ni : Int), .slice A1 M.nb c1, .slice A2 M.np c2, .slice A3 M.ni c3] 36)).alloc (.cells #[.int .i64 0, .int .i64 0, .int .i64 0, .int .i64 0, .int .i64 0, .bool false, .bool false, .slice none 0 0] 43)) #[.int .i64 (M.nb : Int), .int .i64 (M.np : Int), .int .i64 (M.ni : Int), .slice A1 M.nb c1, .slice A2 M.np c2, .slice A3 M.ni c3] #[.int .i64 x.kind, .int .i64 x.a, .int .i64 x.b, .int .i64 x.n, .int .i64 x.o, .bool x.flag, .bool x.near, .slice L ll lk] #[.int .i64 0, .int .i64 0, .int .i64 0, .int .i64 0, .int .i64 0, .bool false, .bool false, .slice none 0 0]) := Lib.hid ⟨(((Below.refl w.heap.size w).alloc (Nat.le_refl _) (.cells #[.int .i64 x.kind, .int .i64 x.a, .int .i64 x.b, .int .i64 x.n, .int .i64 x.o, .bool x.flag, .bool x.near, .slice L ll lk] 43)).alloc (le_alloc (Nat.le_refl _) _) (.cells #[.int .i64 (M.nb : Int), .int .i64 (M.np : Int), .int .i64 (M.ni : Int), .slice A1 M.nb c1, .slice A2 M.np c2, .slice A3 M.ni c3] 36)).alloc (le_alloc (le_alloc (Nat.le_refl _) _) _) (.cells #[.int .i64 0, .int .i64 0, .int .i64 0, .int .i64 0, .int .i64 0, .bool false, .bool false, .slice none 0 0] 43), ((Blk.new w 43 _).alloc _).alloc _, (blk_new (w.alloc (.cells #[.int .i64 x.kind, .int .i64 x.a, .int .i64 x.b, .int .i64 x.n, .int .i64 x.o, .bool x.flag, .bool x.near, .slice L ll lk] 43)) 36 _ (by simp)).alloc _, blk_new ((w.alloc (.cells #[.int .i64 x.kind, .int .i64 x.a, .int .i64 x.b, .int .i64 x.n, .int .i64 x.o, .bool x.flag, .bool x.near, .slice L ll lk] 43)).alloc (.cells #[.int .i64 (M.nb : Int), .int .i64 (M.np : Int), .int .i64 (M.ni : Int), .slice A1 M.nb c1, .slice A2 M.np c2, .slice A3 M.ni c3] 36)) 43 _ (by simp)⟩
  clear hR hx9
  unfold aArr
  go_enter Tryz.func39, Tryz.ntmps39
  go_upto_region 1 with fail
  generalize hw2 : (((w.alloc (.cells #[.int .i64 x.kind, .int .i64 x.a, .int .i64 x.b, .int .i64 x.n, .int .i64 x.o, .bool x.flag, .bool x.near, .slice L ll lk] 43)).alloc (.cells #[.int .i64 (M.nb : Int), .int .i64 (M.np : Int), .int .i64 (M.ni : Int), .slice A1 M.nb c1, .slice A2 M.np c2, .slice A3 M.ni c3] 36)).alloc (.cells #[.int .i64 0, .int .i64 0, .int .i64 0, .int .i64 0, .int .i64 0, .bool false, .bool false, .slice none 0 0] 43)) = w2 at *
  clear hw2
  have a0 : w2.cell? ⟨w.heap.size, 0, none⟩ = some (.int .i64 x.kind) := HI.out.ax.cell 0
  have a1 : w2.cell? ⟨w.heap.size, 1, none⟩ = some (.int .i64 x.a) := HI.out.ax.cell 1
  have a2 : w2.cell? ⟨w.heap.size, 2, none⟩ = some (.int .i64 x.b) := HI.out.ax.cell 2
  have a3 : w2.cell? ⟨w.heap.size, 3, none⟩ = some (.int .i64 x.n) := HI.out.ax.cell 3
  have a4 : w2.cell? ⟨w.heap.size, 4, none⟩ = some (.int .i64 x.o) := HI.out.ax.cell 4
  have a5 : w2.cell? ⟨w.heap.size, 5, none⟩ = some (.bool x.flag) := HI.out.ax.cell 5
  have a6 : w2.cell? ⟨w.heap.size, 6, none⟩ = some (.bool x.near) := HI.out.ax.cell 6
  have m1 : w2.cell? ⟨w.heap.size + 1, 1, none⟩ = some (.int .i64 (M.np : Int)) := HI.out.bx.cell 1
  have m2 : w2.cell? ⟨w.heap.size + 1, 2, none⟩ = some (.int .i64 (M.ni : Int)) := HI.out.bx.cell 2
  have m4 : w2.cell? ⟨w.heap.size + 1, 4, none⟩ = some (.slice A2 M.np c2) := HI.out.bx.cell 4
  have m5 : w2.cell? ⟨w.heap.size + 1, 5, none⟩ = some (.slice A3 M.ni c3) := HI.out.bx.cell 5
  cases hnr : x.near with
  | false =>
    rw [hnr] at a6
    have H0 := Lib.hid hnr
    clear hnr
    go_wp2_with (with_reducible refine at_load 43 rfl ?_)
    refine Stop.go (wpList_load_blk (by rfl) 43 _ (by rfl) w.heap.size (by rfl) 43 _ HI.out.ax _ und43 (by rfl) (by kernel_rfl) ?_)
    go_wp2_with (with_reducible refine at_store 43 rfl ?_)
    refine Stop.go (wpList_store_blk (by rfl) (by rfl) 43 _ _ (by rfl) (w.heap.size + 2) _ #[.int .i64 x.kind, .int .i64 x.a, .int .i64 x.b, .int .i64 x.n, .int .i64 x.o, .bool x.flag, .bool x.near, .slice L ll lk] (by rfl) (by rfl) 43 HI.out.rx (by rfl) (by kernel_rfl) (by simp [Value.oneCell']) ?_)
    intro w8 hB8 hg8 hs8
    have HB8 := Lib.hid hB8
    have HF : Hid (Below w.heap.size w w8) := Lib.hid (below_grown HI.out.low hg8 (Nat.le_refl _) (by omega))
    have hxe : x9 = x := by
      rw [← HX9.out]
      unfold Mt.near
      exact if_pos (.inl H0.out)
    have HXE := Lib.hid hxe
    clear hxe hB8 hg8 hs8
    go_wp2_with fail
    refine bodyPost_ret (results_cell (by rfl) _ _ (w.heap.size + 2) 43 _ (0, 0) _ (by rfl) HB8.out und43 (by rfl) (by kernel_rfl)) rfl ?_
    exact ⟨by rw [HXE.out], HF.out⟩
  | true =>
  rw [hnr] at a6
  have N0 : Hid (¬ x.near = false) := Lib.hid (by rw [hnr]; decide)
  clear hnr
  by_cases h1 : x.n < -5
  case pos =>
    have d1 : decide (x.n < -5) = true := decide_eq_true h1
    have H1 := Lib.hid h1
    clear h1
    go_wp2_with (with_reducible refine at_load 43 rfl ?_)
    refine Stop.go (wpList_load_blk (by rfl) 43 _ (by rfl) w.heap.size (by rfl) 43 _ HI.out.ax _ und43 (by rfl) (by kernel_rfl) ?_)
    go_wp2_with (with_reducible refine at_store 43 rfl ?_)
    refine Stop.go (wpList_store_blk (by rfl) (by rfl) 43 _ _ (by rfl) (w.heap.size + 2) _ #[.int .i64 x.kind, .int .i64 x.a, .int .i64 x.b, .int .i64 x.n, .int .i64 x.o, .bool x.flag, .bool x.near, .slice L ll lk] (by rfl) (by rfl) 43 HI.out.rx (by rfl) (by kernel_rfl) (by simp [Value.oneCell']) ?_)
    intro w8 hB8 hg8 hs8
    have HB8 := Lib.hid hB8
    have HF : Hid (Below w.heap.size w w8) := Lib.hid (below_grown HI.out.low hg8 (Nat.le_refl _) (by omega))
    have hxe : x9 = x := by
      rw [← HX9.out]
      unfold Mt.near
      exact if_pos (.inr (.inl H1.out))
    have HXE := Lib.hid hxe
    clear hxe hB8 hg8 hs8
    go_wp2_with fail
    refine bodyPost_ret (results_cell (by rfl) _ _ (w.heap.size + 2) 43 _ (0, 0) _ (by rfl) HB8.out und43 (by rfl) (by kernel_rfl)) rfl ?_
    exact ⟨by rw [HXE.out], HF.out⟩
  case neg =>
  have d1 : decide (x.n < -5) = false := decide_eq_false h1
  have N1 := Lib.hid h1
  clear h1
  by_cases h2 : 5 < x.n
  case pos =>
    have d2 : decide (5 < x.n) = true := decide_eq_true h2
    have H2 := Lib.hid h2
    clear h2
    go_wp2_with (with_reducible refine at_load 43 rfl ?_)
    refine Stop.go (wpList_load_blk (by rfl) 43 _ (by rfl) w.heap.size (by rfl) 43 _ HI.out.ax _ und43 (by rfl) (by kernel_rfl) ?_)
    go_wp2_with (with_reducible refine at_store 43 rfl ?_)
    refine Stop.go (wpList_store_blk (by rfl) (by rfl) 43 _ _ (by rfl) (w.heap.size + 2) _ #[.int .i64 x.kind, .int .i64 x.a, .int .i64 x.b, .int .i64 x.n, .int .i64 x.o, .bool x.flag, .bool x.near, .slice L ll lk] (by rfl) (by rfl) 43 HI.out.rx (by rfl) (by kernel_rfl) (by simp [Value.oneCell']) ?_)
    intro w8 hB8 hg8 hs8
    have HB8 := Lib.hid hB8
    have HF : Hid (Below w.heap.size w w8) := Lib.hid (below_grown HI.out.low hg8 (Nat.le_refl _) (by omega))
    have hxe : x9 = x := by
      rw [← HX9.out]
      unfold Mt.near
      exact if_pos (.inr (.inr (.inl H2.out)))
    have HXE := Lib.hid hxe
    clear hxe hB8 hg8 hs8
    go_wp2_with fail
    refine bodyPost_ret (results_cell (by rfl) _ _ (w.heap.size + 2) 43 _ (0, 0) _ (by rfl) HB8.out und43 (by rfl) (by kernel_rfl)) rfl ?_
    exact ⟨by rw [HXE.out], HF.out⟩
  case neg =>
  have d2 : decide (5 < x.n) = false := decide_eq_false h2
  have N2 := Lib.hid h2
  clear h2
  by_cases h3 : x.o < -5
  case pos =>
    have d3 : decide (x.o < -5) = true := decide_eq_true h3
    have H3 := Lib.hid h3
    clear h3
    go_wp2_with (with_reducible refine at_load 43 rfl ?_)
    refine Stop.go (wpList_load_blk (by rfl) 43 _ (by rfl) w.heap.size (by rfl) 43 _ HI.out.ax _ und43 (by rfl) (by kernel_rfl) ?_)
    go_wp2_with (with_reducible refine at_store 43 rfl ?_)
    refine Stop.go (wpList_store_blk (by rfl) (by rfl) 43 _ _ (by rfl) (w.heap.size + 2) _ #[.int .i64 x.kind, .int .i64 x.a, .int .i64 x.b, .int .i64 x.n, .int .i64 x.o, .bool x.flag, .bool x.near, .slice L ll lk] (by rfl) (by rfl) 43 HI.out.rx (by rfl) (by kernel_rfl) (by simp [Value.oneCell']) ?_)
    intro w8 hB8 hg8 hs8
    have HB8 := Lib.hid hB8
    have HF : Hid (Below w.heap.size w w8) := Lib.hid (below_grown HI.out.low hg8 (Nat.le_refl _) (by omega))
    have hxe : x9 = x := by
      rw [← HX9.out]
      unfold Mt.near
      exact if_pos (.inr (.inr (.inr (.inl H3.out))))
    have HXE := Lib.hid hxe
    clear hxe hB8 hg8 hs8
    go_wp2_with fail
    refine bodyPost_ret (results_cell (by rfl) _ _ (w.heap.size + 2) 43 _ (0, 0) _ (by rfl) HB8.out und43 (by rfl) (by kernel_rfl)) rfl ?_
    exact ⟨by rw [HXE.out], HF.out⟩
  case neg =>
  have d3 : decide (x.o < -5) = false := decide_eq_false h3
  have N3 := Lib.hid h3
  clear h3
  by_cases h4 : 5 < x.o
  case pos =>
    have d4 : decide (5 < x.o) = true := decide_eq_true h4
    have H4 := Lib.hid h4
    clear h4
    go_wp2_with (with_reducible refine at_load 43 rfl ?_)
    refine Stop.go (wpList_load_blk (by rfl) 43 _ (by rfl) w.heap.size (by rfl) 43 _ HI.out.ax _ und43 (by rfl) (by kernel_rfl) ?_)
    go_wp2_with (with_reducible refine at_store 43 rfl ?_)
    refine Stop.go (wpList_store_blk (by rfl) (by rfl) 43 _ _ (by rfl) (w.heap.size + 2) _ #[.int .i64 x.kind, .int .i64 x.a, .int .i64 x.b, .int .i64 x.n, .int .i64 x.o, .bool x.flag, .bool x.near, .slice L ll lk] (by rfl) (by rfl) 43 HI.out.rx (by rfl) (by kernel_rfl) (by simp [Value.oneCell']) ?_)
    intro w8 hB8 hg8 hs8
    have HB8 := Lib.hid hB8
    have HF : Hid (Below w.heap.size w w8) := Lib.hid (below_grown HI.out.low hg8 (Nat.le_refl _) (by omega))
    have hxe : x9 = x := by
      rw [← HX9.out]
      unfold Mt.near
      exact if_pos (.inr (.inr (.inr (.inr H4.out))))
    have HXE := Lib.hid hxe
    clear hxe hB8 hg8 hs8
    go_wp2_with fail
    refine bodyPost_ret (results_cell (by rfl) _ _ (w.heap.size + 2) 43 _ (0, 0) _ (by rfl) HB8.out und43 (by rfl) (by kernel_rfl)) rfl ?_
    exact ⟨by rw [HXE.out], HF.out⟩
  case neg =>
  have d4 : decide (5 < x.o) = false := decide_eq_false h4
  have N4 := Lib.hid h4
  clear h4
  have HN0 : Hid (¬ (x.near = false ∨ x.n < -5 ∨ 5 < x.n ∨ x.o < -5 ∨ 5 < x.o)) := Lib.hid (by
    rintro (q | q | q | q | q)
    · exact N0.out q
    · exact N1.out q
    · exact N2.out q
    · exact N3.out q
    · exact N4.out q)
  by_cases h4 : x.kind = 4
  case pos =>
    have e4 := eqb h4
    have e6 : decide (6 ≤ x.kind) = false := decide_eq_false (by omega)
    have H4 := Lib.hid h4
    clear h4
    by_cases h5 : 0 ≤ x.a
    case neg =>
      have d5 : decide (0 ≤ x.a) = false := decide_eq_false h5
      have N5 := Lib.hid h5
      clear h5
      go_wp2_with (with_reducible refine at_load 43 rfl ?_)
      refine Stop.go (wpList_load_blk (by rfl) 43 _ (by rfl) w.heap.size (by rfl) 43 _ HI.out.ax _ und43 (by rfl) (by kernel_rfl) ?_)
      go_wp2_with (with_reducible refine at_store 43 rfl ?_)
      refine Stop.go (wpList_store_blk (by rfl) (by rfl) 43 _ _ (by rfl) (w.heap.size + 2) _ #[.int .i64 x.kind, .int .i64 x.a, .int .i64 x.b, .int .i64 x.n, .int .i64 x.o, .bool x.flag, .bool x.near, .slice L ll lk] (by rfl) (by rfl) 43 HI.out.rx (by rfl) (by kernel_rfl) (by simp [Value.oneCell']) ?_)
      intro w8 hB8 hg8 hs8
      have HB8 := Lib.hid hB8
      have HF : Hid (Below w.heap.size w w8) := Lib.hid (below_grown HI.out.low hg8 (Nat.le_refl _) (by omega))
      have hxe : x9 = x := by
        rw [← HX9.out]
        unfold Mt.near
        rw [if_neg HN0.out, if_neg (fun q => by have := N5.out; omega), if_neg (fun q => by have := N5.out; omega)]
      have HXE := Lib.hid hxe
      clear hxe hB8 hg8 hs8
      go_wp2_with fail
      refine bodyPost_ret (results_cell (by rfl) _ _ (w.heap.size + 2) 43 _ (0, 0) _ (by rfl) HB8.out und43 (by rfl) (by kernel_rfl)) rfl ?_
      exact ⟨by rw [HXE.out], HF.out⟩
    case pos =>
    have d5 : decide (0 ≤ x.a) = true := decide_eq_true h5
    by_cases h6 : x.a < (M.np : Int)
    case neg =>
      have d6 : decide (x.a < (M.np : Int)) = false := decide_eq_false h6
      have N6 := Lib.hid h6
      clear h5 h6
      go_wp2_with (with_reducible refine at_load 43 rfl ?_)
      refine Stop.go (wpList_load_blk (by rfl) 43 _ (by rfl) w.heap.size (by rfl) 43 _ HI.out.ax _ und43 (by rfl) (by kernel_rfl) ?_)
      go_wp2_with (with_reducible refine at_store 43 rfl ?_)
      refine Stop.go (wpList_store_blk (by rfl) (by rfl) 43 _ _ (by rfl) (w.heap.size + 2) _ #[.int .i64 x.kind, .int .i64 x.a, .int .i64 x.b, .int .i64 x.n, .int .i64 x.o, .bool x.flag, .bool x.near, .slice L ll lk] (by rfl) (by rfl) 43 HI.out.rx (by rfl) (by kernel_rfl) (by simp [Value.oneCell']) ?_)
      intro w8 hB8 hg8 hs8
      have HB8 := Lib.hid hB8
      have HF : Hid (Below w.heap.size w w8) := Lib.hid (below_grown HI.out.low hg8 (Nat.le_refl _) (by omega))
      have hxe : x9 = x := by
        rw [← HX9.out]
        unfold Mt.near
        rw [if_neg HN0.out, if_neg (fun q => by have := N6.out; omega), if_neg (fun q => by have := H4.out; omega)]
      have HXE := Lib.hid hxe
      clear hxe hB8 hg8 hs8
      go_wp2_with fail
      refine bodyPost_ret (results_cell (by rfl) _ _ (w.heap.size + 2) 43 _ (0, 0) _ (by rfl) HB8.out und43 (by rfl) (by kernel_rfl)) rfl ?_
      exact ⟨by rw [HXE.out], HF.out⟩
    case pos =>
    obtain ⟨p, hp⟩ : ∃ p : Nat, x.a = (p : Int) := ⟨x.a.toNat, by omega⟩
    have HPA := Lib.hid hp
    have H56 : Hid (0 ≤ x.a ∧ x.a < (M.np : Int)) := Lib.hid ⟨h5, h6⟩
    have hpn : p < M.np := by omega
    obtain ⟨ad, eA, v0, v1, v2', v3⟩ := (HR.out.below HI.out.low).viewCells hpn
    subst eA
    have d6 : decide (x.a < (M.np : Int)) = true := decide_eq_true h6
    have d7 : decide ((p : Int) < (M.np : Int)) = true := decide_eq_true (by omega)
    have hpi : (p : Int) < (M.np : Int) := by omega
    rw [hp] at a1 d5 d6
    clear h5 h6 hp
    go_upto_region 4 with fail
    clear e4 d1 d2 d3 d4
    have HAD : Hid (ad.block < w.heap.size) := Lib.hid (by
      obtain ⟨ad2, e2, hb2, -, -⟩ := HR.out.vw.2.2 (by omega)
      injection e2 with e2
      rw [e2]; exact hb2)
    have hI0' : NrI w w2 #[.int .i64 (M.nb : Int), .int .i64 (M.np : Int), .int .i64 (M.ni : Int), .slice A1 M.nb c1, .slice (some ad) M.np c2, .slice A3 M.ni c3] #[.int .i64 x.kind, .int .i64 (p : Int), .int .i64 x.b, .int .i64 x.n, .int .i64 x.o, .bool x.flag, .bool x.near, .slice L ll lk] #[.int .i64 0, .int .i64 0, .int .i64 0, .int .i64 0, .int .i64 0, .bool false, .bool false, .slice none 0 0] := by have := HI.out; rw [HPA.out] at this; exact this
    clear a0 a2 a3 a4 a5 a6 m1 m2 m5
    refine wp_region_np ?_
    refine wp_region_held_drew (S := fun W => W.cell? ⟨w.heap.size, 1, none⟩ = some (.int .i64 (p : Int)) ∧ W.cell? ⟨w.heap.size + 1, 4, none⟩ = some (.slice (some ad) M.np c2) ∧ W.cell? ⟨(ad.add (p * 4)).block, (ad.add (p * 4)).off + 1, none⟩ = some (.int .i64 (M.views p).epoch) ∧ W.cell? ⟨(ad.add (p * 4)).block, (ad.add (p * 4)).off + 2, none⟩ = some (.int .i64 (M.views p).version)) (by kernel_rfl) (show (fun W => W.cell? ⟨w.heap.size, 1, none⟩ = some (.int .i64 (p : Int)) ∧ W.cell? ⟨w.heap.size + 1, 4, none⟩ = some (.slice (some ad) M.np c2) ∧ W.cell? ⟨(ad.add (p * 4)).block, (ad.add (p * 4)).off + 1, none⟩ = some (.int .i64 (M.views p).epoch) ∧ W.cell? ⟨(ad.add (p * 4)).block, (ad.add (p * 4)).off + 2, none⟩ = some (.int .i64 (M.views p).version)) w2.drew from ⟨a1, m4, v1, v2'⟩) (fun hHeld => ?_)
    have hI0 := hI0'.below (Below.refl _ _).drew
    clear hI0' a1 m4 v0 v1 v2' v3
    generalize hv0 : w2.drew = V0 at *
    clear hv0
    refine wpAnyH_takeAt (i := 0) (d := 46) (v := ?vq0x) rfl rfl (by kernel_rfl) (by kernel_rfl) (by kernel_rfl) (fun _ _ _ h => h) (Or.inl ⟨by rfl, ?hyq0x⟩) hHeld ?_
    case hyq0x =>
      intro W hSw
      clear hSw
      (go_simp; try with_reducible rfl)
    simp only [List.setIfInBounds_toArray, List.set_cons_zero, List.set_cons_succ]
    refine wpAnyH_takeAt (i := 2) (d := 48) (v := ?vq1x) rfl rfl (by kernel_rfl) (by kernel_rfl) (by kernel_rfl) (fun _ _ _ h => h) (Or.inl ⟨by rfl, ?hyq1x⟩) hHeld ?_
    case hyq1x =>
      intro W hSw
      clear hSw
      (go_simp; try with_reducible rfl)
    simp only [List.setIfInBounds_toArray, List.set_cons_zero, List.set_cons_succ]
    refine wpAnyH_takeAt (i := 3) (d := 49) (v := ?vq2x) rfl rfl (by kernel_rfl) (by kernel_rfl) (by kernel_rfl) (fun _ _ _ h => h) (Or.inl ⟨by rfl, ?hyq2x⟩) hHeld ?_
    case hyq2x =>
      intro W hSw
      obtain ⟨q0, q1, q2, q3⟩ := hSw
      (go_simp; try with_reducible rfl)
    simp only [List.setIfInBounds_toArray, List.set_cons_zero, List.set_cons_succ]
    refine wpAnyH_takeAt (i := 4) (d := 50) (v := ?vq3x) rfl rfl (by kernel_rfl) (by kernel_rfl) (by kernel_rfl) (fun _ _ _ h => h) (Or.inl ⟨by rfl, ?hyq3x⟩) hHeld ?_
    case hyq3x =>
      intro W hSw
      clear hSw
      (go_simp; try with_reducible rfl)
    simp only [List.setIfInBounds_toArray, List.set_cons_zero, List.set_cons_succ]
    refine wpAnyH_takeAt (i := 5) (d := 51) (v := ?vq4x) rfl rfl (by kernel_rfl) (by kernel_rfl) (by kernel_rfl) (fun _ _ _ h => h) (Or.inl ⟨by rfl, ?hyq4x⟩) hHeld ?_
    case hyq4x =>
      intro W hSw
      obtain ⟨q0, q1, q2, q3⟩ := hSw
      (go_simp; try with_reducible rfl)
    simp only [List.setIfInBounds_toArray, List.set_cons_zero, List.set_cons_succ]
    refine wpAnyH_takeAt (i := 6) (d := 52) (v := ?vq5x) rfl rfl (by kernel_rfl) (by kernel_rfl) (by kernel_rfl) (fun _ _ _ h => h) (Or.inl ⟨by rfl, ?hyq5x⟩) hHeld ?_
    case hyq5x =>
      intro W hSw
      clear hSw
      (go_simp; try with_reducible rfl)
    simp only [List.setIfInBounds_toArray, List.set_cons_zero, List.set_cons_succ]
    refine wpAnyH_takeAt (i := 7) (d := 53) (v := ?vq6x) rfl rfl (by kernel_rfl) (by kernel_rfl) (by kernel_rfl) (fun _ _ _ h => h) (Or.inl ⟨by rfl, ?hyq6x⟩) hHeld ?_
    case hyq6x =>
      intro W hSw
      clear hSw
      (go_simp; try with_reducible rfl)
    simp only [List.setIfInBounds_toArray, List.set_cons_zero, List.set_cons_succ]
    refine wpAnyH_takeAt (i := 8) (d := 54) (v := ?vq7x) rfl rfl (by kernel_rfl) (by kernel_rfl) (by kernel_rfl) (fun _ _ _ h => h) (Or.inl ⟨by rfl, ?hyq7x⟩) hHeld ?_
    case hyq7x =>
      intro W hSw
      obtain ⟨q0, q1, q2, q3⟩ := hSw
      (go_simp; try with_reducible rfl)
    simp only [List.setIfInBounds_toArray, List.set_cons_zero, List.set_cons_succ]
    refine wpAnyH_takeAt (i := 10) (d := 56) (v := ?vq8x) rfl rfl (by kernel_rfl) (by kernel_rfl) (by kernel_rfl) (fun _ _ _ h => h) (Or.inl ⟨by rfl, ?hyq8x⟩) hHeld ?_
    case hyq8x =>
      intro W hSw
      clear hSw
      (go_simp; try with_reducible rfl)
    simp only [List.setIfInBounds_toArray, List.set_cons_zero, List.set_cons_succ]
    refine wpAnyH_takeAt (i := 12) (d := 58) (v := ?vq9x) rfl rfl (by kernel_rfl) (by kernel_rfl) (by kernel_rfl) (fun _ _ _ h => h) (Or.inl ⟨by rfl, ?hyq9x⟩) hHeld ?_
    case hyq9x =>
      intro W hSw
      clear hSw
      (go_simp; try with_reducible rfl)
    simp only [List.setIfInBounds_toArray, List.set_cons_zero, List.set_cons_succ]
    refine wpAnyH_takeAt (i := 13) (d := 59) (v := ?vq10x) rfl rfl (by kernel_rfl) (by kernel_rfl) (by kernel_rfl) (fun _ _ _ h => h) (Or.inl ⟨by rfl, ?hyq10x⟩) hHeld ?_
    case hyq10x =>
      intro W hSw
      obtain ⟨q0, q1, q2, q3⟩ := hSw
      (go_simp; try with_reducible rfl)
    simp only [List.setIfInBounds_toArray, List.set_cons_zero, List.set_cons_succ]
    refine wpAnyH_takeAt (i := 14) (d := 60) (v := ?vq11x) rfl rfl (by kernel_rfl) (by kernel_rfl) (by kernel_rfl) (fun _ _ _ h => h) (Or.inl ⟨by rfl, ?hyq11x⟩) hHeld ?_
    case hyq11x =>
      intro W hSw
      clear hSw
      (go_simp; try with_reducible rfl)
    simp only [List.setIfInBounds_toArray, List.set_cons_zero, List.set_cons_succ]
    refine wpAnyH_takeAt (i := 15) (d := 61) (v := ?vq12x) rfl rfl (by kernel_rfl) (by kernel_rfl) (by kernel_rfl) (fun _ _ _ h => h) (Or.inl ⟨by rfl, ?hyq12x⟩) hHeld ?_
    case hyq12x =>
      intro W hSw
      obtain ⟨q0, q1, q2, q3⟩ := hSw
      (go_simp; try with_reducible rfl)
    simp only [List.setIfInBounds_toArray, List.set_cons_zero, List.set_cons_succ]
    refine wpAnyH_takeAt (i := 16) (d := 62) (v := ?vq13x) rfl rfl (by kernel_rfl) (by kernel_rfl) (by kernel_rfl) (fun _ _ _ h => h) (Or.inl ⟨by rfl, ?hyq13x⟩) hHeld ?_
    case hyq13x =>
      intro W hSw
      clear hSw
      (go_simp; try with_reducible rfl)
    simp only [List.setIfInBounds_toArray, List.set_cons_zero, List.set_cons_succ]
    refine wpAnyH_takeAt (i := 17) (d := 63) (v := ?vq14x) rfl rfl (by kernel_rfl) (by kernel_rfl) (by kernel_rfl) (fun _ _ _ h => h) (Or.inl ⟨by rfl, ?hyq14x⟩) hHeld ?_
    case hyq14x =>
      intro W hSw
      clear hSw
      (go_simp; try with_reducible rfl)
    simp only [List.setIfInBounds_toArray, List.set_cons_zero, List.set_cons_succ]
    refine wpAnyH_takeAt (i := 18) (d := 64) (v := ?vq15x) rfl rfl (by kernel_rfl) (by kernel_rfl) (by kernel_rfl) (fun _ _ _ h => h) (Or.inl ⟨by rfl, ?hyq15x⟩) hHeld ?_
    case hyq15x =>
      intro W hSw
      obtain ⟨q0, q1, q2, q3⟩ := hSw
      (go_simp; try with_reducible rfl)
    simp only [List.setIfInBounds_toArray, List.set_cons_zero, List.set_cons_succ]
    refine wpAnyH_ready (rs := [1, 11]) (by kernel_rfl) (by simp) (AllReadyH.cons rfl (fun K hK => ?_) (AllReadyH.cons rfl (fun K hK => ?_) AllReadyH.nil))
    · have q0 := hI0.ax.cell 3
      simp only [List.getElem?_toArray, List.getElem?_cons_zero, List.getElem?_cons_succ] at q0
      go_simp
      refine hK.out _ _ hHeld (fun hHeld => ?_)
      clear hK K q0
      try simp only [List.setIfInBounds_toArray, List.set_cons_zero, List.set_cons_succ]
      refine wpAnyH_takeAt (i := 9) (d := 55) (v := ?vq16x) rfl rfl (by kernel_rfl) (by kernel_rfl) (by kernel_rfl) (fun _ _ _ h => h) (Or.inl ⟨by rfl, ?hyq16x⟩) hHeld ?_
      case hyq16x =>
        intro W hSw
        clear hSw
        (go_simp; try with_reducible rfl)
      simp only [List.setIfInBounds_toArray, List.set_cons_zero, List.set_cons_succ]
      refine wpAnyH_ready (rs := [11]) (by kernel_rfl) (by simp) (AllReadyH.cons rfl (fun K hK => ?_) AllReadyH.nil)
      have q0 := hI0.ax.cell 4
      simp only [List.getElem?_toArray, List.getElem?_cons_zero, List.getElem?_cons_succ] at q0
      go_simp
      refine hK.out _ _ hHeld (fun hHeld => ?_)
      clear hK K q0
      try simp only [List.setIfInBounds_toArray, List.set_cons_zero, List.set_cons_succ]
      refine wpAnyH_takeAt (i := 19) (d := 65) (v := ?vq17x) rfl rfl (by kernel_rfl) (by kernel_rfl) (by kernel_rfl) (fun _ _ _ h => h) (Or.inl ⟨by rfl, ?hyq17x⟩) hHeld ?_
      case hyq17x =>
        intro W hSw
        clear hSw
        (go_simp; try with_reducible rfl)
      simp only [List.setIfInBounds_toArray, List.set_cons_zero, List.set_cons_succ]
      refine wpAnyH_takeAt (i := 20) (d := 66) (v := ?vq18x) rfl rfl (by kernel_rfl) (by kernel_rfl) (by kernel_rfl) (fun _ _ _ h => h) (Or.inl ⟨by rfl, ?hyq18x⟩) hHeld ?_
      case hyq18x =>
        intro W hSw
        clear hSw
        (go_simp; try with_reducible rfl)
      simp only [List.setIfInBounds_toArray, List.set_cons_zero, List.set_cons_succ]
      refine wpAnyH_ready (rs := [21]) (by kernel_rfl) (by simp) (AllReadyH.cons rfl (fun K hK => ?_) AllReadyH.nil)
      have k0 : V0.cell? ⟨w.heap.size, 3, none⟩ = some (.int .i64 x.n) := hI0.ax.cell 3
      have g0 := hI0.ax.frozen 3
      have hI1 := hI0.set 3 (.int .i64 (IntKind.i64.wrap (x.n + (M.views p).epoch)))
      go_simp
      have hT1 : Turn (fun y => y = w.heap.size) V0 (V0.setCell ⟨w.heap.size, 3, none⟩ (.int .i64 (IntKind.i64.wrap (x.n + (M.views p).epoch)))) := (Turn.refl (fun y => y = w.heap.size) V0).setCell (p := ⟨w.heap.size, 3, none⟩) (fun _ => rfl) _
      have hHeld2 : (fun W => W.cell? ⟨w.heap.size, 1, none⟩ = some (.int .i64 (p : Int)) ∧ W.cell? ⟨w.heap.size + 1, 4, none⟩ = some (.slice (some ad) M.np c2) ∧ W.cell? ⟨(ad.add (p * 4)).block, (ad.add (p * 4)).off + 1, none⟩ = some (.int .i64 (M.views p).epoch) ∧ W.cell? ⟨(ad.add (p * 4)).block, (ad.add (p * 4)).off + 2, none⟩ = some (.int .i64 (M.views p).version)) (V0.setCell ⟨w.heap.size, 3, none⟩ (.int .i64 (IntKind.i64.wrap (x.n + (M.views p).epoch)))) := ⟨hI1.ax.cell 1, (hT1.cell (p := ⟨w.heap.size + 1, 4, none⟩) (block_lt_of_cell hHeld.2.1) (by show ¬ w.heap.size + 1 = w.heap.size; omega)).trans hHeld.2.1, (hT1.cell (block_lt_of_cell hHeld.2.2.1) (by show ¬ (ad.add (p * 4)).block = w.heap.size; rw [block_of_add]; have := HAD.out; omega)).trans hHeld.2.2.1, (hT1.cell (block_lt_of_cell hHeld.2.2.2) (by show ¬ (ad.add (p * 4)).block = w.heap.size; rw [block_of_add]; have := HAD.out; omega)).trans hHeld.2.2.2⟩
      refine hK.out _ _ hHeld2 (fun hHeld => ?_)
      clear hK K hHeld2 k0 g0
      generalize V0.setCell ⟨w.heap.size, 3, none⟩ (.int .i64 (IntKind.i64.wrap (x.n + (M.views p).epoch))) = V1 at *
      try simp only [List.setIfInBounds_toArray, List.set_cons_zero, List.set_cons_succ]
      refine wpAnyH_takeAt (i := 22) (d := 67) (v := ?vq19x) rfl rfl (by kernel_rfl) (by kernel_rfl) (by kernel_rfl) (fun _ _ _ h => h) (Or.inl ⟨by rfl, ?hyq19x⟩) hHeld ?_
      case hyq19x =>
        intro W hSw
        clear hSw
        (go_simp; try with_reducible rfl)
      simp only [List.setIfInBounds_toArray, List.set_cons_zero, List.set_cons_succ]
      refine wpAnyH_ready (rs := [23]) (by kernel_rfl) (by simp) (AllReadyH.cons rfl (fun K hK => ?_) AllReadyH.nil)
      have k0 : V1.cell? ⟨w.heap.size, 4, none⟩ = some (.int .i64 x.o) := hI1.ax.cell 4
      have g0 := hI1.ax.frozen 4
      have hI2 := hI1.set 4 (.int .i64 (IntKind.i64.wrap (x.o + (M.views p).version)))
      go_simp
      have hT2 : Turn (fun y => y = w.heap.size) V1 (V1.setCell ⟨w.heap.size, 4, none⟩ (.int .i64 (IntKind.i64.wrap (x.o + (M.views p).version)))) := (Turn.refl (fun y => y = w.heap.size) V1).setCell (p := ⟨w.heap.size, 4, none⟩) (fun _ => rfl) _
      have hHeld2 : (fun W => W.cell? ⟨w.heap.size, 1, none⟩ = some (.int .i64 (p : Int)) ∧ W.cell? ⟨w.heap.size + 1, 4, none⟩ = some (.slice (some ad) M.np c2) ∧ W.cell? ⟨(ad.add (p * 4)).block, (ad.add (p * 4)).off + 1, none⟩ = some (.int .i64 (M.views p).epoch) ∧ W.cell? ⟨(ad.add (p * 4)).block, (ad.add (p * 4)).off + 2, none⟩ = some (.int .i64 (M.views p).version)) (V1.setCell ⟨w.heap.size, 4, none⟩ (.int .i64 (IntKind.i64.wrap (x.o + (M.views p).version)))) := ⟨hI2.ax.cell 1, (hT2.cell (p := ⟨w.heap.size + 1, 4, none⟩) (block_lt_of_cell hHeld.2.1) (by show ¬ w.heap.size + 1 = w.heap.size; omega)).trans hHeld.2.1, (hT2.cell (block_lt_of_cell hHeld.2.2.1) (by show ¬ (ad.add (p * 4)).block = w.heap.size; rw [block_of_add]; have := HAD.out; omega)).trans hHeld.2.2.1, (hT2.cell (block_lt_of_cell hHeld.2.2.2) (by show ¬ (ad.add (p * 4)).block = w.heap.size; rw [block_of_add]; have := HAD.out; omega)).trans hHeld.2.2.2⟩
      refine hK.out _ _ hHeld2 (fun hHeld => ?_)
      clear hK K hHeld2 k0 g0
      generalize V1.setCell ⟨w.heap.size, 4, none⟩ (.int .i64 (IntKind.i64.wrap (x.o + (M.views p).version))) = V2 at *
      try simp only [List.setIfInBounds_toArray, List.set_cons_zero, List.set_cons_succ]
      refine wpAnyH_done (by kernel_rfl) ?_ _
      clear hHeld
      have HI2 : Hid (NrI w V2 #[.int .i64 (M.nb : Int), .int .i64 (M.np : Int), .int .i64 (M.ni : Int), .slice A1 M.nb c1, .slice (some ad) M.np c2, .slice A3 M.ni c3] #[.int .i64 x.kind, .int .i64 (p : Int), .int .i64 x.b, .int .i64 (IntKind.i64.wrap (x.n + (M.views p).epoch)), .int .i64 (IntKind.i64.wrap (x.o + (M.views p).version)), .bool x.flag, .bool x.near, .slice L ll lk] #[.int .i64 0, .int .i64 0, .int .i64 0, .int .i64 0, .int .i64 0, .bool false, .bool false, .slice none 0 0]) := Lib.hid hI2
      clear hI2 hI1 hI0
      have a0 : V2.cell? ⟨w.heap.size, 0, none⟩ = some (.int .i64 x.kind) := HI2.out.ax.cell 0
      have a1 : V2.cell? ⟨w.heap.size, 1, none⟩ = some (.int .i64 (p : Int)) := HI2.out.ax.cell 1
      have m2 : V2.cell? ⟨w.heap.size + 1, 2, none⟩ = some (.int .i64 (M.ni : Int)) := HI2.out.bx.cell 2
      go_wp2_with (with_reducible refine at_load 43 rfl ?_)
      refine Stop.go (wpList_load_blk (by rfl) 43 _ (by rfl) w.heap.size (by rfl) 43 _ HI2.out.ax _ und43 (by rfl) (by kernel_rfl) ?_)
      go_wp2_with (with_reducible refine at_store 43 rfl ?_)
      refine Stop.go (wpList_store_blk (by rfl) (by rfl) 43 _ _ (by rfl) (w.heap.size + 2) _ #[.int .i64 x.kind, .int .i64 (p : Int), .int .i64 x.b, .int .i64 (IntKind.i64.wrap (x.n + (M.views p).epoch)), .int .i64 (IntKind.i64.wrap (x.o + (M.views p).version)), .bool x.flag, .bool x.near, .slice L ll lk] (by rfl) (by rfl) 43 HI2.out.rx (by rfl) (by kernel_rfl) (by simp [Value.oneCell']) ?_)
      intro w8 hB8 hg8 hs8
      have HB8 := Lib.hid hB8
      have HF : Hid (Below w.heap.size w w8) := Lib.hid (below_grown HI2.out.low hg8 (Nat.le_refl _) (by omega))
      have hxe : x9 = { x with n := (IntKind.i64.wrap (x.n + (M.views p).epoch)), o := (IntKind.i64.wrap (x.o + (M.views p).version)) } := by
        rw [← HX9.out]
        unfold Mt.near
        rw [if_neg HN0.out, if_pos ⟨H4.out, H56.out⟩, HPA.out]
        simp only [Int.toNat_natCast, wr_eq]
      have HXE := Lib.hid hxe
      clear hxe hB8 hg8 hs8
      go_wp2_with fail
      refine bodyPost_ret (results_cell (by rfl) _ _ (w.heap.size + 2) 43 _ (0, 0) _ (by rfl) HB8.out und43 (by rfl) (by kernel_rfl)) rfl ?_
      exact ⟨by rw [HXE.out]; simp only [HPA.out], HF.out⟩
    · have q0 := hI0.ax.cell 4
      simp only [List.getElem?_toArray, List.getElem?_cons_zero, List.getElem?_cons_succ] at q0
      go_simp
      refine hK.out _ _ hHeld (fun hHeld => ?_)
      clear hK K q0
      try simp only [List.setIfInBounds_toArray, List.set_cons_zero, List.set_cons_succ]
      refine wpAnyH_takeAt (i := 19) (d := 65) (v := ?vq20x) rfl rfl (by kernel_rfl) (by kernel_rfl) (by kernel_rfl) (fun _ _ _ h => h) (Or.inl ⟨by rfl, ?hyq20x⟩) hHeld ?_
      case hyq20x =>
        intro W hSw
        clear hSw
        (go_simp; try with_reducible rfl)
      simp only [List.setIfInBounds_toArray, List.set_cons_zero, List.set_cons_succ]
      refine wpAnyH_ready (rs := [1]) (by kernel_rfl) (by simp) (AllReadyH.cons rfl (fun K hK => ?_) AllReadyH.nil)
      have q0 := hI0.ax.cell 3
      simp only [List.getElem?_toArray, List.getElem?_cons_zero, List.getElem?_cons_succ] at q0
      go_simp
      refine hK.out _ _ hHeld (fun hHeld => ?_)
      clear hK K q0
      try simp only [List.setIfInBounds_toArray, List.set_cons_zero, List.set_cons_succ]
      refine wpAnyH_takeAt (i := 9) (d := 55) (v := ?vq21x) rfl rfl (by kernel_rfl) (by kernel_rfl) (by kernel_rfl) (fun _ _ _ h => h) (Or.inl ⟨by rfl, ?hyq21x⟩) hHeld ?_
      case hyq21x =>
        intro W hSw
        clear hSw
        (go_simp; try with_reducible rfl)
      simp only [List.setIfInBounds_toArray, List.set_cons_zero, List.set_cons_succ]
      refine wpAnyH_takeAt (i := 20) (d := 66) (v := ?vq22x) rfl rfl (by kernel_rfl) (by kernel_rfl) (by kernel_rfl) (fun _ _ _ h => h) (Or.inl ⟨by rfl, ?hyq22x⟩) hHeld ?_
      case hyq22x =>
        intro W hSw
        clear hSw
        (go_simp; try with_reducible rfl)
      simp only [List.setIfInBounds_toArray, List.set_cons_zero, List.set_cons_succ]
      refine wpAnyH_ready (rs := [21]) (by kernel_rfl) (by simp) (AllReadyH.cons rfl (fun K hK => ?_) AllReadyH.nil)
      have k0 : V0.cell? ⟨w.heap.size, 3, none⟩ = some (.int .i64 x.n) := hI0.ax.cell 3
      have g0 := hI0.ax.frozen 3
      have hI1 := hI0.set 3 (.int .i64 (IntKind.i64.wrap (x.n + (M.views p).epoch)))
      go_simp
      have hT1 : Turn (fun y => y = w.heap.size) V0 (V0.setCell ⟨w.heap.size, 3, none⟩ (.int .i64 (IntKind.i64.wrap (x.n + (M.views p).epoch)))) := (Turn.refl (fun y => y = w.heap.size) V0).setCell (p := ⟨w.heap.size, 3, none⟩) (fun _ => rfl) _
      have hHeld2 : (fun W => W.cell? ⟨w.heap.size, 1, none⟩ = some (.int .i64 (p : Int)) ∧ W.cell? ⟨w.heap.size + 1, 4, none⟩ = some (.slice (some ad) M.np c2) ∧ W.cell? ⟨(ad.add (p * 4)).block, (ad.add (p * 4)).off + 1, none⟩ = some (.int .i64 (M.views p).epoch) ∧ W.cell? ⟨(ad.add (p * 4)).block, (ad.add (p * 4)).off + 2, none⟩ = some (.int .i64 (M.views p).version)) (V0.setCell ⟨w.heap.size, 3, none⟩ (.int .i64 (IntKind.i64.wrap (x.n + (M.views p).epoch)))) := ⟨hI1.ax.cell 1, (hT1.cell (p := ⟨w.heap.size + 1, 4, none⟩) (block_lt_of_cell hHeld.2.1) (by show ¬ w.heap.size + 1 = w.heap.size; omega)).trans hHeld.2.1, (hT1.cell (block_lt_of_cell hHeld.2.2.1) (by show ¬ (ad.add (p * 4)).block = w.heap.size; rw [block_of_add]; have := HAD.out; omega)).trans hHeld.2.2.1, (hT1.cell (block_lt_of_cell hHeld.2.2.2) (by show ¬ (ad.add (p * 4)).block = w.heap.size; rw [block_of_add]; have := HAD.out; omega)).trans hHeld.2.2.2⟩
      refine hK.out _ _ hHeld2 (fun hHeld => ?_)
      clear hK K hHeld2 k0 g0
      generalize V0.setCell ⟨w.heap.size, 3, none⟩ (.int .i64 (IntKind.i64.wrap (x.n + (M.views p).epoch))) = V1 at *
      try simp only [List.setIfInBounds_toArray, List.set_cons_zero, List.set_cons_succ]
      refine wpAnyH_takeAt (i := 22) (d := 67) (v := ?vq23x) rfl rfl (by kernel_rfl) (by kernel_rfl) (by kernel_rfl) (fun _ _ _ h => h) (Or.inl ⟨by rfl, ?hyq23x⟩) hHeld ?_
      case hyq23x =>
        intro W hSw
        clear hSw
        (go_simp; try with_reducible rfl)
      simp only [List.setIfInBounds_toArray, List.set_cons_zero, List.set_cons_succ]
      refine wpAnyH_ready (rs := [23]) (by kernel_rfl) (by simp) (AllReadyH.cons rfl (fun K hK => ?_) AllReadyH.nil)
      have k0 : V1.cell? ⟨w.heap.size, 4, none⟩ = some (.int .i64 x.o) := hI1.ax.cell 4
      have g0 := hI1.ax.frozen 4
      have hI2 := hI1.set 4 (.int .i64 (IntKind.i64.wrap (x.o + (M.views p).version)))
      go_simp
      have hT2 : Turn (fun y => y = w.heap.size) V1 (V1.setCell ⟨w.heap.size, 4, none⟩ (.int .i64 (IntKind.i64.wrap (x.o + (M.views p).version)))) := (Turn.refl (fun y => y = w.heap.size) V1).setCell (p := ⟨w.heap.size, 4, none⟩) (fun _ => rfl) _
      have hHeld2 : (fun W => W.cell? ⟨w.heap.size, 1, none⟩ = some (.int .i64 (p : Int)) ∧ W.cell? ⟨w.heap.size + 1, 4, none⟩ = some (.slice (some ad) M.np c2) ∧ W.cell? ⟨(ad.add (p * 4)).block, (ad.add (p * 4)).off + 1, none⟩ = some (.int .i64 (M.views p).epoch) ∧ W.cell? ⟨(ad.add (p * 4)).block, (ad.add (p * 4)).off + 2, none⟩ = some (.int .i64 (M.views p).version)) (V1.setCell ⟨w.heap.size, 4, none⟩ (.int .i64 (IntKind.i64.wrap (x.o + (M.views p).version)))) := ⟨hI2.ax.cell 1, (hT2.cell (p := ⟨w.heap.size + 1, 4, none⟩) (block_lt_of_cell hHeld.2.1) (by show ¬ w.heap.size + 1 = w.heap.size; omega)).trans hHeld.2.1, (hT2.cell (block_lt_of_cell hHeld.2.2.1) (by show ¬ (ad.add (p * 4)).block = w.heap.size; rw [block_of_add]; have := HAD.out; omega)).trans hHeld.2.2.1, (hT2.cell (block_lt_of_cell hHeld.2.2.2) (by show ¬ (ad.add (p * 4)).block = w.heap.size; rw [block_of_add]; have := HAD.out; omega)).trans hHeld.2.2.2⟩
      refine hK.out _ _ hHeld2 (fun hHeld => ?_)
      clear hK K hHeld2 k0 g0
      generalize V1.setCell ⟨w.heap.size, 4, none⟩ (.int .i64 (IntKind.i64.wrap (x.o + (M.views p).version))) = V2 at *
      try simp only [List.setIfInBounds_toArray, List.set_cons_zero, List.set_cons_succ]
      refine wpAnyH_done (by kernel_rfl) ?_ _
      clear hHeld
      have HI2 : Hid (NrI w V2 #[.int .i64 (M.nb : Int), .int .i64 (M.np : Int), .int .i64 (M.ni : Int), .slice A1 M.nb c1, .slice (some ad) M.np c2, .slice A3 M.ni c3] #[.int .i64 x.kind, .int .i64 (p : Int), .int .i64 x.b, .int .i64 (IntKind.i64.wrap (x.n + (M.views p).epoch)), .int .i64 (IntKind.i64.wrap (x.o + (M.views p).version)), .bool x.flag, .bool x.near, .slice L ll lk] #[.int .i64 0, .int .i64 0, .int .i64 0, .int .i64 0, .int .i64 0, .bool false, .bool false, .slice none 0 0]) := Lib.hid hI2
      clear hI2 hI1 hI0
      have a0 : V2.cell? ⟨w.heap.size, 0, none⟩ = some (.int .i64 x.kind) := HI2.out.ax.cell 0
      have a1 : V2.cell? ⟨w.heap.size, 1, none⟩ = some (.int .i64 (p : Int)) := HI2.out.ax.cell 1
      have m2 : V2.cell? ⟨w.heap.size + 1, 2, none⟩ = some (.int .i64 (M.ni : Int)) := HI2.out.bx.cell 2
      go_wp2_with (with_reducible refine at_load 43 rfl ?_)
      refine Stop.go (wpList_load_blk (by rfl) 43 _ (by rfl) w.heap.size (by rfl) 43 _ HI2.out.ax _ und43 (by rfl) (by kernel_rfl) ?_)
      go_wp2_with (with_reducible refine at_store 43 rfl ?_)
      refine Stop.go (wpList_store_blk (by rfl) (by rfl) 43 _ _ (by rfl) (w.heap.size + 2) _ #[.int .i64 x.kind, .int .i64 (p : Int), .int .i64 x.b, .int .i64 (IntKind.i64.wrap (x.n + (M.views p).epoch)), .int .i64 (IntKind.i64.wrap (x.o + (M.views p).version)), .bool x.flag, .bool x.near, .slice L ll lk] (by rfl) (by rfl) 43 HI2.out.rx (by rfl) (by kernel_rfl) (by simp [Value.oneCell']) ?_)
      intro w8 hB8 hg8 hs8
      have HB8 := Lib.hid hB8
      have HF : Hid (Below w.heap.size w w8) := Lib.hid (below_grown HI2.out.low hg8 (Nat.le_refl _) (by omega))
      have hxe : x9 = { x with n := (IntKind.i64.wrap (x.n + (M.views p).epoch)), o := (IntKind.i64.wrap (x.o + (M.views p).version)) } := by
        rw [← HX9.out]
        unfold Mt.near
        rw [if_neg HN0.out, if_pos ⟨H4.out, H56.out⟩, HPA.out]
        simp only [Int.toNat_natCast, wr_eq]
      have HXE := Lib.hid hxe
      clear hxe hB8 hg8 hs8
      go_wp2_with fail
      refine bodyPost_ret (results_cell (by rfl) _ _ (w.heap.size + 2) 43 _ (0, 0) _ (by rfl) HB8.out und43 (by rfl) (by kernel_rfl)) rfl ?_
      exact ⟨by rw [HXE.out]; simp only [HPA.out], HF.out⟩
  case neg =>
  have e4 := neb h4
  have N4k := Lib.hid h4
  clear h4
  by_cases h6 : 6 ≤ x.kind
  case neg =>
    have e6 : decide (6 ≤ x.kind) = false := decide_eq_false h6
    have N6 := Lib.hid h6
    clear h6
    go_wp2_with (with_reducible refine at_load 43 rfl ?_)
    refine Stop.go (wpList_load_blk (by rfl) 43 _ (by rfl) w.heap.size (by rfl) 43 _ HI.out.ax _ und43 (by rfl) (by kernel_rfl) ?_)
    go_wp2_with (with_reducible refine at_store 43 rfl ?_)
    refine Stop.go (wpList_store_blk (by rfl) (by rfl) 43 _ _ (by rfl) (w.heap.size + 2) _ #[.int .i64 x.kind, .int .i64 x.a, .int .i64 x.b, .int .i64 x.n, .int .i64 x.o, .bool x.flag, .bool x.near, .slice L ll lk] (by rfl) (by rfl) 43 HI.out.rx (by rfl) (by kernel_rfl) (by simp [Value.oneCell']) ?_)
    intro w8 hB8 hg8 hs8
    have HB8 := Lib.hid hB8
    have HF : Hid (Below w.heap.size w w8) := Lib.hid (below_grown HI.out.low hg8 (Nat.le_refl _) (by omega))
    have hxe : x9 = x := by
      rw [← HX9.out]
      unfold Mt.near
      rw [if_neg HN0.out, if_neg (fun q => N4k.out q.1), if_neg (fun q => by have := N6.out; omega)]
    have HXE := Lib.hid hxe
    clear hxe hB8 hg8 hs8
    go_wp2_with fail
    refine bodyPost_ret (results_cell (by rfl) _ _ (w.heap.size + 2) 43 _ (0, 0) _ (by rfl) HB8.out und43 (by rfl) (by kernel_rfl)) rfl ?_
    exact ⟨by rw [HXE.out], HF.out⟩
  case pos =>
  have e6 : decide (6 ≤ x.kind) = true := decide_eq_true h6
  have H6 := Lib.hid h6
  clear h6
  by_cases h5 : 0 ≤ x.a
  case neg =>
    have d5 : decide (0 ≤ x.a) = false := decide_eq_false h5
    have N5 := Lib.hid h5
    clear h5
    go_wp2_with (with_reducible refine at_load 43 rfl ?_)
    refine Stop.go (wpList_load_blk (by rfl) 43 _ (by rfl) w.heap.size (by rfl) 43 _ HI.out.ax _ und43 (by rfl) (by kernel_rfl) ?_)
    go_wp2_with (with_reducible refine at_store 43 rfl ?_)
    refine Stop.go (wpList_store_blk (by rfl) (by rfl) 43 _ _ (by rfl) (w.heap.size + 2) _ #[.int .i64 x.kind, .int .i64 x.a, .int .i64 x.b, .int .i64 x.n, .int .i64 x.o, .bool x.flag, .bool x.near, .slice L ll lk] (by rfl) (by rfl) 43 HI.out.rx (by rfl) (by kernel_rfl) (by simp [Value.oneCell']) ?_)
    intro w8 hB8 hg8 hs8
    have HB8 := Lib.hid hB8
    have HF : Hid (Below w.heap.size w w8) := Lib.hid (below_grown HI.out.low hg8 (Nat.le_refl _) (by omega))
    have hxe : x9 = x := by
      rw [← HX9.out]
      unfold Mt.near
      rw [if_neg HN0.out, if_neg (fun q => by have := N5.out; omega), if_neg (fun q => by have := N5.out; omega)]
    have HXE := Lib.hid hxe
    clear hxe hB8 hg8 hs8
    go_wp2_with fail
    refine bodyPost_ret (results_cell (by rfl) _ _ (w.heap.size + 2) 43 _ (0, 0) _ (by rfl) HB8.out und43 (by rfl) (by kernel_rfl)) rfl ?_
    exact ⟨by rw [HXE.out], HF.out⟩
  case pos =>
  have d5 : decide (0 ≤ x.a) = true := decide_eq_true h5
  by_cases h7 : x.a < (M.ni : Int)
  case neg =>
    have d7 : decide (x.a < (M.ni : Int)) = false := decide_eq_false h7
    have N7 := Lib.hid h7
    clear h5 h7
    go_wp2_with (with_reducible refine at_load 43 rfl ?_)
    refine Stop.go (wpList_load_blk (by rfl) 43 _ (by rfl) w.heap.size (by rfl) 43 _ HI.out.ax _ und43 (by rfl) (by kernel_rfl) ?_)
    go_wp2_with (with_reducible refine at_store 43 rfl ?_)
    refine Stop.go (wpList_store_blk (by rfl) (by rfl) 43 _ _ (by rfl) (w.heap.size + 2) _ #[.int .i64 x.kind, .int .i64 x.a, .int .i64 x.b, .int .i64 x.n, .int .i64 x.o, .bool x.flag, .bool x.near, .slice L ll lk] (by rfl) (by rfl) 43 HI.out.rx (by rfl) (by kernel_rfl) (by simp [Value.oneCell']) ?_)
    intro w8 hB8 hg8 hs8
    have HB8 := Lib.hid hB8
    have HF : Hid (Below w.heap.size w w8) := Lib.hid (below_grown HI.out.low hg8 (Nat.le_refl _) (by omega))
    have hxe : x9 = x := by
      rw [← HX9.out]
      unfold Mt.near
      rw [if_neg HN0.out, if_neg (fun q => N4k.out q.1), if_neg (fun q => by have := N7.out; omega)]
    have HXE := Lib.hid hxe
    clear hxe hB8 hg8 hs8
    go_wp2_with fail
    refine bodyPost_ret (results_cell (by rfl) _ _ (w.heap.size + 2) 43 _ (0, 0) _ (by rfl) HB8.out und43 (by rfl) (by kernel_rfl)) rfl ?_
    exact ⟨by rw [HXE.out], HF.out⟩
  case pos =>
  obtain ⟨p, hp⟩ : ∃ p : Nat, x.a = (p : Int) := ⟨x.a.toNat, by omega⟩
  have HPA := Lib.hid hp
  have H56 : Hid (0 ≤ x.a ∧ x.a < (M.ni : Int)) := Lib.hid ⟨h5, h7⟩
  have hpn : p < M.ni := by omega
  obtain ⟨ad, eA, v0, v1, v2', v3, v4, v5⟩ := (HR.out.below HI.out.low).wrCells hpn
  obtain ⟨As, ks, es, hrs⟩ := HR.out.wl p hpn
  rw [es] at v3
  subst eA
  have d7 : decide (x.a < (M.ni : Int)) = true := decide_eq_true h7
  rw [hp] at a1 d5 d7
  have hpi : (p : Int) < (M.ni : Int) := by omega
  have HSZ2 : Hid (w.heap.size + 3 ≤ w2.heap.size) := Lib.hid HI.out.rx.lt
  have HI : Hid (NrI w w2 #[.int .i64 (M.nb : Int), .int .i64 (M.np : Int), .int .i64 (M.ni : Int), .slice A1 M.nb c1, .slice A2 M.np c2, .slice (some ad) M.ni c3] #[.int .i64 x.kind, .int .i64 (p : Int), .int .i64 x.b, .int .i64 x.n, .int .i64 x.o, .bool x.flag, .bool x.near, .slice L ll lk] #[.int .i64 0, .int .i64 0, .int .i64 0, .int .i64 0, .int .i64 0, .bool false, .bool false, .slice none 0 0]) := Lib.hid (by have := HI.out; rw [HPA.out] at this; exact this)
  clear h5 h7 hp es hrs
  go_wp2_with (with_reducible refine at_store 55 rfl ?_)
  refine Stop.go (wpList_store_blk (by rfl) (by rfl) 55 _ _ (by rfl) w2.heap.size _ #[.int .i64 (M.wrs p).session, .int .i64 (M.wrs p).num, .int .i64 (M.wrs p).state, .slice As (M.wrs p).parts.length ks, .int .i64 (M.wrs p).offset, .int .i64 (M.wrs p).next] (by rfl) (by rfl) 55 (Blk.new w2 55 #[.int .i64 0, .int .i64 0, .int .i64 0, .slice none 0 0, .int .i64 0, .int .i64 0]) (by rfl) (by kernel_rfl) (by simp [Value.oneCell']) ?_)
  intro w3 hB3 hg3 hs3
  have hal3 : Below w2.heap.size w2 w3 := below_grown ((Below.refl w2.heap.size w2).alloc (Nat.le_refl _) (.cells #[.int .i64 0, .int .i64 0, .int .i64 0, .slice none 0 0, .int .i64 0, .int .i64 0] 55)) hg3 (Nat.le_refl _) (Nat.le_refl _)
  have HI3 := Lib.hid (HI.out.below hal3)
  have HL3 := Lib.hid hB3
  clear hB3 hg3 hs3 hal3 v0 v1 v2' v3 v4 v5 a0 a1 a2 a3 a4 a5 a6 m1 m2 m4 m5
  generalize w2.heap.size = lx at *
  clear HI
  have a0 : w3.cell? ⟨w.heap.size, 0, none⟩ = some (.int .i64 x.kind) := HI3.out.ax.cell 0
  have a3 : w3.cell? ⟨w.heap.size, 3, none⟩ = some (.int .i64 x.n) := HI3.out.ax.cell 3
  have a4 : w3.cell? ⟨w.heap.size, 4, none⟩ = some (.int .i64 x.o) := HI3.out.ax.cell 4
  have l4 : w3.cell? ⟨lx, 4, none⟩ = some (.int .i64 (M.wrs p).offset) := HL3.out.cell 4
  have g4 := HI3.out.ax.frozen 4
  have hI4 := HI3.out.set 4 (.int .i64 (wrap64 (x.o + (M.wrs p).offset)))
  have hL4 : Blk (w3.setCell ⟨w.heap.size, 4, none⟩ (.int .i64 (wrap64 (x.o + (M.wrs p).offset)))) lx 55 #[.int .i64 (M.wrs p).session, .int .i64 (M.wrs p).num, .int .i64 (M.wrs p).state, .slice As (M.wrs p).parts.length ks, .int .i64 (M.wrs p).offset, .int .i64 (M.wrs p).next] := HL3.out.far (p := ⟨w.heap.size, 4, none⟩) (by show lx ≠ w.heap.size; have := HSZ2.out; omega) _
  have HI4 := Lib.hid hI4
  have HL4 := Lib.hid hL4
  clear hI4 hL4
  go_upto_region 8 with fail
  generalize w3.setCell ⟨w.heap.size, 4, none⟩ (.int .i64 (wrap64 (x.o + (M.wrs p).offset))) = w4 at *
  clear a0 a3 a4 l4 g4
  have a0 : w4.cell? ⟨w.heap.size, 0, none⟩ = some (.int .i64 x.kind) := HI4.out.ax.cell 0
  have a3 : w4.cell? ⟨w.heap.size, 3, none⟩ = some (.int .i64 x.n) := HI4.out.ax.cell 3
  have g3 := HI4.out.ax.frozen 3
  by_cases h8 : x.kind = 8
  case pos =>
    have e8 := eqb h8
    have H8 := Lib.hid h8
    clear h8
    have l1 : w4.cell? ⟨lx, 1, none⟩ = some (.int .i64 (M.wrs p).num) := HL4.out.cell 1
    have hI5 : NrI w (w4.setCell ⟨w.heap.size, 3, none⟩ (.int .i64 (wrap64 (x.n + (M.wrs p).num)))) #[.int .i64 (M.nb : Int), .int .i64 (M.np : Int), .int .i64 (M.ni : Int), .slice A1 M.nb c1, .slice A2 M.np c2, .slice (some ad) M.ni c3] #[.int .i64 x.kind, .int .i64 (p : Int), .int .i64 x.b, .int .i64 (wrap64 (x.n + (M.wrs p).num)), .int .i64 (wrap64 (x.o + (M.wrs p).offset)), .bool x.flag, .bool x.near, .slice L ll lk] #[.int .i64 0, .int .i64 0, .int .i64 0, .int .i64 0, .int .i64 0, .bool false, .bool false, .slice none 0 0] := HI4.out.set 3 (.int .i64 (wrap64 (x.n + (M.wrs p).num)))
    have HI5 := Lib.hid hI5
    clear hI5
    go_upto_region 11 with fail
    generalize w4.setCell ⟨w.heap.size, 3, none⟩ (.int .i64 (wrap64 (x.n + (M.wrs p).num))) = w5 at *
    clear a0 a3 g3 l1
    go_wp2_with (with_reducible refine at_load 43 rfl ?_)
    refine Stop.go (wpList_load_blk (by rfl) 43 _ (by rfl) w.heap.size (by rfl) 43 _ HI5.out.ax _ und43 (by rfl) (by kernel_rfl) ?_)
    go_wp2_with (with_reducible refine at_store 43 rfl ?_)
    refine Stop.go (wpList_store_blk (by rfl) (by rfl) 43 _ _ (by rfl) (w.heap.size + 2) _ #[.int .i64 x.kind, .int .i64 (p : Int), .int .i64 x.b, .int .i64 (wrap64 (x.n + (M.wrs p).num)), .int .i64 (wrap64 (x.o + (M.wrs p).offset)), .bool x.flag, .bool x.near, .slice L ll lk] (by rfl) (by rfl) 43 HI5.out.rx (by rfl) (by kernel_rfl) (by simp [Value.oneCell']) ?_)
    intro w8 hB8 hg8 hs8
    have HB8 := Lib.hid hB8
    have HF : Hid (Below w.heap.size w w8) := Lib.hid (below_grown HI5.out.low hg8 (Nat.le_refl _) (by omega))
    have hxe : x9 = { x with n := (wrap64 (x.n + (M.wrs p).num)), o := (wrap64 (x.o + (M.wrs p).offset)) } := by
      rw [← HX9.out]
      unfold Mt.near
      rw [if_neg HN0.out, if_neg (fun q => N4k.out q.1), if_pos ⟨H6.out, H56.out⟩, if_pos H8.out, HPA.out]
      simp only [Int.toNat_natCast]
    have HXE := Lib.hid hxe
    clear hxe hB8 hg8 hs8
    go_wp2_with fail
    refine bodyPost_ret (results_cell (by rfl) _ _ (w.heap.size + 2) 43 _ (0, 0) _ (by rfl) HB8.out und43 (by rfl) (by kernel_rfl)) rfl ?_
    exact ⟨by rw [HXE.out]; simp only [HPA.out], HF.out⟩
  case neg =>
  have e8 := neb h8
  have H8 := Lib.hid h8
  clear h8
  have l0 : w4.cell? ⟨lx, 0, none⟩ = some (.int .i64 (M.wrs p).session) := HL4.out.cell 0
  have hI5 : NrI w (w4.setCell ⟨w.heap.size, 3, none⟩ (.int .i64 (wrap64 (x.n + (M.wrs p).session)))) #[.int .i64 (M.nb : Int), .int .i64 (M.np : Int), .int .i64 (M.ni : Int), .slice A1 M.nb c1, .slice A2 M.np c2, .slice (some ad) M.ni c3] #[.int .i64 x.kind, .int .i64 (p : Int), .int .i64 x.b, .int .i64 (wrap64 (x.n + (M.wrs p).session)), .int .i64 (wrap64 (x.o + (M.wrs p).offset)), .bool x.flag, .bool x.near, .slice L ll lk] #[.int .i64 0, .int .i64 0, .int .i64 0, .int .i64 0, .int .i64 0, .bool false, .bool false, .slice none 0 0] := HI4.out.set 3 (.int .i64 (wrap64 (x.n + (M.wrs p).session)))
  have HI5 := Lib.hid hI5
  clear hI5
  go_upto_region 11 with fail
  generalize w4.setCell ⟨w.heap.size, 3, none⟩ (.int .i64 (wrap64 (x.n + (M.wrs p).session))) = w5 at *
  clear a0 a3 g3 l0
  go_wp2_with (with_reducible refine at_load 43 rfl ?_)
  refine Stop.go (wpList_load_blk (by rfl) 43 _ (by rfl) w.heap.size (by rfl) 43 _ HI5.out.ax _ und43 (by rfl) (by kernel_rfl) ?_)
  go_wp2_with (with_reducible refine at_store 43 rfl ?_)
  refine Stop.go (wpList_store_blk (by rfl) (by rfl) 43 _ _ (by rfl) (w.heap.size + 2) _ #[.int .i64 x.kind, .int .i64 (p : Int), .int .i64 x.b, .int .i64 (wrap64 (x.n + (M.wrs p).session)), .int .i64 (wrap64 (x.o + (M.wrs p).offset)), .bool x.flag, .bool x.near, .slice L ll lk] (by rfl) (by rfl) 43 HI5.out.rx (by rfl) (by kernel_rfl) (by simp [Value.oneCell']) ?_)
  intro w8 hB8 hg8 hs8
  have HB8 := Lib.hid hB8
  have HF : Hid (Below w.heap.size w w8) := Lib.hid (below_grown HI5.out.low hg8 (Nat.le_refl _) (by omega))
  have hxe : x9 = { x with n := (wrap64 (x.n + (M.wrs p).session)), o := (wrap64 (x.o + (M.wrs p).offset)) } := by
    rw [← HX9.out]
    unfold Mt.near
    rw [if_neg HN0.out, if_neg (fun q => N4k.out q.1), if_pos ⟨H6.out, H56.out⟩, if_neg H8.out, HPA.out]
    simp only [Int.toNat_natCast]
  have HXE := Lib.hid hxe
  clear hxe hB8 hg8 hs8
  go_wp2_with fail
  refine bodyPost_ret (results_cell (by rfl) _ _ (w.heap.size + 2) 43 _ (0, 0) _ (by rfl) HB8.out und43 (by rfl) (by kernel_rfl)) rfl ?_
  exact ⟨by rw [HXE.out]; simp only [HPA.out], HF.out⟩
end
end Go.Proofs.YtpmdicbhliclcaaGreat
