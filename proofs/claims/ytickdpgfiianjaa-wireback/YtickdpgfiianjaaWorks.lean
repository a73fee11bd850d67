/-
  What wire.Frame answers; two entries held against each other; and wire works at all (waystationlaw02.works answers true). Nothing is assumed.
-/
import Derived.Test.YtickdpgfiianjaaRead
import Derived.Laws.StructEq
namespace Go.Proofs.Ytickdpgfiianjaa
open Go.RowKit
def same (a b : Ent) : Bool := a.epoch == b.epoch && (a.id == b.id && (a.num == b.num && (a.seq == b.seq && (a.kind == b.kind && a.value == b.value))))
theorem same_iff (a b : Ent) : same a b = true ↔ a = b := by
  obtain ⟨a1, a2, a3, a4, a5, a6⟩ := a
  obtain ⟨b1, b2, b3, b4, b5, b6⟩ := b
  simp [same]
theorem same_refl (a : Ent) : same a a = true := (same_iff a a).2 rfl
theorem guard38 : Try.prog.eqGuardType Try.prog.depth 38 = false := by kernel_rfl
theorem equalIn38 (a b : Ent) (w : World) : (Op.equalIn 10000 38 (.agg a.cells) (.agg b.cells)).run Try.prog w = .ok (same a b) w := by
  have hS : Try.prog.underlying 38 = some (.struct (Try.prog.fieldsOf 38)) := by kernel_rfl
  have hp : Try.prog.stoodInHeld 38 = false := by kernel_rfl
  rw [show (10000 : Nat) = 9999 + 1 from rfl, run_equalIn_agg w 9999 38 _ _ hS hp]
  have u2 := Try.underlying2
  have u3 := Try.underlying3
  have u36 := Try.underlying36
  have a2 := Try.isAgg2
  have a3 := Try.isAgg3
  have a36 := Try.isAgg36
  have z2 := Try.sizeOf2
  have z3 := Try.sizeOf3
  have z36 := Try.sizeOf36
  simp only [Program.fieldsOf, Try.underlying38, Ent.cells]
  go_simp
  unfold same
  by_cases h1 : a.epoch = b.epoch <;> by_cases h2 : a.id = b.id <;> by_cases h3 : a.num = b.num <;> by_cases h4 : a.seq = b.seq <;> by_cases h5 : a.kind = b.kind <;> by_cases h6 : a.value = b.value <;> simp [h1, h2, h3, h4, h5, h6]
theorem eql38 (a b : Ent) (w : World) : (binOp .eql 38 (.agg a.cells) (.agg b.cells)).run Try.prog w = .ok (.bool (same a b)) w := by
  rw [run_eql_struct, equalIn38]; rfl
theorem neq38 (a b : Ent) (w : World) : (binOp .neq 38 (.agg a.cells) (.agg b.cells)).run Try.prog w = .ok (.bool (!(same a b))) w := by
  rw [run_neq_struct, equalIn38]; rfl
theorem at_new {w : World} {g : Nat} {e : Ent} (h : Blk w g 38 e.cells) : At w ⟨g, 0, none⟩ e := by
  obtain ⟨a, b, c, d, f, i⟩ := h.six
  exact ⟨a, b, c, d, f, i⟩
theorem ents_one {w : World} {g : Nat} {e : Ent} {B : Nat} (h : Blk w g 38 e.cells) (hB : g < B) : Ents w B (some ⟨g, 0, none⟩) 1 [e] := by
  refine ⟨rfl, fun _ => ⟨_, rfl, hB, fun i x hx => ?_⟩⟩
  match i, hx with
  | 0, hx =>
    simp at hx
    subst hx
    exact at_new h
  | i + 1, hx => simp at hx
/-- What is known behind wire.Frame. -/
def FrameOf (w : World) (e : Ent) (r : Ending) (w' : World) : Prop :=
  Below w.heap.size w w' ∧ ((Right e ∧ ∃ v, r = .returned (.tuple #[v, .int .i64 0]) ∧ Own w' w.heap.size v (frame e)) ∨ (¬ Right e ∧ r = .returned (.tuple #[.slice none 0 0, .int .i64 2])))
theorem allRight_one {e : Ent} : AllRight [e] ↔ Right e := ⟨fun h => h e (by simp), fun h x hx => by simp at hx; subst hx; exact h⟩
theorem frames_one (e : Ent) : frames [e] = frame e := by show frame e ++ [] = _; rw [List.append_nil]
set_option maxRecDepth 100000 in
set_option maxHeartbeats 1000000 in
theorem frameOf_any (e : Ent) (w : World) : Calls Try.prog 25 #[e.val] w (FrameOf w e) := by
  unfold Ent.val Ent.cells
  go_enter Try.func25, Try.ntmps25
  go_wp2_with fail
  have h2 : Blk ((w.alloc (.cells e.cells 38)).alloc (.cells e.cells 38)) (w.heap.size + 1) 38 e.cells := blk_new _ 38 _ (by simp)
  have hb2 : Below w.heap.size w ((w.alloc (.cells e.cells 38)).alloc (.cells e.cells 38)) := ((Below.refl _ _).alloc (Nat.le_refl _) _).alloc (le_alloc (Nat.le_refl _) _) _
  have hz2 : w.heap.size ≤ ((w.alloc (.cells e.cells 38)).alloc (.cells e.cells 38)).heap.size := hb2.size
  unfold Ent.cells at h2 hb2 hz2
  generalize (w.alloc (.cells #[.int .i64 e.epoch, .int .i64 e.id, .int .i64 e.num, .int .i64 e.seq, .int .i64 e.kind, .int .i64 e.value] 38)).alloc (.cells #[.int .i64 e.epoch, .int .i64 e.id, .int .i64 e.num, .int .i64 e.seq, .int .i64 e.kind, .int .i64 e.value] 38) = w2 at *
  refine (frames_any _ 1 _ [e] w2 (ents_one h2 h2.lt) (by omega)).mono ?_
  rintro r w3 ⟨hb3, ⟨hR, v, rfl, ho⟩ | ⟨hR, rfl⟩⟩
  · have hb4 := hb2.trans (hb3.mono hz2)
    rw [frames_one] at ho
    clear h2 hb2 hb3
    go_wp2_with fail
    go_ret2
    exact ⟨hb4, .inl ⟨allRight_one.1 hR, v, rfl, ho.mono hz2⟩⟩
  · have hb4 := hb2.trans (hb3.mono hz2)
    clear h2 hb2 hb3
    go_wp2_with fail
    go_ret2
    exact ⟨hb4, .inr ⟨fun h => hR (allRight_one.2 h), rfl⟩⟩
theorem num_any (n : Int) (w : World) : Calls Try.prog 17 #[.int .i64 n] w fun e w' => e = .returned (.int .i64 n) ∧ w = w' := by
  go_enter Try.func17, Try.ntmps17
  go_wp2
  go_ret
  exact ⟨rfl, rfl⟩
def x0 : Ent := ⟨2, 3, 300, 1, 1, -5⟩
theorem right_x0 : Right x0 := by decide
theorem len_x0 : (frame x0).length = 12 := by decide +kernel
theorem at_x0 : (frame x0)[6]? = some 2 := by decide +kernel
theorem rd_x0 : rd (frame x0) = .ok x0 12 := by
  have := rd_frame x0 right_x0 []
  rwa [List.append_nil, len_x0] at this
theorem rd_y0 : rd ((frame x0).set 6 3) = .err 110 := by decide +kernel
theorem Own.row {w : World} {base : Nat} {A : Option Addr} {n c : Nat} {l : List UInt8} (h : Own w base (.slice A n c) l) (h0 : 0 < n) : ∃ g, A = some ⟨g, 0, none⟩ ∧ base ≤ g ∧ g < w.heap.size ∧ n = l.length ∧ n ≤ c ∧ (∀ (i : Nat) (u : UInt8), l[i]? = some u → w.cell? ⟨g, i, none⟩ = some (.int .u8 (u.toNat : Int)) ∧ w.frozen? ⟨g, i, none⟩ = false) := by
  rcases h.2 with ⟨e, _⟩ | ⟨g, cap, cur, e, hg, hh, h1, h2, h3, h4⟩
  · injection e with _ e2 e3; omega
  · injection e with e1 e2 e3
    subst e1 e2 e3
    have hlt : g < w.heap.size := by
      rcases Nat.lt_or_ge g w.heap.size with hl | hge
      · exact hl
      · rw [Array.getElem?_eq_none hge] at hh; cases hh
    refine ⟨g, rfl, hg, hlt, rfl, h1, fun i u hu => ⟨?_, by simp [World.frozen?, hh]⟩⟩
    rw [cell_of_row w g i cur 5 (0, 0) hh]
    have h5 := congrArg (fun z => z[i]?) h4
    simp only [Nat.mul_one, List.getElem?_map, hu, Option.map_some] at h5
    rw [List.getElem?_take] at h5
    split at h5
    · rw [Array.getElem?_toList] at h5; exact h5
    · cases h5
theorem own_set {w : World} {base g n c : Nat} {l : List UInt8} (h : Own w base (.slice (some ⟨g, 0, none⟩) n c) l) (i : Nat) (u : UInt8) : Own (w.setCell ⟨g, i, none⟩ (.int .u8 (u.toNat : Int))) base (.slice (some ⟨g, 0, none⟩) n c) (l.set i u) := by
  rcases h.2 with ⟨e, _⟩ | ⟨g', cap, cur, e, hg, hh, h1, h2, h3, h4⟩
  · cases e
  · injection e with e1 e2 e3
    injection e1 with e1
    injection e1 with e1
    subst e1 e2 e3
    refine ⟨by simp, .inr ⟨g, c, cur.setIfInBounds i (.int .u8 (u.toNat : Int)), by simp, hg, ?_, by simpa using h1, h2, by simpa using h3, ?_⟩⟩
    · simp [World.setCell, Array.getElem?_modify, hh]
    · rw [List.length_set, Array.toList_setIfInBounds, List.take_set, h4, List.map_set]
      rfl
set_option maxRecDepth 100000 in
set_option maxHeartbeats 2000000 in
theorem works_any (w : World) : Calls Try.prog 14 #[] w fun e w' => e = .returned (.bool true) ∧ Below w.heap.size w w' := by
  have hgd := guard38
  have hq : ∀ W, (binOp .neq 38 (.agg #[.int .i64 2, .int .i64 3, .int .i64 300, .int .i64 1, .int .i64 1, .int .i64 (-5)]) (.agg #[.int .i64 2, .int .i64 3, .int .i64 300, .int .i64 1, .int .i64 1, .int .i64 (-5)])).run Try.prog W = .ok (.bool false) W := fun W => by
    have := neq38 x0 x0 W
    rwa [same_refl] at this
  go_enter Try.func14, Try.ntmps14
  go_wp2_with fail
  have h0 : Blk (w.alloc (.cells x0.cells 38)) w.heap.size 38 x0.cells := Blk.new _ _ _
  have hb0 : Below w.heap.size w (w.alloc (.cells x0.cells 38)) := (Below.refl _ _).alloc (Nat.le_refl _) _
  have hz0 : w.heap.size < (w.alloc (.cells x0.cells 38)).heap.size := by simp
  rw [show x0.cells = #[.int .i64 2, .int .i64 3, .int .i64 300, .int .i64 1, .int .i64 1, .int .i64 (-5)] from rfl] at h0 hb0 hz0
  generalize w.alloc (.cells #[.int .i64 2, .int .i64 3, .int .i64 300, .int .i64 1, .int .i64 1, .int .i64 (-5)] 38) = w0 at *
  refine (frameOf_any x0 w0).mono ?_
  rintro r w1 ⟨hb1, ⟨_, v, rfl, ho1⟩ | ⟨hR, _⟩⟩
  case inr => exact absurd right_x0 hR
  obtain ⟨A1, c1, rfl, hc1⟩ := ho1.form
  rw [len_x0] at ho1 hc1 ⊢
  obtain ⟨g, rfl, hg1, hg2, -, hgc, hcell⟩ := ho1.row (by omega)
  have hz1 := hb1.size
  have hx1 := h0.below hb1 (by omega)
  have hbw1 := hb0.trans (hb1.mono (by omega))
  clear hcell h0 hb0 hb1
  go_wp2_with fail
  refine (read_any _ 12 c1 (frame x0) w1 ho1.bys hgc (by omega)).mono ?_
  rintro r w2 ⟨rfl, hb2⟩
  have ho2 := ho1.below hb2 (Nat.le_refl _)
  have hz2 := hb2.size
  have hx2 := hx1.below hb2 (by omega)
  have hbw2 := hbw1.trans (hb2.mono (by omega))
  clear ho1 hx1 hbw1 hb2
  rw [rd_x0]
  have hx3 : Blk (w2.alloc (.cells #[.int .i64 2, .int .i64 3, .int .i64 300, .int .i64 1, .int .i64 1, .int .i64 (-5)] 38)) w.heap.size 38 x0.cells := hx2.alloc _
  have ho3 := ho2.alloc (.cells #[.int .i64 2, .int .i64 3, .int .i64 300, .int .i64 1, .int .i64 1, .int .i64 (-5)] 38)
  have hbw3 := hbw2.alloc (by omega) (.cells #[.int .i64 2, .int .i64 3, .int .i64 300, .int .i64 1, .int .i64 1, .int .i64 (-5)] 38)
  obtain ⟨s0, s1, s2, s3, s4, s5⟩ := hx3.six
  have hs3 : w2.heap.size < (w2.alloc (.cells #[.int .i64 2, .int .i64 3, .int .i64 300, .int .i64 1, .int .i64 1, .int .i64 (-5)] 38)).heap.size := by simp
  have hy3 : Blk (w2.alloc (.cells #[.int .i64 2, .int .i64 3, .int .i64 300, .int .i64 1, .int .i64 1, .int .i64 (-5)] 38)) w2.heap.size 38 x0.cells := Blk.new _ _ _
  obtain ⟨_, e3, -, -, -, -, hcell⟩ := ho3.row (by omega)
  injection e3 with e3
  injection e3 with e3
  subst e3
  obtain ⟨u0, u1⟩ := hcell 6 2 at_x0
  have ho4 : Own ((w2.alloc (.cells #[.int .i64 2, .int .i64 3, .int .i64 300, .int .i64 1, .int .i64 1, .int .i64 (-5)] 38)).setCell ⟨g, 6, none⟩ (.int .u8 3)) w0.heap.size (.slice (some ⟨g, 0, none⟩) 12 c1) ((frame x0).set 6 3) := own_set ho3 6 3
  have hbw4 := hbw3.setCell (p := ⟨g, 6, none⟩) (by show w.heap.size ≤ g; omega) (.int .u8 3)
  simp only [rdEnt, rdLen, rdErr, Ent.val, x0] at s0 s1 s2 s3 s4 s5 ⊢
  clear hcell hx3 hx2 ho2 hbw2 hy3
  unfold Ent.cells
  simp only
  go_wp2_with (go_at_call 17; refine (num_any _ _).mono ?_; rintro e w' ⟨rfl, rfl⟩)
  clear s0 s1 s2 s3 s4 s5 u0 u1 ho3 hbw3 hq
  rw [show bits .xor .u8 2 1 = 3 from by decide]
  generalize (w2.alloc (.cells #[.int .i64 2, .int .i64 3, .int .i64 300, .int .i64 1, .int .i64 1, .int .i64 (-5)] 38)).setCell ⟨g, 6, none⟩ (.int .u8 3) = w4 at *
  refine (read_any _ 12 c1 ((frame x0).set 6 3) w4 ho4.bys hgc (by omega)).mono ?_
  rintro r w5 ⟨rfl, hb5⟩
  rw [rd_y0]
  have hbw5 := hbw4.trans (hb5.mono hbw4.size)
  have hz5 := hbw5.size
  simp only [rdEnt, rdLen, rdErr, Ent.val, Ent.none_]
  unfold Ent.cells
  simp only
  clear ho4 hbw4 hb5
  go_wp2_with (go_at_call 17; refine (num_any _ _).mono ?_; rintro e w' ⟨rfl, rfl⟩)
  go_ret
  exact ⟨rfl, hbw5.alloc hz5 _⟩
end Go.Proofs.Ytickdpgfiianjaa
