/-
  The document's New and Flush; results of which one lies in a cell.
-/
import Derived.Test.YthhiiimmgghhaaaRefD
namespace Go.Proofs.Ythhiiimmgghhaaa
open Go.RowKit
theorem results_ct {P : Program} {fn : Func} {p u : Tmp} {ty : TypeId} (h : fn.results = #[.cell p ty, .tmp u]) (tmps : Array Value) (w : World) (g : Nat) (t : TypeId) (cs : Array Value) (fr : Nat × Nat) (d : TypeDesc)
    (hp : tmps.getD p undef = .pointer (some ⟨g, 0, none⟩)) (hg : w.heap[g]? = some (.cells cs t fr))
    (hu : P.underlying ty = some d) (hd : (match d with | .struct _ | .array _ _ => true | _ => false) = true) (hi : (P.info? ty).map (·.size) = some cs.size) {x : Value} (hx : tmps.getD u undef = x) :
    (results fn tmps).run P w = .ok (.tuple #[.agg cs, x]) w := by
  subst hx
  have hp' : tmps[p]?.getD undef = .pointer (some ⟨g, 0, none⟩) := by simpa using hp
  simp [results, h, hp', asAddr, run_loadVar_row w g t ty cs fr d hg hu hd hi]
theorem results_tct {P : Program} {fn : Func} {p u v : Tmp} {ty : TypeId} (h : fn.results = #[.tmp v, .cell p ty, .tmp u]) (tmps : Array Value) (w : World) (g : Nat) (t : TypeId) (cs : Array Value) (fr : Nat × Nat) (d : TypeDesc)
    (hp : tmps.getD p undef = .pointer (some ⟨g, 0, none⟩)) (hg : w.heap[g]? = some (.cells cs t fr))
    (hu : P.underlying ty = some d) (hd : (match d with | .struct _ | .array _ _ => true | _ => false) = true) (hi : (P.info? ty).map (·.size) = some cs.size) {x y : Value} (hx : tmps.getD u undef = x) (hy : tmps.getD v undef = y) :
    (results fn tmps).run P w = .ok (.tuple #[y, .agg cs, x]) w := by
  subst hx hy
  have hp' : tmps[p]?.getD undef = .pointer (some ⟨g, 0, none⟩) := by simpa using hp
  simp [results, h, hp', asAddr, run_loadVar_row w g t ty cs fr d hg hu hd hi]
theorem RDAt.blank (w : World) (X : Nat → Prop) (room : Nat) : RDAt w X ⟨room, [], []⟩ #[.int .i64 (room : Int), .slice none 0 0, .slice none 0 0] :=
  ⟨none, 0, 0, none, 0, 0, rfl, RFs.nil, Nat.le_refl _, Nat.zero_le _, RTs.nil, Nat.le_refl _, Nat.zero_le _⟩
/-- A disk of the document's, made anew, and a number. -/
def NewRD (w : World) (X : Nat → Prop) (d : RDk) (no : Int) (e : Ending) (w' : World) : Prop := ∃ cs, e = .returned (.tuple #[.agg cs, .int .i64 no]) ∧ RDAt w' X d cs ∧ Below w.heap.size w w'
set_option maxRecDepth 100000 in
set_option maxHeartbeats 4000000 in
theorem refNew_no {w : World} (X : Nat → Prop) {room : Int} (h : room < 1 ∨ 16777216 < room) : Calls Try.prog 13 #[.int .i64 room] w (NewRD w X ⟨0, [], []⟩ 2) := by
  go_enter Try.func13, Try.ntmps13
  have b0 : Blk (w.alloc (.cells #[.int .i64 0, .slice none 0 0, .slice none 0 0] 29)) w.heap.size 29 #[.int .i64 0, .slice none 0 0, .slice none 0 0] := Blk.new _ _ _
  have hb0 : Below w.heap.size w (w.alloc (.cells #[.int .i64 0, .slice none 0 0, .slice none 0 0] 29)) := (Below.refl _ _).alloc (Nat.le_refl _) _
  by_cases h1 : room < 1
  · have hd : decide (room < 1) = true := by simpa using h1
    go_wp2_with (with_reducible refine at_store 29 rfl ?_)
    refine Stop.go (wpList_store_blk (by rfl) (by rfl) 29 _ _ (by rfl) w.heap.size _ #[.int .i64 0, .slice none 0 0, .slice none 0 0] (by rfl) (by rfl) 29 b0 (by rfl) (info29 _ rfl) (by simp [Value.oneCell']) ?_)
    intro w2 f2 g2 s2
    go_wp2_with fail
    refine bodyPost_ret (v := .tuple #[.agg #[.int .i64 0, .slice none 0 0, .slice none 0 0], .int .i64 2]) (results_ct (by rfl) _ _ w.heap.size 29 _ (0, 0) _ (by rfl) f2 Try.underlying29 (by rfl) (info29 _ rfl) (by rfl)) rfl ?_
    exact ⟨_, rfl, RDAt.blank _ _ 0, below_grown hb0 g2 (Nat.le_refl _) (Nat.le_refl _)⟩
  · have hd : decide (room < 1) = false := by simpa using h1
    have h2 : 16777216 < room := h.resolve_left h1
    have hd2 : decide (16777216 < room) = true := by simpa using h2
    go_wp2_with (with_reducible refine at_store 29 rfl ?_)
    refine Stop.go (wpList_store_blk (by rfl) (by rfl) 29 _ _ (by rfl) w.heap.size _ #[.int .i64 0, .slice none 0 0, .slice none 0 0] (by rfl) (by rfl) 29 b0 (by rfl) (info29 _ rfl) (by simp [Value.oneCell']) ?_)
    intro w2 f2 g2 s2
    go_wp2_with fail
    refine bodyPost_ret (v := .tuple #[.agg #[.int .i64 0, .slice none 0 0, .slice none 0 0], .int .i64 2]) (results_ct (by rfl) _ _ w.heap.size 29 _ (0, 0) _ (by rfl) f2 Try.underlying29 (by rfl) (info29 _ rfl) (by rfl)) rfl ?_
    exact ⟨_, rfl, RDAt.blank _ _ 0, below_grown hb0 g2 (Nat.le_refl _) (Nat.le_refl _)⟩
set_option maxRecDepth 100000 in
set_option maxHeartbeats 4000000 in
theorem refNew_yes {w : World} (X : Nat → Prop) {room : Nat} (h1 : 1 ≤ room) (h2 : room ≤ 16777216) : Calls Try.prog 13 #[.int .i64 (room : Int)] w (NewRD w X ⟨room, [], []⟩ 0) := by
  go_enter Try.func13, Try.ntmps13
  have b0 : Blk (w.alloc (.cells #[.int .i64 0, .slice none 0 0, .slice none 0 0] 29)) w.heap.size 29 #[.int .i64 0, .slice none 0 0, .slice none 0 0] := Blk.new _ _ _
  have hb0 : Below w.heap.size w (w.alloc (.cells #[.int .i64 0, .slice none 0 0, .slice none 0 0] 29)) := (Below.refl _ _).alloc (Nat.le_refl _) _
  have hd : decide ((room : Int) < 1) = false := by simp; omega
  have hd2 : decide ((16777216 : Int) < room) = false := by simp; omega
  go_wp2_with (with_reducible refine at_store 29 rfl ?_)
  refine Stop.go (wpList_store_blk (by rfl) (by rfl) 29 _ _ (by rfl) w.heap.size _ #[.int .i64 (room : Int), .slice none 0 0, .slice none 0 0] (by rfl) (by rfl) 29 b0 (by rfl) (info29 _ rfl) (by simp [Value.oneCell']) ?_)
  intro w2 f2 g2 s2
  go_wp2_with fail
  refine bodyPost_ret (v := .tuple #[.agg #[.int .i64 (room : Int), .slice none 0 0, .slice none 0 0], .int .i64 0]) (results_ct (by rfl) _ _ w.heap.size 29 _ (0, 0) _ (by rfl) f2 Try.underlying29 (by rfl) (info29 _ rfl) (by rfl)) rfl ?_
  exact ⟨_, rfl, RDAt.blank _ _ room, below_grown hb0 g2 (Nat.le_refl _) (Nat.le_refl _)⟩
def RDk.flush (d : RDk) : RDk := ⟨d.room, d.st.files, []⟩
set_option maxRecDepth 100000 in
set_option maxHeartbeats 4000000 in
theorem refFlush_any {w : World} {X : Nat → Prop} {d : RDk} {cs : Array Value} (h : RDAt w X d cs) (hX : ∀ b, X b → b < w.heap.size) (hok : d.ok) :
    Calls Try.prog 37 #[.agg cs] w fun e w' => ∃ cs', e = .returned (.agg cs') ∧ RDAt w' X d.flush cs' ∧ Below w.heap.size w w' := by
  have HO := Lib.hid hok
  have HX := Lib.hid hX
  have HD := Lib.hid h
  obtain ⟨A, n, c, B, m, k0, rfl, -, -, -, -, -, -⟩ := h
  clear hok hX
  go_enter Try.func37, Try.ntmps37
  have b0 : Blk ((w.alloc (.cells #[.int .i64 (d.room : Int), .slice A n c, .slice B m k0] 29)).alloc (.cells #[.int .i64 0, .slice none 0 0, .slice none 0 0] 29)) w.heap.size 29 #[.int .i64 (d.room : Int), .slice A n c, .slice B m k0] := (Blk.new _ _ _).alloc _
  have c0 : Blk ((w.alloc (.cells #[.int .i64 (d.room : Int), .slice A n c, .slice B m k0] 29)).alloc (.cells #[.int .i64 0, .slice none 0 0, .slice none 0 0] 29)) (w.heap.size + 1) 29 #[.int .i64 0, .slice none 0 0, .slice none 0 0] := by
    have := Blk.new (w.alloc (.cells #[.int .i64 (d.room : Int), .slice A n c, .slice B m k0] 29)) 29 #[.int .i64 0, .slice none 0 0, .slice none 0 0]
    rwa [World.size_alloc] at this
  have hb0 : Below w.heap.size w ((w.alloc (.cells #[.int .i64 (d.room : Int), .slice A n c, .slice B m k0] 29)).alloc (.cells #[.int .i64 0, .slice none 0 0, .slice none 0 0] 29)) := ((Below.refl _ _).alloc (Nat.le_refl _) _).alloc (by simp) _
  go_wp2_with fail
  generalize (w.alloc (.cells #[.int .i64 (d.room : Int), .slice A n c, .slice B m k0] 29)).alloc (.cells #[.int .i64 0, .slice none 0 0, .slice none 0 0] 29) = w1 at *
  refine (refFiles_any (X := fun b => X b ∨ b = w.heap.size ∨ b = w.heap.size + 1) ((HD.out.wide (fun b hb e => e.elim id (fun e => by omega))).below hb0) (fun b hb => hb.elim (fun hb => Nat.lt_of_lt_of_le (HX.out b hb) hb0.size) (fun e => e.elim (fun e => e ▸ b0.lt) (fun e => e ▸ c0.lt))) HO.out).mono ?_
  rintro e w2 ⟨A2, q2, c2, rfl, hr2, hqc2, hcm2, hb2⟩
  have HR2 := Lib.hid hr2
  have b2 := b0.below hb2 b0.lt
  have d2 := c0.below hb2 c0.lt
  have hbl2 := hb0.trans (hb2.mono hb0.size)
  clear hr2 b0 c0 hb0 hb2
  have x0 := b2.cell 0
  have x1 := b2.cell 1
  have x2 := b2.cell 2
  have f1 := b2.frozen 1
  have f2 := b2.frozen 2
  simp at x0 x1 x2
  go_wp2_with (with_reducible refine at_store 29 rfl ?_)
  have d4 : Blk ((w2.setCell ⟨w.heap.size, 1, none⟩ (.slice A2 q2 c2)).setCell ⟨w.heap.size, 2, none⟩ (.slice none 0 0)) (w.heap.size + 1) 29 #[.int .i64 0, .slice none 0 0, .slice none 0 0] :=
    (Below.heap_setCell _ ⟨w.heap.size, 2, none⟩ _ (w.heap.size + 1) (by simp)).trans ((Below.heap_setCell _ ⟨w.heap.size, 1, none⟩ _ (w.heap.size + 1) (by simp)).trans d2)
  have hbl4 : Below w.heap.size w ((w2.setCell ⟨w.heap.size, 1, none⟩ (.slice A2 q2 c2)).setCell ⟨w.heap.size, 2, none⟩ (.slice none 0 0)) := (hbl2.setCell (p := ⟨w.heap.size, 1, none⟩) (Nat.le_refl _) _).setCell (p := ⟨w.heap.size, 2, none⟩) (Nat.le_refl _) _
  have hT4 : Turn (fun b => b = w.heap.size ∨ b = w.heap.size + 1) w2 ((w2.setCell ⟨w.heap.size, 1, none⟩ (.slice A2 q2 c2)).setCell ⟨w.heap.size, 2, none⟩ (.slice none 0 0)) := ((Turn.refl (fun b => b = w.heap.size ∨ b = w.heap.size + 1) _).setCell (p := ⟨w.heap.size, 1, none⟩) (fun _ => .inl rfl) _).setCell (p := ⟨w.heap.size, 2, none⟩) (fun _ => .inl rfl) _
  refine Stop.go (wpList_store_blk (by rfl) (by rfl) 29 _ _ (by rfl) (w.heap.size + 1) _ #[.int .i64 (d.room : Int), .slice A2 q2 c2, .slice none 0 0] (by rfl) (by rfl) 29 d4 (by rfl) (info29 _ rfl) (by simp [Value.oneCell']) ?_)
  intro w5 f5 g5 s5
  go_wp2_with fail
  refine bodyPost_ret (v := .agg #[.int .i64 (d.room : Int), .slice A2 q2 c2, .slice none 0 0]) (results_cell_row (by rfl) _ _ (w.heap.size + 1) 29 _ (0, 0) _ (by rfl) f5 Try.underlying29 (by rfl) (info29 _ rfl)) rfl ?_
  have hT5 := hT4.trans (Turn.of_grown (S := fun b => b = w.heap.size ∨ b = w.heap.size + 1) g5 (fun r e => by cases e; exact .inr rfl)) (fun _ _ e => e)
  exact ⟨_, rfl, ⟨A2, q2, c2, none, 0, 0, rfl, (HR2.out.keep hT5 (fun b _ e => .inr e)).wide (fun _ _ e => .inl e), hqc2, hcm2, RTs.nil, Nat.le_refl _, Nat.zero_le _⟩, below_grown hbl4 g5 (Nat.le_refl _) (Nat.le_succ _)⟩
end Go.Proofs.Ythhiiimmgghhaaa
