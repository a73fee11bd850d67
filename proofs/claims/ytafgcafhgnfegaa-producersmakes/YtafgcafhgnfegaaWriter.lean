/-
  What a table tells of an ID. Nothing is assumed.
-/
import Derived.Test.YtafgcafhgnfegaaTold
namespace Go.Proofs.Ytafgcafhgnfegaa
open Go.RowKit Go.Maps
set_option linter.unusedVariables false
theorem results_ct {P : Program} {fn : Func} {p u : Tmp} {ty : TypeId} (h : fn.results = #[.cell p ty, .tmp u]) (tmps : Array Value) (w : World) (g : Nat) (t : TypeId) (cs : Array Value) (fr : Nat × Nat) (d : TypeDesc)
    (hp : tmps.getD p undef = .pointer (some ⟨g, 0, none⟩)) (hg : w.heap[g]? = some (.cells cs t fr))
    (hu : P.underlying ty = some d) (hd : (match d with | .struct _ | .array _ _ => true | _ => false) = true) (hi : (P.info? ty).map (·.size) = some cs.size) {x : Value} (hx : tmps.getD u undef = x) :
    (results fn tmps).run P w = .ok (.tuple #[.agg cs, x]) w := by
  subst hx
  have hp' : tmps[p]?.getD undef = .pointer (some ⟨g, 0, none⟩) := by simpa using hp
  simp [results, h, hp', asAddr, run_loadVar_row w g t ty cs fr d hg hu hd hi]
section
variable {w w' : World} {g : Nat} {l : List Ent} {S : Nat → Prop} {e : Ent}
def zero41 : Array Value := #[.int .i64 0, .int .i64 0, .int .i64 0, .slice none 0 0]
set_option maxRecDepth 100000 in
theorem writer_nil (id : Int) (w : World) : Calls Try.prog 20 #[.pointer none, .int .i64 id] w fun r w' => r = .returned (.tuple #[.agg zero41, .int .i64 1]) ∧ Below w.heap.size w w' := by
  have hB := Blk.new w 41 zero41
  have hb := (Below.refl w.heap.size w).alloc (Nat.le_refl _) (.cells zero41 41)
  have HB := Lib.hid (And.intro hB hb)
  clear hB hb
  unfold zero41 at *
  go_enter Try.func20, Try.ntmps20
  go_wp2_with fail
  refine (there_no _).mono ?_
  rintro r w1 ⟨rfl, rfl⟩
  go_wp2_with fail
  exact bodyPost_ret (v := .tuple #[.agg #[.int .i64 0, .int .i64 0, .int .i64 0, .slice none 0 0], .int .i64 1]) (results_ct (by rfl) _ _ w.heap.size 41 _ (0, 0) _ (by rfl) HB.out.1 Try.underlying41 (by rfl) (by kernel_rfl) (by rfl)) rfl ⟨rfl, HB.out.2⟩
set_option maxRecDepth 100000 in
theorem writer_no (h : Tb w S g l) {id : Int} (hid : id < 0 ∨ 3 < id) : Calls Try.prog 20 #[.pointer (some ⟨g, 0, none⟩), .int .i64 id] w fun r w' => r = .returned (.tuple #[.agg zero41, .int .i64 2]) ∧ Below w.heap.size w w' := by
  obtain ⟨⟨v, mp, h1, h2, h4, h3⟩, hr, hl⟩ := h
  obtain ⟨c0, c21⟩ := h1.cellv
  have hg := h1.blk.lt
  have hB := Blk.new w 41 zero41
  have hb := (Below.refl w.heap.size w).alloc (Nat.le_refl _) (.cells zero41 41)
  have c21' := (hb.cell (p := ⟨g, 21, none⟩) hg).trans c21
  have HB := Lib.hid (And.intro hB hb)
  have HC := Lib.hid c21'
  clear hB hb h1 h2 h4 h3 c0 c21 c21'
  unfold zero41 at *
  by_cases h0 : id < 0
  · have hd : decide (id < 0) = true := by simpa using h0
    clear hid
    go_enter Try.func20, Try.ntmps20
    go_wp2_with fail
    refine (there_yes HC.out).mono ?_
    rintro r w1 ⟨rfl, rfl⟩
    go_wp2_with fail
    exact bodyPost_ret (v := .tuple #[.agg #[.int .i64 0, .int .i64 0, .int .i64 0, .slice none 0 0], .int .i64 2]) (results_ct (by rfl) _ _ w.heap.size 41 _ (0, 0) _ (by rfl) HB.out.1 Try.underlying41 (by rfl) (by kernel_rfl) (by rfl)) rfl ⟨rfl, HB.out.2⟩
  · have hd : decide (id < 0) = false := by simpa using h0
    have hd2 : decide (4 ≤ id) = true := by simpa using (by omega : 4 ≤ id)
    clear hid
    go_enter Try.func20, Try.ntmps20
    go_wp2_with fail
    refine (there_yes HC.out).mono ?_
    rintro r w1 ⟨rfl, rfl⟩
    go_wp2_with fail
    exact bodyPost_ret (v := .tuple #[.agg #[.int .i64 0, .int .i64 0, .int .i64 0, .slice none 0 0], .int .i64 2]) (results_ct (by rfl) _ _ w.heap.size 41 _ (0, 0) _ (by rfl) HB.out.1 Try.underlying41 (by rfl) (by kernel_rfl) (by rfl)) rfl ⟨rfl, HB.out.2⟩
/-- What is known behind Writer. -/
def WritP (w : World) (x : Wr) (e : Ending) (w' : World) : Prop :=
  ∃ A c, e = .returned (.tuple #[.agg #[.int .i64 x.high, .int .i64 x.next, .int .i64 x.marked, .slice A x.opens.length c], .int .i64 0]) ∧ OwnK w' 54 2 (.slice A x.opens.length c) (opsOf x.opens) ∧ (∀ b, Value.ownBlock (.slice A x.opens.length c) = some b → w.heap.size ≤ b) ∧ Below w.heap.size w w'
set_option maxRecDepth 100000 in
set_option maxHeartbeats 1000000 in
theorem writer_yes (h : Tb w S g l) {i : Nat} (hi : i < 4) : Calls Try.prog 20 #[.pointer (some ⟨g, 0, none⟩), .int .i64 (i : Int)] w (WritP w (wr (i : Int) l)) := by
  obtain ⟨⟨v, mp, h1, h2, h4, h3⟩, hr, hl⟩ := h
  have hb := (Below.refl w.heap.size w).alloc (Nat.le_refl _) (.cells zero41 41)
  have hX := h1.keepB (w' := w.alloc (.cells zero41 41)) fun b hb' => hb.block b (h1.lt hb')
  obtain ⟨-, c21⟩ := hX.cellv
  obtain ⟨c0, c1, c2, c3, c4⟩ := hX.cells hi
  have ht := told_any (off := 1 + i * 5) c0 c1 c2 c3 (hX.om i hi) (wr_ordered _ l)
  have hB := Blk.new w 41 zero41
  have HB := Lib.hid (And.intro hB hb)
  have HC := Lib.hid c21
  have HT := Lib.hid ht
  clear hB hb h1 h2 h4 h3 c0 c1 c2 c3 c4 c21 ht hX
  generalize wr (i : Int) l = x at *
  have hd : decide ((i : Int) < 0) = false := by simp
  have hd2 : decide ((4 : Int) ≤ (i : Int)) = false := decide_eq_false (by omega)
  have hi4 : (i : Int) < 4 := by omega
  unfold zero41 at *
  go_enter Try.func20, Try.ntmps20
  go_wp2_with fail
  refine (there_yes HC.out).mono ?_
  rintro r w1 ⟨rfl, rfl⟩
  go_wp2_with fail
  refine HT.out.mono ?_
  rintro r w2 ⟨A, c, rfl, ho, hv, hb2⟩
  have hB2 := HB.out.1.below hb2 HB.out.1.lt
  have HB2 := Lib.hid (HB.out.2.trans (hb2.mono HB.out.2.size))
  have HO := Lib.hid (And.intro ho hv)
  clear ho hv hb2
  go_wp2_with (with_reducible refine at_store 41 rfl ?_)
  refine Stop.go (wpList_store_blk (by rfl) (by rfl) 41 _ _ (by rfl) w.heap.size _ #[.int .i64 x.high, .int .i64 x.next, .int .i64 x.marked, .slice A x.opens.length c] (by rfl) (by rfl) 41 hB2 (by rfl) (by kernel_rfl) (by simp [Value.oneCell']) ?_)
  intro w3 f3 g3 s3
  have HF : Hid (WritP w x (.returned (.tuple #[.agg #[.int .i64 x.high, .int .i64 x.next, .int .i64 x.marked, .slice A x.opens.length c], .int .i64 0])) w3) := Lib.hid
    ⟨A, c, rfl, HO.out.1.keepB (fun b eb => g3.block b (HO.out.1.lt eb) (fun q => by injection q with q; have := HO.out.2 b eb; simp at this; omega)), fun b eb => by have := HO.out.2 b eb; simp at this; omega, below_grown HB2.out g3 (Nat.le_refl _) (Nat.le_refl _)⟩
  have HF3 := Lib.hid f3
  clear f3 g3 s3 hB2
  go_wp2_with fail
  exact bodyPost_ret (v := .tuple #[.agg #[.int .i64 x.high, .int .i64 x.next, .int .i64 x.marked, .slice A x.opens.length c], .int .i64 0]) (results_ct (by rfl) _ _ w.heap.size 41 _ (0, 0) _ (by rfl) HF3.out Try.underlying41 (by rfl) (by kernel_rfl) (by rfl)) rfl HF.out
end
end Go.Proofs.Ytafgcafhgnfegaa
