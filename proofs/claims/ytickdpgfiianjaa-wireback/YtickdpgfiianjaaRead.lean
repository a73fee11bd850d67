/-
  What wire.Read answers: the entry with which bytes begin, or why there is none. Condition: fewer than 1000000 bytes.
-/
import Derived.Test.YtickdpgfiianjaaFrame
import Derived.Test.YtickdpgfiianjaaAttempt
import Derived.StillTailTactics
namespace Go.Proofs.Ytickdpgfiianjaa
open Go.RowKit
def rdEnt : Rd → Ent
  | .ok e _ => e
  | .err _ => Ent.none_
def rdLen : Rd → Nat
  | .ok _ k => k
  | .err _ => 0
def rdErr : Rd → Nat
  | .ok _ _ => 0
  | .err c => c
theorem six_far {w1 : World} {g p1 : Nat} {t : TypeId} {cs : Array Value} (h : Blk w1 g t cs) (hp : g ≠ p1) (x : Ent) : Blk ((((((w1.setCell ⟨p1, 0, none⟩ (.int .i64 x.epoch)).setCell ⟨p1, 1, none⟩ (.int .i64 x.id)).setCell ⟨p1, 2, none⟩ (.int .i64 x.num)).setCell ⟨p1, 3, none⟩ (.int .i64 x.seq)).setCell ⟨p1, 4, none⟩ (.int .i64 x.kind)).setCell ⟨p1, 5, none⟩ (.int .i64 x.value)) g t cs :=
  (((((h.far (p := ⟨p1, 0, none⟩) hp _).far (p := ⟨p1, 1, none⟩) hp _).far (p := ⟨p1, 2, none⟩) hp _).far (p := ⟨p1, 3, none⟩) hp _).far (p := ⟨p1, 4, none⟩) hp _).far (p := ⟨p1, 5, none⟩) hp _
set_option maxRecDepth 100000 in
set_option maxHeartbeats 1000000 in
theorem read1_any (q p1 p2 p3 B : Nat) (A : Option Addr) (n c : Nat) (l : List UInt8) (w : World) (hq : Blk w q 22 #[.slice A n c]) (h1 : Blk w p1 38 Ent.none_.cells) (h2 : Blk w p2 3 #[.int .i64 0]) (h3 : Blk w p3 24 #[.int .i64 0])
    (hr : Bys w w.heap.size A n l) (hc : n ≤ c) (hn : n < 1000000) (hB : B ≤ p1 ∧ B ≤ p2 ∧ p1 ≠ p2 ∧ p1 ≠ p3 ∧ p2 ≠ p3) (hBw : B ≤ w.heap.size) :
    Calls Try.prog 49 #[.pointer (some ⟨q, 0, none⟩), .pointer (some ⟨p1, 0, none⟩), .pointer (some ⟨p2, 0, none⟩)] w fun e w' => Blk w' p3 24 #[.int .i64 0] ∧
      ((e = .returned (.tuple #[]) ∧ rdErr (rd l) = 0 ∧ Blk w' p1 38 (rdEnt (rd l)).cells ∧ Blk w' p2 3 #[.int .i64 (rdLen (rd l) : Int)] ∧ Below B w w') ∨
       ∃ x : Int, e = panicE x ∧ x = (rdErr (rd l) : Int) ∧ Blk w' p1 38 (rdEnt (rd l)).cells ∧ Blk w' p2 3 #[.int .i64 (rdLen (rd l) : Int)] ∧ Below B w w') := by
  have e0 : w.cell? ⟨q, 0, none⟩ = some (.slice A n c) := hq.cell 0
  go_enter Try.func49, Try.ntmps49
  go_wp2_with fail
  refine (frame_in A n c l w hr hc hn).mono ?_
  rintro e w1 ⟨hb, hm⟩
  have h1' := h1.below hb h1.lt
  have h2' := h2.below hb h2.lt
  have h3' := h3.below hb h3.lt
  have HB := Lib.hid (hb.mono hBw)
  clear e0 hb
  rcases hrd : rd l with ⟨cc⟩ | ⟨x, k⟩
  · rw [hrd] at hm
    simp only at hm
    subst hm
    unfold panicE
    go_wp2_with fail
    refine ⟨rfl, h3', .inr ⟨_, rfl, ?_⟩⟩
    rw [hrd]
    exact ⟨rfl, h1', h2', HB.out⟩
  · rw [hrd] at hm
    simp only at hm
    subst hm
    obtain ⟨s0, s1, s2, s3, s4, s5⟩ := h1'.six
    have y0 := h1'.frozen 0
    have y1 := h1'.frozen 1
    have y2 := h1'.frozen 2
    have y3 := h1'.frozen 3
    have y4 := h1'.frozen 4
    have y5 := h1'.frozen 5
    have HW := Lib.hid (six_set h1' x)
    have HBW := Lib.hid (six_low HB.out hB.1 x)
    have HP := Lib.hid hB
    have h2w := six_far h2' (p1 := p1) (by omega) x
    have h3w := six_far h3' (p1 := p1) (by omega) x
    have e2 : ((((((w1.setCell ⟨p1, 0, none⟩ (.int .i64 x.epoch)).setCell ⟨p1, 1, none⟩ (.int .i64 x.id)).setCell ⟨p1, 2, none⟩ (.int .i64 x.num)).setCell ⟨p1, 3, none⟩ (.int .i64 x.seq)).setCell ⟨p1, 4, none⟩ (.int .i64 x.kind)).setCell ⟨p1, 5, none⟩ (.int .i64 x.value)).cell? ⟨p2, 0, none⟩ = some (.int .i64 0) := h2w.cell 0
    have z2 : ((((((w1.setCell ⟨p1, 0, none⟩ (.int .i64 x.epoch)).setCell ⟨p1, 1, none⟩ (.int .i64 x.id)).setCell ⟨p1, 2, none⟩ (.int .i64 x.num)).setCell ⟨p1, 3, none⟩ (.int .i64 x.seq)).setCell ⟨p1, 4, none⟩ (.int .i64 x.kind)).setCell ⟨p1, 5, none⟩ (.int .i64 x.value)).frozen? ⟨p2, 0, none⟩ = false := h2w.frozen 0
    have H2 := Lib.hid (h2w.set_ 0 (.int .i64 (k : Int)))
    have H3 := Lib.hid (h3w.far (p := ⟨p2, 0, none⟩) (by show p3 ≠ p2; omega) (.int .i64 (k : Int)))
    have H1 := Lib.hid (HW.out.far (p := ⟨p2, 0, none⟩) (by show p1 ≠ p2; omega) (.int .i64 (k : Int)))
    have H4 := Lib.hid (HBW.out.setCell (p := ⟨p2, 0, none⟩) hB.2.1 (.int .i64 (k : Int)))
    unfold Ent.val Ent.cells
    clear hB h1' h2' h3' h2w h3w HW HBW HB h1 h2 h3 hr
    go_wp2_with fail
    go_end0
    refine ⟨H3.out, .inl ⟨rfl, ?_⟩⟩
    rw [hrd]
    exact ⟨rfl, H1.out, H2.out, H4.out⟩
/-- What is known behind wire.Read. -/
def ReadOf (w : World) (o : Rd) (r : Ending) (w' : World) : Prop :=
  r = .returned (.tuple #[(rdEnt o).val, .int .i64 (rdLen o : Int), .int .i64 (rdErr o : Int)]) ∧ Below w.heap.size w w'
theorem rdErr_ok {o : Rd} (h : rdErr o = 0) : (0 : Int) = (rdErr o : Int) := by omega
set_option maxRecDepth 100000 in
set_option maxHeartbeats 2000000 in
theorem read_any (A : Option Addr) (n c : Nat) (l : List UInt8) (w : World) (hr : Bys w w.heap.size A n l) (hc : n ≤ c) (hn : n < 1000000) :
    Calls Try.prog 32 #[.slice A n c] w (ReadOf w (rd l)) := by
  have hmf := mf
  go_enter Try.func32, Try.ntmps32
  go_wp2_with fail
  have hq0 : Blk (((w.alloc (.cells #[.slice A n c] 22)).alloc (.cells Ent.none_.cells 38)).alloc (.cells #[.int .i64 0] 3)) w.heap.size 22 #[.slice A n c] := ((Blk.new w 22 _).alloc _).alloc _
  have h10 : Blk (((w.alloc (.cells #[.slice A n c] 22)).alloc (.cells Ent.none_.cells 38)).alloc (.cells #[.int .i64 0] 3)) (w.heap.size + 1) 38 Ent.none_.cells := (blk_new _ 38 _ (by simp)).alloc _
  have h20 : Blk (((w.alloc (.cells #[.slice A n c] 22)).alloc (.cells Ent.none_.cells 38)).alloc (.cells #[.int .i64 0] 3)) (w.heap.size + 1 + 1) 3 #[.int .i64 0] := blk_new _ 3 _ (by simp)
  have hb0 : Below w.heap.size w (((w.alloc (.cells #[.slice A n c] 22)).alloc (.cells Ent.none_.cells 38)).alloc (.cells #[.int .i64 0] 3)) := (((Below.refl _ _).alloc (Nat.le_refl _) _).alloc (le_alloc (Nat.le_refl _) _) _).alloc (le_alloc (le_alloc (Nat.le_refl _) _) _) _
  have hs0 : (((w.alloc (.cells #[.slice A n c] 22)).alloc (.cells Ent.none_.cells 38)).alloc (.cells #[.int .i64 0] 3)).heap.size = w.heap.size + 3 := by simp
  rw [none_zero] at hq0 h10 h20 hb0 hs0
  generalize ((w.alloc (.cells #[.slice A n c] 22)).alloc (.cells #[.int .i64 0, .int .i64 0, .int .i64 0, .int .i64 0, .int .i64 0, .int .i64 0] 38)).alloc (.cells #[.int .i64 0] 3) = w0 at *
  clear hmf
  refine (attempt_read _ _ _ w0 (fun x w' => x = (rdErr (rd l) : Int) ∧ Blk w' (w.heap.size + 1) 38 (rdEnt (rd l)).cells ∧ Blk w' (w.heap.size + 1 + 1) 3 #[.int .i64 (rdLen (rd l) : Int)] ∧ Below w.heap.size w w') ?_ ?_).mono ?_
  · refine (read1_any w.heap.size (w.heap.size + 1) (w.heap.size + 1 + 1) w0.heap.size w.heap.size A n c l _ (hq0.alloc _) (h10.alloc _) (h20.alloc _) (Blk.new w0 24 _) ((hr.below hb0).alloc (by omega) _ |>.more (le_alloc (by omega) _)) hc hn ⟨by omega, by omega, by omega, by omega, by omega⟩ (le_alloc (by omega) _)).mono ?_
    have hb1 : Below w.heap.size w (w0.alloc (.cells #[.int .i64 0] 24)) := hb0.alloc (by omega) _
    rintro e w' ⟨h3, ⟨rfl, he, ha, hb, hbl⟩ | ⟨x, rfl, hx, ha, hb, hbl⟩⟩
    · exact ⟨h3, .inl ⟨rfl, rdErr_ok he, ha, hb, hb1.trans hbl⟩⟩
    · exact ⟨h3, .inr ⟨x, rfl, hx, ha, hb, hb1.trans hbl⟩⟩
  · rintro x v w' ⟨hx, ha, hb, hbl⟩
    exact ⟨hx, ha.far (p := ⟨w0.heap.size, 0, none⟩) (by show w.heap.size + 1 ≠ w0.heap.size; omega) _, hb.far (p := ⟨w0.heap.size, 0, none⟩) (by show w.heap.size + 1 + 1 ≠ w0.heap.size; omega) _, hbl.setCell (p := ⟨w0.heap.size, 0, none⟩) (by show w.heap.size ≤ w0.heap.size; omega) _⟩
  rintro e w1 ⟨x, rfl, rfl, ha, hb, hbl⟩
  clear hq0 h10 h20 hb0 hs0
  generalize hy : rdEnt (rd l) = y at *
  generalize hm : (rdLen (rd l) : Int) = m at *
  generalize hx : (rdErr (rd l) : Int) = x at *
  have HF : Hid (Ending.returned (.tuple #[y.val, .int .i64 m, .int .i64 x]) = Ending.returned (.tuple #[(rdEnt (rd l)).val, .int .i64 (rdLen (rd l) : Int), .int .i64 (rdErr (rd l) : Int)])) := Lib.hid (by rw [hy, hm, hx])
  clear hy hm hx
  have hd1 : Blk w1.drew (w.heap.size + 1) 38 y.cells := ha.drew
  have hd2 : Blk w1.drew (w.heap.size + 1 + 1) 3 #[.int .i64 m] := hb.drew
  have hd3 : Below w.heap.size w w1.drew := hbl.drew
  go_wp2_with fail
  refine wp_region_np ?_
  refine wp_region_held_drew (S := fun W => Blk W (w.heap.size + 1) 38 y.cells ∧ Blk W (w.heap.size + 1 + 1) 3 #[.int .i64 m]) (by kernel_rfl) ⟨hd1, hd2⟩ (fun hHeld => ?_)
  clear ha hb hbl
  generalize w1.drew = w1 at *
  refine wpAnyH_takeAt (i := 0) (d := 7) (v := ?va0) rfl rfl (by kernel_rfl) (by kernel_rfl) (by kernel_rfl) (fun _ _ _ h => h) (Or.inl ⟨by rfl, ?hya0⟩) hHeld ?_
  case hya0 =>
    intro W hSw
    obtain ⟨s0, s1, s2, s3, s4, s5⟩ := hSw.1.six
    (go_simp; try with_reducible rfl)
  simp only [List.setIfInBounds_toArray, List.set_cons_zero, List.set_cons_succ]
  refine wpAnyH_takeAt (i := 2) (d := 9) (v := ?va2) rfl rfl (by kernel_rfl) (by kernel_rfl) (by kernel_rfl) (fun _ _ _ h => h) (Or.inl ⟨by rfl, ?hya2⟩) hHeld ?_
  case hya2 =>
    intro W hSw
    clear hSw
    (go_simp; try with_reducible rfl)
  simp only [List.setIfInBounds_toArray, List.set_cons_zero, List.set_cons_succ]
  refine wpAnyH_ready (rs := [1, 3]) (by kernel_rfl) (by simp) (AllReadyH.cons rfl (fun K hK => ?_) (AllReadyH.cons rfl (fun K hK => ?_) AllReadyH.nil))
  · skip
    have t0 : w1.cell? ⟨w.heap.size + 1 + 1, 0, none⟩ = some (.int .i64 m) := hHeld.2.cell 0
    go_simp
    refine hK.out _ _ hHeld (fun hHeld => ?_)
    clear hK K t0
    refine wpAnyH_ready (rs := [3]) (by kernel_rfl) (by simp) (AllReadyH.cons rfl (fun K hK => ?_) AllReadyH.nil)
    obtain ⟨s0, s1, s2, s3, s4, s5⟩ := hHeld.1.six
    have y0 := hHeld.1.frozen 0
    have y1 := hHeld.1.frozen 1
    have y2 := hHeld.1.frozen 2
    have y3 := hHeld.1.frozen 3
    have y4 := hHeld.1.frozen 4
    have y5 := hHeld.1.frozen 5
    have HW : Blk ((((((w1.setCell ⟨w.heap.size + 1, 0, none⟩ (.int .i64 y.epoch)).setCell ⟨w.heap.size + 1, 1, none⟩ (.int .i64 y.id)).setCell ⟨w.heap.size + 1, 2, none⟩ (.int .i64 y.num)).setCell ⟨w.heap.size + 1, 3, none⟩ (.int .i64 y.seq)).setCell ⟨w.heap.size + 1, 4, none⟩ (.int .i64 y.kind)).setCell ⟨w.heap.size + 1, 5, none⟩ (.int .i64 y.value)) (w.heap.size + 1) 38 y.cells ∧ Blk ((((((w1.setCell ⟨w.heap.size + 1, 0, none⟩ (.int .i64 y.epoch)).setCell ⟨w.heap.size + 1, 1, none⟩ (.int .i64 y.id)).setCell ⟨w.heap.size + 1, 2, none⟩ (.int .i64 y.num)).setCell ⟨w.heap.size + 1, 3, none⟩ (.int .i64 y.seq)).setCell ⟨w.heap.size + 1, 4, none⟩ (.int .i64 y.kind)).setCell ⟨w.heap.size + 1, 5, none⟩ (.int .i64 y.value)) (w.heap.size + 1 + 1) 3 #[.int .i64 m] := ⟨six_set hHeld.1 y, six_far hHeld.2 (by omega) y⟩
    have HL : Below w.heap.size w ((((((w1.setCell ⟨w.heap.size + 1, 0, none⟩ (.int .i64 y.epoch)).setCell ⟨w.heap.size + 1, 1, none⟩ (.int .i64 y.id)).setCell ⟨w.heap.size + 1, 2, none⟩ (.int .i64 y.num)).setCell ⟨w.heap.size + 1, 3, none⟩ (.int .i64 y.seq)).setCell ⟨w.heap.size + 1, 4, none⟩ (.int .i64 y.kind)).setCell ⟨w.heap.size + 1, 5, none⟩ (.int .i64 y.value)) := six_low hd3 (by omega) y
    go_simp
    refine hK.out _ _ HW (fun hHeld => ?_)
    clear hK K s0 s1 s2 s3 s4 s5 y0 y1 y2 y3 y4 y5 hd3 hd1 hd2
    generalize ((((((w1.setCell ⟨w.heap.size + 1, 0, none⟩ (.int .i64 y.epoch)).setCell ⟨w.heap.size + 1, 1, none⟩ (.int .i64 y.id)).setCell ⟨w.heap.size + 1, 2, none⟩ (.int .i64 y.num)).setCell ⟨w.heap.size + 1, 3, none⟩ (.int .i64 y.seq)).setCell ⟨w.heap.size + 1, 4, none⟩ (.int .i64 y.kind)).setCell ⟨w.heap.size + 1, 5, none⟩ (.int .i64 y.value)) = w2 at *
    refine wpAnyH_ready (rs := [4]) (by kernel_rfl) (by simp) (AllReadyH.cons rfl (fun K hK => ?_) AllReadyH.nil)
    have t0 : w2.cell? ⟨w.heap.size + 1 + 1, 0, none⟩ = some (.int .i64 m) := hHeld.2.cell 0
    have t1 := hHeld.2.frozen 0
    have HW2 : Blk (w2.setCell ⟨w.heap.size + 1 + 1, 0, none⟩ (.int .i64 m)) (w.heap.size + 1) 38 y.cells ∧ Blk (w2.setCell ⟨w.heap.size + 1 + 1, 0, none⟩ (.int .i64 m)) (w.heap.size + 1 + 1) 3 #[.int .i64 m] := ⟨hHeld.1.far (p := ⟨w.heap.size + 1 + 1, 0, none⟩) (by show w.heap.size + 1 ≠ w.heap.size + 1 + 1; omega) _, hHeld.2.set_ 0 _⟩
    have HL2 := HL.setCell (p := ⟨w.heap.size + 1 + 1, 0, none⟩) (by show w.heap.size ≤ w.heap.size + 1 + 1; omega) (.int .i64 m)
    go_simp
    refine hK.out _ _ HW2 (fun hHeld => ?_)
    clear hK K t0 t1 HL
    generalize w2.setCell ⟨w.heap.size + 1 + 1, 0, none⟩ (.int .i64 m) = w3 at *
    refine wpAnyH_ready (rs := [5]) (by kernel_rfl) (by simp) (AllReadyH.cons rfl (fun K hK => ?_) AllReadyH.nil)
    go_simp
    refine hK.out _ _ hHeld (fun hHeld => ?_)
    clear hK K
    refine wpAnyH_done (by kernel_rfl) ?_ _
    obtain ⟨s0, s1, s2, s3, s4, s5⟩ := hHeld.1.six
    have t0 : w3.cell? ⟨w.heap.size + 1 + 1, 0, none⟩ = some (.int .i64 m) := hHeld.2.cell 0
    go_wp2_with fail
    refine bodyPost_ret (v := .tuple #[y.val, .int .i64 m, .int .i64 x]) ?_ rfl ⟨HF.out, HL2⟩
    simp [results, Try.results32, go_sem, s0, s1, s2, s3, s4, s5, t0, Ent.val, Ent.cells]
  · skip
    obtain ⟨s0, s1, s2, s3, s4, s5⟩ := hHeld.1.six
    have y0 := hHeld.1.frozen 0
    have y1 := hHeld.1.frozen 1
    have y2 := hHeld.1.frozen 2
    have y3 := hHeld.1.frozen 3
    have y4 := hHeld.1.frozen 4
    have y5 := hHeld.1.frozen 5
    have HW : Blk ((((((w1.setCell ⟨w.heap.size + 1, 0, none⟩ (.int .i64 y.epoch)).setCell ⟨w.heap.size + 1, 1, none⟩ (.int .i64 y.id)).setCell ⟨w.heap.size + 1, 2, none⟩ (.int .i64 y.num)).setCell ⟨w.heap.size + 1, 3, none⟩ (.int .i64 y.seq)).setCell ⟨w.heap.size + 1, 4, none⟩ (.int .i64 y.kind)).setCell ⟨w.heap.size + 1, 5, none⟩ (.int .i64 y.value)) (w.heap.size + 1) 38 y.cells ∧ Blk ((((((w1.setCell ⟨w.heap.size + 1, 0, none⟩ (.int .i64 y.epoch)).setCell ⟨w.heap.size + 1, 1, none⟩ (.int .i64 y.id)).setCell ⟨w.heap.size + 1, 2, none⟩ (.int .i64 y.num)).setCell ⟨w.heap.size + 1, 3, none⟩ (.int .i64 y.seq)).setCell ⟨w.heap.size + 1, 4, none⟩ (.int .i64 y.kind)).setCell ⟨w.heap.size + 1, 5, none⟩ (.int .i64 y.value)) (w.heap.size + 1 + 1) 3 #[.int .i64 m] := ⟨six_set hHeld.1 y, six_far hHeld.2 (by omega) y⟩
    have HL : Below w.heap.size w ((((((w1.setCell ⟨w.heap.size + 1, 0, none⟩ (.int .i64 y.epoch)).setCell ⟨w.heap.size + 1, 1, none⟩ (.int .i64 y.id)).setCell ⟨w.heap.size + 1, 2, none⟩ (.int .i64 y.num)).setCell ⟨w.heap.size + 1, 3, none⟩ (.int .i64 y.seq)).setCell ⟨w.heap.size + 1, 4, none⟩ (.int .i64 y.kind)).setCell ⟨w.heap.size + 1, 5, none⟩ (.int .i64 y.value)) := six_low hd3 (by omega) y
    go_simp
    refine hK.out _ _ HW (fun hHeld => ?_)
    clear hK K s0 s1 s2 s3 s4 s5 y0 y1 y2 y3 y4 y5 hd3 hd1 hd2
    generalize ((((((w1.setCell ⟨w.heap.size + 1, 0, none⟩ (.int .i64 y.epoch)).setCell ⟨w.heap.size + 1, 1, none⟩ (.int .i64 y.id)).setCell ⟨w.heap.size + 1, 2, none⟩ (.int .i64 y.num)).setCell ⟨w.heap.size + 1, 3, none⟩ (.int .i64 y.seq)).setCell ⟨w.heap.size + 1, 4, none⟩ (.int .i64 y.kind)).setCell ⟨w.heap.size + 1, 5, none⟩ (.int .i64 y.value)) = w2 at *
    refine wpAnyH_ready (rs := [1]) (by kernel_rfl) (by simp) (AllReadyH.cons rfl (fun K hK => ?_) AllReadyH.nil)
    have t0 : w2.cell? ⟨w.heap.size + 1 + 1, 0, none⟩ = some (.int .i64 m) := hHeld.2.cell 0
    go_simp
    refine hK.out _ _ hHeld (fun hHeld => ?_)
    clear hK K t0
    refine wpAnyH_ready (rs := [4]) (by kernel_rfl) (by simp) (AllReadyH.cons rfl (fun K hK => ?_) AllReadyH.nil)
    have t0 : w2.cell? ⟨w.heap.size + 1 + 1, 0, none⟩ = some (.int .i64 m) := hHeld.2.cell 0
    have t1 := hHeld.2.frozen 0
    have HW2 : Blk (w2.setCell ⟨w.heap.size + 1 + 1, 0, none⟩ (.int .i64 m)) (w.heap.size + 1) 38 y.cells ∧ Blk (w2.setCell ⟨w.heap.size + 1 + 1, 0, none⟩ (.int .i64 m)) (w.heap.size + 1 + 1) 3 #[.int .i64 m] := ⟨hHeld.1.far (p := ⟨w.heap.size + 1 + 1, 0, none⟩) (by show w.heap.size + 1 ≠ w.heap.size + 1 + 1; omega) _, hHeld.2.set_ 0 _⟩
    have HL2 := HL.setCell (p := ⟨w.heap.size + 1 + 1, 0, none⟩) (by show w.heap.size ≤ w.heap.size + 1 + 1; omega) (.int .i64 m)
    go_simp
    refine hK.out _ _ HW2 (fun hHeld => ?_)
    clear hK K t0 t1 HL
    generalize w2.setCell ⟨w.heap.size + 1 + 1, 0, none⟩ (.int .i64 m) = w3 at *
    refine wpAnyH_ready (rs := [5]) (by kernel_rfl) (by simp) (AllReadyH.cons rfl (fun K hK => ?_) AllReadyH.nil)
    go_simp
    refine hK.out _ _ hHeld (fun hHeld => ?_)
    clear hK K
    refine wpAnyH_done (by kernel_rfl) ?_ _
    obtain ⟨s0, s1, s2, s3, s4, s5⟩ := hHeld.1.six
    have t0 : w3.cell? ⟨w.heap.size + 1 + 1, 0, none⟩ = some (.int .i64 m) := hHeld.2.cell 0
    go_wp2_with fail
    refine bodyPost_ret (v := .tuple #[y.val, .int .i64 m, .int .i64 x]) ?_ rfl ⟨HF.out, HL2⟩
    simp [results, Try.results32, go_sem, s0, s1, s2, s3, s4, s5, t0, Ent.val, Ent.cells]
end Go.Proofs.Ytickdpgfiianjaa
