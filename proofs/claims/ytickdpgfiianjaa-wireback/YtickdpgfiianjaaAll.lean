/-
  What wire.All answers: the entries of bytes, how many bytes their frames have, and why they end. Condition: fewer than 100000 bytes.
-/
import Derived.Test.YtickdpgfiianjaaAllOf
namespace Go.Proofs.Ytickdpgfiianjaa
open Go.RowKit
/-- What is known behind wire.All. -/
def AllW (w : World) (l : List UInt8) (r : Ending) (w' : World) : Prop :=
  ∃ v, r = .returned (.agg #[v, .int .i64 (goodOf (scan l).1 : Int), .int .i64 ((scan l).2 : Int)]) ∧ OwnE w' w.heap.size v ((scan l).1.map (·.1)) ∧ Below w.heap.size w w'
set_option maxRecDepth 100000 in
set_option maxHeartbeats 2000000 in
theorem all_any (A : Option Addr) (n c : Nat) (l : List UInt8) (w : World) (hr : Bys w w.heap.size A n l) (hc : n ≤ c) (hn : n < 100000) :
    Calls Try.prog 35 #[.slice A n c] w (AllW w l) := by
  have hmf := mf
  go_enter Try.func35, Try.ntmps35
  go_wp2_with fail
  have hq0 : Blk ((w.alloc (.cells #[.slice A n c] 22)).alloc (.cells #[.slice none 0 0, .int .i64 0, .int .i64 0] 55)) w.heap.size 22 #[.slice A n c] := (Blk.new w 22 _).alloc _
  have h10 : Blk ((w.alloc (.cells #[.slice A n c] 22)).alloc (.cells #[.slice none 0 0, .int .i64 0, .int .i64 0] 55)) (w.heap.size + 1) 55 #[.slice none 0 0, .int .i64 0, .int .i64 0] := blk_new _ 55 _ (by simp)
  have hb0 : Below w.heap.size w ((w.alloc (.cells #[.slice A n c] 22)).alloc (.cells #[.slice none 0 0, .int .i64 0, .int .i64 0] 55)) := ent_low _ _
  have hs0 : ((w.alloc (.cells #[.slice A n c] 22)).alloc (.cells #[.slice none 0 0, .int .i64 0, .int .i64 0] 55)).heap.size = w.heap.size + 2 := by simp
  generalize (w.alloc (.cells #[.slice A n c] 22)).alloc (.cells #[.slice none 0 0, .int .i64 0, .int .i64 0] 55) = w0 at *
  clear hmf
  refine (attempt_all _ _ w0 (fun x W => x = ((scan l).2 : Int) ∧ ∃ v, Blk W (w.heap.size + 1) 55 #[v, .int .i64 (goodOf (scan l).1 : Int), .int .i64 0] ∧ OwnE W (w0.heap.size + 1) v ((scan l).1.map (·.1)) ∧ Below w.heap.size w W) ?_ ?_).mono ?_
  · refine (all1_any w.heap.size (w.heap.size + 1) w0.heap.size w.heap.size A n c l _ (hq0.alloc _) (h10.alloc _) (Blk.new w0 24 _) ((hr.below hb0).alloc (by omega) _) hc hn ⟨by omega, by omega⟩ (le_alloc (by omega) _)).mono ?_
    have hb1 : Below w.heap.size w (w0.alloc (.cells #[.int .i64 0] 24)) := hb0.alloc (by omega) _
    have hz1 : w0.heap.size + 1 ≤ (w0.alloc (.cells #[.int .i64 0] 24)).heap.size + 1 := by simp
    rintro e w' ⟨h3, ⟨rfl, he, v, ha, hv, _, hbl, _⟩ | ⟨x, rfl, hx, v, ha, hv, _, hbl, _⟩⟩
    · exact ⟨h3, .inl ⟨rfl, by rw [he]; rfl, v, ha, hv.mono hz1, hb1.trans hbl⟩⟩
    · exact ⟨h3, .inr ⟨x, rfl, hx, v, ha, hv.mono hz1, hb1.trans hbl⟩⟩
  · rintro x u w' ⟨hx, v, ha, hv, hbl⟩
    exact ⟨hx, v, ha.far (p := ⟨w0.heap.size, 0, none⟩) (by show w.heap.size + 1 ≠ w0.heap.size; omega) _, hv.keep (fun g e => Below.heap_setCell w' ⟨w0.heap.size, 0, none⟩ _ g (by show g ≠ w0.heap.size; have := (hv.lt e).1; omega)), hbl.setCell (p := ⟨w0.heap.size, 0, none⟩) (by show w.heap.size ≤ w0.heap.size; omega) _⟩
  rintro e w1 ⟨x, rfl, rfl, v, ha, hv, hbl⟩
  clear hq0 h10 hb0
  obtain ⟨Av, qv, cv, rfl, -, -, -⟩ := hv.form
  have e0 : w1.cell? ⟨w.heap.size + 1, 0, none⟩ = some (.slice Av qv cv) := ha.cell 0
  have e1 : w1.cell? ⟨w.heap.size + 1, 1, none⟩ = some (.int .i64 (goodOf (scan l).1 : Int)) := ha.cell 1
  have e2 : w1.cell? ⟨w.heap.size + 1, 2, none⟩ = some (.int .i64 0) := ha.cell 2
  have y0 := ha.frozen 0
  have y1 := ha.frozen 1
  have y2 := ha.frozen 2
  have HA1 := Lib.hid (ha.set_ 2 (.int .i64 ((scan l).2 : Int)))
  have HB1 := Lib.hid (hbl.setCell (p := ⟨w.heap.size + 1, 2, none⟩) (by show w.heap.size ≤ w.heap.size + 1; omega) (.int .i64 ((scan l).2 : Int)))
  have HV1 : Hid (OwnE (w1.setCell ⟨w.heap.size + 1, 2, none⟩ (.int .i64 ((scan l).2 : Int))) (w0.heap.size + 1) (.slice Av qv cv) ((scan l).1.map (·.1))) := Lib.hid (hv.keep fun g e => Below.heap_setCell w1 ⟨w.heap.size + 1, 2, none⟩ _ g (by show g ≠ w.heap.size + 1; have := (hv.lt e).1; omega))
  clear ha hbl hv
  go_wp2_with fail
  clear e0 e1 e2 y0 y1 y2
  generalize w1.setCell ⟨w.heap.size + 1, 2, none⟩ (.int .i64 ((scan l).2 : Int)) = w2 at *
  have hA := ((HA1.out.set_ 0 (.slice Av qv cv)).set_ 1 (.int .i64 (goodOf (scan l).1 : Int))).set_ 2 (.int .i64 ((scan l).2 : Int))
  have hB := ((HB1.out.setCell (p := ⟨w.heap.size + 1, 0, none⟩) (by show w.heap.size ≤ w.heap.size + 1; omega) (.slice Av qv cv)).setCell (p := ⟨w.heap.size + 1, 1, none⟩) (by show w.heap.size ≤ w.heap.size + 1; omega) (.int .i64 (goodOf (scan l).1 : Int))).setCell (p := ⟨w.heap.size + 1, 2, none⟩) (by show w.heap.size ≤ w.heap.size + 1; omega) (.int .i64 ((scan l).2 : Int))
  have hV : OwnE (((w2.setCell ⟨w.heap.size + 1, 0, none⟩ (.slice Av qv cv)).setCell ⟨w.heap.size + 1, 1, none⟩ (.int .i64 (goodOf (scan l).1 : Int))).setCell ⟨w.heap.size + 1, 2, none⟩ (.int .i64 ((scan l).2 : Int))) (w0.heap.size + 1) (.slice Av qv cv) ((scan l).1.map (·.1)) :=
    HV1.out.keep fun g e => ((Below.heap_setCell _ ⟨w.heap.size + 1, 2, none⟩ _ g (by show g ≠ w.heap.size + 1; have := (HV1.out.lt e).1; omega)).trans (Below.heap_setCell _ ⟨w.heap.size + 1, 1, none⟩ _ g (by show g ≠ w.heap.size + 1; have := (HV1.out.lt e).1; omega))).trans (Below.heap_setCell w2 ⟨w.heap.size + 1, 0, none⟩ _ g (by show g ≠ w.heap.size + 1; have := (HV1.out.lt e).1; omega))
  generalize ((w2.setCell ⟨w.heap.size + 1, 0, none⟩ (.slice Av qv cv)).setCell ⟨w.heap.size + 1, 1, none⟩ (.int .i64 (goodOf (scan l).1 : Int))).setCell ⟨w.heap.size + 1, 2, none⟩ (.int .i64 ((scan l).2 : Int)) = w3 at *
  have r0 : w3.cell? ⟨w.heap.size + 1, 0, none⟩ = some (.slice Av qv cv) := hA.cell 0
  have r1 : w3.cell? ⟨w.heap.size + 1, 1, none⟩ = some (.int .i64 (goodOf (scan l).1 : Int)) := hA.cell 1
  have r2 : w3.cell? ⟨w.heap.size + 1, 2, none⟩ = some (.int .i64 ((scan l).2 : Int)) := hA.cell 2
  refine bodyPost_ret (v := .agg #[.slice Av qv cv, .int .i64 (goodOf (scan l).1 : Int), .int .i64 ((scan l).2 : Int)]) ?_ rfl ⟨_, rfl, hV.mono (by omega), hB⟩
  simp [results, Try.results35, go_sem, r0, r1, r2]
end Go.Proofs.Ytickdpgfiianjaa
