/-
  What the program's variable holds, out of what is laid; the door's own heap meets it. Nothing is assumed.
-/
import Derived.Test.YthcphoijanebhaaDoorVis
import Derived.Test.YthcphoijanebhaaDoorRows
import Derived.ProofKit
import Derived.LaidMore
import Derived.OpenShut
import Derived.Stop.Joined
namespace Go.Proofs.YthcphoijanebhaaDoor
open Go.ChangeShapes Go.WideShapes Go.ChangeAt Go.WideMaps Go.WideElems Go.RowKit
theorem gNob : Tryd.prog.globalNamed "waystation/visible.nobodys" = some 0 := by kernel_rfl
theorem tNob : (Tryd.prog.globals[0]?).map (·.type) = some 83 := by kernel_rfl
/-- The door's own heap meets the condition. -/
theorem door_met (os : Os) (args : Array Value) : laidMetH Tryd.prog [("waystation/visible.nobodys", Rows.laid_waystation_visible_nobodys)] ((World.doorLaid Tryd.prog 400 os).forCall (fun _ _ => 0) ⟨#[], args, []⟩).memory :=
  laidMetH_of_parts3 (fuel := 8) (laidMet_of_run' 8 (by kernel_rfl) (by kernel_rfl)) (by kernel_rfl) (by kernel_rfl)
set_option maxRecDepth 100000 in
set_option maxHeartbeats 2000000 in
/-- What the condition gives the walks. -/
theorem nob_of_laid {W : World} (h : laidMetH Tryd.prog [("waystation/visible.nobodys", Rows.laid_waystation_visible_nobodys)] W) : Nob W := by
  rw [MakeChecks.laidMetH_plain _ _ _ (by kernel_rfl)] at h
  obtain ⟨ps, ⟨g0, t0, cs0, f0, p0, q0, hg0, ht0, hv0, hd0, _⟩, _, _⟩ := h
  obtain rfl := Option.some.inj (gNob.symm.trans hg0)
  obtain rfl := Option.some.inj (tNob.symm.trans ht0)
  obtain ⟨xs, m1, rfl, hx1, hlen, hn3, hel⟩ := DataW.trod_array Tryd.underlying83 hd0
  have c2 : Tryd.prog.cellsOf 2 = 1 := by kernel_rfl
  have h0 := hel 0 (by decide)
  have h1 := hel 1 (by decide)
  simp only [Prod.mk.injEq, DataW.agg.injEq, Rows.laid_waystation_visible_nobodys] at hx1
  match xs, hn3, hx1, h0, h1 with
  | [x0, x1], _, hx1, h0, h1 =>
    simp only [List.map_cons, List.map_nil, List.cons.injEq] at hx1
    obtain ⟨k0, e0, f0', _⟩ := DataW.trod_int Tryd.underlying2 (show DataW.trod _ Tryd.prog W 0 _ false m1 2 _ = some x0 from h0)
    obtain ⟨k1, e1, f1', _⟩ := DataW.trod_int Tryd.underlying2 (show DataW.trod _ Tryd.prog W 0 _ false m1 2 _ = some x1 from h1)
    have hk0 : k0 = -1 := by rw [f0'] at hx1; simpa using hx1.1.1.symm
    have hk1 : k1 = 0 := by rw [f1'] at hx1; simpa using hx1.1.2.1.symm
    subst hk0 hk1
    have v0 := World.var?_cell hg0 hv0 0
    have v1 := World.var?_cell hg0 hv0 1
    obtain ⟨l0⟩ := cs0
    rw [c2] at e0 e1
    match l0, e0, e1 with
    | [a, b], e0, e1 =>
      simp at e0 e1
      subst e0 e1
      have w0 : W.cell? ⟨0, 0, none⟩ = some (.int .i64 (-1)) := by simpa using v0
      have w1 : W.cell? ⟨0, 1, none⟩ = some (.int .i64 0) := by simpa using v1
      exact ⟨w0, w1, block_lt_of_cell w0⟩
end Go.Proofs.YthcphoijanebhaaDoor
