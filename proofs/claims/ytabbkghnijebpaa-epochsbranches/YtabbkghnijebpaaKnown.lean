/-
  waystationlaw07.known answers true. Nothing is assumed.
-/
import Derived.Test.YtabbkghnijebpaaLog
namespace Go.Proofs.Ytabbkghnijebpaa
open Go.RowKit
def z5 (i : Nat) : Int := [1, 1, 2, 4, 4].getD i 0
theorem can5 : Can (fun i => (lf z5 i).1) 5 3 0 := by decide
theorem nab5 : nab (fun i => (lf z5 i).1) 3 5 = 3 := by decide
theorem ints5 (w : World) : Ints (w.alloc (.cells #[.int .i64 1, .int .i64 1, .int .i64 2, .int .i64 4, .int .i64 4] 2)) (some ⟨w.heap.size, 0, none⟩) 5 z5 := by
  refine ⟨fun _ => ⟨_, rfl, by simp, fun j hj => ?_⟩, fun j hj => ?_⟩
  · have hadd : (⟨w.heap.size, 0, none⟩ : Addr).add j = ⟨w.heap.size, j, none⟩ := by unfold Addr.add; split <;> simp_all
    rw [hadd, (Blk.new w 2 _).cell j]
    match j, hj with
    | 0, _ => rfl
    | 1, _ => rfl
    | 2, _ => rfl
    | 3, _ => rfl
    | 4, _ => rfl
  · match j, hj with
    | 0, _ => exact ⟨by decide, by decide⟩
    | 1, _ => exact ⟨by decide, by decide⟩
    | 2, _ => exact ⟨by decide, by decide⟩
    | 3, _ => exact ⟨by decide, by decide⟩
    | 4, _ => exact ⟨by decide, by decide⟩
set_option maxRecDepth 100000 in
set_option maxHeartbeats 4000000 in
theorem known_any (w : World) : Calls Try.prog 9 #[] w fun e w' => e = .returned (.bool true) ∧ Below w.heap.size w w' := by
  have hb0 : Below w.heap.size w (w.alloc (.cells #[.int .i64 1, .int .i64 1, .int .i64 2, .int .i64 4, .int .i64 4] 2)) := (Below.refl _ _).alloc (Nat.le_refl _) _
  have hcall := log_any (c := 5) (ints5 w) (by omega)
  go_enter Try.func9, Try.ntmps9
  go_wp2_with fail
  refine hcall.mono ?_
  rintro e w1 ⟨A, c, rfl, hl, hnc, hcm, hb1⟩
  have hE := End_any (c := c) hl (by omega) hnc 3
  rw [ask_yes can5, if_pos can5, if_pos can5, nab5] at hE
  have hb2 := hb0.trans (hb1.mono hb0.size)
  have e1 : lastTo (fun i => (lf z5 i).1) 3 = 2 := by decide
  rw [e1] at hE
  have hE' : Calls Try.prog 18 #[.slice A 5 c, .int .i64 3] w1 fun e w' => e = .returned (.tuple #[.int .i64 2, .int .i64 3, .int .i64 0]) ∧ Below w1.heap.size w1 w' := hE
  clear hE hcall e1 hl
  go_wp2_with fail
  refine hE'.mono ?_
  rintro e w2 ⟨rfl, hb3⟩
  go_wp2_with fail
  go_ret
  exact ⟨rfl, hb2.trans (hb3.mono hb2.size)⟩
end Go.Proofs.Ytabbkghnijebpaa
