/-
  Numbers, WireNumbers: a number below 0 that is outside of the signed numbers.
-/
import Derived.Test.YtickdpgfiianjaaNumbers
import Derived.Test.YtickdpgfiianjaaTakeOf
import Derived.Test.YtickdpgfiianjaaOpen
import Derived.Test.YtickdpgfiianjaaRefTake
import Derived.Test.YtickdpgfiianjaaRefNum
import Derived.Test.YtickdpgfiianjaaWorks
import Derived.WalkKit
import Derived.ProofKit
import Derived.Below
namespace Go.Proofs.Ytickdpgfiianjaa.wireNumbers
open Go.ChangeShapes Go.WideShapes Go.ChangeAt Go.RowKit
set_option linter.unusedVariables false
set_option maxHeartbeats 4000000 in
set_option maxRecDepth 100000 in
theorem caseA (n0 : Int) (a1 : Option Addr) (len1 cap1 : Nat) (l1 : List UInt8) (w : World) (b1 : Bys w w.heap.size a1 len1 l1) (hc1 : len1 ≤ cap1) (hmx : cap1 ≤ 9223372036854775807) (h2 : ¬ 100 < len1) (hneg : n0 < 0) (hs : ¬ (-4611686018427387904 ≤ n0 ∧ n0 ≤ 4611686018427387903)) :
    Calls Try.prog 3 #[.int .i64 n0, .slice a1 len1 cap1] w fun e w' => e = .returned (.bool true) ∧ Below w.heap.size w w' := by
  have HB0 := Lib.hid (Below.refl w.heap.size w)
  go_enter Try.func3, Try.ntmps3
  go_wp2_with fail
  refine (wireNumber_no n0 hneg w).mono ?_
  rintro r w' ⟨rfl, rfl⟩
  go_wp2_with fail
  refine (wireSigned_no n0 hs w).mono ?_
  rintro r w' ⟨rfl, rfl⟩
  go_wp2_with (first | (go_at_call 17; refine (num_any _ _).mono ?_; rintro e w' ⟨rfl, rfl⟩) | (go_at_call 18; refine (inSign_no _ hs _).mono ?_; rintro e w' ⟨rfl, rfl⟩) | (at_builtin; refine stop ?_))
  refine (works_any w).mono ?_
  rintro e w' ⟨rfl, hb⟩
  have hfin := HB0.out.trans (hb.mono HB0.out.size)
  clear hb
  go_wp2_with fail
  go_ret
  exact ⟨rfl, hfin⟩
end Go.Proofs.Ytickdpgfiianjaa.wireNumbers
