/-
  waystationlaw03.DiskPlays is true for every room and every script of things. Nothing is assumed.
-/
import Derived.Test.YthhiiimmgghhaaaPlayed
import Derived.Test.YthhiiimmgghhaaaFew
import Derived.Test.YthhiiimmgghhaaaWorks
import Derived.WalkKit
import Derived.ProofKit
import Derived.OpenShut
import Derived.ShutString
import Derived.ChangeOld
import Derived.Below
namespace Go.Proofs.Ythhiiimmgghhaaa.diskPlays
open Go.ChangeShapes Go.WideShapes Go.ChangeAt Go.RowKit
set_option linter.unusedVariables false
theorem own : ownKnob Try.prog.godebug = none := by kernel_rfl
theorem laidOut : laidOutB Try.prog = true := by kernel_rfl
set_option maxHeartbeats 4000000 in
set_option maxRecDepth 100000 in
theorem walk (n0 : Int) (a1 : Option Addr) (len1 cap1 : Nat) (ts1 : List RT) (w : World) (hn0 : -9223372036854775808 ≤ n0 ∧ n0 ≤ 9223372036854775807) (b1 : RTs w No a1 len1 ts1) (ok1 : ∀ t ∈ ts1, RTok t) (hc1 : len1 ≤ cap1) (hm1 : cap1 ≤ maxLen) :
    Calls Try.prog 4 #[.int .i64 n0, .slice a1 len1 cap1] w fun e w' => e = .returned (.bool true) ∧ Below w.heap.size w w' := by
  have HB1 := Lib.hid b1
  have HOK := Lib.hid ok1
  clear b1 ok1
  go_enter Try.func4, Try.ntmps4
  go_wp2_with fail
  by_cases hr : n0 < 1 ∨ 16777216 < n0
  case pos =>
    refine (refNew_no No hr).mono ?_
    rintro e w1 ⟨cs, rfl, hrd, hb1⟩
    obtain ⟨A, n, c, B, m, k0, rfl, -, -, -, -, -, -⟩ := hrd
    go_wp2_with fail
    have hb2 := hb1.alloc hb1.size (.cells #[.int .i64 ((0 : Nat) : Int), .slice A n c, .slice B m k0] 29)
    refine (works_any _).mono ?_
    rintro e w' ⟨rfl, hb⟩
    go_wp2_with fail
    go_ret
    exact ⟨rfl, hb2.trans (hb.mono hb2.size)⟩
  case neg =>
  obtain ⟨r, rfl⟩ : ∃ r : Nat, n0 = (r : Int) := ⟨n0.toNat, by omega⟩
  have hr1 : 1 ≤ r := by omega
  have hr2 : r ≤ 16777216 := by omega
  clear hr hn0
  refine (refNew_yes No hr1 hr2).mono ?_
  rintro e w1 ⟨cs, rfl, hrd, hb1⟩
  obtain ⟨A, n, c, B, m, k0, rfl, -, -, -, -, -, -⟩ := hrd
  have hb2 := hb1.alloc hb1.size (.cells #[.int .i64 ((⟨r, [], []⟩ : RDk).room : Int), .slice A n c, .slice B m k0] 29)
  go_wp2_with fail
  generalize w1.alloc (.cells #[.int .i64 ((⟨r, [], []⟩ : RDk).room : Int), .slice A n c, .slice B m k0] 29) = w2 at *
  refine (few_any (HB1.out.below hb2) HOK.out hm1 hc1).mono ?_
  rintro e w3 ⟨rfl, hb3⟩
  have hbw3 := hb2.trans (hb3.mono hb2.size)
  by_cases hfew : fewN ts1 ≤ 4000
  case neg =>
    have hdf : decide (fewN ts1 ≤ 4000) = false := by simpa using hfew
    rw [hdf]
    go_wp2_with fail
    refine (works_any _).mono ?_
    rintro e w' ⟨rfl, hb⟩
    go_wp2_with fail
    go_ret
    exact ⟨rfl, hbw3.trans (hb.mono hbw3.size)⟩
  case pos =>
  have hdf : decide (fewN ts1 ≤ 4000) = true := by simpa using hfew
  rw [hdf]
  obtain ⟨hl66, hbd⟩ := few_ok hfew
  have HL : Hid (len1 ≤ 1000) := Lib.hid (by have := HB1.out.len; omega)
  have HBD : Hid (∀ t ∈ ts1, t.bytes.length ≤ 100000000 ∧ t.name.length ≤ 1000000000) := Lib.hid (fun t ht => by have := hbd t ht; omega)
  clear hdf hfew hbd hl66
  go_wp2_with fail
  refine (played_any hr1 hr2 (HB1.out.below hbw3) HL.out HBD.out).mono ?_
  rintro e w4 ⟨g, cs, S, rfl, -, hrd4, -, hb4, -⟩
  obtain ⟨A4, n4, c4, B4, m4, k4, rfl, -, -, -, -, -, -⟩ := hrd4
  have hbw4 := hbw3.trans (hb4.mono hbw3.size)
  generalize (⟨r, [], []⟩ : RDk).run ts1 = d at *
  have hb5 := hbw4.alloc hbw4.size (.cells #[.int .i64 (d.room : Int), .slice A4 n4 c4, .slice B4 m4 k4] 29)
  go_wp2_with fail
  refine (works_any _).mono ?_
  rintro e w' ⟨rfl, hb⟩
  go_wp2_with fail
  go_ret
  exact ⟨rfl, hb5.trans (hb.mono hb5.size)⟩

set_option maxRecDepth 100000 in
theorem lifted (os : Os) (started : os.Started) (H : Type) (enc : TypeId × Value → H) :
    ReturnsInHanded {} Try.checked os 4 .any (Rows.diskPlaysSpec.pre6 enc Try.prog Try.f4 Rows.diskPlaysRow.domain false) (Rows.diskPlaysSpec.post enc Try.prog Try.f4 false true false false) := by
  refine returnsInHanded_of_change (C := Try.checked) own started (by kernel_rfl) Try.func4
    (ChangeSpec.witness6 (enc := enc) (C := Try.checked) false ⟨#[], #[.int .i64 0, .slice none 0 0], []⟩ 8 (by kernel_rfl) (by kernel_rfl) (by kernel_rfl) (by kernel_rfl)) ?_
  intro W base args ds gs before hval0 hW hcnd _
  have hval : ∀ (j : Nat) t v, Try.f4.params[j]? = some t → args[j]? = some v → Value.okWide Try.prog W .any base t v := hval0
  have hW' := hW
  obtain ⟨p, q, hA0, hV, rfl, hfz, hnd⟩ := hW
  have hA : DataW.TrodAll enc Try.prog W 0 (fun _ => true) true Try.f4.params.toList args.toList ds p := hA0
  rw [Try.params4] at hA hval
  obtain ⟨v0, vs0, d0, ds0, p0, q0, hargs, rfl, rfl, h0, r0⟩ := trodAll_cons hA
  obtain ⟨v1, vs1, d1, ds1, p1, q1, rfl, rfl, rfl, h1, r1⟩ := trodAll_cons r0
  obtain ⟨rfl, rfl, rfl⟩ := trodAll_nil r1
  obtain rfl : args = #[v0, v1] := by cases args; simp_all
  obtain ⟨rfl, rfl⟩ := trodVars_none hV
  have k0 := h0
  have lt0 : ∀ x ∈ p0, x.block < W.heap.size := by obtain ⟨m, hm⟩ := k0; exact DataW.trod_lt m _ _ _ hm
  obtain ⟨n0, rfl, rfl, rfl, wf0⟩ := open_int Try.underlying3 (hval 0 3 v0 rfl rfl) h0
  have k1 := h1
  have lt1 : ∀ x ∈ p1, x.block < W.heap.size := by obtain ⟨m, hm⟩ := k1; exact DataW.trod_lt m _ _ _ hm
  obtain ⟨a1, len1, cap1, rfl⟩ := okWide_slice Try.underlying27 (hval 1 27 v1 rfl rfl)
  obtain ⟨ts1, b1, ok1, hc1, hm1⟩ := open_things h1
  clear hA0 hval0
  refine (walk n0 a1 len1 cap1 ts1 W (i64_bounds wf0) b1 ok1 hc1 hm1).mono fun e W' ⟨he, bel⟩ => ?_
  subst he
  exact ⟨_, rfl, _, _, _, [], _, [], hW', trodAll_mk1 (shut_bool Try.underlying4 _), (trodAll_cons_mk (Below.trod laidOut (by kernel_rfl) (of_decide_eq_true (by kernel_rfl)) k0 bel lt0) (trodAll_cons_mk (Below.trod laidOut (by kernel_rfl) (of_decide_eq_true (by kernel_rfl)) k1 bel lt1) trodAll_mk0)), rfl, bel.frame _, fun h => by cases h⟩

theorem over : Rows.diskPlaysRow.holds Try.pinned (OpenSpec.ofChange Rows.diskPlaysSpec) :=
  OpenClaim.holds_of_wide 4 Try.f4 rfl rfl rfl rfl rfl rfl rfl ⟨rfl, rfl, rfl, rfl, rfl⟩ rfl rfl rfl rfl rfl (by kernel_rfl) Try.func4 (by kernel_rfl)
    (of_decide_eq_true (by kernel_rfl)) (by unfold Func.isWrapper; first | (rw [if_pos (by decide +kernel)]; kernel_rfl) | (rw [if_neg (by decide +kernel)]; exact ⟨rfl, rfl⟩))
    (fun os started H enc _ => lifted os started H enc)

theorem proved : Rows.DiskPlaysSaid := over
end Go.Proofs.Ythhiiimmgghhaaa.diskPlays
namespace Go.Proofs.Ythhiiimmgghhaaa
theorem diskPlays_holds : Rows.DiskPlaysSaid := diskPlays.proved
#print axioms diskPlays_holds
end Go.Proofs.Ythhiiimmgghhaaa
