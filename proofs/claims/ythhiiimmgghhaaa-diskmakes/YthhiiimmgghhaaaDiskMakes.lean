/-
  DiskMakes: which disks there are, and what is told of none.
-/
import Derived.Test.YthhiiimmgghhaaaNil
import Derived.WalkKit
import Derived.ProofKit
import Derived.OpenShut
import Derived.ShutString
import Derived.ChangeOld
import Derived.Below
namespace Go.Proofs.Ythhiiimmgghhaaa.diskMakes
open Go.ChangeShapes Go.WideShapes Go.ChangeAt Go.RowKit
set_option linter.unusedVariables false
theorem own : ownKnob Try.prog.godebug = none := by kernel_rfl
theorem laidOut : laidOutB Try.prog = true := by kernel_rfl
set_option maxHeartbeats 4000000 in
set_option maxRecDepth 100000 in
theorem walk (n0 : Int) (w : World) (hn0 : -9223372036854775808 ≤ n0 ∧ n0 ≤ 9223372036854775807) :
    Calls Try.prog 3 #[.int .i64 n0] w fun e w' => e = .returned (.bool true) ∧ Below w.heap.size w w' := by
  by_cases hr : 1 ≤ n0 ∧ n0 ≤ 16777216
  case pos =>
    obtain ⟨room, rfl⟩ : ∃ r : Nat, n0 = (r : Int) := ⟨n0.toNat, by omega⟩
    go_enter Try.func3, Try.ntmps3
    go_wp2_with fail
    refine (new_mine room w (by omega) (by omega)).mono ?_
    rintro e w1 ⟨g, rfl, hM1, hb1⟩
    go_wp2_with fail
    refine (refNew_yes No (room := room) (by omega) (by omega)).mono ?_
    rintro e w2 ⟨cs, rfl, hrd, hb2⟩
    have HM1 := Lib.hid hM1
    have HRD := Lib.hid hrd
    have HB1 := Lib.hid hb1
    have HB12 := Lib.hid hb2
    have HB2 := Lib.hid (hb1.trans (hb2.mono hb1.size))
    obtain ⟨A, n, c, B, m, k, rfl, -⟩ := hrd
    clear hM1 hb1 hb2
    have b0 : Blk (w2.alloc (.cells #[.int .i64 0, .slice none 0 0, .slice none 0 0] 29)) w2.heap.size 29 #[.int .i64 0, .slice none 0 0, .slice none 0 0] := Blk.new _ _ _
    go_wp2_with (with_reducible refine at_store 29 rfl ?_)
    refine Stop.go (wpList_store_blk (by rfl) (by rfl) 29 _ _ (by rfl) w2.heap.size _ #[.int .i64 (room : Int), .slice A n c, .slice B m k] (by rfl) (by rfl) 29 b0 (by rfl) (info29 _ rfl) (by simp [Value.oneCell']) ?_)
    intro w3 f3 g3 s3
    have hb3 : Below w2.heap.size w2 w3 := below_grown ((Below.refl _ w2).alloc (Nat.le_refl _) (.cells #[.int .i64 0, .slice none 0 0, .slice none 0 0] 29)) g3 (Nat.le_refl _) (Nat.le_refl _)
    clear b0 g3 s3
    go_wp2_with (first
      | (go_at_call 14; refine (read_nil _ _).mono ?_; rintro e w' ⟨rfl, rfl⟩)
      | (go_at_call 15; refine (lasts_nil _ _).mono ?_; rintro e w' ⟨rfl, rfl⟩)
      | (go_at_call 17; refine (num_any _ _).mono ?_; rintro e w' ⟨rfl, rfl⟩)
      | (go_at_call 18; refine (put_nil _ _).mono ?_; rintro e w' ⟨rfl, rfl⟩)
      | (go_at_call 19; refine (cut_nil _ _).mono ?_; rintro e w' ⟨rfl, rfl⟩)
      | (go_at_call 20; refine (remove_nil _ _).mono ?_; rintro e w' ⟨rfl, rfl⟩)
      | (go_at_call 22; refine (waits_nil _).mono ?_; rintro e w' ⟨rfl, rfl⟩)
      | (go_at_call 23; refine (used_nil _).mono ?_; rintro e w' ⟨rfl, rfl⟩)
      | (go_at_call 24; refine (names_nil _).mono ?_; rintro e w' ⟨rfl, rfl⟩)
      | (go_at_call 25; refine (copy_nil _).mono ?_; rintro e w' ⟨rfl, rfl⟩)
      | fail)
    refine (crash_nil w3).mono ?_
    rintro e w4 ⟨rfl, hb4⟩
    have hb4' := hb3.trans (hb4.mono hb3.size)
    have f4 := f3.below hb4 f3.lt
    clear hb3 hb4 f3
    go_wp2_with (first
      | (go_at_call 14; refine (read_nil _ _).mono ?_; rintro e w' ⟨rfl, rfl⟩)
      | (go_at_call 15; refine (lasts_nil _ _).mono ?_; rintro e w' ⟨rfl, rfl⟩)
      | (go_at_call 17; refine (num_any _ _).mono ?_; rintro e w' ⟨rfl, rfl⟩)
      | (go_at_call 18; refine (put_nil _ _).mono ?_; rintro e w' ⟨rfl, rfl⟩)
      | (go_at_call 19; refine (cut_nil _ _).mono ?_; rintro e w' ⟨rfl, rfl⟩)
      | (go_at_call 20; refine (remove_nil _ _).mono ?_; rintro e w' ⟨rfl, rfl⟩)
      | (go_at_call 22; refine (waits_nil _).mono ?_; rintro e w' ⟨rfl, rfl⟩)
      | (go_at_call 23; refine (used_nil _).mono ?_; rintro e w' ⟨rfl, rfl⟩)
      | (go_at_call 24; refine (names_nil _).mono ?_; rintro e w' ⟨rfl, rfl⟩)
      | (go_at_call 25; refine (copy_nil _).mono ?_; rintro e w' ⟨rfl, rfl⟩)
      | fail)
    refine (flush_nil w4).mono ?_
    rintro e w5 ⟨rfl, hb5⟩
    have hb5' := hb4'.trans (hb5.mono hb4'.size)
    have f5 := f4.below hb5 f4.lt
    clear hb4' hb5 f4
    go_wp2_with (first
      | (go_at_call 14; refine (read_nil _ _).mono ?_; rintro e w' ⟨rfl, rfl⟩)
      | (go_at_call 15; refine (lasts_nil _ _).mono ?_; rintro e w' ⟨rfl, rfl⟩)
      | (go_at_call 17; refine (num_any _ _).mono ?_; rintro e w' ⟨rfl, rfl⟩)
      | (go_at_call 18; refine (put_nil _ _).mono ?_; rintro e w' ⟨rfl, rfl⟩)
      | (go_at_call 19; refine (cut_nil _ _).mono ?_; rintro e w' ⟨rfl, rfl⟩)
      | (go_at_call 20; refine (remove_nil _ _).mono ?_; rintro e w' ⟨rfl, rfl⟩)
      | (go_at_call 22; refine (waits_nil _).mono ?_; rintro e w' ⟨rfl, rfl⟩)
      | (go_at_call 23; refine (used_nil _).mono ?_; rintro e w' ⟨rfl, rfl⟩)
      | (go_at_call 24; refine (names_nil _).mono ?_; rintro e w' ⟨rfl, rfl⟩)
      | (go_at_call 25; refine (copy_nil _).mono ?_; rintro e w' ⟨rfl, rfl⟩)
      | fail)
    refine (same_nil w5).mono ?_
    rintro e w' ⟨rfl, rfl⟩
    have x0 := f5.cell 0
    have x1 := f5.cell 1
    have x2 := f5.cell 2
    simp at x0 x1 x2
    have HB5 := Lib.hid (HB2.out.trans (hb5'.mono HB2.out.size))
    have HRD5 := Lib.hid (HRD.out.below hb5')
    have hb15 : Below w1.heap.size w1 w5 := HB12.out.trans (hb5'.mono HB12.out.size)
    have HM5 := Lib.hid (HM1.out.below hb15)
    clear hb5' hb15 f5
    go_wp2_with (first
      | (go_at_call 17; refine (num_any _ _).mono ?_; rintro e w' ⟨rfl, rfl⟩)
      | fail)
    obtain ⟨S5, hD5, hS5⟩ := HM5.out
    clear HM5
    refine (is_any hD5 HRD5.out rfl ⟨hD5.ok, fun t ht => (by cases ht), by unfold St.size RDk.st; simp⟩ (fun b hb => hb.elim) (fun p hp => (by cases hp)) (fun p hp => (by cases hp)) (by unfold St.size; simp)).mono ?_
    rintro e w6 ⟨rfl, hb6⟩
    have hD6 := hD5.below hb6
    have HB6 := Lib.hid (HB5.out.trans (hb6.mono HB5.out.size))
    have hSL := same_left hD6
    have hSR := same_right hD6
    clear hD5 hS5 hb6 hD6
    go_wp2_with fail
    refine hSL.mono ?_
    rintro e w' ⟨rfl, rfl⟩
    go_wp2_with fail
    refine hSR.mono ?_
    rintro e w' ⟨rfl, rfl⟩
    go_wp2_with (go_at_call 27; refine (works_any w6).mono ?_; rintro e w7 ⟨rfl, hb7⟩)
    go_ret
    exact ⟨rfl, HB6.out.trans (hb7.mono HB6.out.size)⟩
  case neg =>
    go_enter Try.func3, Try.ntmps3
    go_wp2_with fail
    refine (new_no n0 w (by omega)).mono ?_
    rintro e w1 ⟨rfl, rfl⟩
    go_wp2_with fail
    refine (refNew_no No (room := n0) (by omega)).mono ?_
    rintro e w2 ⟨cs, rfl, hrd, hb2⟩
    have HB2 := Lib.hid hb2
    obtain ⟨A, n, c, B, m, k, rfl, -⟩ := hrd
    clear hb2
    have b0 : Blk (w2.alloc (.cells #[.int .i64 0, .slice none 0 0, .slice none 0 0] 29)) w2.heap.size 29 #[.int .i64 0, .slice none 0 0, .slice none 0 0] := Blk.new _ _ _
    go_wp2_with (with_reducible refine at_store 29 rfl ?_)
    refine Stop.go (wpList_store_blk (by rfl) (by rfl) 29 _ _ (by rfl) w2.heap.size _ #[.int .i64 ((0 : Nat) : Int), .slice A n c, .slice B m k] (by rfl) (by rfl) 29 b0 (by rfl) (info29 _ rfl) (by simp [Value.oneCell']) ?_)
    intro w3 f3 g3 s3
    have hb3 : Below w.heap.size w w3 := below_grown (HB2.out.alloc HB2.out.size _) g3 (Nat.le_refl _) HB2.out.size
    clear b0 g3 s3
    go_wp2_with (first
      | (go_at_call 14; refine (read_nil _ _).mono ?_; rintro e w' ⟨rfl, rfl⟩)
      | (go_at_call 15; refine (lasts_nil _ _).mono ?_; rintro e w' ⟨rfl, rfl⟩)
      | (go_at_call 17; refine (num_any _ _).mono ?_; rintro e w' ⟨rfl, rfl⟩)
      | (go_at_call 18; refine (put_nil _ _).mono ?_; rintro e w' ⟨rfl, rfl⟩)
      | (go_at_call 19; refine (cut_nil _ _).mono ?_; rintro e w' ⟨rfl, rfl⟩)
      | (go_at_call 20; refine (remove_nil _ _).mono ?_; rintro e w' ⟨rfl, rfl⟩)
      | (go_at_call 22; refine (waits_nil _).mono ?_; rintro e w' ⟨rfl, rfl⟩)
      | (go_at_call 23; refine (used_nil _).mono ?_; rintro e w' ⟨rfl, rfl⟩)
      | (go_at_call 24; refine (names_nil _).mono ?_; rintro e w' ⟨rfl, rfl⟩)
      | (go_at_call 25; refine (copy_nil _).mono ?_; rintro e w' ⟨rfl, rfl⟩)
      | fail)
    refine (crash_nil w3).mono ?_
    rintro e w4 ⟨rfl, hb4⟩
    have hb4' := hb3.trans (hb4.mono hb3.size)
    have f4 := f3.below hb4 f3.lt
    clear hb3 hb4 f3
    go_wp2_with (first
      | (go_at_call 14; refine (read_nil _ _).mono ?_; rintro e w' ⟨rfl, rfl⟩)
      | (go_at_call 15; refine (lasts_nil _ _).mono ?_; rintro e w' ⟨rfl, rfl⟩)
      | (go_at_call 17; refine (num_any _ _).mono ?_; rintro e w' ⟨rfl, rfl⟩)
      | (go_at_call 18; refine (put_nil _ _).mono ?_; rintro e w' ⟨rfl, rfl⟩)
      | (go_at_call 19; refine (cut_nil _ _).mono ?_; rintro e w' ⟨rfl, rfl⟩)
      | (go_at_call 20; refine (remove_nil _ _).mono ?_; rintro e w' ⟨rfl, rfl⟩)
      | (go_at_call 22; refine (waits_nil _).mono ?_; rintro e w' ⟨rfl, rfl⟩)
      | (go_at_call 23; refine (used_nil _).mono ?_; rintro e w' ⟨rfl, rfl⟩)
      | (go_at_call 24; refine (names_nil _).mono ?_; rintro e w' ⟨rfl, rfl⟩)
      | (go_at_call 25; refine (copy_nil _).mono ?_; rintro e w' ⟨rfl, rfl⟩)
      | fail)
    refine (flush_nil w4).mono ?_
    rintro e w5 ⟨rfl, hb5⟩
    have hb5' := hb4'.trans (hb5.mono hb4'.size)
    have f5 := f4.below hb5 f4.lt
    clear hb4' hb5 f4
    go_wp2_with (first
      | (go_at_call 14; refine (read_nil _ _).mono ?_; rintro e w' ⟨rfl, rfl⟩)
      | (go_at_call 15; refine (lasts_nil _ _).mono ?_; rintro e w' ⟨rfl, rfl⟩)
      | (go_at_call 17; refine (num_any _ _).mono ?_; rintro e w' ⟨rfl, rfl⟩)
      | (go_at_call 18; refine (put_nil _ _).mono ?_; rintro e w' ⟨rfl, rfl⟩)
      | (go_at_call 19; refine (cut_nil _ _).mono ?_; rintro e w' ⟨rfl, rfl⟩)
      | (go_at_call 20; refine (remove_nil _ _).mono ?_; rintro e w' ⟨rfl, rfl⟩)
      | (go_at_call 22; refine (waits_nil _).mono ?_; rintro e w' ⟨rfl, rfl⟩)
      | (go_at_call 23; refine (used_nil _).mono ?_; rintro e w' ⟨rfl, rfl⟩)
      | (go_at_call 24; refine (names_nil _).mono ?_; rintro e w' ⟨rfl, rfl⟩)
      | (go_at_call 25; refine (copy_nil _).mono ?_; rintro e w' ⟨rfl, rfl⟩)
      | fail)
    refine (same_nil w5).mono ?_
    rintro e w' ⟨rfl, rfl⟩
    go_wp2_with (first
      | (go_at_call 17; refine (num_any _ _).mono ?_; rintro e w' ⟨rfl, rfl⟩)
      | (go_at_call 27; refine (works_any w5).mono ?_; rintro e w7 ⟨rfl, hb7⟩))
    go_ret
    exact ⟨rfl, hb5'.trans (hb7.mono hb5'.size)⟩

set_option maxRecDepth 100000 in
theorem lifted (os : Os) (started : os.Started) (H : Type) (enc : TypeId × Value → H) :
    ReturnsInHanded {} Try.checked os 3 .any (Rows.diskMakesSpec.pre6 enc Try.prog Try.f3 Rows.diskMakesRow.domain false) (Rows.diskMakesSpec.post enc Try.prog Try.f3 false true false false) := by
  refine returnsInHanded_of_change (C := Try.checked) own started (by kernel_rfl) Try.func3
    (ChangeSpec.witness6 (enc := enc) (C := Try.checked) false ⟨#[], #[.int .i64 0], []⟩ 8 (by kernel_rfl) (by kernel_rfl) (by kernel_rfl) (by kernel_rfl)) ?_
  intro W base args ds gs before hval0 hW hcnd _
  have hval : ∀ (j : Nat) t v, Try.f3.params[j]? = some t → args[j]? = some v → Value.okWide Try.prog W .any base t v := hval0
  have hW' := hW
  obtain ⟨p, q, hA0, hV, rfl, hfz, hnd⟩ := hW
  have hA : DataW.TrodAll enc Try.prog W 0 (fun _ => true) true Try.f3.params.toList args.toList ds p := hA0
  rw [Try.params3] at hA hval
  obtain ⟨v0, vs0, d0, ds0, p0, q0, hargs, rfl, rfl, h0, r0⟩ := trodAll_cons hA
  obtain ⟨rfl, rfl, rfl⟩ := trodAll_nil r0
  obtain rfl : args = #[v0] := by cases args; simp_all
  obtain ⟨rfl, rfl⟩ := trodVars_none hV
  have k0 := h0
  have lt0 : ∀ x ∈ p0, x.block < W.heap.size := by obtain ⟨m, hm⟩ := k0; exact DataW.trod_lt m _ _ _ hm
  obtain ⟨n0, rfl, rfl, rfl, wf0⟩ := open_int Try.underlying3 (hval 0 3 v0 rfl rfl) h0
  clear hA0 hval0
  refine (walk n0 W (i64_bounds wf0)).mono fun e W' ⟨he, bel⟩ => ?_
  subst he
  exact ⟨_, rfl, _, _, _, [], _, [], hW', trodAll_mk1 (shut_bool Try.underlying4 _), (trodAll_cons_mk (Below.trod laidOut (by kernel_rfl) (of_decide_eq_true (by kernel_rfl)) k0 bel lt0) trodAll_mk0), rfl, bel.frame _, fun h => by cases h⟩

theorem over : Rows.diskMakesRow.holds Try.pinned (OpenSpec.ofChange Rows.diskMakesSpec) :=
  OpenClaim.holds_of_wide 3 Try.f3 rfl rfl rfl rfl rfl rfl rfl ⟨rfl, rfl, rfl, rfl, rfl⟩ rfl rfl rfl rfl rfl (by kernel_rfl) Try.func3 (by kernel_rfl)
    (of_decide_eq_true (by kernel_rfl)) (by unfold Func.isWrapper; first | (rw [if_pos (by decide +kernel)]; kernel_rfl) | (rw [if_neg (by decide +kernel)]; exact ⟨rfl, rfl⟩))
    (fun os started H enc _ => lifted os started H enc)

theorem proved : Rows.DiskMakesSaid := over
end Go.Proofs.Ythhiiimmgghhaaa.diskMakes
namespace Go.Proofs.Ythhiiimmgghhaaa
theorem diskMakes_holds : Rows.DiskMakesSaid := diskMakes.proved
#print axioms diskMakes_holds
end Go.Proofs.Ythhiiimmgghhaaa
