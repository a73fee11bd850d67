/-
  How many bytes a disk has room for, DiskFull: true for every room and numbers.
-/
import Derived.Test.YthhiiimmgghhaaaWorks
import Derived.Test.YthhiiimmgghhaaaOpen
import Derived.Test.YthhiiimmgghhaaaIntRow
import Derived.WalkKit
import Derived.ProofKit
import Derived.OpenShut
import Derived.ShutString
import Derived.ChangeOld
import Derived.Below
namespace Go.Proofs.Ythhiiimmgghhaaa.diskFull
open Go.ChangeShapes Go.WideShapes Go.ChangeAt Go.RowKit
set_option linter.unusedVariables false
theorem own : ownKnob Try.prog.godebug = none := by kernel_rfl
theorem laidOut : laidOutB Try.prog = true := by kernel_rfl
set_option maxHeartbeats 4000000 in
set_option maxRecDepth 100000 in
theorem walk (n0 : Int) (a1 : Option Addr) (len1 cap1 : Nat) (z1 : List Int) (w : World) (hn0 : -9223372036854775808 ≤ n0 ∧ n0 ≤ 9223372036854775807) (b1 : Ints w a1 len1 z1) (hc1 : len1 ≤ cap1) (hm1 : cap1 ≤ maxLen) :
    Calls Try.prog 9 #[.int .i64 n0, .slice a1 len1 cap1] w fun e w' => e = .returned (.bool true) ∧ Below w.heap.size w w' := by
  have hlen := b1.1
  have HZ := Lib.hid b1
  by_cases hg : 1 ≤ n0 ∧ n0 ≤ 2000 ∧ len1 ≤ 40
  case neg =>
    have hd : (n0 < 1 ∨ 2000 < n0) ∨ 40 < len1 := by omega
    go_enter Try.func9, Try.ntmps9
    go_wp2_with (go_at_call 27; refine (works_any w).mono ?_; rintro e w' ⟨rfl, hb⟩)
    all_goals first
      | (go_ret; exact ⟨rfl, hb⟩)
      | (exfalso; omega)
  case pos =>
  obtain ⟨hg1, hg2, hg3⟩ := hg
  obtain ⟨r, rfl⟩ : ∃ r : Nat, n0 = (r : Int) := ⟨n0.toNat, by omega⟩
  clear b1 hlen
  go_enter Try.func9, Try.ntmps9
  go_wp2_with fail
  refine (new_mine r w (by omega) (by omega)).mono ?_
  rintro e w1 ⟨g, rfl, hM1, hb1⟩
  go_wp2_with fail
  go_loopw [7, 8] (fun u i wr => ∃ (k : Nat) (s : St), k ≤ len1 ∧ u = .int .i64 (total s.files : Int) ∧ i = .int .i64 k ∧ Mine w.heap.size g s wr ∧ Below w.heap.size w wr ∧ s.room = r ∧ s.size ≤ k) (fun _ i _ => len1 - (intOf i).toNat)
  case atStart => exact ⟨0, ⟨r, [], []⟩, by omega, rfl, rfl, hM1, hb1, rfl, by simp [St.size]⟩
  case round =>
    obtain ⟨k, s, hk, rfl, rfl, hM, hb, hroom, hsz⟩ := hrel
    have HB := Lib.hid hb
    have HM := Lib.hid hM
    have HR := Lib.hid hroom
    clear hb hM hroom hM1 hb1
    by_cases hlt : k < len1
    case neg =>
      have hd1 : decide (k < len1) = false := by simpa using hlt
      go_wp2_with (first
        | (go_at_call 17; refine (num_any _ _).mono ?_; rintro e w' ⟨rfl, rfl⟩)
        | (go_at_call 27; refine (works_any wr).mono ?_; rintro e w6 ⟨rfl, hb6⟩))
      go_ret
      exact ⟨rfl, HB.out.trans (hb6.mono HB.out.size)⟩
    case pos =>
    obtain ⟨ad, rfl, hadl, hcell⟩ := (HZ.out.below HB.out).2 (by omega)
    have hzl : k < z1.length := by have := HZ.out.1; omega
    have hc := hcell k z1[k] (List.getElem?_eq_getElem hzl)
    generalize z1[k] = z at hc
    clear hcell hadl hzl
    obtain ⟨nn, hmax, hnn⟩ : ∃ nn : Nat, max 0 (min 300 z) = (nn : Int) ∧ nn ≤ 300 := ⟨(max 0 (min 300 z)).toNat, by omega, by omega⟩
    have hmk := noughts nn (by omega)
    have htot : total s.files ≤ r := by
      obtain ⟨S, hD, _⟩ := HM.out
      have := hD.ok.total_le
      rw [HR.out] at this
      exact this
    go_wp2_with fail
    have hM2 := HM.out.below ((Below.refl _ wr).alloc (Nat.le_refl _) (.cells (List.replicate nn (Value.int .u8 0)).toArray 5))
    have hb2 := HB.out.alloc HB.out.size (.cells (List.replicate nn (Value.int .u8 0)).toArray 5)
    refine (put_mine hM2 [120] _ nn _ (List.replicate nn 0) (bys_noughts wr nn) (by simp) (by omega) (by omega)).mono ?_
    rintro e w3 ⟨rfl, hM3, hb3⟩
    have HB3 := Lib.hid (hb2.trans hb3)
    clear hmk hM2 hb2 hb3 hmax hc
    by_cases hfit : (nn : Int) ≤ (r : Int) - (total s.files : Int)
    · have ep : putC s [120] (List.replicate nn 0) = 0 := by
        unfold putC
        rw [if_pos (by decide), if_pos (by rw [HR.out, List.length_replicate]; exact hfit)]
      rw [ep, if_pos rfl] at hM3
      rw [ep]
      have htot2 : total (s.done (.put [120] (List.replicate nn 0))).files = total s.files + nn := by
        rw [St.files_done]; show total (putF _ _ _) = _; rw [total_put, List.length_replicate]
      have HT2 := Lib.hid htot2
      obtain ⟨S3, hD3, hS3⟩ := hM3
      have hU := used_any hD3
      rw [htot2] at hU
      have HM3 : Hid (Mine w.heap.size g (s.done (.put [120] (List.replicate nn 0))) w3) := Lib.hid ⟨S3, hD3, hS3⟩
      clear htot2 hD3 ep
      go_wp2_with (first
        | (go_at_call 17; refine (num_any _ _).mono ?_; rintro e w' ⟨rfl, rfl⟩)
        | (go_at_call 23; refine hU.mono ?_; rintro e w' ⟨rfl, rfl⟩))
      go_roundw
      case rel => exact ⟨k + 1, s.done (.put [120] (List.replicate nn 0)), by omega, by rw [HT2.out]; go_num, by go_num, HM3.out, HB3.out, HR.out, by rw [St.size_done]; omega⟩
      case measure => simp [intOf]; omega
    · have ep : putC s [120] (List.replicate nn 0) = 131 := by
        unfold putC
        rw [if_pos (by decide), if_neg (by rw [HR.out, List.length_replicate]; exact hfit)]
      rw [ep, if_neg (by omega)] at hM3
      rw [ep]
      obtain ⟨S3, hD3, hS3⟩ := hM3
      have hU := used_any hD3
      have HM3 : Hid (Mine w.heap.size g s w3) := Lib.hid ⟨S3, hD3, hS3⟩
      clear hD3 ep
      go_wp2_with (first
        | (go_at_call 17; refine (num_any _ _).mono ?_; rintro e w' ⟨rfl, rfl⟩)
        | (go_at_call 23; refine hU.mono ?_; rintro e w' ⟨rfl, rfl⟩))
      go_roundw
      case rel => exact ⟨k + 1, s, by omega, rfl, by go_num, HM3.out, HB3.out, HR.out, by omega⟩
      case measure => simp [intOf]; omega

set_option maxRecDepth 100000 in
theorem lifted (os : Os) (started : os.Started) (H : Type) (enc : TypeId × Value → H) :
    ReturnsInHanded {} Try.checked os 9 .any (Rows.diskFullSpec.pre6 enc Try.prog Try.f9 Rows.diskFullRow.domain false) (Rows.diskFullSpec.post enc Try.prog Try.f9 false true false false) := by
  refine returnsInHanded_of_change (C := Try.checked) own started (by kernel_rfl) Try.func9
    (ChangeSpec.witness6 (enc := enc) (C := Try.checked) false ⟨#[], #[.int .i64 0, .slice none 0 0], []⟩ 8 (by kernel_rfl) (by kernel_rfl) (by kernel_rfl) (by kernel_rfl)) ?_
  intro W base args ds gs before hval0 hW hcnd _
  have hval : ∀ (j : Nat) t v, Try.f9.params[j]? = some t → args[j]? = some v → Value.okWide Try.prog W .any base t v := hval0
  have hW' := hW
  obtain ⟨p, q, hA0, hV, rfl, hfz, hnd⟩ := hW
  have hA : DataW.TrodAll enc Try.prog W 0 (fun _ => true) true Try.f9.params.toList args.toList ds p := hA0
  rw [Try.params9] at hA hval
  obtain ⟨v0, vs0, d0, ds0, p0, q0, hargs, rfl, rfl, h0, r0⟩ := trodAll_cons hA
  obtain ⟨v1, vs1, d1, ds1, p1, q1, rfl, rfl, rfl, h1, r1⟩ := trodAll_cons r0
  obtain ⟨rfl, rfl, rfl⟩ := trodAll_nil r1
  obtain rfl : args = #[v0, v1] := by cases args; simp_all
  obtain ⟨rfl, rfl⟩ := trodVars_none hV
  have k0 := h0
  have lt0 : ∀ x ∈ p0, x.block < W.heap.size := by obtain ⟨m, hm⟩ := k0; exact DataW.trod_lt m _ _ _ hm
  obtain ⟨n0, rfl, rfl, rfl, wf0⟩ := open_int Try.underlying3 (hval 0 3 v0 rfl rfl) h0
  have k1 := h1
  have lt1 : ∀ x ∈ p1, x.block < W.heap.size := by obtain ⟨m, hm⟩ := k1; exact DataW.trod_lt m _ _ _ hm
  obtain ⟨a1, len1, cap1, z1, rfl, b1, hc1, hm1⟩ := open_introw h1 (slice_one Try.underlying71 (hval 1 71 v1 rfl rfl))
  clear hA0 hval0
  refine (walk n0 a1 len1 cap1 z1 W (i64_bounds wf0) b1 hc1 hm1).mono fun e W' ⟨he, bel⟩ => ?_
  subst he
  exact ⟨_, rfl, _, _, _, [], _, [], hW', trodAll_mk1 (shut_bool Try.underlying4 _), (trodAll_cons_mk (Below.trod laidOut (by kernel_rfl) (of_decide_eq_true (by kernel_rfl)) k0 bel lt0) (trodAll_cons_mk (Below.trod laidOut (by kernel_rfl) (of_decide_eq_true (by kernel_rfl)) k1 bel lt1) trodAll_mk0)), rfl, bel.frame _, fun h => by cases h⟩

theorem over : Rows.diskFullRow.holds Try.pinned (OpenSpec.ofChange Rows.diskFullSpec) :=
  OpenClaim.holds_of_wide 9 Try.f9 rfl rfl rfl rfl rfl rfl rfl ⟨rfl, rfl, rfl, rfl, rfl⟩ rfl rfl rfl rfl rfl (by kernel_rfl) Try.func9 (by kernel_rfl)
    (of_decide_eq_true (by kernel_rfl)) (by unfold Func.isWrapper; first | (rw [if_pos (by decide +kernel)]; kernel_rfl) | (rw [if_neg (by decide +kernel)]; exact ⟨rfl, rfl⟩))
    (fun os started H enc _ => lifted os started H enc)

theorem proved : Rows.DiskFullSaid := over
end Go.Proofs.Ythhiiimmgghhaaa.diskFull
namespace Go.Proofs.Ythhiiimmgghhaaa
theorem diskFull_holds : Rows.DiskFullSaid := diskFull.proved
#print axioms diskFull_holds
end Go.Proofs.Ythhiiimmgghhaaa
