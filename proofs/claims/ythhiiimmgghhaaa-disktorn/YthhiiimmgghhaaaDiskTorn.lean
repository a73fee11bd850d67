/-
  waystationlaw03.DiskTorn is true for all bytes and every crash. Nothing is assumed.
-/
import Derived.Test.YthhiiimmgghhaaaBehind
import Derived.Test.YthhiiimmgghhaaaFew
import Derived.Test.YthhiiimmgghhaaaWorks
import Derived.Test.YthhiiimmgghhaaaIntRow
import Derived.WalkKit
import Derived.ProofKit
import Derived.OpenShut
import Derived.ShutString
import Derived.ChangeOld
import Derived.Below
namespace Go.Proofs.Ythhiiimmgghhaaa.diskTorn
open Go.ChangeShapes Go.WideShapes Go.ChangeAt Go.RowKit
set_option linter.unusedVariables false
theorem own : ownKnob Try.prog.godebug = none := by kernel_rfl
theorem laidOut : laidOutB Try.prog = true := by kernel_rfl
set_option maxHeartbeats 4000000 in
set_option maxRecDepth 100000 in
theorem walk (a0 : Option Addr) (len0 cap0 : Nat) (l0 : Bs) (a1 : Option Addr) (len1 cap1 : Nat) (l1 : Bs) (kp2 tn2 : Int) (w : World) (b0 : Bys w No a0 len0 l0) (hc0 : len0 ≤ cap0) (hm0 : cap0 ≤ maxLen) (b1 : Bys w No a1 len1 l1) (hc1 : len1 ≤ cap1) (hm1 : cap1 ≤ maxLen) (hk2 : -9223372036854775808 ≤ kp2 ∧ kp2 ≤ 9223372036854775807) (ht2 : -9223372036854775808 ≤ tn2 ∧ tn2 ≤ 9223372036854775807) :
    Calls Try.prog 8 #[.slice a0 len0 cap0, .slice a1 len1 cap1, .agg #[.int .i64 kp2, .int .i64 tn2]] w fun e w' => e = .returned (.bool true) ∧ Below w.heap.size w w' := by
  have HB0 := Lib.hid b0
  have HB1 := Lib.hid b1
  clear b0 b1
  go_enter Try.func8, Try.ntmps8
  have hb1 : Below w.heap.size w (w.alloc (.cells #[.int .i64 kp2, .int .i64 tn2] 37)) := (Below.refl _ _).alloc (Nat.le_refl _) _
  have hx1 : Blk (w.alloc (.cells #[.int .i64 kp2, .int .i64 tn2] 37)) w.heap.size 37 #[.int .i64 kp2, .int .i64 tn2] := Blk.new w 37 _
  by_cases h0 : len0 ≤ 300
  case neg =>
    have hd0 : decide (300 < len0) = true := by simp; omega
    go_wp2_with fail
    refine (works_any _).mono ?_
    rintro e w' ⟨rfl, hb⟩
    go_wp2_with fail
    go_ret
    exact ⟨rfl, hb1.trans (hb.mono hb1.size)⟩
  case pos =>
  have hd0 : decide (300 < len0) = false := by simp; omega
  by_cases h1 : len1 ≤ 300
  case neg =>
    have hd1 : decide (300 < len1) = true := by simp; omega
    go_wp2_with fail
    refine (works_any _).mono ?_
    rintro e w' ⟨rfl, hb⟩
    go_wp2_with fail
    go_ret
    exact ⟨rfl, hb1.trans (hb.mono hb1.size)⟩
  case pos =>
  have hd1 : decide (300 < len1) = false := by simp; omega
  have hts := rts_three (HB0.out.below hb1) (HB1.out.below hb1) hc0 hm0 hc1 hm1
  have hal : Below (w.alloc (.cells #[.int .i64 kp2, .int .i64 tn2] 37)).heap.size (w.alloc (.cells #[.int .i64 kp2, .int .i64 tn2] 37)) ((w.alloc (.cells #[.int .i64 kp2, .int .i64 tn2] 37)).alloc (.cells #[.int .i64 0, .string ⟨#[97]⟩, .slice a0 len0 cap0, .int .i64 0, .int .i64 3, .string ⟨#[]⟩, .slice none 0 0, .int .i64 0, .int .i64 0, .string ⟨#[97]⟩, .slice a1 len1 cap1, .int .i64 0] 65)) := (Below.refl _ _).alloc (Nat.le_refl _) _
  have hx2 := hx1.below hal hx1.lt
  have hb2 := hb1.trans (hal.mono hb1.size)
  rw [World.size_alloc] at hts
  have HBD : Hid (∀ t ∈ [(⟨0, [97], l0, 0⟩ : RT), ⟨3, [], [], 0⟩, ⟨0, [97], l1, 0⟩], t.bytes.length ≤ 100000000 ∧ t.name.length ≤ 1000000000) := Lib.hid (fun t ht => by
    have e0 := HB0.out.1
    have e1 := HB1.out.1
    simp at ht
    rcases ht with rfl | rfl | rfl
    · exact ⟨by show l0.length ≤ _; omega, by show ([97] : Bs).length ≤ _; decide⟩
    · exact ⟨by decide, by decide⟩
    · exact ⟨by show l1.length ≤ _; omega, by show ([97] : Bs).length ≤ _; decide⟩)
  go_wp2_with fail
  generalize (w.alloc (.cells #[.int .i64 kp2, .int .i64 tn2] 37)).alloc (.cells #[.int .i64 0, .string ⟨#[97]⟩, .slice a0 len0 cap0, .int .i64 0, .int .i64 3, .string ⟨#[]⟩, .slice none 0 0, .int .i64 0, .int .i64 0, .string ⟨#[97]⟩, .slice a1 len1 cap1, .int .i64 0] 65) = w2 at *
  refine (played_any (room := 1000) (by omega) (by omega) hts (by omega) HBD.out).mono ?_
  rintro e w3 ⟨g, cs, S, rfl, hdk3, hrd3, hS3, hb3, hok, hnmd, hsz⟩
  generalize (⟨1000, [], []⟩ : RDk).run [(⟨0, [97], l0, 0⟩ : RT), ⟨3, [], [], 0⟩, ⟨0, [97], l1, 0⟩] = d at *
  have HRD3 := Lib.hid hrd3
  obtain ⟨A, n, c, B, m, k0, rfl, -, -, -, -, -, -⟩ := hrd3
  have hal3 : Below w3.heap.size w3 (w3.alloc (.cells #[.int .i64 (d.room : Int), .slice A n c, .slice B m k0] 29)) := (Below.refl _ _).alloc (Nat.le_refl _) _
  have hb34 := hb3.trans (hal3.mono hb3.size)
  have hb4 := hb2.trans (hb34.mono hb2.size)
  have hx4 := hx2.below hb34 hx2.lt
  have hdk4 := hdk3.below hal3
  have HRD4 := Lib.hid (HRD3.out.below hal3)
  have hv4 : Blk (w3.alloc (.cells #[.int .i64 (d.room : Int), .slice A n c, .slice B m k0] 29)) w3.heap.size 29 #[.int .i64 (d.room : Int), .slice A n c, .slice B m k0] := Blk.new _ _ _
  have f0 : (w3.alloc (.cells #[.int .i64 (d.room : Int), .slice A n c, .slice B m k0] 29)).cell? ⟨w.heap.size, 0, none⟩ = some (.int .i64 kp2) := hx4.cell 0
  have f1 : (w3.alloc (.cells #[.int .i64 (d.room : Int), .slice A n c, .slice B m k0] 29)).cell? ⟨w.heap.size, 1, none⟩ = some (.int .i64 tn2) := hx4.cell 1
  clear hts hb1 hx1 hal hx2 hb2 hb3 hb34 hdk3 hal3
  go_wp2_with fail
  generalize w3.alloc (.cells #[.int .i64 (d.room : Int), .slice A n c, .slice B m k0] 29) = w4 at *
  generalize w3.heap.size = zv at *
  refine (diskCrash_any hdk4 kp2 tn2 (by omega)).mono ?_
  rintro e w5 ⟨p, rfl, g', S', rfl, hdk5, -, hb5⟩
  have hv5 := hv4.below hb5 hv4.lt
  have hx5 := hx4.below hb5 hx4.lt
  have hb5' := hb4.trans (hb5.mono hb4.size)
  have HRD5 := Lib.hid (HRD4.out.below hb5)
  have HDK5 := Lib.hid hdk5
  have HOK := Lib.hid hok
  have HND := Lib.hid hnmd
  clear f0 f1 hv4 hx4 hb4 hb5 hdk4 hdk5 hok hnmd
  have f0 : w5.cell? ⟨w.heap.size, 0, none⟩ = some (.int .i64 kp2) := hx5.cell 0
  have f1 : w5.cell? ⟨w.heap.size, 1, none⟩ = some (.int .i64 tn2) := hx5.cell 1
  obtain ⟨e0, e1, e2⟩ := hv5.three
  go_wp2_with (go_at_call 17; refine (num_any _ _).mono ?_; rintro e w' ⟨rfl, rfl⟩)
  refine (refCrash_any (X := No) (HRD5.out.wide (fun _ _ e => e.elim)) (fun b e => e.elim) HOK.out kp2 tn2).mono ?_
  rintro e w6 ⟨cs6, rfl, hrd6, hb6⟩
  have hb6' := hb5'.trans (hb6.mono hb5'.size)
  go_wp2_with fail
  refine (is_any (HDK5.out.below hb6) hrd6 rfl (HOK.out.crash kp2 tn2) (fun b e => e.elim) (HND.out.crash kp2 tn2).1 (HND.out.crash kp2 tn2).files (by have := crash_size (d := d) kp2 tn2; rw [RDk.crash_st] at this; omega)).mono ?_
  rintro e w7 ⟨rfl, hb7⟩
  have hb7' := hb6'.trans (hb7.mono hb6'.size)
  go_wp2_with fail
  refine (works_any _).mono ?_
  rintro e w8 ⟨rfl, hb8⟩
  go_wp2_with fail
  go_ret
  exact ⟨rfl, hb7'.trans (hb8.mono hb7'.size)⟩

set_option maxRecDepth 100000 in
theorem lifted (os : Os) (started : os.Started) (H : Type) (enc : TypeId × Value → H) :
    ReturnsInHanded {} Try.checked os 8 .any (Rows.diskTornSpec.pre6 enc Try.prog Try.f8 Rows.diskTornRow.domain false) (Rows.diskTornSpec.post enc Try.prog Try.f8 false true false false) := by
  refine returnsInHanded_of_change (C := Try.checked) own started (by kernel_rfl) Try.func8
    (ChangeSpec.witness6 (enc := enc) (C := Try.checked) false ⟨#[], #[.slice none 0 0, .slice none 0 0, .agg #[.int .i64 0, .int .i64 0]], []⟩ 8 (by kernel_rfl) (by kernel_rfl) (by kernel_rfl) (by kernel_rfl)) ?_
  intro W base args ds gs before hval0 hW hcnd _
  have hval : ∀ (j : Nat) t v, Try.f8.params[j]? = some t → args[j]? = some v → Value.okWide Try.prog W .any base t v := hval0
  have hW' := hW
  obtain ⟨p, q, hA0, hV, rfl, hfz, hnd⟩ := hW
  have hA : DataW.TrodAll enc Try.prog W 0 (fun _ => true) true Try.f8.params.toList args.toList ds p := hA0
  rw [Try.params8] at hA hval
  obtain ⟨v0, vs0, d0, ds0, p0, q0, hargs, rfl, rfl, h0, r0⟩ := trodAll_cons hA
  obtain ⟨v1, vs1, d1, ds1, p1, q1, rfl, rfl, rfl, h1, r1⟩ := trodAll_cons r0
  obtain ⟨v2, vs2, d2, ds2, p2, q2, rfl, rfl, rfl, h2, r2⟩ := trodAll_cons r1
  obtain ⟨rfl, rfl, rfl⟩ := trodAll_nil r2
  obtain rfl : args = #[v0, v1, v2] := by cases args; simp_all
  obtain ⟨rfl, rfl⟩ := trodVars_none hV
  have k0 := h0
  have lt0 : ∀ x ∈ p0, x.block < W.heap.size := by obtain ⟨m, hm⟩ := k0; exact DataW.trod_lt m _ _ _ hm
  obtain ⟨a0, len0, cap0, l0, rfl, b0, hc0, hm0⟩ := open_byrow h0 (slice_one Try.underlying32 (hval 0 32 v0 rfl rfl))
  have k1 := h1
  have lt1 : ∀ x ∈ p1, x.block < W.heap.size := by obtain ⟨m, hm⟩ := k1; exact DataW.trod_lt m _ _ _ hm
  obtain ⟨a1, len1, cap1, l1, rfl, b1, hc1, hm1⟩ := open_byrow h1 (slice_one Try.underlying32 (hval 1 32 v1 rfl rfl))
  have k2 := h2
  have lt2 : ∀ x ∈ p2, x.block < W.heap.size := by obtain ⟨m, hm⟩ := k2; exact DataW.trod_lt m _ _ _ hm
  obtain ⟨kp2, tn2, rfl, hk2, ht2⟩ := open_crash (hval 2 37 v2 rfl rfl) h2
  clear hA0 hval0
  refine (walk a0 len0 cap0 l0 a1 len1 cap1 l1 kp2 tn2 W b0 hc0 hm0 b1 hc1 hm1 hk2 ht2).mono fun e W' ⟨he, bel⟩ => ?_
  subst he
  exact ⟨_, rfl, _, _, _, [], _, [], hW', trodAll_mk1 (shut_bool Try.underlying4 _), (trodAll_cons_mk (Below.trod laidOut (by kernel_rfl) (of_decide_eq_true (by kernel_rfl)) k0 bel lt0) (trodAll_cons_mk (Below.trod laidOut (by kernel_rfl) (of_decide_eq_true (by kernel_rfl)) k1 bel lt1) (trodAll_cons_mk (Below.trod laidOut (by kernel_rfl) (of_decide_eq_true (by kernel_rfl)) k2 bel lt2) trodAll_mk0))), rfl, bel.frame _, fun h => by cases h⟩

theorem over : Rows.diskTornRow.holds Try.pinned (OpenSpec.ofChange Rows.diskTornSpec) :=
  OpenClaim.holds_of_wide 8 Try.f8 rfl rfl rfl rfl rfl rfl rfl ⟨rfl, rfl, rfl, rfl, rfl⟩ rfl rfl rfl rfl rfl (by kernel_rfl) Try.func8 (by kernel_rfl)
    (of_decide_eq_true (by kernel_rfl)) (by unfold Func.isWrapper; first | (rw [if_pos (by decide +kernel)]; kernel_rfl) | (rw [if_neg (by decide +kernel)]; exact ⟨rfl, rfl⟩))
    (fun os started H enc _ => lifted os started H enc)

theorem proved : Rows.DiskTornSaid := over
end Go.Proofs.Ythhiiimmgghhaaa.diskTorn
namespace Go.Proofs.Ythhiiimmgghhaaa
theorem diskTorn_holds : Rows.DiskTornSaid := diskTorn.proved
#print axioms diskTorn_holds
end Go.Proofs.Ythhiiimmgghhaaa
