/-
  The View of each length of a log, by the program as by the document. For every input.
-/
import Derived.Test.YthcphoijanebhaaDoorWhole9
import Derived.Test.YthcphoijanebhaaDoorOpen
import Derived.Test.YthcphoijanebhaaDoorLaid9
import Derived.Test.YthcphoijanebhaaDoorRows
import Derived.Test.YthcphoijanebhaaDoorTie
import Derived.Test.YthcphoijanebhaaDoorCards
import Derived.WalkKit
import Derived.ProofKit
import Derived.OpenShut
import Derived.ShutString
import Derived.ChangeOld
import Derived.Below
import Derived.SevenTiedAt
namespace Go.Proofs.YthcphoijanebhaaDoor.visibleAll
open Go.ChangeShapes Go.WideShapes Go.ChangeAt Go.RowKit Go.Maps
set_option linter.unusedVariables false
theorem own : ownKnob Tryd.prog.godebug = none := by kernel_rfl
theorem laidOut : laidOutB Tryd.prog = true := by kernel_rfl
set_option maxHeartbeats 4000000 in
set_option maxRecDepth 100000 in
theorem walk (a0 : Option Addr) (len0 cap0 : Nat) (l0 : List Ent) (w : World) (b0 : Rd w No 6 a0 len0 (cellsOf l0)) (hc0 : len0 ≤ cap0) (hm0 : cap0 ≤ maxLen) (he0 : ∀ e ∈ l0, In64P e.key) (hN : Nob w) :
    Calls Tryd.prog 7 #[.slice a0 len0 cap0] w fun e w' => e = .returned (.bool true) ∧ Below w.heap.size w w' := by
  have HN := Lib.hid hN
  have HR := Lib.hid b0
  have HL := Lib.hid b0.lenE
  clear hN b0 he0 hm0
  by_cases h40 : 40 < len0
  · have d1 : decide ((40 : Int) < (len0 : Int)) = true := decide_eq_true (by omega)
    clear h40
    go_enter Tryd.func7, Tryd.ntmps7
    go_wp2_with fail
    refine (works_any HN.out).mono ?_
    rintro r w1 ⟨rfl, hb⟩
    have HB := Lib.hid hb
    clear hb
    go_wp2_with fail
    go_ret
    exact ⟨rfl, HB.out⟩
  have d1 : decide ((40 : Int) < (len0 : Int)) = false := decide_eq_false (by omega)
  have hle : len0 ≤ 40 := by omega
  clear h40
  have hri := refRight_any (c := cap0) HR.out (by omega)
  by_cases hz : allE [] l0 = 0
  case neg =>
    rw [decide_eq_false hz] at hri
    clear hz
    go_enter Tryd.func7, Tryd.ntmps7
    go_wp2_with fail
    refine hri.mono ?_
    rintro r w5 ⟨rfl, hb⟩
    have HB5 := Lib.hid hb
    clear hri hb
    go_wp2_with fail
    refine (works_any (HN.out.low HB5.out)).mono ?_
    rintro r w6 ⟨rfl, hb⟩
    have HB6 := Lib.hid (HB5.out.trans (hb.mono HB5.out.size))
    clear hb
    go_wp2_with fail
    go_ret
    exact ⟨rfl, HB6.out⟩
  rw [decide_eq_true hz] at hri
  have HZ := Lib.hid hz
  clear hz
  go_enter Tryd.func7, Tryd.ntmps7
  go_wp2_with fail
  refine hri.mono ?_
  rintro r w5 ⟨rfl, hb⟩
  have HB5 := Lib.hid hb
  clear hri hb
  go_wp2_with fail
  go_loopw [3] (fun i wv => ∃ k : Nat, k ≤ len0 + 1 ∧ i = .int .i64 k ∧ Below w.heap.size w wv) (fun i _ => len0 + 1 - (iOf' i).toNat)
  case atStart => exact ⟨0, by omega, rfl, HB5.out⟩
  case round =>
    obtain ⟨m, hm, rfl, hb⟩ := hrel
    have HBr := Lib.hid hb
    clear hb
    by_cases hlt : m ≤ len0
    case neg =>
      have hd1 : decide (m ≤ len0) = false := by simpa using hlt
      clear hlt
      go_wp2_with fail
      refine (works_any (HN.out.low HBr.out)).mono ?_
      rintro r w6 ⟨rfl, hb⟩
      have HB6 := Lib.hid (HBr.out.trans (hb.mono HBr.out.size))
      clear hb
      go_wp2_with fail
      go_ret
      exact ⟨rfl, HB6.out⟩
    case pos =>
    have hd1 : decide (m ≤ len0) = true := by simpa using hlt
    have hml : m ≤ len0 := hlt
    clear hlt
    have hv := View_any (c := cap0) (HR.out.below HBr.out) (by omega) (HN.out.low HBr.out) (m : Int)
    go_wp2_with fail
    refine hv.mono ?_
    rintro r w2 ⟨hb2, hP⟩
    have HB2 := Lib.hid (HBr.out.trans (hb2.mono HBr.out.size))
    have hst := Stable_any (c := cap0) (HR.out.below HB2.out) (by omega) (HN.out.low HB2.out) (m : Int)
    clear hv hb2
    obtain ⟨N, hSN, v, rfl, hov, hvo⟩ : ∃ N, StN l0 m 0 N ∧ ∃ v, r = .returned (.tuple #[v, .int .i64 0]) ∧ OwnK w2 3 1 v (intsOf (vl l0 m 0 N)) ∧ ∀ b, v.ownBlock = some b → wr.heap.size ≤ b := by
      rcases hP with ⟨hz, -⟩ | ⟨-, hbad, -⟩ | ⟨-, m', N, hme, -, hSN, hr⟩
      · exact absurd HZ.out hz
      · have := HL.out; omega
      · obtain rfl : m = m' := by omega
        exact ⟨N, hSN, hr⟩
    clear hP
    have HSN := Lib.hid hSN
    obtain ⟨Av, cv, rfl, hcv⟩ := ints_form hov
    have HV := Lib.hid hov
    have HVL : Hid ((vl l0 m 0 N).length ≤ 1000000) := Lib.hid (by have := vl_len l0 m 0 N; have := hSN.le; have := HL.out; omega)
    clear hSN hov hvo hcv
    generalize hU : vl l0 m 0 N = U at *
    have HU := Lib.hid hU
    clear hU
    go_wp2_with fail
    refine hst.mono ?_
    rintro r w3 ⟨hb3, hQ⟩
    obtain rfl : r = .returned (.tuple #[.int .i64 (N : Int), .int .i64 0]) := by
      rcases hQ with ⟨h, -⟩ | ⟨-, h, -⟩ | ⟨-, m', N', e, hm', hS', hr⟩
      · exact absurd HZ.out h
      · have := HL.out; omega
      · obtain rfl : m = m' := by omega
        obtain rfl := stN_one HSN.out hS'
        exact hr
    have HB3 := Lib.hid (HB2.out.trans (hb3.mono HB2.out.size))
    have HV5 := Lib.hid (HV.out.below hb3)
    clear hst hb3 hQ
    have hst2 := stab_take (allR_of HZ.out) (by have := HL.out; omega) HSN.out
    have hrv := rv_vl (n := m) (allR_of HZ.out) (by have := HL.out; omega) N (by have := HSN.out.le; omega)
    rw [HU.out] at hrv
    have hvw := refView_any (m := m) (c := cap0) (HR.out.below HB3.out) (by omega) (fun x hx => allR_of HZ.out x (List.mem_of_mem_take hx)) hml hc0 (by have := stab_le (l0.take m) 4; rw [List.length_take] at this; omega)
    rw [hst2, hrv] at hvw
    have HST := Lib.hid hst2
    clear hst2 hrv
    go_wp2_with fail
    refine (num_any _ _).mono ?_
    rintro r w' ⟨rfl, rfl⟩
    go_wp2_with fail
    refine (num_any _ _).mono ?_
    rintro r w' ⟨rfl, rfl⟩
    go_wp2_with fail
    refine hvw.mono ?_
    rintro r w6 ⟨v6, rfl, ho6, hv6, hb6⟩
    have HB6 := Lib.hid (HB3.out.trans (hb6.mono HB3.out.size))
    obtain ⟨A6, c6, rfl, -⟩ := ints_form ho6
    have hs6 := sameI_any (c := cv) (d := c6) ((HV5.out.below hb6).rd (X := No) (fun _ _ h => h)) (ho6.rd (X := No) (fun _ _ h => h)) HVL.out HVL.out
    rw [decide_eq_true rfl] at hs6
    have qs := slice22_to a0 len0 cap0 m (by omega)
    clear hvw ho6 hv6 hb6
    go_wp2_with fail
    refine hs6.mono ?_
    rintro r w7 ⟨rfl, q7, rfl⟩
    have HB7 := Lib.hid (HB6.out.trans ((below_drewN (Below.refl w6.heap.size w6) q7).mono HB6.out.size))
    generalize w6.drewN q7 = w7 at *
    have hs7 := refStable_any (c := cap0) ((HR.out.below HB7.out).ents_take hml) (by omega) (fun x hx => allR_of HZ.out x (List.mem_of_mem_take hx))
    rw [HST.out] at hs7
    clear hs6
    have hne : (N : Int) = (N : Int) := rfl
    go_wp2_with fail
    refine hs7.mono ?_
    rintro r w8 ⟨rfl, hb⟩
    have HB8 := Lib.hid (HB7.out.trans (hb.mono HB7.out.size))
    clear hs7 hb qs hne
    go_wp2_with fail
    go_round
    case rel => exact ⟨m + 1, by omega, by go_num, HB8.out⟩
    case measure => simp [iOf']; omega
set_option maxRecDepth 100000 in
theorem lifted (os : Os) (started : os.Started) (H : Type) (enc : TypeId × Value → H) :
    ReturnsInHanded {} Tryd.checked os 7 .any (fun w args => (Rows.visibleAllSpec.pre enc Tryd.prog Tryd.f7 [] false w args ∧ laidMetH Tryd.prog [("waystation/visible.nobodys", Rows.laid_waystation_visible_nobodys)] w) ∧ sizedMet enc Tryd.prog Tryd.f7 (OpenSpec.ofChange Rows.visibleAllSpec) false w args)
      (Rows.visibleAllSpec.post enc Tryd.prog Tryd.f7 false true false false) := by
  refine returnsInHanded_of_change_and (C := Tryd.checked) (X := fun w _ => laidMetH Tryd.prog [("waystation/visible.nobodys", Rows.laid_waystation_visible_nobodys)] w) (fun _ _ _ hh h => h.of_heap hh) own started (by kernel_rfl) Tryd.func7
    (ChangeSpec.witness_shaped (enc := enc) (C := Tryd.checked) (os := os) (X := fun w _ => laidMetH Tryd.prog [("waystation/visible.nobodys", Rows.laid_waystation_visible_nobodys)] w) false (World.doorLaid Tryd.prog 400 os) #[.slice none 0 0] 8 rfl (World.shaped_of_RefB (by kernel_rfl) (by kernel_rfl)) (by kernel_rfl) (by kernel_rfl) (by kernel_rfl) (door_met os _)) ?_
  intro W base args ds gs before hval0 hW _ _ hL _
  have hval : ∀ (j : Nat) t v, Tryd.f7.params[j]? = some t → args[j]? = some v → Value.okWide Tryd.prog W .any base t v := hval0
  have hW' := hW
  obtain ⟨p, q, hA0, hV, rfl, hfz, hnd⟩ := hW
  have hA : DataW.TrodAll enc Tryd.prog W 0 (fun _ => true) true Tryd.f7.params.toList args.toList ds p := hA0
  rw [Tryd.params7] at hA hval
  obtain ⟨v0, vs0, d0, ds0, p0, q0, hargs, rfl, rfl, h0, r0⟩ := trodAll_cons hA
  obtain ⟨rfl, rfl, rfl⟩ := trodAll_nil r0
  obtain rfl : args = #[v0] := by cases args; simp_all
  obtain ⟨rfl, rfl⟩ := trodVars_none hV
  have k0 := h0
  have lt0 : ∀ x ∈ p0, x.block < W.heap.size := by obtain ⟨m, hm⟩ := k0; exact DataW.trod_lt m _ _ _ hm
  obtain ⟨a0, len0, cap0, rfl⟩ := okWide_slice Tryd.underlying22 (hval 0 22 v0 rfl rfl)
  obtain ⟨l0, b0, hc0, hm0, he0⟩ := open_ents h0
  have hN := nob_of_laid hL
  clear hA0 hval0
  refine (walk a0 len0 cap0 l0 W b0 hc0 hm0 he0 hN).mono fun e W' ⟨he, bel⟩ => ?_
  subst he
  exact ⟨_, rfl, _, _, _, [], _, [], hW', trodAll_mk1 (shut_bool Tryd.underlying4 _), (trodAll_cons_mk (Below.trod laidOut (by kernel_rfl) (of_decide_eq_true (by kernel_rfl)) k0 bel lt0) trodAll_mk0), rfl, bel.frame _, fun h => by cases h⟩
theorem over : Rows.VisibleAllSaid :=
  OpenClaim.holds_of_wide 7 Tryd.f7 rfl rfl rfl rfl rfl rfl rfl ⟨rfl, rfl, rfl, rfl, rfl⟩ rfl rfl rfl rfl rfl (by kernel_rfl) Tryd.func7 (by kernel_rfl)
    (of_decide_eq_true (by kernel_rfl)) (by unfold Func.isWrapper; first | (rw [if_pos (by decide +kernel)]; kernel_rfl) | (rw [if_neg (by decide +kernel)]; exact ⟨rfl, rfl⟩))
    (fun os started H enc _ => lifted os started H enc)
theorem proved : Rows.VisibleAllCardSaid :=
  Claim7.holds_tied_plain_at .later [] [.data] true (true, "e872fbbcbb45a318d4a21952f2d33522ec05cad25393f9b523959ddf34fff248") true
    over (fun _ h => by cases h) (by kernel_rfl) (fun _ h => by cases h) visibleAll_row_tie rfl ⟨rfl, rfl⟩ (by kernel_rfl) rfl
    (fun f fn hf hfn => by
      obtain rfl : f = 7 := Option.some.inj ((show Tryd.prog.funcNamed "waystation/waystationlaw09.VisibleAll" = some 7 by kernel_rfl).symm.trans hf) |>.symm
      obtain rfl : fn = Tryd.f7 := (Option.some.inj (Tryd.func7.symm.trans hfn)).symm
      exact ⟨by kernel_rfl, fun j t ht => by
        rw [Tryd.params7] at ht
        have hm : t ∈ [22] := by simpa using Array.mem_of_getElem? ht
        have hall : ([22].all fun u => !Tryd.prog.wantsStandIn u) = true := by kernel_rfl
        exact (show Tryd.prog.wantsStandIn t = false by simpa using List.all_eq_true.1 hall t hm)⟩)
    (by kernel_rfl)
end Go.Proofs.YthcphoijanebhaaDoor.visibleAll
namespace Go.Proofs.YthcphoijanebhaaDoor
theorem visibleAll_holds : Rows.VisibleAllCardSaid := visibleAll.proved
#print axioms visibleAll_holds
end Go.Proofs.YthcphoijanebhaaDoor
