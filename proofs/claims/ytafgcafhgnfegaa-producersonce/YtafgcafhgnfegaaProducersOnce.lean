/-
  In a log all of whose entries Check took each ID has at most one open transaction, each transaction one marker at most, and its data come in order. Nothing is assumed.
-/
import Derived.Test.YtafgcafhgnfegaaFine
import Derived.Test.YtafgcafhgnfegaaTwo2
import Derived.Test.YtafgcafhgnfegaaOpen
import Derived.Test.YtafgcafhgnfegaaWriter
import Derived.Test.YtafgcafhgnfegaaRefD
import Derived.WalkKit
import Derived.ProofKit
import Derived.OpenShut
import Derived.ShutString
import Derived.ChangeOld
import Derived.Below
namespace Go.Proofs.Ytafgcafhgnfegaa.producersOnce
open Go.ChangeShapes Go.WideShapes Go.ChangeAt Go.RowKit Go.Maps
set_option linter.unusedVariables false
theorem own : ownKnob Try.prog.godebug = none := by kernel_rfl
theorem laidOut : laidOutB Try.prog = true := by kernel_rfl
set_option maxHeartbeats 4000000 in
set_option maxRecDepth 100000 in
theorem walk (a0 : Option Addr) (len0 cap0 : Nat) (l0 : List Ent) (w : World) (b0 : Rd w No 6 a0 len0 (cellsOf l0)) (hc0 : len0 ≤ cap0) (hm0 : cap0 ≤ maxLen) :
    Calls Try.prog 11 #[.slice a0 len0 cap0] w fun e w' => e = .returned (.bool true) ∧ Below w.heap.size w w' := by
  have HR := Lib.hid b0
  have HLEN := Lib.hid b0.lenE
  clear b0 hc0 hm0
  by_cases hgt : 100 < len0
  case pos =>
    have hd : decide (100 < len0) = true := decide_eq_true hgt
    go_enter Try.func11, Try.ntmps11
    go_wp2_with fail
    refine (works_any _).mono ?_
    rintro r w1 ⟨rfl, hb1⟩
    go_wp2_with fail
    go_ret
    exact ⟨rfl, hb1⟩
  case neg =>
  have hd : decide (100 < len0) = false := decide_eq_false hgt
  go_enter Try.func11, Try.ntmps11
  go_wp2_with fail
  refine (new_any w).mono ?_
  rintro r w1 ⟨g, rfl, hT1, hb1⟩
  have HT : Hid (Two w g [] [] (.slice none 0 0) w1) := Lib.hid (Two.made (LogV.nil_ (Below.refl _ _)) hb1 hT1)
  clear hT1 hb1
  go_wp2_with fail
  go_loopw [4, 5] (fun o i wv => ∃ k : Nat, k ≤ len0 ∧ i = .int .i64 k ∧ ∃ L : List Ent, L.length ≤ k ∧ Taken L ∧ Two w g L L o wv) (fun o i _ => len0 - (iOf i).toNat)
  case atStart => exact ⟨0, by omega, rfl, [], Nat.le_refl _, Taken.nil, HT.out⟩
  case round =>
    obtain ⟨k, hk, rfl, L, hLk, hTK, hW⟩ := hrel
    have HTK := Lib.hid hTK
    have HW := Lib.hid hW
    obtain ⟨⟨A1, c1, rfl, -, -, -⟩, -⟩ := hW
    clear hTK
    by_cases hlt : k < len0
    case neg =>
      have hd1 : decide (k < len0) = false := by simpa using hlt
      have hL : L.length ≤ 100 := by omega
      clear hlt hLk hk
      have HL := Lib.hid hL
      clear hL
      have HRD : Hid (∀ W, Below wr.heap.size wr W → Rd W No 6 A1 L.length (cellsOf L)) := Lib.hid (fun W hb => (HW.out.low hb).log.rd)
      have HAT : Hid (∀ (i : Nat) (e : Ent), L[i]? = some e → e.id ≠ -1 → Fits (L.take i) e) := Lib.hid (fun i e => taken_at HTK.out)
      have HIG : Hid (∀ (i : Nat) (e : Ent), L[i]? = some e → e.id = -1 ∨ 0 ≤ e.id) := Lib.hid (fun i e he => by have := HW.out.right e (List.mem_of_getElem? he); unfold Right at this; omega)
      obtain ⟨w5, hw5⟩ : ∃ w5, w5 = wr := ⟨_, rfl⟩
      subst hw5
      go_wp2_with fail
      go_loopw [9] (fun i wv => ∃ p : Nat, p ≤ L.length ∧ i = .int .i64 p ∧ Below w5.heap.size w5 wv) (fun i _ => L.length - (iOf i).toNat)
      case atStart => exact ⟨0, by omega, rfl, Below.refl _ _⟩
      case round =>
        obtain ⟨p, hp, rfl, hbv⟩ := hrel
        have HBV := Lib.hid hbv
        clear hbv
        have hL := HL.out
        by_cases hpl : p < L.length
        case neg =>
          have hd2 : decide (p < L.length) = false := decide_eq_false hpl
          go_wp2_with fail
          have hlen : ∀ W, Two w g L L (.slice A1 L.length c1) W → Calls Try.prog 25 #[.pointer (some ⟨g, 0, none⟩)] W fun r w' => r = .returned (.int .i64 (L.length : Int)) ∧ W = w' := fun W hW => by
            obtain ⟨-, S, ht, -⟩ := hW
            exact len_any ht
          have HX := Lib.hid (HW.out.low HBV.out)
          refine (hlen _ HX.out).mono ?_
          rintro r w5 ⟨rfl, rfl⟩
          go_wp2_with fail
          refine (works_any _).mono ?_
          rintro r w6 ⟨rfl, hb6⟩
          go_wp2_with fail
          go_ret
          exact ⟨rfl, HX.out.below.trans (hb6.mono HX.out.below.size)⟩
        case pos =>
          have hd2 : decide (p < L.length) = true := decide_eq_true hpl
          obtain ⟨e, he⟩ : ∃ e, L[p]? = some e := ⟨_, List.getElem?_eq_getElem hpl⟩
          have HE := Lib.hid he
          clear he
          go_wp2_with fail
          go_loopw [10, 11] (fun nx i wv => ∃ j : Nat, j ≤ p ∧ i = .int .i64 j ∧ nx = .int .i64 (cn (L.take j) e) ∧ Below w5.heap.size w5 wv) (fun nx i _ => p - (iOf i).toNat)
          case atStart => exact ⟨0, by omega, rfl, by rw [List.take_zero, cn_nil], HBV.out⟩
          case round =>
            obtain ⟨j, hj, rfl, rfl, hbw⟩ := hrel
            have HBW := Lib.hid hbw
            clear hbw
            by_cases hjp : j < p
            case neg =>
              have hjp' : j = p := by omega
              subst hjp'
              have hd3 : decide (j < j) = false := decide_eq_false (by omega)
              obtain ⟨ad, rfl, hadl, -, s0, s1, s2, s3, s4, s5⟩ := (HRD.out _ HBW.out).ent HE.out
              clear hadl
              rcases HIG.out _ _ HE.out with hid | hid
              · have hd4 : decide (0 ≤ e.id) = false := decide_eq_false (by omega)
                go_wp2_with fail
                go_round
                case rel => exact ⟨j + 1, by omega, by go_num, HBW.out⟩
                case measure => simp [iOf]; omega
              · have hd4 : decide (0 ≤ e.id) = true := decide_eq_true (by omega)
                by_cases hk : e.kind = 1
                · have hk1 := eqb hk
                  have hsq : (e.seq != cn (L.take j) e) = false := eqn (by
                    have := (HAT.out _ _ HE.out (by omega)).seq hk
                    unfold cn
                    rw [if_neg (by omega)]
                    exact this)
                  clear hk
                  go_wp2_with fail
                  go_round
                  case rel => exact ⟨j + 1, by omega, by go_num, HBW.out⟩
                  case measure => simp [iOf]; omega
                · have hk1 := neb hk
                  clear hk
                  go_wp2_with fail
                  go_round
                  case rel => exact ⟨j + 1, by omega, by go_num, HBW.out⟩
                  case measure => simp [iOf]; omega
            case pos =>
              have hd3 : decide (j < p) = true := decide_eq_true hjp
              obtain ⟨x, hx⟩ : ∃ x, L[j]? = some x := ⟨_, List.getElem?_eq_getElem (by omega)⟩
              obtain ⟨ad, rfl, hadl, -, s0, s1, s2, s3, s4, s5⟩ := (HRD.out _ HBW.out).ent HE.out
              obtain ⟨ad', e', -, -, t0, t1, t2, t3, t4, t5⟩ := (HRD.out _ HBW.out).ent hx
              injection e' with e'
              subst e'
              have HC := Lib.hid (cn_take hx e)
              have hcb := cn_bounds (L.take j) e
              have hct := List.length_take_le j L
              have hjl : j < L.length := by omega
              have HF := Lib.hid (fun h => (HAT.out _ _ HE.out h).le x (mem_take_at hx hjp))
              have HF2 := Lib.hid (fun h => (HAT.out _ _ HE.out h).data x (mem_take_at hx hjp))
              clear hadl hx
              by_cases hid : x.id = e.id
              case neg =>
                have hn1 := nen hid
                rw [if_neg (fun q => hid q.2.1)] at HC
                clear hid
                go_upto_region 25 with fail
                go_quiet (fail)
                go_wp2_with fail
                go_round
                case rel => exact ⟨j + 1, by omega, by go_num, by simp [HC.out], (by first | exact below_drewN HBW.out _ | exact HBW.out.drew)⟩
                case measure => simp [iOf]; omega
              case pos =>
              have hn1 := eqn hid
              by_cases hneg : e.id < 0
              case pos =>
                have hd4 : decide (e.id < 0) = true := decide_eq_true hneg
                rw [if_neg (fun q => q.1 hneg)] at HC
                clear hid hneg
                go_upto_region 25 with fail
                go_quiet (fail)
                go_wp2_with fail
                go_round
                case rel => exact ⟨j + 1, by omega, by go_num, by simp [HC.out], (by first | exact below_drewN HBW.out _ | exact HBW.out.drew)⟩
                case measure => simp [iOf]; omega
              case neg =>
              have hd4 : decide (e.id < 0) = false := decide_eq_false hneg
              have hd5 : decide (e.num < x.num) = false := decide_eq_false (by have := HF.out (by omega) hid; omega)
              by_cases hnum : x.num = e.num
              case pos =>
                have hk1 := eqn (HF2.out (by omega) hid hnum)
                have hq1 := eqb hnum
                rw [if_pos ⟨hneg, hid, hnum⟩] at HC
                clear hid hneg hnum
                go_upto_region 25 with fail
                go_quiet (fail)
                go_upto_region 26 with fail
                go_quiet (fail)
                go_upto_region 28 with fail
                go_quiet (fail)
                go_wp2_with fail
                go_round
                case rel => exact ⟨j + 1, by omega, by go_num, by rw [HC.out], (by first | exact below_drewN (below_drewN (below_drewN HBW.out _) _) _ | exact below_drewN HBW.out _ | exact HBW.out.drew)⟩
                case measure => simp [iOf]; omega
              case neg =>
                have hq1 := neb hnum
                rw [if_neg (fun q => hnum q.2.2)] at HC
                clear hid hneg hnum
                go_upto_region 25 with fail
                go_quiet (fail)
                go_upto_region 26 with fail
                go_quiet (fail)
                go_upto_region 28 with fail
                go_quiet (fail)
                go_wp2_with fail
                go_round
                case rel => exact ⟨j + 1, by omega, by go_num, by simp [HC.out], (by first | exact below_drewN (below_drewN (below_drewN HBW.out _) _) _ | exact below_drewN HBW.out _ | exact HBW.out.drew)⟩
                case measure => simp [iOf]; omega
    case pos =>
    have hd1 : decide (k < len0) = true := by simpa using hlt
    obtain ⟨e, he⟩ : ∃ e, l0[k]? = some e := ⟨_, List.getElem?_eq_getElem (by rw [HLEN.out]; exact hlt)⟩
    have HE := Lib.hid he
    obtain ⟨ad, rfl, hadl, -, s0, s1, s2, s3, s4, s5⟩ := (HR.out.below HW.out.below).ent he
    clear he hadl
    have hch : Calls Try.prog 21 #[.pointer (some ⟨g, 0, none⟩), e.val] wr fun r w' => r = .returned (.int .i64 (checkE L e)) ∧ Below wr.heap.size wr w' := by
      obtain ⟨-, S, ht, -⟩ := HW.out
      exact checks_any ht e
    unfold Ent.val Ent.cells at hch
    go_wp2_with fail
    refine hch.mono ?_
    rintro r w3 ⟨rfl, hb3⟩
    have HW3 := Lib.hid (HW.out.low hb3)
    clear hch hb3 s0 s1 s2 s3 s4 s5
    go_wp2_with fail
    refine (num_any _ _).mono ?_
    rintro r w4 ⟨rfl, rfl⟩
    by_cases hz : checkE L e = 0
    case neg =>
      have hzb := nen hz
      clear hz
      go_wp2_with fail
      go_round
      case rel => exact ⟨k + 1, by omega, by go_num, L, by omega, HTK.out, HW3.out⟩
      case measure => simp [iOf]; omega
    case pos =>
      have hzb := eqn hz
      have HZ := Lib.hid (And.intro hz (taken_append hz))
      clear hz
      obtain ⟨ad', e', hadl, -, s0, s1, s2, s3, s4, s5⟩ := (HR.out.below HW3.out.below).ent HE.out
      injection e' with e'
      subst e'
      clear hadl
      have hap : Calls Try.prog 22 #[.pointer (some ⟨g, 0, none⟩), e.val] w3 fun r w' => r = .returned (.int .i64 0) ∧ Two w g (L ++ [e]) L (.slice A1 L.length c1) w' := by
        have := HW3.out.app e
        unfold keep1 at this
        rw [if_pos HZ.out.2, HZ.out.2] at this
        exact this
      unfold Ent.val Ent.cells at hap
      have h00 : ((0 : Int) != 0) = false := by simp
      go_wp2_with fail
      refine hap.mono ?_
      rintro r w10 ⟨rfl, hW10⟩
      have HW10 := Lib.hid hW10
      clear hap hW10 s0 s1 s2 s3 s4 s5
      go_wp2_with fail
      refine (num_any _ _).mono ?_
      rintro r w11 ⟨rfl, rfl⟩
      obtain ⟨ad', e', hadl, -, s0, s1, s2, s3, s4, s5⟩ := (HR.out.below HW10.out.below).ent HE.out
      injection e' with e'
      subst e'
      clear hadl
      go_wp2_with (at_builtin; refine stop ?_)
      refine Stop.go (wpList_append_k el22 _ (by rfl) _ _ (by rfl) (.slice A1 L.length c1) (cellsOf L) (by rfl) (HW10.out.log.own.alloc _) No _ 1 _ [e.cells] (by rfl) (rd_one w10 26 e.cells rfl (by simp [Ent.cells, Value.oneCell']) (fun h => h)) (by simp [cellsOf]; omega) (by omega) ?_)
      intro v9 w9 ho9 hg9
      have HW9 : Hid (Two w g (L ++ [e]) (L ++ [e]) v9 w9) := Lib.hid ((HW10.out.low ((Below.refl _ _).alloc (Nat.le_refl _) (.cells e.cells 26))).more ho9 hg9)
      have HTK2 : Hid (Taken (L ++ [e]) ∧ (L ++ [e]).length ≤ k + 1) := Lib.hid ⟨HTK.out.snoc HZ.out.1, by simp; omega⟩
      clear ho9 hg9 s0 s1 s2 s3 s4 s5 HZ HTK hzb hLk
      generalize L ++ [e] = L2 at *
      go_wp2_with fail
      go_loopw [6] (fun i wv => ∃ q : Nat, q ≤ 4 ∧ i = .int .i64 q ∧ Two w g L2 L2 v9 wv) (fun i _ => 4 - (iOf i).toNat)
      case atStart => exact ⟨0, by omega, rfl, HW9.out⟩
      case round =>
        obtain ⟨q, hq, rfl, hWv⟩ := hrel
        have HWv := Lib.hid hWv
        clear hWv
        by_cases hq4 : q < 4
        case neg =>
          have hd2 : decide ((q : Int) < 4) = false := decide_eq_false (by omega)
          go_wp2_with fail
          go_round
          case rel => exact ⟨k + 1, by omega, by go_num, L2, HTK2.out.2, HTK2.out.1, HWv.out⟩
          case measure => simp [iOf]; omega
        case pos =>
          have hd2 : decide ((q : Int) < 4) = true := decide_eq_true (by omega)
          have hwr : ∀ W, Two w g L2 L2 v9 W → Calls Try.prog 20 #[.pointer (some ⟨g, 0, none⟩), .int .i64 (q : Int)] W (WritP W (Go.Proofs.Ytafgcafhgnfegaa.wr (q : Int) L2)) := fun W hW => by
            obtain ⟨-, S, ht, -⟩ := hW
            exact writer_yes ht hq4
          have hwr := hwr _ HWv.out
          have hone : decide (1 < (Go.Proofs.Ytafgcafhgnfegaa.wr (q : Int) L2).opens.length) = false := decide_eq_false (by have := (taken_good HTK2.out.1 (q : Int) (by omega)).1; omega)
          have hle := (taken_good HTK2.out.1 (q : Int) (by omega)).1
          have hone2 : decide (1 < ((Go.Proofs.Ytafgcafhgnfegaa.wr (q : Int) L2).opens.length : Int)) = false := decide_eq_false (by omega)
          go_wp2_with fail
          refine hwr.mono ?_
          rintro r w12 ⟨A3, c3, rfl, hO3, hv3, hb3⟩
          have HW12 := Lib.hid (HWv.out.low hb3)
          clear hwr hO3 hv3 hb3
          generalize Go.Proofs.Ytafgcafhgnfegaa.wr (q : Int) L2 = x at *
          have h00 : ((0 : Int) != 0) = false := by simp
          go_upto_region 16 with fail
          have hX := Blk.new w12 41 #[.int .i64 x.high, .int .i64 x.next, .int .i64 x.marked, .slice A3 x.opens.length c3]
          have x3 := hX.cell 3
          have HW13 := Lib.hid (HW12.out.low ((Below.refl _ _).alloc (Nat.le_refl _) (.cells #[.int .i64 x.high, .int .i64 x.next, .int .i64 x.marked, .slice A3 x.opens.length c3] 41)))
          clear hX
          go_wp2_with fail
          refine (num_any _ _).mono ?_
          rintro r w14 ⟨rfl, rfl⟩
          go_wp2_with fail
          go_round
          case rel => exact ⟨q + 1, by omega, by go_num, HW13.out⟩
          case measure => simp [iOf]; omega

set_option maxRecDepth 100000 in
theorem lifted (os : Os) (started : os.Started) (H : Type) (enc : TypeId × Value → H) :
    ReturnsInHanded {} Try.checked os 11 .any (Rows.producersOnceSpec.pre6 enc Try.prog Try.f11 Rows.producersOnceRow.domain false) (Rows.producersOnceSpec.post enc Try.prog Try.f11 false true false false) := by
  refine returnsInHanded_of_change (C := Try.checked) own started (by kernel_rfl) Try.func11
    (ChangeSpec.witness6 (enc := enc) (C := Try.checked) false ⟨#[], #[.slice none 0 0], []⟩ 8 (by kernel_rfl) (by kernel_rfl) (by kernel_rfl) (by kernel_rfl)) ?_
  intro W base args ds gs before hval0 hW hcnd _
  have hval : ∀ (j : Nat) t v, Try.f11.params[j]? = some t → args[j]? = some v → Value.okWide Try.prog W .any base t v := hval0
  have hW' := hW
  obtain ⟨p, q, hA0, hV, rfl, hfz, hnd⟩ := hW
  have hA : DataW.TrodAll enc Try.prog W 0 (fun _ => true) true Try.f11.params.toList args.toList ds p := hA0
  rw [Try.params11] at hA hval
  obtain ⟨v0, vs0, d0, ds0, p0, q0, hargs, rfl, rfl, h0, r0⟩ := trodAll_cons hA
  obtain ⟨rfl, rfl, rfl⟩ := trodAll_nil r0
  obtain rfl : args = #[v0] := by cases args; simp_all
  obtain ⟨rfl, rfl⟩ := trodVars_none hV
  have k0 := h0
  have lt0 : ∀ x ∈ p0, x.block < W.heap.size := by obtain ⟨m, hm⟩ := k0; exact DataW.trod_lt m _ _ _ hm
  obtain ⟨a0, len0, cap0, rfl⟩ := okWide_slice Try.underlying22 (hval 0 22 v0 rfl rfl)
  obtain ⟨l0, b0, hc0, hm0⟩ := open_ents h0
  clear hA0 hval0
  refine (walk a0 len0 cap0 l0 W b0 hc0 hm0).mono fun e W' ⟨he, bel⟩ => ?_
  subst he
  exact ⟨_, rfl, _, _, _, [], _, [], hW', trodAll_mk1 (shut_bool Try.underlying4 _), (trodAll_cons_mk (Below.trod laidOut (by kernel_rfl) (of_decide_eq_true (by kernel_rfl)) k0 bel lt0) trodAll_mk0), rfl, bel.frame _, fun h => by cases h⟩

theorem over : Rows.producersOnceRow.holds Try.pinned (OpenSpec.ofChange Rows.producersOnceSpec) :=
  OpenClaim.holds_of_wide 11 Try.f11 rfl rfl rfl rfl rfl rfl rfl ⟨rfl, rfl, rfl, rfl, rfl⟩ rfl rfl rfl rfl rfl (by kernel_rfl) Try.func11 (by kernel_rfl)
    (of_decide_eq_true (by kernel_rfl)) (by unfold Func.isWrapper; first | (rw [if_pos (by decide +kernel)]; kernel_rfl) | (rw [if_neg (by decide +kernel)]; exact ⟨rfl, rfl⟩))
    (fun os started H enc _ => lifted os started H enc)

theorem proved : Rows.ProducersOnceSaid := over
end Go.Proofs.Ytafgcafhgnfegaa.producersOnce
namespace Go.Proofs.Ytafgcafhgnfegaa
theorem producersOnce_holds : Rows.ProducersOnceSaid := producersOnce.proved
#print axioms producersOnce_holds
end Go.Proofs.Ytafgcafhgnfegaa
