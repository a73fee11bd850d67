/-
  A copy is of the same and goes on apart, and which are the same. Nothing is assumed.
-/
import Derived.Test.YtafgcafhgnfegaaWipe2
import Derived.Test.YtafgcafhgnfegaaOpen
import Derived.Test.YtafgcafhgnfegaaRefD
import Derived.Test.YtafgcafhgnfegaaTrunc
import Derived.Test.YtafgcafhgnfegaaNums
import Derived.WalkKit
import Derived.ProofKit
import Derived.OpenShut
import Derived.ShutString
import Derived.ChangeOld
import Derived.Below
namespace Go.Proofs.Ytafgcafhgnfegaa.producersCopies
open Go.ChangeShapes Go.WideShapes Go.ChangeAt Go.RowKit Go.Maps
set_option linter.unusedVariables false
theorem own : ownKnob Try.prog.godebug = none := by kernel_rfl
theorem laidOut : laidOutB Try.prog = true := by kernel_rfl
theorem slice22_to (a : Option Addr) (n c k : Nat) (hk : k ≤ c) (W : World) : (Instr.slice 22 (.slice a n c) none (some (.int .i64 (k : Int))) none).run Try.prog W = .ok (.slice a k c) W := by
  obtain ⟨j, hj, hz0, hz1, hz2⟩ := info_parts el22.info
  have ha : a.map (fun x : Addr => x.add 0) = a := by cases a <;> simp [Addr.add]
  simp [Instr.slice, run_underlying Try.underlying22, Instr.sliceBounds, Instr.sliceBound, asIntOf, hk, sizeOf, typeInfo, hj, ha]
set_option maxHeartbeats 4000000 in
set_option maxRecDepth 100000 in
theorem walk (a0 : Option Addr) (len0 cap0 : Nat) (l0 : List Ent) (e1 : Ent) (n2 : Int) (w : World) (b0 : Rd w No 6 a0 len0 (cellsOf l0)) (hc0 : len0 ≤ cap0) (hm0 : cap0 ≤ maxLen) (hn2 : -9223372036854775808 ≤ n2 ∧ n2 ≤ 9223372036854775807) :
    Calls Try.prog 7 #[.slice a0 len0 cap0, e1.val, .int .i64 n2] w fun e w' => e = .returned (.bool true) ∧ Below w.heap.size w w' := by
  have HR := Lib.hid b0
  have HLEN := Lib.hid b0.lenE
  clear b0 hc0 hm0
  have HB := Lib.hid ((Below.refl w.heap.size w).alloc (Nat.le_refl _) (.cells e1.cells 26))
  have HBX : Hid (Blk (w.alloc (.cells e1.cells 26)) w.heap.size 26 e1.cells) := Lib.hid (Blk.new w 26 _)
  unfold Ent.val
  unfold Ent.cells at HB HBX ⊢
  by_cases hgt : 60 < len0
  case pos =>
    have hd : decide (60 < len0) = true := decide_eq_true hgt
    go_enter Try.func7, Try.ntmps7
    go_wp2_with fail
    refine (works_any _).mono ?_
    rintro r w1 ⟨rfl, hb1⟩
    go_wp2_with fail
    go_ret
    exact ⟨rfl, HB.out.trans (hb1.mono HB.out.size)⟩
  case neg =>
  have hd : decide (60 < len0) = false := decide_eq_false hgt
  go_enter Try.func7, Try.ntmps7
  go_wp2_with fail
  generalize hw0 : w.alloc (.cells #[.int .i64 e1.epoch, .int .i64 e1.id, .int .i64 e1.num, .int .i64 e1.seq, .int .i64 e1.kind, .int .i64 e1.value] 26) = w0 at *
  generalize hbx : w.heap.size = bx at *
  have HBW : Hid (bx = w.heap.size) := Lib.hid hbx.symm
  clear hw0 hbx
  refine (log_of (HR.out.below (HBW.out ▸ HB.out)) (by omega)).mono ?_
  rintro r w1 ⟨v1, rfl, hL1, hb1⟩
  have HKL : Hid ((kept l0).length ≤ 60) := Lib.hid (by have := kept_len l0; have := HLEN.out; omega)
  have HKA : Hid (allE [] (kept l0) = 0) := Lib.hid (kept_all l0)
  generalize kept l0 = L at *
  have HL1 := Lib.hid hL1
  obtain ⟨A1, c1, rfl, -, -, -⟩ := hL1
  clear hb1
  go_wp2_with fail
  refine (of_any (c := c1) HL1.out.rd (by have := HKL.out; omega)).mono ?_
  rintro r w2 ⟨hb2, hz | hz⟩
  case inr => exact absurd HKA.out hz.1
  obtain ⟨-, g, rfl, hT⟩ := hz
  have HB2 := Lib.hid hb2
  have HT1 := Lib.hid hT
  clear hb2
  go_wp2_with fail
  refine (copy_any hT).mono ?_
  rintro r w3 ⟨z, rfl, hT2, hb3⟩
  have HB3 := Lib.hid hb3
  have HT2 := Lib.hid hT2
  have HT13 := Lib.hid (HT1.out.below hb3)
  have HL3 := Lib.hid (HL1.out.low (HB2.out.trans (hb3.mono HB2.out.size)))
  have hsm : Calls Try.prog 31 #[.pointer (some ⟨g, 0, none⟩), .pointer (some ⟨z, 0, none⟩)] w3 fun r w' => r = .returned (.bool true) ∧ Below w3.heap.size w3 w' := by
    have := same_any HT13.out HT2.out
    simpa using this
  clear hT hT2 hb3
  have h00 : ((0 : Int) != 0) = false := by simp
  go_wp2_with fail
  refine (num_any _ _).mono ?_
  rintro r w4 ⟨rfl, rfl⟩
  go_wp2_with fail
  refine hsm.mono ?_
  rintro r w4 ⟨rfl, hb4⟩
  have HB4 := Lib.hid hb4
  have HT14 := Lib.hid (HT13.out.below hb4)
  have HT24 := Lib.hid (HT2.out.below hb4)
  have HL4 := Lib.hid (HL3.out.low hb4)
  clear hsm hb4 HT13 HT2 HL3
  have HX4 : Hid (Blk w4 bx 26 #[.int .i64 e1.epoch, .int .i64 e1.id, .int .i64 e1.num, .int .i64 e1.seq, .int .i64 e1.kind, .int .i64 e1.value]) := Lib.hid (HBX.out.below HL4.out.below HBX.out.lt)
  obtain ⟨s0, s1, s2, s3, s4, s5⟩ := HX4.out.six'
  have hap : Calls Try.prog 15 #[.slice A1 L.length c1, .agg #[.int .i64 e1.epoch, .int .i64 e1.id, .int .i64 e1.num, .int .i64 e1.seq, .int .i64 e1.kind, .int .i64 e1.value]] w4 (fun r W' => ∃ v', r = .returned (.tuple #[v', .int .i64 (appendE L e1)]) ∧ LogV w0 (keep1 L e1) v' W' ∧ Below w4.heap.size w4 W' ∧ (v' = .slice A1 L.length c1 ∨ ∀ b, v'.ownBlock = some b → w4.heap.size ≤ b)) := refApp2 HL4.out (by have := HKL.out; omega) e1
  go_wp2_with fail
  refine hap.mono ?_
  rintro r w5 ⟨v5, rfl, hL5, hb5, hv5⟩
  have HB5 := Lib.hid hb5
  have HV5 := Lib.hid hv5
  have HN5 := Lib.hid hL5
  have HT15 := Lib.hid (HT14.out.below hb5)
  have HT25 := Lib.hid (HT24.out.below hb5)
  have HL5 := Lib.hid (HL4.out.low hb5)
  have HX5 := Lib.hid (HX4.out.below hb5 HX4.out.lt)
  obtain ⟨A5, c5, rfl, -, -, -⟩ := hL5
  clear hap hb5 hv5 s0 s1 s2 s3 s4 s5
  obtain ⟨s0, s1, s2, s3, s4, s5⟩ := HX5.out.six'
  have hap2 : Calls Try.prog 22 #[.pointer (some ⟨g, 0, none⟩), .agg #[.int .i64 e1.epoch, .int .i64 e1.id, .int .i64 e1.num, .int .i64 e1.seq, .int .i64 e1.kind, .int .i64 e1.value]] w5 (fun r w' => r = .returned (.int .i64 (appendE L e1)) ∧ Tb w' (More (NewB w1 w2) w5 w') g (keep1 L e1) ∧ Turn (NewB w1 w2) w5 w') := append_any HT15.out e1
  go_wp2_with fail
  refine hap2.mono ?_
  rintro r w6 ⟨rfl, hT6, hU6⟩
  have HV1 : Hid (∀ b, Value.ownBlock (.slice A1 L.length c1) = some b → w0.heap.size ≤ b ∧ b < w1.heap.size) := Lib.hid (fun b eb => ⟨HL1.out.own_ge eb, HL1.out.own_lt eb⟩)
  have HVN : Hid (∀ b, Value.ownBlock (.slice A5 (keep1 L e1).length c5) = some b → b < w5.heap.size ∧ ((w0.heap.size ≤ b ∧ b < w1.heap.size) ∨ w4.heap.size ≤ b)) := Lib.hid (fun b eb => ⟨HN5.out.own_lt eb, by
    rcases HV5.out with h | h
    · exact .inl (HV1.out b (h ▸ eb))
    · exact .inr (h b eb)⟩)
  have HSZ : Hid (w0.heap.size ≤ w1.heap.size ∧ w1.heap.size ≤ w2.heap.size ∧ w2.heap.size ≤ w3.heap.size ∧ w3.heap.size ≤ w4.heap.size ∧ w4.heap.size ≤ w5.heap.size ∧ w5.heap.size ≤ w6.heap.size) := Lib.hid ⟨HL1.out.below.size, HB2.out.size, HB3.out.size, HB4.out.size, HB5.out.size, hU6.size⟩
  have HT16 := Lib.hid hT6
  have HT26 := Lib.hid (HT25.out.keep hU6 (fun b _ h k => by have := h.1; have := k.2; omega))
  have HL6 := Lib.hid (HL5.out.turned hU6 (fun b h => ⟨by have := h.1; have := HSZ.out; omega, by have := h.2; have := HSZ.out; omega, fun eb => by have := HV1.out b eb; have := h.1; omega⟩))
  have HN6 := Lib.hid (HN5.out.turned hU6 (fun b h => ⟨by have := h.1; have := HSZ.out; omega, by have := h.2; have := HSZ.out; omega, fun eb => by have := HVN.out b eb; have := h.1; have := h.2; have := HSZ.out; omega⟩))
  clear hap2 hT6 hU6 s0 s1 s2 s3 s4 s5 HT14 HT24 HL4 HX4 HT15 HT25 HL5 HN5 HX5 HBX HV5 HT1
  have HKN : Hid ((keep1 L e1).length ≤ 61) := Lib.hid (by have := keep1_len L e1; have := HKL.out; omega)
  obtain ⟨sm, hsm⟩ : ∃ sm, (((keep1 L e1).length : Int) == (L.length : Int)) = sm := ⟨_, rfl⟩
  have HSM : Hid (sm = true ∨ (((keep1 L e1).length : Int) == (L.length : Int) + 1) = true) := Lib.hid (by
    subst hsm
    unfold keep1
    split
    · right; simp
    · left; simp)
  have hne : (appendE L e1 == appendE L e1) = true := by simp
  have HNE := Lib.hid hne
  clear hne
  generalize appendE L e1 = ap at *
  generalize keep1 L e1 = K at *
  go_wp2_with fail
  refine (log_any HT16.out).mono ?_
  rintro r w7 ⟨v7, rfl, hO7, hv7, hb7⟩
  have HT17 := Lib.hid (HT16.out.below hb7)
  have HT27 := Lib.hid (HT26.out.below hb7)
  have HL7 := Lib.hid (HL6.out.low hb7)
  have HN7 := Lib.hid (HN6.out.low hb7)
  have HO7 := Lib.hid (And.intro hO7 (And.intro hv7 hb7.size))
  obtain ⟨A7, q7, c7, rfl, hq7, -, -⟩ := hO7.form
  have hq7' : q7 = K.length := by rw [hq7]; simp [cellsOf]
  subst hq7'
  clear hO7 hv7 hb7 hq7 HT16 HT26 HL6 HN6 hsm
  go_wp2_with fail
  go_loopw [16] (fun i wv => ∃ j : Nat, j ≤ K.length ∧ i = .int .i64 j ∧ Turn (fun b => Value.ownBlock (.slice A7 K.length c7) = some b) w7 wv ∧ (0 < K.length → ∃ gm, A7 = some ⟨gm, 0, none⟩ ∧ wv.there gm 0 (K.length * 6))) (fun i _ => K.length - (iOf i).toNat)
  case atStart => exact ⟨0, by omega, rfl, Turn.refl _ _, fun h0 => by
    obtain ⟨gm, e, -, h⟩ := HO7.out.1.there h0
    exact ⟨gm, e, h⟩⟩
  case round =>
    obtain ⟨j, hj, rfl, hU, hth⟩ := hrel
    have HU := Lib.hid hU
    have HKN' := HKN.out
    clear hU
    by_cases hlj : j < K.length
    case pos =>
      have hd2 : decide (j < K.length) = true := by simpa using hlj
      obtain ⟨gm, rfl, hth2⟩ := hth (by omega)
      have HTH := Lib.hid hth2
      clear hth hth2
      go_wp2_with (with_reducible refine at_store 26 rfl ?_)
      refine Stop.go (wpList_store_mid (by rfl) 26 _ _ (by rfl) gm (j * 6) #[.int .i64 0, .int .i64 0, .int .i64 0, .int .i64 0, .int .i64 0, .int .i64 0] (by first | rfl | (simp [Addr.add]; done)) (by rfl) (fun q hq => by
        have := HTH.out (j * 6 + q) (by simp at hq; omega)
        simpa using this) (by kernel_rfl) (by simp [Value.oneCell']) ?_)
      have HU2 := Lib.hid (HU.out.trans (setCells_turn gm [.int .i64 0, .int .i64 0, .int .i64 0, .int .i64 0, .int .i64 0, .int .i64 0] (j * 6) _) (fun b _ h => by rw [h]; rfl))
      have HTH2 := Lib.hid (World.there_setCells HTH.out gm (j * 6) [.int .i64 0, .int .i64 0, .int .i64 0, .int .i64 0, .int .i64 0, .int .i64 0])
      go_wp2_with fail
      go_round
      case rel => exact ⟨j + 1, by omega, by go_num, HU2.out, fun _ => ⟨gm, rfl, HTH2.out⟩⟩
      case measure => simp [iOf]; omega
    case neg =>
      have hd2 : decide (j < K.length) = false := by simpa using hlj
      have HM : Hid (∀ b, Value.ownBlock (.slice A7 K.length c7) = some b → w6.heap.size ≤ b ∧ b < w7.heap.size) := Lib.hid (fun b eb => ⟨HO7.out.2.1 b eb, HO7.out.1.lt eb⟩)
      have HT18 := Lib.hid (HT17.out.keep HU.out (fun b _ h k => by
        have := HM.out b k
        have := HSZ.out
        rcases h with h | h
        · have := h.2; omega
        · omega))
      have HT28 := Lib.hid (HT27.out.keep HU.out (fun b _ h k => by have := HM.out b k; have := HSZ.out; have := h.2; omega))
      have HL8 := Lib.hid (HL7.out.turned HU.out (fun b h => ⟨by have := HM.out b h; have := HSZ.out; omega, (HM.out b h).2, fun eb => by have := HM.out b h; have := HSZ.out; have := HV1.out b eb; omega⟩))
      have HN8 := Lib.hid (HN7.out.turned HU.out (fun b h => ⟨by have := HM.out b h; have := HSZ.out; omega, (HM.out b h).2, fun eb => by have := HM.out b h; have := HSZ.out; have := HVN.out b eb; omega⟩))
      have HSW : Hid (w6.heap.size ≤ wr.heap.size) := Lib.hid (Nat.le_trans HO7.out.2.2 HU.out.size)
      clear hth hlj hj HT17 HT27 HL7 HN7
      obtain ⟨w8, hw8⟩ : ∃ w8, w8 = wr := ⟨_, rfl⟩
      subst hw8
      by_cases hbad : n2 < 0 ∨ (L.length : Int) < n2
      case pos =>
        have htr := trunc_no HT28.out hbad
        have HC : Hid (Cop w0 g z K L A5 A1 w8) := Lib.hid ⟨⟨_, HT18.out⟩, ⟨_, HT28.out⟩, HN8.out.rd, HL8.out.rd, HL8.out.below⟩
        clear hbad HT18 HT28 HL8 HN8
        have h40 : ((4 : Int) == 0) = false := by simp
        go_wp2_with fail
        refine htr.mono ?_
        rintro r w9 ⟨rfl, rfl⟩
        clear htr
        go_wp2_with fail
        refine (num_any _ _).mono ?_
        rintro r w10 ⟨rfl, rfl⟩
        go_wp2_with fail
        have hkl := HKL.out
        have hb : (decide (K = L) == decide (K = L)) = true := by simp
        have HBB := Lib.hid hb
        clear hb
        refine (HC.out.ref (by omega) (by omega) c5 c1).mono ?_
        rintro r w20 ⟨rfl, hC20⟩
        have HC20 := Lib.hid hC20
        clear hC20
        generalize hag : decide (K = L) = ag at *
        have HAG := Lib.hid hag
        clear hag
        go_wp2_with fail
        refine (num_any _ _).mono ?_
        rintro r w21 ⟨rfl, rfl⟩
        have hne := HNE.out
        go_wp2_with fail
        refine (HC20.out.isT c5).mono ?_
        rintro r w22 ⟨rfl, hC22⟩
        have HC22 := Lib.hid hC22
        clear hC22
        go_wp2_with fail
        refine (HC22.out.isC c1).mono ?_
        rintro r w23 ⟨rfl, hC23⟩
        have HC23 := Lib.hid hC23
        clear hC23
        go_wp2_with fail
        refine HC23.out.sameT.mono ?_
        rintro r w24 ⟨rfl, hC24⟩
        have HC24 := Lib.hid hC24
        clear hC24
        rw [HAG.out]
        have hbb := HBB.out
        go_wp2_with fail
        refine HC24.out.sameC.mono ?_
        rintro r w25 ⟨rfl, hC25⟩
        have HC25 := Lib.hid hC25
        clear hC25
        rw [HAG.out]
        rcases HSM.out with rfl | hs1
        · go_wp2_with fail
          refine (same_nil _).mono ?_
          rintro r w26 ⟨rfl, rfl⟩
          go_wp2_with fail
          refine HC25.out.left.mono ?_
          rintro r w26 ⟨rfl, rfl⟩
          go_wp2_with fail
          refine HC25.out.right.mono ?_
          rintro r w26 ⟨rfl, rfl⟩
          go_wp2_with fail
          refine (works_any _).mono ?_
          rintro r w27 ⟨rfl, hb27⟩
          go_wp2_with fail
          go_ret
          have hsz : bx ≤ w0.heap.size := by have := HB.out.size; have := HBW.out; omega
          have hb25 := HB.out.trans (HC25.out.b.mono hsz)
          have hb28 := hb25.trans (hb27.mono (by have := hb25.size; have := HBW.out; omega))
          exact ⟨rfl, by rwa [HBW.out] at hb28⟩
        · cases sm
          · go_wp2_with fail
            refine (same_nil _).mono ?_
            rintro r w26 ⟨rfl, rfl⟩
            go_wp2_with fail
            refine HC25.out.left.mono ?_
            rintro r w26 ⟨rfl, rfl⟩
            go_wp2_with fail
            refine HC25.out.right.mono ?_
            rintro r w26 ⟨rfl, rfl⟩
            go_wp2_with fail
            refine (works_any _).mono ?_
            rintro r w27 ⟨rfl, hb27⟩
            go_wp2_with fail
            go_ret
            have hsz : bx ≤ w0.heap.size := by have := HB.out.size; have := HBW.out; omega
            have hb25 := HB.out.trans (HC25.out.b.mono hsz)
            have hb28 := hb25.trans (hb27.mono (by have := hb25.size; have := HBW.out; omega))
            exact ⟨rfl, by rwa [HBW.out] at hb28⟩
          · go_wp2_with fail
            refine (same_nil _).mono ?_
            rintro r w26 ⟨rfl, rfl⟩
            go_wp2_with fail
            refine HC25.out.left.mono ?_
            rintro r w26 ⟨rfl, rfl⟩
            go_wp2_with fail
            refine HC25.out.right.mono ?_
            rintro r w26 ⟨rfl, rfl⟩
            go_wp2_with fail
            refine (works_any _).mono ?_
            rintro r w27 ⟨rfl, hb27⟩
            go_wp2_with fail
            go_ret
            have hsz : bx ≤ w0.heap.size := by have := HB.out.size; have := HBW.out; omega
            have hb25 := HB.out.trans (HC25.out.b.mono hsz)
            have hb28 := hb25.trans (hb27.mono (by have := hb25.size; have := HBW.out; omega))
            exact ⟨rfl, by rwa [HBW.out] at hb28⟩
      case neg =>
        obtain ⟨m, hm2, rfl⟩ : ∃ m : Nat, m ≤ L.length ∧ n2 = (m : Int) := ⟨n2.toNat, by omega, by omega⟩
        have HMM := Lib.hid hm2
        have htr := trunc_yes HT28.out hm2
        clear hbad
        have h40 : ((0 : Int) == 0) = true := by simp
        go_wp2_with fail
        refine htr.mono ?_
        rintro r w9 ⟨rfl, hT9, hU9⟩
        clear htr
        have HT19 := Lib.hid (HT18.out.keep hU9 (fun b _ h k => by
          have := k.1
          have := k.2
          have := HSZ.out
          rcases h with h | h
          · have := h.2; omega
          · omega))
        have hL9 := HL8.out.turned hU9 (fun b h => ⟨by have := h.1; have := HSZ.out; omega, by have := h.2; have := HSZ.out; have := HSW.out; omega, fun eb => by have := h.1; have := HSZ.out; have := HV1.out b eb; omega⟩)
        have hN9 := HN8.out.turned hU9 (fun b h => ⟨by have := h.1; have := HSZ.out; omega, by have := h.2; have := HSZ.out; have := HSW.out; omega, fun eb => by have := h.1; have := h.2; have := HSZ.out; have := HVN.out b eb; omega⟩)
        have hlt : (L.take m).length = m := by rw [List.length_take]; omega
        have hct : (cellsOf L).take m = cellsOf (L.take m) := by unfold cellsOf; rw [List.map_take]
        have HC : Hid (Cop w0 g z K (L.take m) A5 A1 w9) := Lib.hid ⟨⟨_, HT19.out⟩, ⟨_, hT9⟩, hN9.rd, by rw [hlt]; exact hct ▸ ((hL9.own.take (q := m) (by simpa [cellsOf] using hm2)).rd (X := No) (fun _ _ h => h)), hL9.below⟩
        have HLT := Lib.hid hlt
        have hcc : L.length ≤ c1 := by
          obtain ⟨A', q', c', e, hq, hc, -⟩ := hL9.own.form
          injection e with e1 e2 e3
          omega
        clear hT9 hU9 hL9 hN9 hlt hct HT18 HT28 HL8 HN8 HT19
        have hmin : min (m : Int) (L.length : Int) = (m : Int) := by omega
        have hmax : max (0 : Int) (m : Int) = (m : Int) := by omega
        have hsl := slice22_to A1 L.length c1 m (by omega)
        go_wp2_with fail
        refine (num_any _ _).mono ?_
        rintro r w10 ⟨rfl, rfl⟩
        go_wp2_with fail
        rw [show (Value.slice A1 m c1) = Value.slice A1 (L.take m).length c1 by rw [HLT.out]]
        generalize hLL : L.take m = Lm at *
        have HLL : Hid (Lm.length ≤ 60) := Lib.hid (by have := HLT.out; have := HKL.out; omega)
        have hll := HLL.out
        have hkl := HKL.out
        have hb : (decide (K = Lm) == decide (K = Lm)) = true := by simp
        have HBB := Lib.hid hb
        clear hb
        refine (HC.out.ref (by omega) (by omega) c5 c1).mono ?_
        rintro r w20 ⟨rfl, hC20⟩
        have HC20 := Lib.hid hC20
        clear hC20
        generalize hag : decide (K = Lm) = ag at *
        have HAG := Lib.hid hag
        clear hag
        go_wp2_with fail
        refine (num_any _ _).mono ?_
        rintro r w21 ⟨rfl, rfl⟩
        have hne := HNE.out
        go_wp2_with fail
        refine (HC20.out.isT c5).mono ?_
        rintro r w22 ⟨rfl, hC22⟩
        have HC22 := Lib.hid hC22
        clear hC22
        go_wp2_with fail
        refine (HC22.out.isC c1).mono ?_
        rintro r w23 ⟨rfl, hC23⟩
        have HC23 := Lib.hid hC23
        clear hC23
        go_wp2_with fail
        refine HC23.out.sameT.mono ?_
        rintro r w24 ⟨rfl, hC24⟩
        have HC24 := Lib.hid hC24
        clear hC24
        rw [HAG.out]
        have hbb := HBB.out
        go_wp2_with fail
        refine HC24.out.sameC.mono ?_
        rintro r w25 ⟨rfl, hC25⟩
        have HC25 := Lib.hid hC25
        clear hC25
        rw [HAG.out]
        rcases HSM.out with rfl | hs1
        · go_wp2_with fail
          refine (same_nil _).mono ?_
          rintro r w26 ⟨rfl, rfl⟩
          go_wp2_with fail
          refine HC25.out.left.mono ?_
          rintro r w26 ⟨rfl, rfl⟩
          go_wp2_with fail
          refine HC25.out.right.mono ?_
          rintro r w26 ⟨rfl, rfl⟩
          go_wp2_with fail
          refine (works_any _).mono ?_
          rintro r w27 ⟨rfl, hb27⟩
          go_wp2_with fail
          go_ret
          have hsz : bx ≤ w0.heap.size := by have := HB.out.size; have := HBW.out; omega
          have hb25 := HB.out.trans (HC25.out.b.mono hsz)
          have hb28 := hb25.trans (hb27.mono (by have := hb25.size; have := HBW.out; omega))
          exact ⟨rfl, by rwa [HBW.out] at hb28⟩
        · cases sm
          · go_wp2_with fail
            refine (same_nil _).mono ?_
            rintro r w26 ⟨rfl, rfl⟩
            go_wp2_with fail
            refine HC25.out.left.mono ?_
            rintro r w26 ⟨rfl, rfl⟩
            go_wp2_with fail
            refine HC25.out.right.mono ?_
            rintro r w26 ⟨rfl, rfl⟩
            go_wp2_with fail
            refine (works_any _).mono ?_
            rintro r w27 ⟨rfl, hb27⟩
            go_wp2_with fail
            go_ret
            have hsz : bx ≤ w0.heap.size := by have := HB.out.size; have := HBW.out; omega
            have hb25 := HB.out.trans (HC25.out.b.mono hsz)
            have hb28 := hb25.trans (hb27.mono (by have := hb25.size; have := HBW.out; omega))
            exact ⟨rfl, by rwa [HBW.out] at hb28⟩
          · go_wp2_with fail
            refine (same_nil _).mono ?_
            rintro r w26 ⟨rfl, rfl⟩
            go_wp2_with fail
            refine HC25.out.left.mono ?_
            rintro r w26 ⟨rfl, rfl⟩
            go_wp2_with fail
            refine HC25.out.right.mono ?_
            rintro r w26 ⟨rfl, rfl⟩
            go_wp2_with fail
            refine (works_any _).mono ?_
            rintro r w27 ⟨rfl, hb27⟩
            go_wp2_with fail
            go_ret
            have hsz : bx ≤ w0.heap.size := by have := HB.out.size; have := HBW.out; omega
            have hb25 := HB.out.trans (HC25.out.b.mono hsz)
            have hb28 := hb25.trans (hb27.mono (by have := hb25.size; have := HBW.out; omega))
            exact ⟨rfl, by rwa [HBW.out] at hb28⟩

set_option maxRecDepth 100000 in
theorem lifted (os : Os) (started : os.Started) (H : Type) (enc : TypeId × Value → H) :
    ReturnsInHanded {} Try.checked os 7 .any (Rows.producersCopiesSpec.pre6 enc Try.prog Try.f7 Rows.producersCopiesRow.domain false) (Rows.producersCopiesSpec.post enc Try.prog Try.f7 false true false false) := by
  refine returnsInHanded_of_change (C := Try.checked) own started (by kernel_rfl) Try.func7
    (ChangeSpec.witness6 (enc := enc) (C := Try.checked) false ⟨#[], #[.slice none 0 0, .agg #[.int .i64 0, .int .i64 0, .int .i64 0, .int .i64 0, .int .i64 0, .int .i64 0], .int .i64 0], []⟩ 8 (by kernel_rfl) (by kernel_rfl) (by kernel_rfl) (by kernel_rfl)) ?_
  intro W base args ds gs before hval0 hW hcnd _
  have hval : ∀ (j : Nat) t v, Try.f7.params[j]? = some t → args[j]? = some v → Value.okWide Try.prog W .any base t v := hval0
  have hW' := hW
  obtain ⟨p, q, hA0, hV, rfl, hfz, hnd⟩ := hW
  have hA : DataW.TrodAll enc Try.prog W 0 (fun _ => true) true Try.f7.params.toList args.toList ds p := hA0
  rw [Try.params7] at hA hval
  obtain ⟨v0, vs0, d0, ds0, p0, q0, hargs, rfl, rfl, h0, r0⟩ := trodAll_cons hA
  obtain ⟨v1, vs1, d1, ds1, p1, q1, rfl, rfl, rfl, h1, r1⟩ := trodAll_cons r0
  obtain ⟨v2, vs2, d2, ds2, p2, q2, rfl, rfl, rfl, h2, r2⟩ := trodAll_cons r1
  obtain ⟨rfl, rfl, rfl⟩ := trodAll_nil r2
  obtain rfl : args = #[v0, v1, v2] := by cases args; simp_all
  obtain ⟨rfl, rfl⟩ := trodVars_none hV
  have k0 := h0
  have lt0 : ∀ x ∈ p0, x.block < W.heap.size := by obtain ⟨m, hm⟩ := k0; exact DataW.trod_lt m _ _ _ hm
  obtain ⟨a0, len0, cap0, rfl⟩ := okWide_slice Try.underlying22 (hval 0 22 v0 rfl rfl)
  obtain ⟨l0, b0, hc0, hm0⟩ := open_ents h0
  have k1 := h1
  have lt1 : ∀ x ∈ p1, x.block < W.heap.size := by obtain ⟨m, hm⟩ := k1; exact DataW.trod_lt m _ _ _ hm
  obtain ⟨e1, rfl⟩ := open_ent (hval 1 26 v1 rfl rfl) h1
  have k2 := h2
  have lt2 : ∀ x ∈ p2, x.block < W.heap.size := by obtain ⟨m, hm⟩ := k2; exact DataW.trod_lt m _ _ _ hm
  obtain ⟨n2, rfl, rfl, rfl, wf2⟩ := open_int Try.underlying3 (hval 2 3 v2 rfl rfl) h2
  clear hA0 hval0
  refine (walk a0 len0 cap0 l0 e1 n2 W b0 hc0 hm0 (i64_bounds wf2)).mono fun e W' ⟨he, bel⟩ => ?_
  subst he
  exact ⟨_, rfl, _, _, _, [], _, [], hW', trodAll_mk1 (shut_bool Try.underlying4 _), (trodAll_cons_mk (Below.trod laidOut (by kernel_rfl) (of_decide_eq_true (by kernel_rfl)) k0 bel lt0) (trodAll_cons_mk (Below.trod laidOut (by kernel_rfl) (of_decide_eq_true (by kernel_rfl)) k1 bel lt1) (trodAll_cons_mk (Below.trod laidOut (by kernel_rfl) (of_decide_eq_true (by kernel_rfl)) k2 bel lt2) trodAll_mk0))), rfl, bel.frame _, fun h => by cases h⟩

theorem over : Rows.producersCopiesRow.holds Try.pinned (OpenSpec.ofChange Rows.producersCopiesSpec) :=
  OpenClaim.holds_of_wide 7 Try.f7 rfl rfl rfl rfl rfl rfl rfl ⟨rfl, rfl, rfl, rfl, rfl⟩ rfl rfl rfl rfl rfl (by kernel_rfl) Try.func7 (by kernel_rfl)
    (of_decide_eq_true (by kernel_rfl)) (by unfold Func.isWrapper; first | (rw [if_pos (by decide +kernel)]; kernel_rfl) | (rw [if_neg (by decide +kernel)]; exact ⟨rfl, rfl⟩))
    (fun os started H enc _ => lifted os started H enc)

theorem proved : Rows.ProducersCopiesSaid := over
end Go.Proofs.Ytafgcafhgnfegaa.producersCopies
namespace Go.Proofs.Ytafgcafhgnfegaa
theorem producersCopies_holds : Rows.ProducersCopiesSaid := producersCopies.proved
#print axioms producersCopies_holds
end Go.Proofs.Ytafgcafhgnfegaa
