/-
  The table of entries, or why there is none. Nothing is assumed.
-/
import Derived.Test.YtafgcafhgnfegaaWipe2
import Derived.Test.YtafgcafhgnfegaaOpen
import Derived.Test.YtafgcafhgnfegaaRefD
import Derived.WalkKit
import Derived.ProofKit
import Derived.OpenShut
import Derived.ShutString
import Derived.ChangeOld
import Derived.Below
namespace Go.Proofs.Ytafgcafhgnfegaa.producersMakes
open Go.ChangeShapes Go.WideShapes Go.ChangeAt Go.RowKit Go.Maps
set_option linter.unusedVariables false
theorem own : ownKnob Try.prog.godebug = none := by kernel_rfl
theorem laidOut : laidOutB Try.prog = true := by kernel_rfl
theorem slice22_to (a : Option Addr) (n c k : Nat) (hk : k ≤ c) (W : World) : (Instr.slice 22 (.slice a n c) none (some (.int .i64 (k : Int))) none).run Try.prog W = .ok (.slice a k c) W := by
  obtain ⟨j, hj, hz0, hz1, hz2⟩ := info_parts el22.info
  have ha : a.map (fun x : Addr => x.add 0) = a := by cases a <;> simp [Addr.add]
  simp [Instr.slice, run_underlying Try.underlying22, Instr.sliceBounds, Instr.sliceBound, asIntOf, hk, sizeOf, typeInfo, hj, ha]
def e77 : Ent := ⟨0, 0, 0, 77, 0, 0⟩
set_option maxHeartbeats 4000000 in
set_option maxRecDepth 100000 in
theorem walk (a0 : Option Addr) (len0 cap0 : Nat) (l0 : List Ent) (w : World) (b0 : Rd w No 6 a0 len0 (cellsOf l0)) (hc0 : len0 ≤ cap0) (hm0 : cap0 ≤ maxLen) :
    Calls Try.prog 3 #[.slice a0 len0 cap0] w fun e w' => e = .returned (.bool true) ∧ Below w.heap.size w w' := by
  have HR := Lib.hid b0
  have HLEN := Lib.hid b0.lenE
  clear b0 hc0 hm0
  by_cases hgt : 60 < len0
  case pos =>
    have hd : decide (60 < len0) = true := decide_eq_true hgt
    go_enter Try.func3, Try.ntmps3
    go_wp2_with fail
    refine (works_any _).mono ?_
    rintro r w1 ⟨rfl, hb1⟩
    go_wp2_with fail
    go_ret
    exact ⟨rfl, hb1⟩
  case neg =>
  have hd : decide (60 < len0) = false := decide_eq_false hgt
  go_enter Try.func3, Try.ntmps3
  go_upto_region 3 with fail
  go_wp2_with (at_builtin; refine stop ?_)
  refine Stop.go (wpList_append_k el22 _ (by rfl) _ _ (by rfl) _ [] (by rfl) (OwnK.made w) No a0 len0 cap0 (cellsOf l0) (by rfl) (HR.out.alloc _) (by simp) (by omega) ?_)
  intro v1 w1 ho1 hg1
  rw [List.nil_append] at ho1
  have HL1 : Hid (LogV w l0 v1 w1) := Lib.hid (by
    obtain ⟨A, q, c, rfl, hq, -, -⟩ := ho1.form
    have hq' : q = l0.length := by rw [hq]; simp [cellsOf]
    subst hq'
    refine ⟨A, c, rfl, ho1, fun b eb => ?_, ((Below.refl _ _).alloc (Nat.le_refl _) (.cells #[] 26)).trans (made_below hg1)⟩
    rcases hg1.2 b eb with h | h
    · have h' : w.heap.size = b := by simpa [Value.ownBlock] using h
      omega
    · simp at h; omega)
  clear ho1 hg1
  obtain ⟨A1, c1, rfl, -, -, -⟩ := HL1.out
  go_wp2_with (at_builtin; refine stop ?_)
  refine Stop.go (wpList_append_k el22 _ (by rfl) _ _ (by rfl) (.slice A1 l0.length c1) (cellsOf l0) (by rfl) (HL1.out.own.alloc _) No _ 1 _ [e77.cells] (by rfl) (rd_one w1 26 e77.cells rfl (by simp [Ent.cells, Value.oneCell']) (fun h => h)) (by have := HLEN.out; simp [cellsOf]; omega) (by omega) ?_)
  intro v2 w2 ho2 hg2
  have HL2 : Hid (LogV w (l0 ++ [e77]) v2 w2) := Lib.hid ((HL1.out.low ((Below.refl _ _).alloc (Nat.le_refl _) (.cells e77.cells 26))).more ho2 hg2)
  clear ho2 hg2 HL1
  obtain ⟨A2, c2, rfl, hO2, -, -⟩ := HL2.out
  have hcc : len0 + 1 ≤ c2 := by
    obtain ⟨A', q', c', e, hq, hc, -⟩ := hO2.form
    injection e with e1 e2 e3
    have hll := HLEN.out
    have : q' = len0 + 1 := by rw [← e2]; simp [hll]
    omega
  have HRD : Hid (∀ W, Below w2.heap.size w2 W → Rd W No 6 A2 len0 (cellsOf l0)) := Lib.hid (fun W hb => by
    have h := (hO2.take (q := len0) (by have hll := HLEN.out; simp [cellsOf, hll])).rd (X := No) (fun _ _ h => h)
    have hll := HLEN.out
    have e : (cellsOf (l0 ++ [e77])).take len0 = cellsOf l0 := by unfold cellsOf; rw [← List.map_take, ← hll, List.take_left]
    rw [e] at h
    exact h.below hb)
  have HRA : Hid (∀ W, Below w2.heap.size w2 W → Rd W No 6 A2 (len0 + 1) (cellsOf (l0 ++ [e77]))) := Lib.hid (fun W hb => by
    have h := hO2.rd (X := No) (fun _ _ h => h)
    have e : (l0 ++ [e77]).length = len0 + 1 := by simp [HLEN.out]
    rw [e] at h
    exact h.below hb)
  obtain ⟨gm, rfl, hown, hth⟩ := hO2.there (by simp)
  have HTH : Hid (w2.there gm 0 (len0 * 6) ∧ w.heap.size ≤ gm ∧ gm < w2.heap.size) := Lib.hid ⟨fun j hj => hth j (by simp [HLEN.out]; omega), HL2.out.own_ge hown, HL2.out.own_lt hown⟩
  have HB2 : Hid (Below w.heap.size w w2) := Lib.hid HL2.out.below
  have hsl := slice22_to (some ⟨gm, 0, none⟩) (l0 ++ [e77]).length c2 len0 (by omega)
  clear hO2 hown hth HL2
  go_wp2_with fail
  refine (of_any (c := c2) (HRD.out w2 (Below.refl _ _)) (by omega)).mono ?_
  rintro r w3 ⟨hb3, hz⟩
  have HB3 := Lib.hid hb3
  clear hb3 hsl
  rcases hz with ⟨hz, g, rfl, hT⟩ | ⟨hz, rfl⟩
  · have HZ := Lib.hid hz
    clear hz
    have hsm : Calls Try.prog 14 #[.slice (some ⟨gm, 0, none⟩) len0 c2, .slice a0 len0 cap0] w3 fun r w' => r = .returned (.bool true) ∧ ∃ q, w' = w3.drewN q := by
      have := refSame_any (c := c2) (d := cap0) (HRD.out w3 HB3.out) (HR.out.below (HB2.out.trans (HB3.out.mono HB2.out.size))) (by omega) (by omega)
      simpa using this
    go_wp2_with fail
    refine hsm.mono ?_
    rintro r w4 ⟨rfl, q, rfl⟩
    clear hsm
    have HB4 : Hid (Below w2.heap.size w2 (w3.drewN q)) := Lib.hid (below_drewN HB3.out q)
    have HT4 : Hid (Tb (w3.drewN q) (NewB w2 w3) g l0) := Lib.hid (hT.below (below_drewN (Below.refl _ _) q))
    clear hT
    generalize w3.drewN q = w4 at *
    have hsl2 : ∀ W, (Instr.slice 22 (.slice (some ⟨gm, 0, none⟩) len0 c2) none (some (.int .i64 ((len0 : Int) + 1))) none).run Try.prog W = .ok (.slice (some ⟨gm, 0, none⟩) (len0 + 1) c2) W := fun W => by
      have := slice22_to (some ⟨gm, 0, none⟩) len0 c2 (len0 + 1) hcc W
      push_cast at this
      exact this
    obtain ⟨ad, had, hadl, -, s0, s1, s2, s3, s4, s5⟩ := (HRA.out _ HB4.out).ent (k := len0) (e := e77) (by rw [← HLEN.out]; simp)
    injection had with had
    subst had
    clear hadl
    have s3' : w4.cell? ⟨gm, len0 * 6 + 3, none⟩ = some (.int .i64 77) := by
      have := s3
      rw [Addr.add_mid] at this
      simpa [e77] using this
    go_wp2_with fail
    clear s0 s1 s2 s3 s3' s4 s5 hsl2
    go_loopw [6, 7, 8] (fun o no i wv => ∃ k : Nat, k ≤ len0 ∧ i = .int .i64 k ∧ ∃ L z, no = .int .i64 z ∧ L.length ≤ k ∧ LogV w4 L o wv ∧ ((z = 0 ∧ L = l0.take k ∧ allE [] (l0.take k) = 0) ∨ (z ≠ 0 ∧ z = allE [] l0))) (fun o no i _ => len0 - (iOf i).toNat)
    case atStart => exact ⟨0, by omega, rfl, [], 0, rfl, Nat.le_refl _, LogV.nil_ (Below.refl _ _), .inl ⟨rfl, by simp, by simp [allE]⟩⟩
    case round =>
      obtain ⟨k, hk, rfl, L, z, rfl, hLk, hLV, hcase⟩ := hrel
      have HLV := Lib.hid hLV
      clear hLV
      rcases hcase with ⟨rfl, rfl, hak⟩ | ⟨hz0, hzz⟩
      · have HAK := Lib.hid hak
        clear hak
        have h00 : ((0 : Int) == 0) = true := by simp
        by_cases hlt : k < len0
        case pos =>
          have hd1 : decide (k < len0) = true := by simpa using hlt
          obtain ⟨e, he⟩ : ∃ e, l0[k]? = some e := ⟨_, List.getElem?_eq_getElem (by rw [HLEN.out]; exact hlt)⟩
          have HE := Lib.hid he
          obtain ⟨ad, rfl, hadl, -, s0, s1, s2, s3, s4, s5⟩ := (HR.out.below (HB2.out.trans ((HB4.out.trans (HLV.out.below.mono HB4.out.size)).mono HB2.out.size))).ent he
          clear he hadl
          have hap := refApp_any HLV.out (by have := List.length_take_le k l0; omega) e
          unfold Ent.val Ent.cells at hap
          go_wp2_with fail
          refine hap.mono ?_
          rintro r w5 ⟨v5, rfl, hL5, hb5⟩
          have HL5 := Lib.hid hL5
          clear hap hL5 hb5 s0 s1 s2 s3 s4 s5
          have HT := Lib.hid (allE_take HE.out HAK.out)
          have HS := Lib.hid (allE_stop HE.out HAK.out)
          have HK1 : Hid ((keep1 (l0.take k) e).length ≤ k + 1) := Lib.hid (Nat.le_trans (keep1_len _ _) (by omega))
          have HK2 : Hid (appendE (l0.take k) e = 0 → keep1 (l0.take k) e = l0.take (k + 1)) := Lib.hid (fun h => by
            unfold keep1
            rw [if_pos h, List.take_add_one, HE.out]; rfl)
          generalize keep1 (l0.take k) e = L5 at *
          generalize appendE (l0.take k) e = z5 at *
          clear h00
          go_wp2_with fail
          go_round
          case rel =>
            refine ⟨k + 1, by omega, by go_num, L5, z5, rfl, HK1.out, HL5.out, ?_⟩
            by_cases hz5 : z5 = 0
            · exact .inl ⟨hz5, HK2.out hz5, by rw [HT.out]; exact hz5⟩
            · exact .inr ⟨hz5, (HS.out hz5).symm⟩
          case measure => simp [iOf]; omega
        case neg =>
          have hd1 : decide (k < len0) = false := by simpa using hlt
          have hall : allE [] l0 = 0 := by
            have := HAK.out
            rwa [List.take_of_length_le (by have := HLEN.out; omega)] at this
          go_wp2_with fail
          clear hlt hk hall hd1 hLk
          have HB6 := Lib.hid (HB2.out.trans ((HB4.out.trans (HLV.out.below.mono HB4.out.size)).mono HB2.out.size))
          have HT6 := Lib.hid (HT4.out.below HLV.out.below)
          have HTH6 : Hid (wr.there gm 0 (len0 * 6)) := Lib.hid (room_below HTH.out.1 (HB4.out.trans (HLV.out.below.mono HB4.out.size)) HTH.out.2.2)
          clear HAK HLV
          obtain ⟨w6, hw6⟩ : ∃ w6, w6 = wr := ⟨_, rfl⟩
          subst hw6
          go_loopw [9] (fun i wv => ∃ j : Nat, j ≤ len0 ∧ i = .int .i64 j ∧ Turn (fun b => b = gm) w6 wv ∧ wv.there gm 0 (len0 * 6)) (fun i _ => len0 - (iOf i).toNat)
          case atStart => exact ⟨0, by omega, rfl, Turn.refl _ _, HTH6.out⟩
          case round =>
            obtain ⟨j, hj, rfl, hU, hth⟩ := hrel
            have HU := Lib.hid (And.intro hU hth)
            clear hU hth
            by_cases hlj : j < len0
            case pos =>
              have hd2 : decide (j < len0) = true := by simpa using hlj
              go_wp2_with (with_reducible refine at_store 26 rfl ?_)
              refine Stop.go (wpList_store_mid (by rfl) 26 _ _ (by rfl) gm (j * 6) #[.int .i64 0, .int .i64 0, .int .i64 0, .int .i64 0, .int .i64 0, .int .i64 0] (by first | rfl | (simp [Addr.add]; done)) (by rfl) (fun q hq => by
                have := HU.out.2 (j * 6 + q) (by simp at hq; omega)
                simpa using this) (by kernel_rfl) (by simp [Value.oneCell']) ?_)
              have HU2 := Lib.hid (And.intro (HU.out.1.trans (setCells_turn gm [.int .i64 0, .int .i64 0, .int .i64 0, .int .i64 0, .int .i64 0, .int .i64 0] (j * 6) _) (fun _ _ h => h)) (World.there_setCells HU.out.2 gm (j * 6) [.int .i64 0, .int .i64 0, .int .i64 0, .int .i64 0, .int .i64 0, .int .i64 0]))
              go_wp2_with fail
              go_round
              case rel => exact ⟨j + 1, by omega, by go_num, HU2.out⟩
              case measure => simp [iOf]; omega
            case neg =>
              have hd2 : decide (j < len0) = false := by simpa using hlj
              have HB7 := Lib.hid (HB6.out.trans (HU.out.1.below HB6.out.size (fun b e => by have := HTH.out.2.1; omega)))
              have HT7 := Lib.hid (HT6.out.keep HU.out.1 (fun b _ hb e => by have := hb.1; have := HTH.out.2.2; omega))
              clear hlj hj
              have h00 : ((0 : Int) == 0) = true := by simp
              go_wp2_with fail
              refine (num_any _ _).mono ?_
              rintro r w8 ⟨rfl, rfl⟩
              go_wp2_with fail
              refine (is_any (c := cap0) HT7.out (HR.out.below HB7.out)).mono ?_
              rintro r w8 ⟨rfl, hb8⟩
              have HB8 := Lib.hid (HB7.out.trans (hb8.mono HB7.out.size))
              clear hb8
              go_wp2_with fail
              refine (new_any _).mono ?_
              rintro r w9 ⟨g9, rfl, hT9, hb9⟩
              have HB9 := Lib.hid (HB8.out.trans (hb9.mono HB8.out.size))
              have HT9 := Lib.hid hT9
              clear hb9 hT9
              go_wp2_with fail
              refine (is_any (A := none) (n := 0) (c := 0) (X := No) HT9.out Rd.none_).mono ?_
              rintro r w10 ⟨rfl, hb10⟩
              have HB10 := Lib.hid (HB9.out.trans (hb10.mono HB9.out.size))
              clear hb10
              go_wp2_with fail
              refine (works_any _).mono ?_
              rintro r w11 ⟨rfl, hb11⟩
              go_wp2_with fail
              go_ret
              exact ⟨rfl, HB10.out.trans (hb11.mono HB10.out.size)⟩
      · have hzb := neb hz0
        have hzn := nen hz0
        have HZZ := Lib.hid hzz
        have HZ0 := Lib.hid hz0
        clear hz0 hzz
        by_cases hlt : k < len0
        · have hd1 : decide (k < len0) = true := by simpa using hlt
          exact absurd (HZZ.out.trans HZ.out) HZ0.out
        · have hd1 : decide (k < len0) = false := by simpa using hlt
          exact absurd (HZZ.out.trans HZ.out) HZ0.out
  · have HZ := Lib.hid hz
    clear hz
    have hsm : Calls Try.prog 14 #[.slice (some ⟨gm, 0, none⟩) len0 c2, .slice a0 len0 cap0] w3 fun r w' => r = .returned (.bool true) ∧ ∃ q, w' = w3.drewN q := by
      have := refSame_any (c := c2) (d := cap0) (HRD.out w3 HB3.out) (HR.out.below (HB2.out.trans (HB3.out.mono HB2.out.size))) (by omega) (by omega)
      simpa using this
    go_wp2_with fail
    refine hsm.mono ?_
    rintro r w4 ⟨rfl, q, rfl⟩
    clear hsm
    have HB4 : Hid (Below w2.heap.size w2 (w3.drewN q)) := Lib.hid (below_drewN HB3.out q)
    generalize w3.drewN q = w4 at *
    have hsl2 : ∀ W, (Instr.slice 22 (.slice (some ⟨gm, 0, none⟩) len0 c2) none (some (.int .i64 ((len0 : Int) + 1))) none).run Try.prog W = .ok (.slice (some ⟨gm, 0, none⟩) (len0 + 1) c2) W := fun W => by
      have := slice22_to (some ⟨gm, 0, none⟩) len0 c2 (len0 + 1) hcc W
      push_cast at this
      exact this
    obtain ⟨ad, had, hadl, -, s0, s1, s2, s3, s4, s5⟩ := (HRA.out _ HB4.out).ent (k := len0) (e := e77) (by rw [← HLEN.out]; simp)
    injection had with had
    subst had
    clear hadl
    have s3' : w4.cell? ⟨gm, len0 * 6 + 3, none⟩ = some (.int .i64 77) := by
      have := s3
      rw [Addr.add_mid] at this
      simpa [e77] using this
    go_wp2_with fail
    clear s0 s1 s2 s3 s3' s4 s5 hsl2
    go_loopw [6, 7, 8] (fun o no i wv => ∃ k : Nat, k ≤ len0 ∧ i = .int .i64 k ∧ ∃ L z, no = .int .i64 z ∧ L.length ≤ k ∧ LogV w4 L o wv ∧ ((z = 0 ∧ L = l0.take k ∧ allE [] (l0.take k) = 0) ∨ (z ≠ 0 ∧ z = allE [] l0))) (fun o no i _ => len0 - (iOf i).toNat)
    case atStart => exact ⟨0, by omega, rfl, [], 0, rfl, Nat.le_refl _, LogV.nil_ (Below.refl _ _), .inl ⟨rfl, by simp, by simp [allE]⟩⟩
    case round =>
      obtain ⟨k, hk, rfl, L, z, rfl, hLk, hLV, hcase⟩ := hrel
      have HLV := Lib.hid hLV
      clear hLV
      rcases hcase with ⟨rfl, rfl, hak⟩ | ⟨hz0, hzz⟩
      · have HAK := Lib.hid hak
        clear hak
        have h00 : ((0 : Int) == 0) = true := by simp
        by_cases hlt : k < len0
        case pos =>
          have hd1 : decide (k < len0) = true := by simpa using hlt
          obtain ⟨e, he⟩ : ∃ e, l0[k]? = some e := ⟨_, List.getElem?_eq_getElem (by rw [HLEN.out]; exact hlt)⟩
          have HE := Lib.hid he
          obtain ⟨ad, rfl, hadl, -, s0, s1, s2, s3, s4, s5⟩ := (HR.out.below (HB2.out.trans ((HB4.out.trans (HLV.out.below.mono HB4.out.size)).mono HB2.out.size))).ent he
          clear he hadl
          have hap := refApp_any HLV.out (by have := List.length_take_le k l0; omega) e
          unfold Ent.val Ent.cells at hap
          go_wp2_with fail
          refine hap.mono ?_
          rintro r w5 ⟨v5, rfl, hL5, hb5⟩
          have HL5 := Lib.hid hL5
          clear hap hL5 hb5 s0 s1 s2 s3 s4 s5
          have HT := Lib.hid (allE_take HE.out HAK.out)
          have HS := Lib.hid (allE_stop HE.out HAK.out)
          have HK1 : Hid ((keep1 (l0.take k) e).length ≤ k + 1) := Lib.hid (Nat.le_trans (keep1_len _ _) (by omega))
          have HK2 : Hid (appendE (l0.take k) e = 0 → keep1 (l0.take k) e = l0.take (k + 1)) := Lib.hid (fun h => by
            unfold keep1
            rw [if_pos h, List.take_add_one, HE.out]; rfl)
          generalize keep1 (l0.take k) e = L5 at *
          generalize appendE (l0.take k) e = z5 at *
          clear h00
          go_wp2_with fail
          go_round
          case rel =>
            refine ⟨k + 1, by omega, by go_num, L5, z5, rfl, HK1.out, HL5.out, ?_⟩
            by_cases hz5 : z5 = 0
            · exact .inl ⟨hz5, HK2.out hz5, by rw [HT.out]; exact hz5⟩
            · exact .inr ⟨hz5, (HS.out hz5).symm⟩
          case measure => simp [iOf]; omega
        case neg =>
          have hd1 : decide (k < len0) = false := by simpa using hlt
          have hall : allE [] l0 = 0 := by
            have := HAK.out
            rwa [List.take_of_length_le (by have := HLEN.out; omega)] at this
          exact absurd hall HZ.out
      · have hzb := neb hz0
        have hzn := nen hz0
        have HZZ := Lib.hid hzz
        have HZ0 := Lib.hid hz0
        clear hz0 hzz
        by_cases hlt : k < len0
        · have hd1 : decide (k < len0) = true := by simpa using hlt
          go_wp2_with fail
          have hzz : (allE [] l0 == z) = true := by rw [HZZ.out]; simp
          refine (num_any _ _).mono ?_
          rintro r w6 ⟨rfl, rfl⟩
          go_wp2_with fail
          refine (works_any _).mono ?_
          rintro r w7 ⟨rfl, hb7⟩
          go_wp2_with fail
          go_ret
          have hb6 := HB2.out.trans ((HB4.out.trans (HLV.out.below.mono HB4.out.size)).mono HB2.out.size)
          exact ⟨rfl, hb6.trans (hb7.mono hb6.size)⟩
        · have hd1 : decide (k < len0) = false := by simpa using hlt
          go_wp2_with fail
          have hzz : (allE [] l0 == z) = true := by rw [HZZ.out]; simp
          refine (num_any _ _).mono ?_
          rintro r w6 ⟨rfl, rfl⟩
          go_wp2_with fail
          refine (works_any _).mono ?_
          rintro r w7 ⟨rfl, hb7⟩
          go_wp2_with fail
          go_ret
          have hb6 := HB2.out.trans ((HB4.out.trans (HLV.out.below.mono HB4.out.size)).mono HB2.out.size)
          exact ⟨rfl, hb6.trans (hb7.mono hb6.size)⟩

set_option maxRecDepth 100000 in
theorem lifted (os : Os) (started : os.Started) (H : Type) (enc : TypeId × Value → H) :
    ReturnsInHanded {} Try.checked os 3 .any (Rows.producersMakesSpec.pre6 enc Try.prog Try.f3 Rows.producersMakesRow.domain false) (Rows.producersMakesSpec.post enc Try.prog Try.f3 false true false false) := by
  refine returnsInHanded_of_change (C := Try.checked) own started (by kernel_rfl) Try.func3
    (ChangeSpec.witness6 (enc := enc) (C := Try.checked) false ⟨#[], #[.slice none 0 0], []⟩ 8 (by kernel_rfl) (by kernel_rfl) (by kernel_rfl) (by kernel_rfl)) ?_
  intro W base args ds gs before hval0 hW hcnd _
  have hval : ∀ (j : Nat) t v, Try.f3.params[j]? = some t → args[j]? = some v → Value.okWide Try.prog W .any base t v := hval0
  have hW' := hW
  obtain ⟨p, q, hA0, hV, rfl, hfz, hnd⟩ := hW
  have hA : DataW.TrodAll enc Try.prog W 0 (fun _ => true) true Try.f3.params.toList args.toList ds p := hA0
  rw [Try.params3] at hA hval
  obtain ⟨v0, vs0, d0, ds0, p0, q0, hargs, rfl, rfl, h0, r0⟩ := trodAll_cons hA
  obtain ⟨rfl, rfl, rfl⟩ := trodAll_nil r0
  obtain rfl : args = #[v0] := by cases args; simp_all
  obtain ⟨rfl, rfl⟩ := trodVars_none hV
  have k0 := h0
  have lt0 : ∀ x ∈ p0, x.block < W.heap.size := by obtain ⟨m, hm⟩ := k0; exact DataW.trod_lt m _ _ _ hm
  obtain ⟨a0, len0, cap0, rfl⟩ := okWide_slice Try.underlying22 (hval 0 22 v0 rfl rfl)
  obtain ⟨l0, b0, hc0, hm0⟩ := open_ents h0
  clear hA0 hval0
  refine (walk a0 len0 cap0 l0 W b0 hc0 hm0).mono fun e W' ⟨he, bel⟩ => ?_
  subst he
  exact ⟨_, rfl, _, _, _, [], _, [], hW', trodAll_mk1 (shut_bool Try.underlying4 _), (trodAll_cons_mk (Below.trod laidOut (by kernel_rfl) (of_decide_eq_true (by kernel_rfl)) k0 bel lt0) trodAll_mk0), rfl, bel.frame _, fun h => by cases h⟩

theorem over : Rows.producersMakesRow.holds Try.pinned (OpenSpec.ofChange Rows.producersMakesSpec) :=
  OpenClaim.holds_of_wide 3 Try.f3 rfl rfl rfl rfl rfl rfl rfl ⟨rfl, rfl, rfl, rfl, rfl⟩ rfl rfl rfl rfl rfl (by kernel_rfl) Try.func3 (by kernel_rfl)
    (of_decide_eq_true (by kernel_rfl)) (by unfold Func.isWrapper; first | (rw [if_pos (by decide +kernel)]; kernel_rfl) | (rw [if_neg (by decide +kernel)]; exact ⟨rfl, rfl⟩))
    (fun os started H enc _ => lifted os started H enc)

theorem proved : Rows.ProducersMakesSaid := over
end Go.Proofs.Ytafgcafhgnfegaa.producersMakes
namespace Go.Proofs.Ytafgcafhgnfegaa
theorem producersMakes_holds : Rows.ProducersMakesSaid := producersMakes.proved
#print axioms producersMakes_holds
end Go.Proofs.Ytafgcafhgnfegaa
