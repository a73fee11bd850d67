/-
  What becomes visible when an open transaction is ended, by the program as by the document. For every input.
-/
import Derived.Test.YthcphoijanebhaaDoorWhole9
import Derived.Test.YthcphoijanebhaaDoorOpen
import Derived.Test.YthcphoijanebhaaDoorLaid9
import Derived.Test.YthcphoijanebhaaDoorRows
import Derived.Test.YthcphoijanebhaaDoorTie
import Derived.Test.YthcphoijanebhaaDoorCards
import Derived.WalkKit
import Derived.ProofKit
import Derived.OpenShut
import Derived.ShutString
import Derived.ChangeOld
import Derived.Below
import Derived.SevenTiedAt
namespace Go.Proofs.YthcphoijanebhaaDoor.visibleEnds
open Go.ChangeShapes Go.WideShapes Go.ChangeAt Go.RowKit Go.Maps
set_option linter.unusedVariables false
theorem own : ownKnob Tryd.prog.godebug = none := by kernel_rfl
theorem laidOut : laidOutB Tryd.prog = true := by kernel_rfl
set_option maxHeartbeats 4000000 in
set_option maxRecDepth 100000 in
theorem walk (a0 : Option Addr) (len0 cap0 : Nat) (l0 : List Ent) (e1 : Ent) (w : World) (b0 : Rd w No 6 a0 len0 (cellsOf l0)) (hc0 : len0 ≤ cap0) (hm0 : cap0 ≤ maxLen) (he0 : ∀ e ∈ l0, In64P e.key) (he1 : In64P e1.key) (hN : Nob w) :
    Calls Tryd.prog 8 #[.slice a0 len0 cap0, e1.val] w fun e w' => e = .returned (.bool true) ∧ Below w.heap.size w w' := by
  have hal := (Below.refl w.heap.size w).alloc (Nat.le_refl _) (.cells e1.cells 45)
  have HB0 := Lib.hid hal
  have HRD := Lib.hid b0
  have HBX : Hid (Blk (w.alloc (.cells e1.cells 45)) w.heap.size 45 e1.cells) := Lib.hid (Blk.new w 45 _)
  have HN := Lib.hid hN
  have HL := Lib.hid b0.lenE
  clear hN b0 he0 he1 hm0 hal
  unfold Ent.val
  unfold Ent.cells at HB0 HBX ⊢
  by_cases h40 : 40 < len0
  · have d1 : decide ((40 : Int) < (len0 : Int)) = true := decide_eq_true (by omega)
    clear h40
    go_enter Tryd.func8, Tryd.ntmps8
    go_wp2_with fail
    refine (works_any (HN.out.low HB0.out)).mono ?_
    rintro r w1 ⟨rfl, hb⟩
    have HB := Lib.hid (HB0.out.trans (hb.mono HB0.out.size))
    clear hb
    go_wp2_with fail
    go_ret
    exact ⟨rfl, HB.out⟩
  have d1 : decide ((40 : Int) < (len0 : Int)) = false := decide_eq_false (by omega)
  have hle : len0 ≤ 40 := by omega
  clear h40
  go_enter Tryd.func8, Tryd.ntmps8
  go_wp2_with fail
  have hHB := HBX.out
  have hb := HB0.out
  generalize w.alloc (.cells #[.int .i64 e1.epoch, .int .i64 e1.id, .int .i64 e1.num, .int .i64 e1.seq, .int .i64 e1.kind, .int .i64 e1.value] 45) = w0 at *
  have hHD : Blk w0.drew w.heap.size 45 #[.int .i64 e1.epoch, .int .i64 e1.id, .int .i64 e1.num, .int .i64 e1.seq, .int .i64 e1.kind, .int .i64 e1.value] := hHB
  have hb : Below w.heap.size w w0.drew := hb.drew
  clear hHB
  refine wp_region_np ?_
  refine wp_region_held_drew (S := fun W => Blk W w.heap.size 45 #[.int .i64 e1.epoch, .int .i64 e1.id, .int .i64 e1.num, .int .i64 e1.seq, .int .i64 e1.kind, .int .i64 e1.value]) (by kernel_rfl) hHD (fun hHeld => ?_)
  generalize hv0 : w0.drew = V0 at *
  clear hv0
  refine wpAnyH_takeAt (i := 1) (d := 15) (v := ?vq0x) rfl rfl (by kernel_rfl) (by kernel_rfl) (by kernel_rfl) (fun _ _ _ h => h) (Or.inl ⟨by rfl, ?hyq0x⟩) hHeld ?_
  case hyq0x =>
    intro W hSw
    clear hSw
    (go_simp; try with_reducible rfl)
  simp only [List.setIfInBounds_toArray, List.set_cons_zero, List.set_cons_succ]
  refine wpAnyH_takeAt (i := 3) (d := 17) (v := ?vq1x) rfl rfl (by kernel_rfl) (by kernel_rfl) (by kernel_rfl) (fun _ _ _ h => h) (Or.inl ⟨by rfl, ?hyq1x⟩) hHeld ?_
  case hyq1x =>
    intro W hSw
    obtain ⟨b0, b1, b2, b3, b4, b5⟩ := Blk.six9 (show Blk W w.heap.size 45 #[.int .i64 e1.epoch, .int .i64 e1.id, .int .i64 e1.num, .int .i64 e1.seq, .int .i64 e1.kind, .int .i64 e1.value] from hSw); clear hSw
    (go_simp; try with_reducible rfl)
  simp only [List.setIfInBounds_toArray, List.set_cons_zero, List.set_cons_succ]
  refine wpAnyH_ready (rs := [0, 4]) (by kernel_rfl) (by simp) (AllReadyH.cons rfl (fun K hK => ?_) (AllReadyH.cons rfl (fun K hK => ?_) AllReadyH.nil))
  · go_simp
    have hO := OwnK.made V0
    have hzO : w.heap.size < V0.heap.size := hHeld.lt
    have hzN : V0.heap.size < (V0.alloc (.cells #[] 45)).heap.size := by simp
    have hb := hb.alloc hb.size (.cells #[] 45)
    refine hK.out _ _ (Blk.alloc hHeld _) (fun hHeld => ?_)
    clear hK K
    generalize V0.alloc (.cells #[] 45) = V1 at *
    refine wpAnyH_ready (rs := [2, 4]) (by kernel_rfl) (by simp) (AllReadyH.cons rfl (fun K hK => ?_) (AllReadyH.cons rfl (fun K hK => ?_) AllReadyH.nil))
    · refine step_append_k el22 (by rfl) (by rfl) _ _ (by rfl) (.slice (some ⟨V0.heap.size, 0, none⟩) 0 0) [] (by rfl) hO No a0 len0 cap0 (cellsOf l0) (by rfl) (HRD.out.below hb) (by simp) (by omega) ?_
      intro v2 V2 hO2 hg2
      rw [List.nil_append] at hO2
      have hv2 : ∀ b, v2.ownBlock = some b → w.heap.size < b := fun b eb => by
        rcases hg2.2 b eb with h | h
        · have := own_is V0.heap.size b h; omega
        · have := hHeld.lt; omega
      have hb := below_grew hb hg2 (fun b eb => by have := own_is V0.heap.size b eb; omega) hb.size
      refine hK.out _ _ (show Blk V2 w.heap.size 45 #[.int .i64 e1.epoch, .int .i64 e1.id, .int .i64 e1.num, .int .i64 e1.seq, .int .i64 e1.kind, .int .i64 e1.value] from Blk.grown_o hHeld hg2.1 (fun b eb => by have := own_is V0.heap.size b eb; omega)) (fun hHeld => ?_)
      clear hK K
      have hzG := hg2.1.size
      obtain ⟨A2, q2, c2, rfl, -, -, -⟩ := hO2.form
      have hO := hO2
      try simp only [List.setIfInBounds_toArray, List.set_cons_zero, List.set_cons_succ]
      refine wpAnyH_ready (rs := [4]) (by kernel_rfl) (by simp) (AllReadyH.cons rfl (fun K hK => ?_) AllReadyH.nil)
      go_simp
      have hR : Rd (V2.alloc (.cells #[.int .i64 e1.epoch, .int .i64 e1.id, .int .i64 e1.num, .int .i64 e1.seq, .int .i64 e1.kind, .int .i64 e1.value] 45)) (fun b => b = V0.heap.size) 6 (some ⟨V2.heap.size, 0, none⟩) 1 [e1.cells] := rd_one V2 45 e1.cells rfl (by simp [Ent.cells, Value.oneCell']) (fun h => by have h' : V2.heap.size = V0.heap.size := h; omega)
      have hO := hO.alloc (.cells #[.int .i64 e1.epoch, .int .i64 e1.id, .int .i64 e1.num, .int .i64 e1.seq, .int .i64 e1.kind, .int .i64 e1.value] 45)
      have hb := hb.alloc hb.size (.cells #[.int .i64 e1.epoch, .int .i64 e1.id, .int .i64 e1.num, .int .i64 e1.seq, .int .i64 e1.kind, .int .i64 e1.value] 45)
      have hzM : V2.heap.size < (V2.alloc (.cells #[.int .i64 e1.epoch, .int .i64 e1.id, .int .i64 e1.num, .int .i64 e1.seq, .int .i64 e1.kind, .int .i64 e1.value] 45)).heap.size := by simp
      refine hK.out _ _ (Blk.alloc hHeld _) (fun hHeld => ?_)
      clear hK K
      generalize V2.alloc (.cells #[.int .i64 e1.epoch, .int .i64 e1.id, .int .i64 e1.num, .int .i64 e1.seq, .int .i64 e1.kind, .int .i64 e1.value] 45) = V3 at *
      refine wpAnyH_ready (rs := [5]) (by kernel_rfl) (by simp) (AllReadyH.cons rfl (fun K hK => ?_) AllReadyH.nil)
      refine step_append_k el22 (by rfl) (by rfl) _ _ (by rfl) (.slice A2 q2 c2) (cellsOf l0) (by rfl) hO _ _ 1 _ [e1.cells] (by rfl) hR (by simp [cellsOf]; have := HL.out; omega) (by omega) ?_
      intro v9 V4 hO9 hg9
      have hv9 : ∀ b, v9.ownBlock = some b → w.heap.size ≤ b := fun b eb => by
        rcases hg9.2 b eb with h | h
        · exact Nat.le_of_lt (hv2 b h)
        · have := hb.size; omega
      have hb := below_grew hb hg9 (fun b eb => Nat.le_of_lt (hv2 b eb)) hb.size
      have hHeld9 : Blk V4 w.heap.size 45 #[.int .i64 e1.epoch, .int .i64 e1.id, .int .i64 e1.num, .int .i64 e1.seq, .int .i64 e1.kind, .int .i64 e1.value] := Blk.grown_o hHeld hg9.1 (fun b eb => by have := hv2 b eb; omega)
      refine hK.out _ _ hHeld9 (fun hHeld => ?_)
      clear hK K
      try simp only [List.setIfInBounds_toArray, List.set_cons_zero, List.set_cons_succ]
      refine wpAnyH_takeAt (i := 6) (d := 5) (v := ?vq2x) rfl rfl (by kernel_rfl) (by kernel_rfl) (by kernel_rfl) (fun _ _ _ h => h) (Or.inl ⟨by rfl, ?hyq2x⟩) hHeld ?_
      case hyq2x =>
        intro W hSw
        clear hSw
        (go_simp; try with_reducible rfl)
      simp only [List.setIfInBounds_toArray, List.set_cons_zero, List.set_cons_succ]
      refine wpAnyH_done (by kernel_rfl) ?_ _
      have hO9' : OwnK V4 45 6 v9 (cellsOf (l0 ++ [e1])) := by unfold cellsOf at hO9 ⊢; rw [List.map_append]; exact hO9
      obtain ⟨A2, q, c2, rfl, hq, hc2, -⟩ := hO9'.form
      have hq40 : q = len0 + 1 := by rw [hq]; simp [cellsOf]; exact HL.out
      have HQ : Hid ((l0 ++ [e1]).length = q) := Lib.hid (by rw [hq]; simp [cellsOf])
      have HRL : Hid (Rd V4 No 6 A2 q (cellsOf (l0 ++ [e1]))) := Lib.hid (hO9'.rd (X := No) (fun _ _ h => h))
      have HB2 := Lib.hid hb
      have HQ40 := Lib.hid hq40
      have hq1 : q ≤ 41 := by omega
      have hq2 : len0 ≤ q := by omega
      clear hq hO9 hO9' hv9 hb hO hR hv2 hO2 hg2 hg9 hHeld hq40
      generalize l0 ++ [e1] = L at *
      generalize V4 = w2 at *
      have hri := refRight_any (c := c2) HRL.out (by omega)
      by_cases hz : allE [] L = 0
      case neg =>
        rw [decide_eq_false hz] at hri
        clear hz
        go_wp2_with fail
        refine hri.mono ?_
        rintro r w5 ⟨rfl, hb⟩
        have HB5 := Lib.hid (HB2.out.trans (hb.mono HB2.out.size))
        clear hri hb
        go_wp2_with fail
        refine (works_any (HN.out.low HB5.out)).mono ?_
        rintro r w6 ⟨rfl, hb⟩
        have HB6 := Lib.hid (HB5.out.trans (hb.mono HB5.out.size))
        clear hb
        go_wp2_with fail
        go_ret
        exact ⟨rfl, HB6.out⟩
      rw [decide_eq_true hz] at hri
      have HZ := Lib.hid hz
      clear hz
      go_wp2_with fail
      refine hri.mono ?_
      rintro r w3 ⟨rfl, hb⟩
      have HB3 := Lib.hid (HB2.out.trans (hb.mono HB2.out.size))
      have HR3 := Lib.hid (HRL.out.below hb)
      clear hri hb
      have hv := View_any (c := c2) HR3.out (by omega) (HN.out.low HB3.out) (len0 : Int)
      go_wp2_with fail
      refine hv.mono ?_
      rintro r w4 ⟨hb4, hP⟩
      have HB4 := Lib.hid (HB3.out.trans (hb4.mono HB3.out.size))
      have HR4 := Lib.hid (HR3.out.below hb4)
      clear hv hb4
      obtain ⟨N, hSN, v, rfl, hov, hvo⟩ : ∃ N, StN L len0 0 N ∧ ∃ v, r = .returned (.tuple #[v, .int .i64 0]) ∧ OwnK w4 3 1 v (intsOf (vl L len0 0 N)) ∧ ∀ b, v.ownBlock = some b → w3.heap.size ≤ b := by
        rcases hP with ⟨hz, -⟩ | ⟨-, hbad, -⟩ | ⟨-, m', N, hme, -, hSN, hr⟩
        · exact absurd HZ.out hz
        · have := HQ.out; omega
        · obtain rfl : len0 = m' := by omega
          exact ⟨N, hSN, hr⟩
      clear hP hvo
      have HSN := Lib.hid hSN
      obtain ⟨Av, cv, rfl, hcv⟩ := ints_form hov
      have HVL : Hid ((vl L len0 0 N).length ≤ 1000000) := Lib.hid (by have := vl_len L len0 0 N; have := hSN.le; omega)
      have HOV := Lib.hid hov
      clear hSN hov hcv
      generalize hU : vl L len0 0 N = U at *
      have HU := Lib.hid hU
      clear hU
      have hv := View_any (c := c2) HR4.out (by omega) (HN.out.low HB4.out) (q : Int)
      go_wp2_with fail
      refine hv.mono ?_
      rintro r w5 ⟨hb5, hP⟩
      have HB5 := Lib.hid (HB4.out.trans (hb5.mono HB4.out.size))
      have HR5 := Lib.hid (HR4.out.below hb5)
      have HOV5 := Lib.hid (HOV.out.below hb5)
      clear hv hb5
      obtain ⟨N2, hSN, v', rfl, hov, hvo⟩ : ∃ N, StN L q 0 N ∧ ∃ v, r = .returned (.tuple #[v, .int .i64 0]) ∧ OwnK w5 3 1 v (intsOf (vl L q 0 N)) ∧ ∀ b, v.ownBlock = some b → w4.heap.size ≤ b := by
        rcases hP with ⟨hz, -⟩ | ⟨-, hbad, -⟩ | ⟨-, m', N, hme, -, hSN, hr⟩
        · exact absurd HZ.out hz
        · have := HQ.out; omega
        · obtain rfl : q = m' := by omega
          exact ⟨N, hSN, hr⟩
      clear hP hvo
      have HSN2 := Lib.hid hSN
      obtain ⟨Aw, cw, rfl, hcv⟩ := ints_form hov
      have HWL : Hid ((vl L q 0 N2).length ≤ 1000000) := Lib.hid (by have := vl_len L q 0 N2; have := hSN.le; omega)
      have HOW := Lib.hid hov
      clear hSN hov hcv
      generalize hU : vl L q 0 N2 = U2 at *
      have HU2 := Lib.hid hU
      clear hU
      have hst2 := stab_take (allR_of HZ.out) (by have := HQ.out; omega) HSN.out
      have hrv := rv_vl (n := len0) (allR_of HZ.out) (by have := HQ.out; omega) N (by have := HSN.out.le; omega)
      rw [HU.out] at hrv
      have hvw := refView_any (m := len0) (c := c2) HR5.out (by omega) (fun x hx => allR_of HZ.out x (List.mem_of_mem_take hx)) hq2 hc2 (by have := stab_le (L.take len0) 4; rw [List.length_take] at this; omega)
      rw [hst2, hrv] at hvw
      clear hst2 hrv
      go_wp2_with fail
      refine (num_any _ _).mono ?_
      rintro r w' ⟨rfl, rfl⟩
      go_wp2_with fail
      refine (num_any _ _).mono ?_
      rintro r w' ⟨rfl, rfl⟩
      go_wp2_with fail
      refine hvw.mono ?_
      rintro r w6 ⟨v6, rfl, ho6, hv6, hb6⟩
      have HB6 := Lib.hid (HB5.out.trans (hb6.mono HB5.out.size))
      have HR6 := Lib.hid (HR5.out.below hb6)
      have HOW6 := Lib.hid (HOW.out.below hb6)
      obtain ⟨A6, c6, rfl, -⟩ := ints_form ho6
      have hs6 := sameI_any (c := cv) (d := c6) ((HOV5.out.below hb6).rd (X := No) (fun _ _ h => h)) (ho6.rd (X := No) (fun _ _ h => h)) HVL.out HVL.out
      rw [decide_eq_true rfl] at hs6
      clear hvw ho6 hv6 hb6
      go_wp2_with fail
      refine hs6.mono ?_
      rintro r w7 ⟨rfl, q7, rfl⟩
      have hdr := below_drewN (Below.refl w6.heap.size w6) q7
      have HB7 := Lib.hid (HB6.out.trans (hdr.mono HB6.out.size))
      have HR7 := Lib.hid (HR6.out.below hdr)
      have HOW7 := Lib.hid (HOW6.out.below hdr)
      clear hdr
      generalize w6.drewN q7 = w7 at *
      clear hs6
      have hst2 := stab_take (allR_of HZ.out) (by have := HQ.out; omega) HSN2.out
      have hrv := rv_vl (n := q) (allR_of HZ.out) (by have := HQ.out; omega) N2 (by have := HSN2.out.le; omega)
      rw [HU2.out] at hrv
      have hvw := refView_any (m := q) (c := c2) HR7.out (by omega) (fun x hx => allR_of HZ.out x (List.mem_of_mem_take hx)) (Nat.le_refl q) hc2 (by have := stab_le (L.take q) 4; rw [List.length_take] at this; omega)
      rw [hst2, hrv] at hvw
      clear hst2 hrv
      go_wp2_with fail
      refine hvw.mono ?_
      rintro r w8 ⟨v6, rfl, ho6, hv6, hb6⟩
      have HB8 := Lib.hid (HB7.out.trans (hb6.mono HB7.out.size))
      have HR8 := Lib.hid (HR7.out.below hb6)
      obtain ⟨A6, c6, rfl, -⟩ := ints_form ho6
      have hs6 := sameI_any (c := cw) (d := c6) ((HOW7.out.below hb6).rd (X := No) (fun _ _ h => h)) (ho6.rd (X := No) (fun _ _ h => h)) HWL.out HWL.out
      rw [decide_eq_true rfl] at hs6
      clear hvw ho6 hv6 hb6
      go_wp2_with fail
      refine hs6.mono ?_
      rintro r w9 ⟨rfl, q7, rfl⟩
      have hdr := below_drewN (Below.refl w8.heap.size w8) q7
      have HB9 := Lib.hid (HB8.out.trans (hdr.mono HB8.out.size))
      have HR9 := Lib.hid (HR8.out.below hdr)
      clear hdr
      generalize w8.drewN q7 = w9 at *
      clear hs6
      have hg := good_any (c := c2) HR9.out (by omega) (fun x hx => right_key (allR_of HZ.out x hx))
      go_wp2_with fail
      refine hg.mono ?_
      rintro r w10 ⟨b, rfl, hbg, hb⟩
      have HB10 := Lib.hid (HB9.out.trans (hb.mono HB9.out.size))
      have HBG := Lib.hid hbg
      have hrg := refGood_any (c := c2) (HR9.out.below hb) (by omega) hc2
      clear hg hb hbg
      go_wp2_with fail
      refine hrg.mono ?_
      rintro r w11 ⟨b', rfl, hbg, hb⟩
      have HB11 := Lib.hid (HB10.out.trans (hb.mono HB10.out.size))
      obtain rfl : b' = b := by
        have h1 := HBG.out.trans ((good_same L).trans hbg.symm)
        cases b <;> cases b' <;> simp_all
      clear hrg hb hbg HBG
      have hbb : (b' == b') = true := by simp
      go_wp2_with fail
      refine (works_any (HN.out.low HB11.out)).mono ?_
      rintro r w12 ⟨rfl, hb⟩
      have HB12 := Lib.hid (HB11.out.trans (hb.mono HB11.out.size))
      clear hb
      go_wp2_with fail
      go_ret
      exact ⟨rfl, HB12.out⟩
    · go_simp
      have hR : Rd (V1.alloc (.cells #[.int .i64 e1.epoch, .int .i64 e1.id, .int .i64 e1.num, .int .i64 e1.seq, .int .i64 e1.kind, .int .i64 e1.value] 45)) (fun b => b = V0.heap.size) 6 (some ⟨V1.heap.size, 0, none⟩) 1 [e1.cells] := rd_one V1 45 e1.cells rfl (by simp [Ent.cells, Value.oneCell']) (fun h => by have h' : V1.heap.size = V0.heap.size := h; omega)
      have hO := hO.alloc (.cells #[.int .i64 e1.epoch, .int .i64 e1.id, .int .i64 e1.num, .int .i64 e1.seq, .int .i64 e1.kind, .int .i64 e1.value] 45)
      have hb := hb.alloc hb.size (.cells #[.int .i64 e1.epoch, .int .i64 e1.id, .int .i64 e1.num, .int .i64 e1.seq, .int .i64 e1.kind, .int .i64 e1.value] 45)
      have hzM : V1.heap.size < (V1.alloc (.cells #[.int .i64 e1.epoch, .int .i64 e1.id, .int .i64 e1.num, .int .i64 e1.seq, .int .i64 e1.kind, .int .i64 e1.value] 45)).heap.size := by simp
      refine hK.out _ _ (Blk.alloc hHeld _) (fun hHeld => ?_)
      clear hK K
      generalize V1.alloc (.cells #[.int .i64 e1.epoch, .int .i64 e1.id, .int .i64 e1.num, .int .i64 e1.seq, .int .i64 e1.kind, .int .i64 e1.value] 45) = V2 at *
      refine wpAnyH_ready (rs := [2]) (by kernel_rfl) (by simp) (AllReadyH.cons rfl (fun K hK => ?_) AllReadyH.nil)
      refine step_append_k el22 (by rfl) (by rfl) _ _ (by rfl) (.slice (some ⟨V0.heap.size, 0, none⟩) 0 0) [] (by rfl) hO No a0 len0 cap0 (cellsOf l0) (by rfl) (HRD.out.below hb) (by simp) (by omega) ?_
      intro v2 V3 hO2 hg2
      rw [List.nil_append] at hO2
      have hR := hR.keep (hg2.turn (S := fun b => b = V0.heap.size) (own_is V0.heap.size)) (fun b _ h => h)
      have hv2 : ∀ b, v2.ownBlock = some b → w.heap.size < b := fun b eb => by
        rcases hg2.2 b eb with h | h
        · have := own_is V0.heap.size b h; omega
        · have := hHeld.lt; omega
      have hb := below_grew hb hg2 (fun b eb => by have := own_is V0.heap.size b eb; omega) hb.size
      refine hK.out _ _ (show Blk V3 w.heap.size 45 #[.int .i64 e1.epoch, .int .i64 e1.id, .int .i64 e1.num, .int .i64 e1.seq, .int .i64 e1.kind, .int .i64 e1.value] from Blk.grown_o hHeld hg2.1 (fun b eb => by have := own_is V0.heap.size b eb; omega)) (fun hHeld => ?_)
      clear hK K
      have hzG := hg2.1.size
      obtain ⟨A2, q2, c2, rfl, -, -, -⟩ := hO2.form
      have hO := hO2
      try simp only [List.setIfInBounds_toArray, List.set_cons_zero, List.set_cons_succ]
      refine wpAnyH_ready (rs := [5]) (by kernel_rfl) (by simp) (AllReadyH.cons rfl (fun K hK => ?_) AllReadyH.nil)
      refine step_append_k el22 (by rfl) (by rfl) _ _ (by rfl) (.slice A2 q2 c2) (cellsOf l0) (by rfl) hO _ _ 1 _ [e1.cells] (by rfl) hR (by simp [cellsOf]; have := HL.out; omega) (by omega) ?_
      intro v9 V4 hO9 hg9
      have hv9 : ∀ b, v9.ownBlock = some b → w.heap.size ≤ b := fun b eb => by
        rcases hg9.2 b eb with h | h
        · exact Nat.le_of_lt (hv2 b h)
        · have := hb.size; omega
      have hb := below_grew hb hg9 (fun b eb => Nat.le_of_lt (hv2 b eb)) hb.size
      have hHeld9 : Blk V4 w.heap.size 45 #[.int .i64 e1.epoch, .int .i64 e1.id, .int .i64 e1.num, .int .i64 e1.seq, .int .i64 e1.kind, .int .i64 e1.value] := Blk.grown_o hHeld hg9.1 (fun b eb => by have := hv2 b eb; omega)
      refine hK.out _ _ hHeld9 (fun hHeld => ?_)
      clear hK K
      try simp only [List.setIfInBounds_toArray, List.set_cons_zero, List.set_cons_succ]
      refine wpAnyH_takeAt (i := 6) (d := 5) (v := ?vq3x) rfl rfl (by kernel_rfl) (by kernel_rfl) (by kernel_rfl) (fun _ _ _ h => h) (Or.inl ⟨by rfl, ?hyq3x⟩) hHeld ?_
      case hyq3x =>
        intro W hSw
        clear hSw
        (go_simp; try with_reducible rfl)
      simp only [List.setIfInBounds_toArray, List.set_cons_zero, List.set_cons_succ]
      refine wpAnyH_done (by kernel_rfl) ?_ _
      have hO9' : OwnK V4 45 6 v9 (cellsOf (l0 ++ [e1])) := by unfold cellsOf at hO9 ⊢; rw [List.map_append]; exact hO9
      obtain ⟨A2, q, c2, rfl, hq, hc2, -⟩ := hO9'.form
      have hq40 : q = len0 + 1 := by rw [hq]; simp [cellsOf]; exact HL.out
      have HQ : Hid ((l0 ++ [e1]).length = q) := Lib.hid (by rw [hq]; simp [cellsOf])
      have HRL : Hid (Rd V4 No 6 A2 q (cellsOf (l0 ++ [e1]))) := Lib.hid (hO9'.rd (X := No) (fun _ _ h => h))
      have HB2 := Lib.hid hb
      have HQ40 := Lib.hid hq40
      have hq1 : q ≤ 41 := by omega
      have hq2 : len0 ≤ q := by omega
      clear hq hO9 hO9' hv9 hb hO hR hv2 hO2 hg2 hg9 hHeld hq40
      generalize l0 ++ [e1] = L at *
      generalize V4 = w2 at *
      have hri := refRight_any (c := c2) HRL.out (by omega)
      by_cases hz : allE [] L = 0
      case neg =>
        rw [decide_eq_false hz] at hri
        clear hz
        go_wp2_with fail
        refine hri.mono ?_
        rintro r w5 ⟨rfl, hb⟩
        have HB5 := Lib.hid (HB2.out.trans (hb.mono HB2.out.size))
        clear hri hb
        go_wp2_with fail
        refine (works_any (HN.out.low HB5.out)).mono ?_
        rintro r w6 ⟨rfl, hb⟩
        have HB6 := Lib.hid (HB5.out.trans (hb.mono HB5.out.size))
        clear hb
        go_wp2_with fail
        go_ret
        exact ⟨rfl, HB6.out⟩
      rw [decide_eq_true hz] at hri
      have HZ := Lib.hid hz
      clear hz
      go_wp2_with fail
      refine hri.mono ?_
      rintro r w3 ⟨rfl, hb⟩
      have HB3 := Lib.hid (HB2.out.trans (hb.mono HB2.out.size))
      have HR3 := Lib.hid (HRL.out.below hb)
      clear hri hb
      have hv := View_any (c := c2) HR3.out (by omega) (HN.out.low HB3.out) (len0 : Int)
      go_wp2_with fail
      refine hv.mono ?_
      rintro r w4 ⟨hb4, hP⟩
      have HB4 := Lib.hid (HB3.out.trans (hb4.mono HB3.out.size))
      have HR4 := Lib.hid (HR3.out.below hb4)
      clear hv hb4
      obtain ⟨N, hSN, v, rfl, hov, hvo⟩ : ∃ N, StN L len0 0 N ∧ ∃ v, r = .returned (.tuple #[v, .int .i64 0]) ∧ OwnK w4 3 1 v (intsOf (vl L len0 0 N)) ∧ ∀ b, v.ownBlock = some b → w3.heap.size ≤ b := by
        rcases hP with ⟨hz, -⟩ | ⟨-, hbad, -⟩ | ⟨-, m', N, hme, -, hSN, hr⟩
        · exact absurd HZ.out hz
        · have := HQ.out; omega
        · obtain rfl : len0 = m' := by omega
          exact ⟨N, hSN, hr⟩
      clear hP hvo
      have HSN := Lib.hid hSN
      obtain ⟨Av, cv, rfl, hcv⟩ := ints_form hov
      have HVL : Hid ((vl L len0 0 N).length ≤ 1000000) := Lib.hid (by have := vl_len L len0 0 N; have := hSN.le; omega)
      have HOV := Lib.hid hov
      clear hSN hov hcv
      generalize hU : vl L len0 0 N = U at *
      have HU := Lib.hid hU
      clear hU
      have hv := View_any (c := c2) HR4.out (by omega) (HN.out.low HB4.out) (q : Int)
      go_wp2_with fail
      refine hv.mono ?_
      rintro r w5 ⟨hb5, hP⟩
      have HB5 := Lib.hid (HB4.out.trans (hb5.mono HB4.out.size))
      have HR5 := Lib.hid (HR4.out.below hb5)
      have HOV5 := Lib.hid (HOV.out.below hb5)
      clear hv hb5
      obtain ⟨N2, hSN, v', rfl, hov, hvo⟩ : ∃ N, StN L q 0 N ∧ ∃ v, r = .returned (.tuple #[v, .int .i64 0]) ∧ OwnK w5 3 1 v (intsOf (vl L q 0 N)) ∧ ∀ b, v.ownBlock = some b → w4.heap.size ≤ b := by
        rcases hP with ⟨hz, -⟩ | ⟨-, hbad, -⟩ | ⟨-, m', N, hme, -, hSN, hr⟩
        · exact absurd HZ.out hz
        · have := HQ.out; omega
        · obtain rfl : q = m' := by omega
          exact ⟨N, hSN, hr⟩
      clear hP hvo
      have HSN2 := Lib.hid hSN
      obtain ⟨Aw, cw, rfl, hcv⟩ := ints_form hov
      have HWL : Hid ((vl L q 0 N2).length ≤ 1000000) := Lib.hid (by have := vl_len L q 0 N2; have := hSN.le; omega)
      have HOW := Lib.hid hov
      clear hSN hov hcv
      generalize hU : vl L q 0 N2 = U2 at *
      have HU2 := Lib.hid hU
      clear hU
      have hst2 := stab_take (allR_of HZ.out) (by have := HQ.out; omega) HSN.out
      have hrv := rv_vl (n := len0) (allR_of HZ.out) (by have := HQ.out; omega) N (by have := HSN.out.le; omega)
      rw [HU.out] at hrv
      have hvw := refView_any (m := len0) (c := c2) HR5.out (by omega) (fun x hx => allR_of HZ.out x (List.mem_of_mem_take hx)) hq2 hc2 (by have := stab_le (L.take len0) 4; rw [List.length_take] at this; omega)
      rw [hst2, hrv] at hvw
      clear hst2 hrv
      go_wp2_with fail
      refine (num_any _ _).mono ?_
      rintro r w' ⟨rfl, rfl⟩
      go_wp2_with fail
      refine (num_any _ _).mono ?_
      rintro r w' ⟨rfl, rfl⟩
      go_wp2_with fail
      refine hvw.mono ?_
      rintro r w6 ⟨v6, rfl, ho6, hv6, hb6⟩
      have HB6 := Lib.hid (HB5.out.trans (hb6.mono HB5.out.size))
      have HR6 := Lib.hid (HR5.out.below hb6)
      have HOW6 := Lib.hid (HOW.out.below hb6)
      obtain ⟨A6, c6, rfl, -⟩ := ints_form ho6
      have hs6 := sameI_any (c := cv) (d := c6) ((HOV5.out.below hb6).rd (X := No) (fun _ _ h => h)) (ho6.rd (X := No) (fun _ _ h => h)) HVL.out HVL.out
      rw [decide_eq_true rfl] at hs6
      clear hvw ho6 hv6 hb6
      go_wp2_with fail
      refine hs6.mono ?_
      rintro r w7 ⟨rfl, q7, rfl⟩
      have hdr := below_drewN (Below.refl w6.heap.size w6) q7
      have HB7 := Lib.hid (HB6.out.trans (hdr.mono HB6.out.size))
      have HR7 := Lib.hid (HR6.out.below hdr)
      have HOW7 := Lib.hid (HOW6.out.below hdr)
      clear hdr
      generalize w6.drewN q7 = w7 at *
      clear hs6
      have hst2 := stab_take (allR_of HZ.out) (by have := HQ.out; omega) HSN2.out
      have hrv := rv_vl (n := q) (allR_of HZ.out) (by have := HQ.out; omega) N2 (by have := HSN2.out.le; omega)
      rw [HU2.out] at hrv
      have hvw := refView_any (m := q) (c := c2) HR7.out (by omega) (fun x hx => allR_of HZ.out x (List.mem_of_mem_take hx)) (Nat.le_refl q) hc2 (by have := stab_le (L.take q) 4; rw [List.length_take] at this; omega)
      rw [hst2, hrv] at hvw
      clear hst2 hrv
      go_wp2_with fail
      refine hvw.mono ?_
      rintro r w8 ⟨v6, rfl, ho6, hv6, hb6⟩
      have HB8 := Lib.hid (HB7.out.trans (hb6.mono HB7.out.size))
      have HR8 := Lib.hid (HR7.out.below hb6)
      obtain ⟨A6, c6, rfl, -⟩ := ints_form ho6
      have hs6 := sameI_any (c := cw) (d := c6) ((HOW7.out.below hb6).rd (X := No) (fun _ _ h => h)) (ho6.rd (X := No) (fun _ _ h => h)) HWL.out HWL.out
      rw [decide_eq_true rfl] at hs6
      clear hvw ho6 hv6 hb6
      go_wp2_with fail
      refine hs6.mono ?_
      rintro r w9 ⟨rfl, q7, rfl⟩
      have hdr := below_drewN (Below.refl w8.heap.size w8) q7
      have HB9 := Lib.hid (HB8.out.trans (hdr.mono HB8.out.size))
      have HR9 := Lib.hid (HR8.out.below hdr)
      clear hdr
      generalize w8.drewN q7 = w9 at *
      clear hs6
      have hg := good_any (c := c2) HR9.out (by omega) (fun x hx => right_key (allR_of HZ.out x hx))
      go_wp2_with fail
      refine hg.mono ?_
      rintro r w10 ⟨b, rfl, hbg, hb⟩
      have HB10 := Lib.hid (HB9.out.trans (hb.mono HB9.out.size))
      have HBG := Lib.hid hbg
      have hrg := refGood_any (c := c2) (HR9.out.below hb) (by omega) hc2
      clear hg hb hbg
      go_wp2_with fail
      refine hrg.mono ?_
      rintro r w11 ⟨b', rfl, hbg, hb⟩
      have HB11 := Lib.hid (HB10.out.trans (hb.mono HB10.out.size))
      obtain rfl : b' = b := by
        have h1 := HBG.out.trans ((good_same L).trans hbg.symm)
        cases b <;> cases b' <;> simp_all
      clear hrg hb hbg HBG
      have hbb : (b' == b') = true := by simp
      go_wp2_with fail
      refine (works_any (HN.out.low HB11.out)).mono ?_
      rintro r w12 ⟨rfl, hb⟩
      have HB12 := Lib.hid (HB11.out.trans (hb.mono HB11.out.size))
      clear hb
      go_wp2_with fail
      go_ret
      exact ⟨rfl, HB12.out⟩
  · go_simp
    have hR : Rd (V0.alloc (.cells #[.int .i64 e1.epoch, .int .i64 e1.id, .int .i64 e1.num, .int .i64 e1.seq, .int .i64 e1.kind, .int .i64 e1.value] 45)) No 6 (some ⟨V0.heap.size, 0, none⟩) 1 [e1.cells] := rd_one V0 45 e1.cells rfl (by simp [Ent.cells, Value.oneCell']) (fun h => h)
    have hb := hb.alloc hb.size (.cells #[.int .i64 e1.epoch, .int .i64 e1.id, .int .i64 e1.num, .int .i64 e1.seq, .int .i64 e1.kind, .int .i64 e1.value] 45)
    have hzM : V0.heap.size < (V0.alloc (.cells #[.int .i64 e1.epoch, .int .i64 e1.id, .int .i64 e1.num, .int .i64 e1.seq, .int .i64 e1.kind, .int .i64 e1.value] 45)).heap.size := by simp
    refine hK.out _ _ (Blk.alloc hHeld _) (fun hHeld => ?_)
    clear hK K
    generalize V0.alloc (.cells #[.int .i64 e1.epoch, .int .i64 e1.id, .int .i64 e1.num, .int .i64 e1.seq, .int .i64 e1.kind, .int .i64 e1.value] 45) = V1 at *
    refine wpAnyH_ready (rs := [0]) (by kernel_rfl) (by simp) (AllReadyH.cons rfl (fun K hK => ?_) AllReadyH.nil)
    go_simp
    have hO := OwnK.made V1
    have hR := ((hR.wide (X' := fun b => b = V1.heap.size) (fun b hb e => by have e' : b = V1.heap.size := e; omega)).alloc (.cells #[] 45))
    have hzO : w.heap.size < V1.heap.size := hHeld.lt
    have hzN : V1.heap.size < (V1.alloc (.cells #[] 45)).heap.size := by simp
    have hb := hb.alloc hb.size (.cells #[] 45)
    refine hK.out _ _ (Blk.alloc hHeld _) (fun hHeld => ?_)
    clear hK K
    generalize V1.alloc (.cells #[] 45) = V2 at *
    refine wpAnyH_ready (rs := [2]) (by kernel_rfl) (by simp) (AllReadyH.cons rfl (fun K hK => ?_) AllReadyH.nil)
    refine step_append_k el22 (by rfl) (by rfl) _ _ (by rfl) (.slice (some ⟨V1.heap.size, 0, none⟩) 0 0) [] (by rfl) hO No a0 len0 cap0 (cellsOf l0) (by rfl) (HRD.out.below hb) (by simp) (by omega) ?_
    intro v2 V3 hO2 hg2
    rw [List.nil_append] at hO2
    have hR := hR.keep (hg2.turn (S := fun b => b = V1.heap.size) (own_is V1.heap.size)) (fun b _ h => h)
    have hv2 : ∀ b, v2.ownBlock = some b → w.heap.size < b := fun b eb => by
      rcases hg2.2 b eb with h | h
      · have := own_is V1.heap.size b h; omega
      · have := hHeld.lt; omega
    have hb := below_grew hb hg2 (fun b eb => by have := own_is V1.heap.size b eb; omega) hb.size
    refine hK.out _ _ (show Blk V3 w.heap.size 45 #[.int .i64 e1.epoch, .int .i64 e1.id, .int .i64 e1.num, .int .i64 e1.seq, .int .i64 e1.kind, .int .i64 e1.value] from Blk.grown_o hHeld hg2.1 (fun b eb => by have := own_is V1.heap.size b eb; omega)) (fun hHeld => ?_)
    clear hK K
    have hzG := hg2.1.size
    obtain ⟨A2, q2, c2, rfl, -, -, -⟩ := hO2.form
    have hO := hO2
    try simp only [List.setIfInBounds_toArray, List.set_cons_zero, List.set_cons_succ]
    refine wpAnyH_ready (rs := [5]) (by kernel_rfl) (by simp) (AllReadyH.cons rfl (fun K hK => ?_) AllReadyH.nil)
    refine step_append_k el22 (by rfl) (by rfl) _ _ (by rfl) (.slice A2 q2 c2) (cellsOf l0) (by rfl) hO _ _ 1 _ [e1.cells] (by rfl) hR (by simp [cellsOf]; have := HL.out; omega) (by omega) ?_
    intro v9 V4 hO9 hg9
    have hv9 : ∀ b, v9.ownBlock = some b → w.heap.size ≤ b := fun b eb => by
      rcases hg9.2 b eb with h | h
      · exact Nat.le_of_lt (hv2 b h)
      · have := hb.size; omega
    have hb := below_grew hb hg9 (fun b eb => Nat.le_of_lt (hv2 b eb)) hb.size
    have hHeld9 : Blk V4 w.heap.size 45 #[.int .i64 e1.epoch, .int .i64 e1.id, .int .i64 e1.num, .int .i64 e1.seq, .int .i64 e1.kind, .int .i64 e1.value] := Blk.grown_o hHeld hg9.1 (fun b eb => by have := hv2 b eb; omega)
    refine hK.out _ _ hHeld9 (fun hHeld => ?_)
    clear hK K
    try simp only [List.setIfInBounds_toArray, List.set_cons_zero, List.set_cons_succ]
    refine wpAnyH_takeAt (i := 6) (d := 5) (v := ?vq4x) rfl rfl (by kernel_rfl) (by kernel_rfl) (by kernel_rfl) (fun _ _ _ h => h) (Or.inl ⟨by rfl, ?hyq4x⟩) hHeld ?_
    case hyq4x =>
      intro W hSw
      clear hSw
      (go_simp; try with_reducible rfl)
    simp only [List.setIfInBounds_toArray, List.set_cons_zero, List.set_cons_succ]
    refine wpAnyH_done (by kernel_rfl) ?_ _
    have hO9' : OwnK V4 45 6 v9 (cellsOf (l0 ++ [e1])) := by unfold cellsOf at hO9 ⊢; rw [List.map_append]; exact hO9
    obtain ⟨A2, q, c2, rfl, hq, hc2, -⟩ := hO9'.form
    have hq40 : q = len0 + 1 := by rw [hq]; simp [cellsOf]; exact HL.out
    have HQ : Hid ((l0 ++ [e1]).length = q) := Lib.hid (by rw [hq]; simp [cellsOf])
    have HRL : Hid (Rd V4 No 6 A2 q (cellsOf (l0 ++ [e1]))) := Lib.hid (hO9'.rd (X := No) (fun _ _ h => h))
    have HB2 := Lib.hid hb
    have HQ40 := Lib.hid hq40
    have hq1 : q ≤ 41 := by omega
    have hq2 : len0 ≤ q := by omega
    clear hq hO9 hO9' hv9 hb hO hR hv2 hO2 hg2 hg9 hHeld hq40
    generalize l0 ++ [e1] = L at *
    generalize V4 = w2 at *
    have hri := refRight_any (c := c2) HRL.out (by omega)
    by_cases hz : allE [] L = 0
    case neg =>
      rw [decide_eq_false hz] at hri
      clear hz
      go_wp2_with fail
      refine hri.mono ?_
      rintro r w5 ⟨rfl, hb⟩
      have HB5 := Lib.hid (HB2.out.trans (hb.mono HB2.out.size))
      clear hri hb
      go_wp2_with fail
      refine (works_any (HN.out.low HB5.out)).mono ?_
      rintro r w6 ⟨rfl, hb⟩
      have HB6 := Lib.hid (HB5.out.trans (hb.mono HB5.out.size))
      clear hb
      go_wp2_with fail
      go_ret
      exact ⟨rfl, HB6.out⟩
    rw [decide_eq_true hz] at hri
    have HZ := Lib.hid hz
    clear hz
    go_wp2_with fail
    refine hri.mono ?_
    rintro r w3 ⟨rfl, hb⟩
    have HB3 := Lib.hid (HB2.out.trans (hb.mono HB2.out.size))
    have HR3 := Lib.hid (HRL.out.below hb)
    clear hri hb
    have hv := View_any (c := c2) HR3.out (by omega) (HN.out.low HB3.out) (len0 : Int)
    go_wp2_with fail
    refine hv.mono ?_
    rintro r w4 ⟨hb4, hP⟩
    have HB4 := Lib.hid (HB3.out.trans (hb4.mono HB3.out.size))
    have HR4 := Lib.hid (HR3.out.below hb4)
    clear hv hb4
    obtain ⟨N, hSN, v, rfl, hov, hvo⟩ : ∃ N, StN L len0 0 N ∧ ∃ v, r = .returned (.tuple #[v, .int .i64 0]) ∧ OwnK w4 3 1 v (intsOf (vl L len0 0 N)) ∧ ∀ b, v.ownBlock = some b → w3.heap.size ≤ b := by
      rcases hP with ⟨hz, -⟩ | ⟨-, hbad, -⟩ | ⟨-, m', N, hme, -, hSN, hr⟩
      · exact absurd HZ.out hz
      · have := HQ.out; omega
      · obtain rfl : len0 = m' := by omega
        exact ⟨N, hSN, hr⟩
    clear hP hvo
    have HSN := Lib.hid hSN
    obtain ⟨Av, cv, rfl, hcv⟩ := ints_form hov
    have HVL : Hid ((vl L len0 0 N).length ≤ 1000000) := Lib.hid (by have := vl_len L len0 0 N; have := hSN.le; omega)
    have HOV := Lib.hid hov
    clear hSN hov hcv
    generalize hU : vl L len0 0 N = U at *
    have HU := Lib.hid hU
    clear hU
    have hv := View_any (c := c2) HR4.out (by omega) (HN.out.low HB4.out) (q : Int)
    go_wp2_with fail
    refine hv.mono ?_
    rintro r w5 ⟨hb5, hP⟩
    have HB5 := Lib.hid (HB4.out.trans (hb5.mono HB4.out.size))
    have HR5 := Lib.hid (HR4.out.below hb5)
    have HOV5 := Lib.hid (HOV.out.below hb5)
    clear hv hb5
    obtain ⟨N2, hSN, v', rfl, hov, hvo⟩ : ∃ N, StN L q 0 N ∧ ∃ v, r = .returned (.tuple #[v, .int .i64 0]) ∧ OwnK w5 3 1 v (intsOf (vl L q 0 N)) ∧ ∀ b, v.ownBlock = some b → w4.heap.size ≤ b := by
      rcases hP with ⟨hz, -⟩ | ⟨-, hbad, -⟩ | ⟨-, m', N, hme, -, hSN, hr⟩
      · exact absurd HZ.out hz
      · have := HQ.out; omega
      · obtain rfl : q = m' := by omega
        exact ⟨N, hSN, hr⟩
    clear hP hvo
    have HSN2 := Lib.hid hSN
    obtain ⟨Aw, cw, rfl, hcv⟩ := ints_form hov
    have HWL : Hid ((vl L q 0 N2).length ≤ 1000000) := Lib.hid (by have := vl_len L q 0 N2; have := hSN.le; omega)
    have HOW := Lib.hid hov
    clear hSN hov hcv
    generalize hU : vl L q 0 N2 = U2 at *
    have HU2 := Lib.hid hU
    clear hU
    have hst2 := stab_take (allR_of HZ.out) (by have := HQ.out; omega) HSN.out
    have hrv := rv_vl (n := len0) (allR_of HZ.out) (by have := HQ.out; omega) N (by have := HSN.out.le; omega)
    rw [HU.out] at hrv
    have hvw := refView_any (m := len0) (c := c2) HR5.out (by omega) (fun x hx => allR_of HZ.out x (List.mem_of_mem_take hx)) hq2 hc2 (by have := stab_le (L.take len0) 4; rw [List.length_take] at this; omega)
    rw [hst2, hrv] at hvw
    clear hst2 hrv
    go_wp2_with fail
    refine (num_any _ _).mono ?_
    rintro r w' ⟨rfl, rfl⟩
    go_wp2_with fail
    refine (num_any _ _).mono ?_
    rintro r w' ⟨rfl, rfl⟩
    go_wp2_with fail
    refine hvw.mono ?_
    rintro r w6 ⟨v6, rfl, ho6, hv6, hb6⟩
    have HB6 := Lib.hid (HB5.out.trans (hb6.mono HB5.out.size))
    have HR6 := Lib.hid (HR5.out.below hb6)
    have HOW6 := Lib.hid (HOW.out.below hb6)
    obtain ⟨A6, c6, rfl, -⟩ := ints_form ho6
    have hs6 := sameI_any (c := cv) (d := c6) ((HOV5.out.below hb6).rd (X := No) (fun _ _ h => h)) (ho6.rd (X := No) (fun _ _ h => h)) HVL.out HVL.out
    rw [decide_eq_true rfl] at hs6
    clear hvw ho6 hv6 hb6
    go_wp2_with fail
    refine hs6.mono ?_
    rintro r w7 ⟨rfl, q7, rfl⟩
    have hdr := below_drewN (Below.refl w6.heap.size w6) q7
    have HB7 := Lib.hid (HB6.out.trans (hdr.mono HB6.out.size))
    have HR7 := Lib.hid (HR6.out.below hdr)
    have HOW7 := Lib.hid (HOW6.out.below hdr)
    clear hdr
    generalize w6.drewN q7 = w7 at *
    clear hs6
    have hst2 := stab_take (allR_of HZ.out) (by have := HQ.out; omega) HSN2.out
    have hrv := rv_vl (n := q) (allR_of HZ.out) (by have := HQ.out; omega) N2 (by have := HSN2.out.le; omega)
    rw [HU2.out] at hrv
    have hvw := refView_any (m := q) (c := c2) HR7.out (by omega) (fun x hx => allR_of HZ.out x (List.mem_of_mem_take hx)) (Nat.le_refl q) hc2 (by have := stab_le (L.take q) 4; rw [List.length_take] at this; omega)
    rw [hst2, hrv] at hvw
    clear hst2 hrv
    go_wp2_with fail
    refine hvw.mono ?_
    rintro r w8 ⟨v6, rfl, ho6, hv6, hb6⟩
    have HB8 := Lib.hid (HB7.out.trans (hb6.mono HB7.out.size))
    have HR8 := Lib.hid (HR7.out.below hb6)
    obtain ⟨A6, c6, rfl, -⟩ := ints_form ho6
    have hs6 := sameI_any (c := cw) (d := c6) ((HOW7.out.below hb6).rd (X := No) (fun _ _ h => h)) (ho6.rd (X := No) (fun _ _ h => h)) HWL.out HWL.out
    rw [decide_eq_true rfl] at hs6
    clear hvw ho6 hv6 hb6
    go_wp2_with fail
    refine hs6.mono ?_
    rintro r w9 ⟨rfl, q7, rfl⟩
    have hdr := below_drewN (Below.refl w8.heap.size w8) q7
    have HB9 := Lib.hid (HB8.out.trans (hdr.mono HB8.out.size))
    have HR9 := Lib.hid (HR8.out.below hdr)
    clear hdr
    generalize w8.drewN q7 = w9 at *
    clear hs6
    have hg := good_any (c := c2) HR9.out (by omega) (fun x hx => right_key (allR_of HZ.out x hx))
    go_wp2_with fail
    refine hg.mono ?_
    rintro r w10 ⟨b, rfl, hbg, hb⟩
    have HB10 := Lib.hid (HB9.out.trans (hb.mono HB9.out.size))
    have HBG := Lib.hid hbg
    have hrg := refGood_any (c := c2) (HR9.out.below hb) (by omega) hc2
    clear hg hb hbg
    go_wp2_with fail
    refine hrg.mono ?_
    rintro r w11 ⟨b', rfl, hbg, hb⟩
    have HB11 := Lib.hid (HB10.out.trans (hb.mono HB10.out.size))
    obtain rfl : b' = b := by
      have h1 := HBG.out.trans ((good_same L).trans hbg.symm)
      cases b <;> cases b' <;> simp_all
    clear hrg hb hbg HBG
    have hbb : (b' == b') = true := by simp
    go_wp2_with fail
    refine (works_any (HN.out.low HB11.out)).mono ?_
    rintro r w12 ⟨rfl, hb⟩
    have HB12 := Lib.hid (HB11.out.trans (hb.mono HB11.out.size))
    clear hb
    go_wp2_with fail
    go_ret
    exact ⟨rfl, HB12.out⟩
set_option maxRecDepth 100000 in
theorem lifted (os : Os) (started : os.Started) (H : Type) (enc : TypeId × Value → H) :
    ReturnsInHanded {} Tryd.checked os 8 .any (fun w args => (Rows.visibleEndsSpec.pre enc Tryd.prog Tryd.f8 [] false w args ∧ laidMetH Tryd.prog [("waystation/visible.nobodys", Rows.laid_waystation_visible_nobodys)] w) ∧ sizedMet enc Tryd.prog Tryd.f8 (OpenSpec.ofChange Rows.visibleEndsSpec) false w args)
      (Rows.visibleEndsSpec.post enc Tryd.prog Tryd.f8 false true false false) := by
  refine returnsInHanded_of_change_and (C := Tryd.checked) (X := fun w _ => laidMetH Tryd.prog [("waystation/visible.nobodys", Rows.laid_waystation_visible_nobodys)] w) (fun _ _ _ hh h => h.of_heap hh) own started (by kernel_rfl) Tryd.func8
    (ChangeSpec.witness_shaped (enc := enc) (C := Tryd.checked) (os := os) (X := fun w _ => laidMetH Tryd.prog [("waystation/visible.nobodys", Rows.laid_waystation_visible_nobodys)] w) false (World.doorLaid Tryd.prog 400 os) #[.slice none 0 0, .agg #[.int .i64 0, .int .i64 0, .int .i64 0, .int .i64 0, .int .i64 0, .int .i64 0]] 8 rfl (World.shaped_of_RefB (by kernel_rfl) (by kernel_rfl)) (by kernel_rfl) (by kernel_rfl) (by kernel_rfl) (door_met os _)) ?_
  intro W base args ds gs before hval0 hW _ _ hL _
  have hval : ∀ (j : Nat) t v, Tryd.f8.params[j]? = some t → args[j]? = some v → Value.okWide Tryd.prog W .any base t v := hval0
  have hW' := hW
  obtain ⟨p, q, hA0, hV, rfl, hfz, hnd⟩ := hW
  have hA : DataW.TrodAll enc Tryd.prog W 0 (fun _ => true) true Tryd.f8.params.toList args.toList ds p := hA0
  rw [Tryd.params8] at hA hval
  obtain ⟨v0, vs0, d0, ds0, p0, q0, hargs, rfl, rfl, h0, r0⟩ := trodAll_cons hA
  obtain ⟨v1, vs1, d1, ds1, p1, q1, rfl, rfl, rfl, h1, r1⟩ := trodAll_cons r0
  obtain ⟨rfl, rfl, rfl⟩ := trodAll_nil r1
  obtain rfl : args = #[v0, v1] := by cases args; simp_all
  obtain ⟨rfl, rfl⟩ := trodVars_none hV
  have k0 := h0
  have lt0 : ∀ x ∈ p0, x.block < W.heap.size := by obtain ⟨m, hm⟩ := k0; exact DataW.trod_lt m _ _ _ hm
  obtain ⟨a0, len0, cap0, rfl⟩ := okWide_slice Tryd.underlying22 (hval 0 22 v0 rfl rfl)
  obtain ⟨l0, b0, hc0, hm0, he0⟩ := open_ents h0
  have k1 := h1
  have lt1 : ∀ x ∈ p1, x.block < W.heap.size := by obtain ⟨m, hm⟩ := k1; exact DataW.trod_lt m _ _ _ hm
  obtain ⟨e1, rfl, he1⟩ := open_ent (hval 1 45 v1 rfl rfl) h1
  have hN := nob_of_laid hL
  clear hA0 hval0
  refine (walk a0 len0 cap0 l0 e1 W b0 hc0 hm0 he0 he1 hN).mono fun e W' ⟨he, bel⟩ => ?_
  subst he
  exact ⟨_, rfl, _, _, _, [], _, [], hW', trodAll_mk1 (shut_bool Tryd.underlying4 _), (trodAll_cons_mk (Below.trod laidOut (by kernel_rfl) (of_decide_eq_true (by kernel_rfl)) k0 bel lt0) (trodAll_cons_mk (Below.trod laidOut (by kernel_rfl) (of_decide_eq_true (by kernel_rfl)) k1 bel lt1) trodAll_mk0)), rfl, bel.frame _, fun h => by cases h⟩
theorem over : Rows.VisibleEndsSaid :=
  OpenClaim.holds_of_wide 8 Tryd.f8 rfl rfl rfl rfl rfl rfl rfl ⟨rfl, rfl, rfl, rfl, rfl⟩ rfl rfl rfl rfl rfl (by kernel_rfl) Tryd.func8 (by kernel_rfl)
    (of_decide_eq_true (by kernel_rfl)) (by unfold Func.isWrapper; first | (rw [if_pos (by decide +kernel)]; kernel_rfl) | (rw [if_neg (by decide +kernel)]; exact ⟨rfl, rfl⟩))
    (fun os started H enc _ => lifted os started H enc)
theorem proved : Rows.VisibleEndsCardSaid :=
  Claim7.holds_tied_plain_at .later [] [.data] true (true, "e872fbbcbb45a318d4a21952f2d33522ec05cad25393f9b523959ddf34fff248") true
    over (fun _ h => by cases h) (by kernel_rfl) (fun _ h => by cases h) visibleEnds_row_tie rfl ⟨rfl, rfl⟩ (by kernel_rfl) rfl
    (fun f fn hf hfn => by
      obtain rfl : f = 8 := Option.some.inj ((show Tryd.prog.funcNamed "waystation/waystationlaw09.VisibleEnds" = some 8 by kernel_rfl).symm.trans hf) |>.symm
      obtain rfl : fn = Tryd.f8 := (Option.some.inj (Tryd.func8.symm.trans hfn)).symm
      exact ⟨by kernel_rfl, fun j t ht => by
        rw [Tryd.params8] at ht
        have hm : t ∈ [22, 45] := by simpa using Array.mem_of_getElem? ht
        have hall : ([22, 45].all fun u => !Tryd.prog.wantsStandIn u) = true := by kernel_rfl
        exact (show Tryd.prog.wantsStandIn t = false by simpa using List.all_eq_true.1 hall t hm)⟩)
    (by kernel_rfl)
end Go.Proofs.YthcphoijanebhaaDoor.visibleEnds
namespace Go.Proofs.YthcphoijanebhaaDoor
theorem visibleEnds_holds : Rows.VisibleEndsCardSaid := visibleEnds.proved
#print axioms visibleEnds_holds
end Go.Proofs.YthcphoijanebhaaDoor
