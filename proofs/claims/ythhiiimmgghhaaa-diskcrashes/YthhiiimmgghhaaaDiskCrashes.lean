/-
  waystationlaw03.DiskCrashes is true for all scripts and every crash. Nothing is assumed.
-/
import Derived.Test.YthhiiimmgghhaaaTwo
import Derived.Test.YthhiiimmgghhaaaFew
import Derived.Test.YthhiiimmgghhaaaWorks
import Derived.WalkKit
import Derived.ProofKit
import Derived.OpenShut
import Derived.ShutString
import Derived.ChangeOld
import Derived.Below
namespace Go.Proofs.Ythhiiimmgghhaaa.diskCrashes
open Go.ChangeShapes Go.WideShapes Go.ChangeAt Go.RowKit
set_option linter.unusedVariables false
theorem own : ownKnob Try.prog.godebug = none := by kernel_rfl
theorem laidOut : laidOutB Try.prog = true := by kernel_rfl
set_option maxHeartbeats 4000000 in
set_option maxRecDepth 100000 in
theorem walk (a0 : Option Addr) (len0 cap0 : Nat) (ts0 : List RT) (kp1 tn1 : Int) (a2 : Option Addr) (len2 cap2 : Nat) (ts2 : List RT) (w : World) (b0 : RTs w No a0 len0 ts0) (ok0 : ∀ t ∈ ts0, RTok t) (hc0 : len0 ≤ cap0) (hm0 : cap0 ≤ maxLen) (hk1 : -9223372036854775808 ≤ kp1 ∧ kp1 ≤ 9223372036854775807) (ht1 : -9223372036854775808 ≤ tn1 ∧ tn1 ≤ 9223372036854775807) (b2 : RTs w No a2 len2 ts2) (ok2 : ∀ t ∈ ts2, RTok t) (hc2 : len2 ≤ cap2) (hm2 : cap2 ≤ maxLen) :
    Calls Try.prog 6 #[.slice a0 len0 cap0, .agg #[.int .i64 kp1, .int .i64 tn1], .slice a2 len2 cap2] w fun e w' => e = .returned (.bool true) ∧ Below w.heap.size w w' := by
  have HB0 := Lib.hid b0
  have HOK0 := Lib.hid ok0
  have HB2 := Lib.hid b2
  have HOK2 := Lib.hid ok2
  clear b0 ok0 b2 ok2
  go_enter Try.func6, Try.ntmps6
  have hb1 : Below w.heap.size w (w.alloc (.cells #[.int .i64 kp1, .int .i64 tn1] 37)) := (Below.refl _ _).alloc (Nat.le_refl _) _
  have hx1 : Blk (w.alloc (.cells #[.int .i64 kp1, .int .i64 tn1] 37)) w.heap.size 37 #[.int .i64 kp1, .int .i64 tn1] := Blk.new w 37 _
  go_wp2_with fail
  generalize w.alloc (.cells #[.int .i64 kp1, .int .i64 tn1] 37) = w1 at *
  refine (few_any (HB0.out.below hb1) HOK0.out hm0 hc0).mono ?_
  rintro e w2 ⟨rfl, hb2⟩
  have hbw2 := hb1.trans (hb2.mono hb1.size)
  by_cases hfew : fewN ts0 ≤ 4000
  case neg =>
    have hdf : decide (fewN ts0 ≤ 4000) = false := by simpa using hfew
    rw [hdf]
    go_wp2_with fail
    refine (works_any _).mono ?_
    rintro e w' ⟨rfl, hb⟩
    go_wp2_with fail
    go_ret
    exact ⟨rfl, hbw2.trans (hb.mono hbw2.size)⟩
  case pos =>
  have hdf : decide (fewN ts0 ≤ 4000) = true := by simpa using hfew
  rw [hdf]
  go_wp2_with fail
  refine (few_any (HB2.out.below hbw2) HOK2.out hm2 hc2).mono ?_
  rintro e w3 ⟨rfl, hb3⟩
  have hbw3 := hbw2.trans (hb3.mono hbw2.size)
  by_cases hfew2 : fewN ts2 ≤ 4000
  case neg =>
    have hdf2 : decide (fewN ts2 ≤ 4000) = false := by simpa using hfew2
    rw [hdf2]
    go_wp2_with fail
    refine (works_any _).mono ?_
    rintro e w' ⟨rfl, hb⟩
    go_wp2_with fail
    go_ret
    exact ⟨rfl, hbw3.trans (hb.mono hbw3.size)⟩
  case pos =>
  have hdf2 : decide (fewN ts2 ≤ 4000) = true := by simpa using hfew2
  rw [hdf2]
  obtain ⟨hl66, hbd⟩ := few_ok hfew
  obtain ⟨hl67, hbd2⟩ := few_ok hfew2
  have HL : Hid (len0 ≤ 1000) := Lib.hid (by have := HB0.out.len; omega)
  have HL2 : Hid (len2 ≤ 66) := Lib.hid (by have := HB2.out.len; omega)
  have HBD : Hid (∀ t ∈ ts0, t.bytes.length ≤ 100000000 ∧ t.name.length ≤ 1000000000) := Lib.hid (fun t ht => by have := hbd t ht; omega)
  have HBD2 : Hid (∀ t ∈ ts2, t.bytes.length ≤ 100000000 ∧ t.name.length ≤ 1000000000) := Lib.hid (fun t ht => by have := hbd2 t ht; omega)
  have hx3 := (hx1.below hb2 hx1.lt).below hb3 (hx1.below hb2 hx1.lt).lt
  clear hdf hdf2 hfew hfew2 hbd hbd2 hl66 hl67 hx1 hb1 hb2 hb3 hbw2
  go_wp2_with fail
  refine (played_any (room := 1000) (by omega) (by omega) (HB0.out.below hbw3) HL.out HBD.out).mono ?_
  rintro e w4 ⟨g, cs, S, rfl, hdk4, hrd4, hS4, hb4, hok, hnmd, hsz⟩
  generalize (⟨1000, [], []⟩ : RDk).run ts0 = d at *
  have HRD4 := Lib.hid hrd4
  obtain ⟨A, n, c, B, m, k0, rfl, -, -, -, -, -, -⟩ := hrd4
  have hal : Below w4.heap.size w4 (w4.alloc (.cells #[.int .i64 (d.room : Int), .slice A n c, .slice B m k0] 29)) := (Below.refl _ _).alloc (Nat.le_refl _) _
  have hb45 := hb4.trans (hal.mono hb4.size)
  have hb5 := hbw3.trans (hb45.mono hbw3.size)
  have hx5 := hx3.below hb45 hx3.lt
  have hdk5 := hdk4.below hal
  have HRD5 := Lib.hid (HRD4.out.below hal)
  have hv5 : Blk (w4.alloc (.cells #[.int .i64 (d.room : Int), .slice A n c, .slice B m k0] 29)) w4.heap.size 29 #[.int .i64 (d.room : Int), .slice A n c, .slice B m k0] := Blk.new _ _ _
  have f0 : (w4.alloc (.cells #[.int .i64 (d.room : Int), .slice A n c, .slice B m k0] 29)).cell? ⟨w.heap.size, 0, none⟩ = some (.int .i64 kp1) := hx5.cell 0
  have f1 : (w4.alloc (.cells #[.int .i64 (d.room : Int), .slice A n c, .slice B m k0] 29)).cell? ⟨w.heap.size, 1, none⟩ = some (.int .i64 tn1) := hx5.cell 1
  clear hb4 hb45 hdk4 hal hx3 hbw3 hS4
  go_wp2_with fail
  generalize w4.alloc (.cells #[.int .i64 (d.room : Int), .slice A n c, .slice B m k0] 29) = w5 at *
  generalize w4.heap.size = zv at *
  refine (diskCrash_any hdk5 kp1 tn1 (by omega)).mono ?_
  rintro e w6 ⟨p, rfl, x, Sx, rfl, hdk6, hSx, hb6⟩
  have hv6 := hv5.below hb6 hv5.lt
  have hx6 := hx5.below hb6 hx5.lt
  have hb6' := hb5.trans (hb6.mono hb5.size)
  have HZ5 : Hid (zv < w5.heap.size) := Lib.hid hv5.lt
  have HDD : Hid (Dk w6 S (fun b => S b ∨ Sx b) g d.st) := Lib.hid ((hdk5.wide (fun b hlt e => e.elim id (fun e => by have := hSx b e; omega)) (fun b e => .inl e)).below hb6)
  have HRD6 : Hid (RDAt w6 (fun b => Sx b) d #[.int .i64 (d.room : Int), .slice A n c, .slice B m k0]) := Lib.hid ((HRD5.out.wide (fun b hlt e => by have := hSx b e; omega)).below hb6)
  have HOLD : Hid (∀ b, S b → b < w5.heap.size) := Lib.hid (fun b e => hdk5.lt e)
  have HDX := Lib.hid hdk6
  have HSX := Lib.hid hSx
  have HOK := Lib.hid hok
  have HND := Lib.hid hnmd
  have HB5 := Lib.hid hb5
  clear f0 f1 hv5 hx5 hb5 hdk5 hdk6 hok hnmd hSx
  have f0 : w6.cell? ⟨w.heap.size, 0, none⟩ = some (.int .i64 kp1) := hx6.cell 0
  have f1 : w6.cell? ⟨w.heap.size, 1, none⟩ = some (.int .i64 tn1) := hx6.cell 1
  obtain ⟨e0, e1, e2⟩ := hv6.three
  go_wp2_with fail
  refine (refCrash_any (X := fun b => Sx b) HRD6.out (fun b e => HDX.out.lt e) HOK.out kp1 tn1).mono ?_
  rintro e w7 ⟨cs7, rfl, hrd7, hb7⟩
  have hTwo7 : Two w w5.heap.size g x S Sx (fun _ => False) d (d.crash kp1 tn1) #[.int .i64 (d.room : Int), .slice A n c, .slice B m k0] cs7 w7 :=
    ⟨(HDX.out.below hb7).wide (fun b _ e => e.elim id (fun e => e.elim)) (fun b e => .inl e), hrd7.wide (fun b _ e => e.elim id (fun e => e.elim)), (HDD.out.below hb7).wide (fun b _ e => e.elim .inl (fun e => e.elim .inr (fun e => e.elim))) (fun b e => .inl e), (HRD6.out.below hb7).wide (fun b _ e => e.elim id (fun e => e.elim)),
      HOK.out.crash kp1 tn1, HND.out.crash kp1 tn1, fun b e => e.elim (HSX.out b) (fun e => e.elim), HOLD.out, fun b _ e => e, fun b e => e.elim, HB5.out.size, hb6'.trans (hb7.mono hb6'.size)⟩
  have HSZL : Hid ((d.crash kp1 tn1).st.size < 100000) := Lib.hid (by have := crash_size (d := d) kp1 tn1; omega)
  generalize d.crash kp1 tn1 = dl at *
  have hrd7' := hTwo7.rdx
  obtain ⟨A7, n7, c7, B7, m7, k7, rfl, -, -, -, -, -, -⟩ := hrd7'
  have hz7 : w5.heap.size ≤ w7.heap.size := Nat.le_trans hb6.size hb7.size
  have hTwo8 := hTwo7.var (.cells #[.int .i64 (dl.room : Int), .slice A7 n7 c7, .slice B7 m7 k7] 29) hz7
  have hv8 := (hv6.below hb7 hv6.lt).alloc (.cells #[.int .i64 (dl.room : Int), .slice A7 n7 c7, .slice B7 m7 k7] 29)
  have hl8 : Blk (w7.alloc (.cells #[.int .i64 (dl.room : Int), .slice A7 n7 c7, .slice B7 m7 k7] 29)) w7.heap.size 29 #[.int .i64 (dl.room : Int), .slice A7 n7 c7, .slice B7 m7 k7] := Blk.new _ _ _
  have HT8 := Lib.hid hTwo8
  have HZZ : Hid (w5.heap.size ≤ w7.heap.size) := Lib.hid hz7
  obtain ⟨e0, e1, e2⟩ := hv8.three
  obtain ⟨l0, l1, l2⟩ := hl8.three
  clear hrd7 hTwo7 hTwo8 hb6 hb7 hv6 hx6 hb6' hz7 f0 f1
  go_wp2_with (go_at_call 17; refine (num_any _ _).mono ?_; rintro e w' ⟨rfl, rfl⟩)
  generalize w7.alloc (.cells #[.int .i64 (dl.room : Int), .slice A7 n7 c7, .slice B7 m7 k7] 29) = w8 at *
  generalize w7.heap.size = zl at *
  have HFIT : Hid (∀ b, (Sx b ∨ (False ∨ b = zl)) → b < w8.heap.size) := Lib.hid HT8.out.small
  refine (is_any HT8.out.dkx HT8.out.rdx rfl HT8.out.okx HT8.out.small HT8.out.nmx.1 HT8.out.nmx.files (by have := HSZL.out; omega)).mono ?_
  rintro e w9 ⟨rfl, hb9⟩
  have HT9 := Lib.hid (HT8.out.grown hb9)
  have hv9 := hv8.below hb9 hv8.lt
  have hl9 := hl8.below hb9 hl8.lt
  clear e0 e1 e2 l0 l1 l2 hv8 hl8 hb9
  obtain ⟨e0, e1, e2⟩ := hv9.three
  obtain ⟨l0, l1, l2⟩ := hl9.three
  go_wp2_with fail
  refine (is_any HT9.out.dkd HT9.out.rdd rfl HOK.out HT9.out.small HND.out.1 HND.out.files (by omega)).mono ?_
  rintro e wa ⟨rfl, hba⟩
  have HTA := Lib.hid (HT9.out.grown hba)
  have HVA := Lib.hid (hv9.below hba hv9.lt)
  have HLA := Lib.hid (hl9.below hba hl9.lt)
  have HZA : Hid (w5.heap.size ≤ wa.heap.size) := Lib.hid (by have h1 := HZZ.out; have h2 := (hl9.below hba hl9.lt).lt; omega)
  clear e0 e1 e2 l0 l1 l2 hv9 hl9 hba
  go_wp2_with fail
  generalize w5.heap.size = z5 at *
  go_loopw [13] (fun i wr => ∃ (k : Nat) (E Sx : Nat → Prop) (dl : RDk) (csl : Array Value), k ≤ len2 ∧ i = .int .i64 k ∧ Two w z5 g x S Sx E d dl #[.int .i64 (d.room : Int), .slice A n c, .slice B m k0] csl wr ∧ E zl ∧ ¬ E zv ∧ Blk wr zl 29 csl ∧ Blk wr zv 29 #[.int .i64 (d.room : Int), .slice A n c, .slice B m k0] ∧ dl.st.size < 100000 + k ∧ z5 ≤ wr.heap.size) (fun i _ => len2 - (intOf i).toNat)
  case atStart => exact ⟨0, _, _, _, _, by omega, rfl, HTA.out, .inr rfl, fun e => e.elim id (fun e => by have h1 := HZ5.out; have h2 := HZZ.out; omega), HLA.out, HVA.out, by have := HSZL.out; omega, HZA.out⟩
  case round =>
    clear HTA HLA HVA HZA HT8 HT9 HFIT HSZL HDX HSX HDD HRD6
    obtain ⟨k, E, Sx, dl, csl, hk, rfl, hTw, hEl, hEv, hl, hv, hsl, hzr⟩ := hrel
    have HTw := Lib.hid hTw
    have HEl := Lib.hid hEl
    have HEv := Lib.hid hEv
    have HLb := Lib.hid hl
    have HVb := Lib.hid hv
    have hrdl := hTw.rdx
    obtain ⟨A7, n7, c7, B7, m7, k7, rfl, -, -, -, -, -, -⟩ := hrdl
    clear hTw hEl hEv hl hv
    by_cases hlt : k < len2
    case neg =>
      have hd1 : decide (k < len2) = false := by simpa using hlt
      obtain ⟨e0, e1, e2⟩ := HVb.out.three
      obtain ⟨l0, l1, l2⟩ := HLb.out.three
      have hl2 := HL2.out
      go_wp2_with fail
      refine (is_any HTw.out.dkx HTw.out.rdx rfl HTw.out.okx HTw.out.small HTw.out.nmx.1 HTw.out.nmx.files (by omega)).mono ?_
      rintro e w9 ⟨rfl, hb9⟩
      have HT9 := Lib.hid (HTw.out.grown hb9)
      have hv9 := HVb.out.below hb9 HVb.out.lt
      clear e0 e1 e2 l0 l1 l2 hb9
      obtain ⟨e0, e1, e2⟩ := hv9.three
      go_wp2_with fail
      refine (is_any HT9.out.dkd HT9.out.rdd rfl HOK.out HT9.out.small HND.out.1 HND.out.files (by omega)).mono ?_
      rintro e wa ⟨rfl, hba⟩
      have hbb := HT9.out.below.trans (hba.mono HT9.out.below.size)
      go_wp2_with fail
      refine (works_any _).mono ?_
      rintro e w' ⟨rfl, hb⟩
      go_wp2_with fail
      go_ret
      exact ⟨rfl, hbb.trans (hb.mono hbb.size)⟩
    case pos =>
      have hkl : k < ts2.length := by have := HB2.out.len; omega
      obtain ⟨ad, B1, q1, c1, rfl, ha1, x0, x1, x2, x3, hy1, hq1, hc1⟩ := HB2.out.at_ hkl
      have HCELL : Hid (∀ W, Below w.heap.size w W → W.cell? (ad.add (k * 4)) = some (.int .i64 ts2[k].what) ∧ W.cell? ⟨(ad.add (k * 4)).block, (ad.add (k * 4)).off + 1, none⟩ = some (.string (str ts2[k].name)) ∧ W.cell? ⟨(ad.add (k * 4)).block, (ad.add (k * 4)).off + 2, none⟩ = some (.slice B1 q1 c1) ∧ W.cell? ⟨(ad.add (k * 4)).block, (ad.add (k * 4)).off + 3, none⟩ = some (.int .i64 ts2[k].n)) := Lib.hid (fun W hW =>
        ⟨(hW.cell (p := ad.add (k * 4)) (by rw [block_of_add]; exact ha1)).trans x0,
         (hW.cell (p := ⟨(ad.add (k * 4)).block, (ad.add (k * 4)).off + 1, none⟩) (by show (ad.add (k * 4)).block < _; rw [block_of_add]; exact ha1)).trans x1,
         (hW.cell (p := ⟨(ad.add (k * 4)).block, (ad.add (k * 4)).off + 2, none⟩) (by show (ad.add (k * 4)).block < _; rw [block_of_add]; exact ha1)).trans x2,
         (hW.cell (p := ⟨(ad.add (k * 4)).block, (ad.add (k * 4)).off + 3, none⟩) (by show (ad.add (k * 4)).block < _; rw [block_of_add]; exact ha1)).trans x3⟩)
      have HY1 := Lib.hid hy1
      have HBT := Lib.hid (HBD2.out ts2[k] (List.getElem_mem hkl))
      have hl2 := HL2.out
      clear x0 x1 x2 x3 hy1
      go_wp2_with fail
      have HTd := Lib.hid (HTw.out.grown (w' := wr.drew) ((Below.refl _ _).drew))
      have HLd := Lib.hid HLb.out.drew
      have HVd := Lib.hid HVb.out.drew
      have hzd : z5 ≤ wr.drew.heap.size := hzr
      refine wp_region_np ?_
      refine wp_region_held_drew (S := fun W => Below w.heap.size w W ∧ Blk W zl 29 #[.int .i64 (dl.room : Int), .slice A7 n7 c7, .slice B7 m7 k7]) (by kernel_rfl) ⟨HTd.out.below, HLd.out⟩ (fun hHeld => ?_)
      generalize wr.drew = w0 at *
      refine wpAnyH_takeAt (i := 0) (d := 69) (v := ?vq0x) rfl rfl (by kernel_rfl) (by kernel_rfl) (by kernel_rfl) (fun _ _ _ h => h) (Or.inl ⟨by rfl, ?hyq0x⟩) hHeld ?_
      case hyq0x =>
        intro W hSw
        clear hSw
        (go_simp; try with_reducible rfl)
      simp only [List.setIfInBounds_toArray, List.set_cons_zero, List.set_cons_succ]
      refine wpAnyH_takeAt (i := 1) (d := 70) (v := ?vq1x) rfl rfl (by kernel_rfl) (by kernel_rfl) (by kernel_rfl) (fun _ _ _ h => h) (Or.inl ⟨by rfl, ?hyq1x⟩) hHeld ?_
      case hyq1x =>
        intro W hSw
        obtain ⟨e0, e1, e2⟩ := Blk.three (show Blk W zl 29 #[.int .i64 (dl.room : Int), .slice A7 n7 c7, .slice B7 m7 k7] from hSw.2)
        (go_simp; try with_reducible rfl)
      simp only [List.setIfInBounds_toArray, List.set_cons_zero, List.set_cons_succ]
      refine wpAnyH_takeAt (i := 2) (d := 71) (v := ?vq2x) rfl rfl (by kernel_rfl) (by kernel_rfl) (by kernel_rfl) (fun _ _ _ h => h) (Or.inl ⟨by rfl, ?hyq2x⟩) hHeld ?_
      case hyq2x =>
        intro W hSw
        clear hSw
        (go_simp; try with_reducible rfl)
      simp only [List.setIfInBounds_toArray, List.set_cons_zero, List.set_cons_succ]
      refine wpAnyH_takeAt (i := 3) (d := 72) (v := ?vq3x) rfl rfl (by kernel_rfl) (by kernel_rfl) (by kernel_rfl) (fun _ _ _ h => h) (Or.inl ⟨by rfl, ?hyq3x⟩) hHeld ?_
      case hyq3x =>
        intro W hSw
        clear hSw
        (go_simp; try with_reducible rfl)
      simp only [List.setIfInBounds_toArray, List.set_cons_zero, List.set_cons_succ]
      refine wpAnyH_takeAt (i := 4) (d := 73) (v := ?vq4x) rfl rfl (by kernel_rfl) (by kernel_rfl) (by kernel_rfl) (fun _ _ _ h => h) (Or.inl ⟨by rfl, ?hyq4x⟩) hHeld ?_
      case hyq4x =>
        intro W hSw
        clear hSw
        (go_simp; try with_reducible rfl)
      simp only [List.setIfInBounds_toArray, List.set_cons_zero, List.set_cons_succ]
      refine wpAnyH_takeAt (i := 5) (d := 74) (v := ?vq5x) rfl rfl (by kernel_rfl) (by kernel_rfl) (by kernel_rfl) (fun _ _ _ h => h) (Or.inl ⟨by rfl, ?hyq5x⟩) hHeld ?_
      case hyq5x =>
        intro W hSw
        obtain ⟨e0, e1, e2, e3⟩ := HCELL.out W hSw.1
        (go_simp; try with_reducible rfl)
      simp only [List.setIfInBounds_toArray, List.set_cons_zero, List.set_cons_succ]
      refine wpAnyH_ready (rs := [6, 10]) (by kernel_rfl) (by simp) (AllReadyH.cons rfl (fun K hK => ?_) (AllReadyH.cons rfl (fun K hK => ?_) AllReadyH.nil))
      · go_simp
        have hta : RTAt w0 (fun b => Sx b ∨ (E b)) ts2[k] #[.int .i64 ts2[k].what, .string (str ts2[k].name), .slice B1 q1 c1, .int .i64 ts2[k].n] := RTAt.below (w := w) ⟨B1, q1, c1, rfl, HY1.out.wide (fun b hb e => by have h1 := HTd.out.low b e; have h2 := HTd.out.zlow; omega), hq1, hc1⟩ hHeld.1
        refine (act_any HTd.out.dkx HTd.out.small HTd.out.rdx HTd.out.okx hta HBT.out.2 HBT.out.1 (by omega)).mono ?_
        rintro e w5 ⟨cs5, rfl, hac⟩
        obtain ⟨hsn, hTu, Sx', hTw5⟩ := HTd.out.acted hac HBT.out.1 (by omega) hzd
        have hrd5 := hTw5.rdx
        obtain ⟨A5, n5, c5, B5, m5, k5, rfl, -, -, -, -, -, -⟩ := hrd5
        have HLd := Lib.hid (HLd.out.keep hTu (fun e => HTd.out.sep _ e HEl.out))
        have HVd := Lib.hid (HVd.out.keep hTu (fun e => by have h1 := HTd.out.low _ (.inl e); have h2 := HZ5.out; omega))
        replace hzd : z5 ≤ w5.heap.size := Nat.le_trans hzd hTu.size
        have HTd := Lib.hid hTw5
        refine hK.out _ _ ⟨hTw5.below, HLd.out⟩ (fun hHeld => ?_)
        clear hK K hac hta hTu hTw5
        try simp only [List.setIfInBounds_toArray, List.set_cons_zero, List.set_cons_succ]
        refine wpAnyH_takeAt (i := 7) (d := 68) (v := ?vq6x) rfl rfl (by kernel_rfl) (by kernel_rfl) (by kernel_rfl) (fun _ _ _ h => h) (Or.inl ⟨by rfl, ?hyq6x⟩) hHeld ?_
        case hyq6x =>
          intro W hSw
          clear hSw
          (go_simp; try with_reducible rfl)
        simp only [List.setIfInBounds_toArray, List.set_cons_zero, List.set_cons_succ]
        refine wpAnyH_takeAt (i := 8) (d := 76) (v := ?vq7x) rfl rfl (by kernel_rfl) (by kernel_rfl) (by kernel_rfl) (fun _ _ _ h => h) (Or.inl ⟨by rfl, ?hyq7x⟩) hHeld ?_
        case hyq7x =>
          intro W hSw
          clear hSw
          (go_simp; try with_reducible rfl)
        simp only [List.setIfInBounds_toArray, List.set_cons_zero, List.set_cons_succ]
        refine wpAnyH_takeAt (i := 9) (d := 77) (v := ?vq8x) rfl rfl (by kernel_rfl) (by kernel_rfl) (by kernel_rfl) (fun _ _ _ h => h) (Or.inl ⟨by rfl, ?hyq8x⟩) hHeld ?_
        case hyq8x =>
          intro W hSw
          clear hSw
          (go_simp; try with_reducible rfl)
        simp only [List.setIfInBounds_toArray, List.set_cons_zero, List.set_cons_succ]
        refine wpAnyH_ready (rs := [10]) (by kernel_rfl) (by simp) (AllReadyH.cons rfl (fun K hK => ?_) AllReadyH.nil)
        go_simp
        have HTd := Lib.hid (HTd.out.var (.cells #[.int .i64 0, .slice none 0 0, .slice none 0 0] 29) hzd)
        have H14 : Hid (Blk (w5.alloc (.cells #[.int .i64 0, .slice none 0 0, .slice none 0 0] 29)) w5.heap.size 29 #[.int .i64 0, .slice none 0 0, .slice none 0 0]) := Lib.hid (Blk.new _ _ _)
        have HN14 : Hid (w5.heap.size ≠ zl ∧ w5.heap.size ≠ zv) := Lib.hid ⟨fun e => by have := HLd.out.lt; omega, fun e => by have := HVd.out.lt; omega⟩
        have HLd := Lib.hid (HLd.out.alloc (.cells #[.int .i64 0, .slice none 0 0, .slice none 0 0] 29))
        have HVd := Lib.hid (HVd.out.alloc (.cells #[.int .i64 0, .slice none 0 0, .slice none 0 0] 29))
        replace hzd : z5 ≤ (w5.alloc (.cells #[.int .i64 0, .slice none 0 0, .slice none 0 0] 29)).heap.size := by rw [World.size_alloc]; omega
        refine hK.out _ _ ⟨HTd.out.below, HLd.out⟩ (fun hHeld => ?_)
        clear hK K
        try simp only [List.setIfInBounds_toArray, List.set_cons_zero, List.set_cons_succ]
        generalize w5.alloc (.cells #[.int .i64 0, .slice none 0 0, .slice none 0 0] 29) = w5v at *
        generalize w5.heap.size = z14 at *
        refine wpAnyH_ready (rs := [11]) (by kernel_rfl) (by simp) (AllReadyH.cons rfl (fun K hK => ?_) AllReadyH.nil)
        refine step_store_blk (by rfl) (by rfl) 29 _ _ (by rfl) z14 _ #[.int .i64 ((dl.next ts2[k]).room : Int), .slice A5 n5 c5, .slice B5 m5 k5] (by rfl) (by rfl) 29 H14.out (by rfl) (info29 _ rfl) (by simp [Value.oneCell']) ?_
        intro w6 f6 g6 s6
        have hT6 : Turn (fun b => b = z14) w5v w6 := Turn.of_grown g6 (fun r e => by cases e; rfl)
        have HT6 := Lib.hid (HTd.out.wrote hT6 (fun b e => .inr e))
        have HL6 := Lib.hid (HLd.out.keep hT6 (fun e => HN14.out.1 e.symm))
        have HV6 := Lib.hid (HVd.out.keep hT6 (fun e => HN14.out.2 e.symm))
        have hz6 : z5 ≤ w6.heap.size := Nat.le_trans hzd hT6.size
        refine hK.out _ _ ⟨HT6.out.below, HL6.out⟩ (fun hHeld => ?_)
        clear hK K
        refine wpAnyH_takeAt (i := 12) (d := 15) (v := ?vq9x) rfl rfl (by kernel_rfl) (by kernel_rfl) (by kernel_rfl) (fun _ _ _ h => h) (Or.inl ⟨by rfl, ?hyq9x⟩) hHeld ?_
        case hyq9x =>
          intro W hSw
          clear hSw
          (go_simp; try with_reducible rfl)
        simp only [List.setIfInBounds_toArray, List.set_cons_zero, List.set_cons_succ]
        refine wpAnyH_done (by kernel_rfl) ?_ _
        obtain ⟨u0, u1, u2⟩ := Blk.three f6
        clear hHeld f6 g6 hT6
        go_wp2_with (with_reducible refine at_store 29 rfl ?_)
        refine Stop.go (wpList_store_blk (by rfl) (by rfl) 29 _ _ (by rfl) zl _ #[.int .i64 ((dl.next ts2[k]).room : Int), .slice A5 n5 c5, .slice B5 m5 k5] (by rfl) (by rfl) 29 HL6.out (by rfl) (info29 _ rfl) (by simp [Value.oneCell']) ?_)
        intro w9 f9 g9 s9
        have hT9 : Turn (fun b => b = zl) w6 w9 := Turn.of_grown g9 (fun r e => by cases e; rfl)
        have HT9 := Lib.hid (HT6.out.wrote hT9 (fun b e => .inl (e ▸ HEl.out)))
        have HV9 := Lib.hid (HV6.out.keep hT9 (fun e => HEv.out (e ▸ HEl.out)))
        have HF9 := Lib.hid f9
        have HZ9 : Hid (z5 ≤ w9.heap.size) := Lib.hid (Nat.le_trans hz6 hT9.size)
        clear u0 u1 u2 f9 g9 hT9
        go_wp2_with fail
        go_roundw
        case rel => exact ⟨k + 1, _, _, _, _, by omega, by go_num, HT9.out, .inl HEl.out, fun e => e.elim HEv.out (fun e => HN14.out.2 e.symm), HF9.out, HV9.out, by omega, HZ9.out⟩
        case measure => simp [intOf]; omega
      · go_simp
        have HTd := Lib.hid (HTd.out.var (.cells #[.int .i64 0, .slice none 0 0, .slice none 0 0] 29) hzd)
        have H14 : Hid (Blk (w0.alloc (.cells #[.int .i64 0, .slice none 0 0, .slice none 0 0] 29)) w0.heap.size 29 #[.int .i64 0, .slice none 0 0, .slice none 0 0]) := Lib.hid (Blk.new _ _ _)
        have HN14 : Hid (w0.heap.size ≠ zl ∧ w0.heap.size ≠ zv) := Lib.hid ⟨fun e => by have := HLd.out.lt; omega, fun e => by have := HVd.out.lt; omega⟩
        have HLd := Lib.hid (HLd.out.alloc (.cells #[.int .i64 0, .slice none 0 0, .slice none 0 0] 29))
        have HVd := Lib.hid (HVd.out.alloc (.cells #[.int .i64 0, .slice none 0 0, .slice none 0 0] 29))
        replace hzd : z5 ≤ (w0.alloc (.cells #[.int .i64 0, .slice none 0 0, .slice none 0 0] 29)).heap.size := by rw [World.size_alloc]; omega
        refine hK.out _ _ ⟨HTd.out.below, HLd.out⟩ (fun hHeld => ?_)
        clear hK K
        try simp only [List.setIfInBounds_toArray, List.set_cons_zero, List.set_cons_succ]
        generalize w0.alloc (.cells #[.int .i64 0, .slice none 0 0, .slice none 0 0] 29) = w0v at *
        generalize w0.heap.size = z14 at *
        refine wpAnyH_ready (rs := [6]) (by kernel_rfl) (by simp) (AllReadyH.cons rfl (fun K hK => ?_) AllReadyH.nil)
        go_simp
        have hta : RTAt w0v (fun b => Sx b ∨ (E b ∨ b = z14)) ts2[k] #[.int .i64 ts2[k].what, .string (str ts2[k].name), .slice B1 q1 c1, .int .i64 ts2[k].n] := RTAt.below (w := w) ⟨B1, q1, c1, rfl, HY1.out.wide (fun b hb e => by have h1 := HTd.out.low b e; have h2 := HTd.out.zlow; omega), hq1, hc1⟩ hHeld.1
        refine (act_any HTd.out.dkx HTd.out.small HTd.out.rdx HTd.out.okx hta HBT.out.2 HBT.out.1 (by omega)).mono ?_
        rintro e w5 ⟨cs5, rfl, hac⟩
        obtain ⟨hsn, hTu, Sx', hTw5⟩ := HTd.out.acted hac HBT.out.1 (by omega) hzd
        have hrd5 := hTw5.rdx
        obtain ⟨A5, n5, c5, B5, m5, k5, rfl, -, -, -, -, -, -⟩ := hrd5
        have HLd := Lib.hid (HLd.out.keep hTu (fun e => HTd.out.sep _ e (.inl HEl.out)))
        have HVd := Lib.hid (HVd.out.keep hTu (fun e => by have h1 := HTd.out.low _ (.inl e); have h2 := HZ5.out; omega))
        replace hzd : z5 ≤ w5.heap.size := Nat.le_trans hzd hTu.size
        have H14 := Lib.hid (H14.out.keep hTu (fun e => HTd.out.sep _ e (.inr rfl)))
        have HTd := Lib.hid hTw5
        refine hK.out _ _ ⟨hTw5.below, HLd.out⟩ (fun hHeld => ?_)
        clear hK K hac hta hTu hTw5
        try simp only [List.setIfInBounds_toArray, List.set_cons_zero, List.set_cons_succ]
        refine wpAnyH_takeAt (i := 7) (d := 68) (v := ?vq10x) rfl rfl (by kernel_rfl) (by kernel_rfl) (by kernel_rfl) (fun _ _ _ h => h) (Or.inl ⟨by rfl, ?hyq10x⟩) hHeld ?_
        case hyq10x =>
          intro W hSw
          clear hSw
          (go_simp; try with_reducible rfl)
        simp only [List.setIfInBounds_toArray, List.set_cons_zero, List.set_cons_succ]
        refine wpAnyH_takeAt (i := 8) (d := 76) (v := ?vq11x) rfl rfl (by kernel_rfl) (by kernel_rfl) (by kernel_rfl) (fun _ _ _ h => h) (Or.inl ⟨by rfl, ?hyq11x⟩) hHeld ?_
        case hyq11x =>
          intro W hSw
          clear hSw
          (go_simp; try with_reducible rfl)
        simp only [List.setIfInBounds_toArray, List.set_cons_zero, List.set_cons_succ]
        refine wpAnyH_takeAt (i := 9) (d := 77) (v := ?vq12x) rfl rfl (by kernel_rfl) (by kernel_rfl) (by kernel_rfl) (fun _ _ _ h => h) (Or.inl ⟨by rfl, ?hyq12x⟩) hHeld ?_
        case hyq12x =>
          intro W hSw
          clear hSw
          (go_simp; try with_reducible rfl)
        simp only [List.setIfInBounds_toArray, List.set_cons_zero, List.set_cons_succ]
        refine wpAnyH_ready (rs := [11]) (by kernel_rfl) (by simp) (AllReadyH.cons rfl (fun K hK => ?_) AllReadyH.nil)
        refine step_store_blk (by rfl) (by rfl) 29 _ _ (by rfl) z14 _ #[.int .i64 ((dl.next ts2[k]).room : Int), .slice A5 n5 c5, .slice B5 m5 k5] (by rfl) (by rfl) 29 H14.out (by rfl) (info29 _ rfl) (by simp [Value.oneCell']) ?_
        intro w6 f6 g6 s6
        have hT6 : Turn (fun b => b = z14) w5 w6 := Turn.of_grown g6 (fun r e => by cases e; rfl)
        have HT6 := Lib.hid (HTd.out.wrote hT6 (fun b e => .inr e))
        have HL6 := Lib.hid (HLd.out.keep hT6 (fun e => HN14.out.1 e.symm))
        have HV6 := Lib.hid (HVd.out.keep hT6 (fun e => HN14.out.2 e.symm))
        have hz6 : z5 ≤ w6.heap.size := Nat.le_trans hzd hT6.size
        refine hK.out _ _ ⟨HT6.out.below, HL6.out⟩ (fun hHeld => ?_)
        clear hK K
        refine wpAnyH_takeAt (i := 12) (d := 15) (v := ?vq13x) rfl rfl (by kernel_rfl) (by kernel_rfl) (by kernel_rfl) (fun _ _ _ h => h) (Or.inl ⟨by rfl, ?hyq13x⟩) hHeld ?_
        case hyq13x =>
          intro W hSw
          clear hSw
          (go_simp; try with_reducible rfl)
        simp only [List.setIfInBounds_toArray, List.set_cons_zero, List.set_cons_succ]
        refine wpAnyH_done (by kernel_rfl) ?_ _
        obtain ⟨u0, u1, u2⟩ := Blk.three f6
        clear hHeld f6 g6 hT6
        go_wp2_with (with_reducible refine at_store 29 rfl ?_)
        refine Stop.go (wpList_store_blk (by rfl) (by rfl) 29 _ _ (by rfl) zl _ #[.int .i64 ((dl.next ts2[k]).room : Int), .slice A5 n5 c5, .slice B5 m5 k5] (by rfl) (by rfl) 29 HL6.out (by rfl) (info29 _ rfl) (by simp [Value.oneCell']) ?_)
        intro w9 f9 g9 s9
        have hT9 : Turn (fun b => b = zl) w6 w9 := Turn.of_grown g9 (fun r e => by cases e; rfl)
        have HT9 := Lib.hid (HT6.out.wrote hT9 (fun b e => .inl (e ▸ HEl.out)))
        have HV9 := Lib.hid (HV6.out.keep hT9 (fun e => HEv.out (e ▸ HEl.out)))
        have HF9 := Lib.hid f9
        have HZ9 : Hid (z5 ≤ w9.heap.size) := Lib.hid (Nat.le_trans hz6 hT9.size)
        clear u0 u1 u2 f9 g9 hT9
        go_wp2_with fail
        go_roundw
        case rel => exact ⟨k + 1, _, _, _, _, by omega, by go_num, HT9.out, .inl HEl.out, fun e => e.elim HEv.out (fun e => HN14.out.2 e.symm), HF9.out, HV9.out, by omega, HZ9.out⟩
        case measure => simp [intOf]; omega

set_option maxRecDepth 100000 in
theorem lifted (os : Os) (started : os.Started) (H : Type) (enc : TypeId × Value → H) :
    ReturnsInHanded {} Try.checked os 6 .any (Rows.diskCrashesSpec.pre6 enc Try.prog Try.f6 Rows.diskCrashesRow.domain false) (Rows.diskCrashesSpec.post enc Try.prog Try.f6 false true false false) := by
  refine returnsInHanded_of_change (C := Try.checked) own started (by kernel_rfl) Try.func6
    (ChangeSpec.witness6 (enc := enc) (C := Try.checked) false ⟨#[], #[.slice none 0 0, .agg #[.int .i64 0, .int .i64 0], .slice none 0 0], []⟩ 8 (by kernel_rfl) (by kernel_rfl) (by kernel_rfl) (by kernel_rfl)) ?_
  intro W base args ds gs before hval0 hW hcnd _
  have hval : ∀ (j : Nat) t v, Try.f6.params[j]? = some t → args[j]? = some v → Value.okWide Try.prog W .any base t v := hval0
  have hW' := hW
  obtain ⟨p, q, hA0, hV, rfl, hfz, hnd⟩ := hW
  have hA : DataW.TrodAll enc Try.prog W 0 (fun _ => true) true Try.f6.params.toList args.toList ds p := hA0
  rw [Try.params6] at hA hval
  obtain ⟨v0, vs0, d0, ds0, p0, q0, hargs, rfl, rfl, h0, r0⟩ := trodAll_cons hA
  obtain ⟨v1, vs1, d1, ds1, p1, q1, rfl, rfl, rfl, h1, r1⟩ := trodAll_cons r0
  obtain ⟨v2, vs2, d2, ds2, p2, q2, rfl, rfl, rfl, h2, r2⟩ := trodAll_cons r1
  obtain ⟨rfl, rfl, rfl⟩ := trodAll_nil r2
  obtain rfl : args = #[v0, v1, v2] := by cases args; simp_all
  obtain ⟨rfl, rfl⟩ := trodVars_none hV
  have k0 := h0
  have lt0 : ∀ x ∈ p0, x.block < W.heap.size := by obtain ⟨m, hm⟩ := k0; exact DataW.trod_lt m _ _ _ hm
  obtain ⟨a0, len0, cap0, rfl⟩ := okWide_slice Try.underlying27 (hval 0 27 v0 rfl rfl)
  obtain ⟨ts0, b0, ok0, hc0, hm0⟩ := open_things h0
  have k1 := h1
  have lt1 : ∀ x ∈ p1, x.block < W.heap.size := by obtain ⟨m, hm⟩ := k1; exact DataW.trod_lt m _ _ _ hm
  obtain ⟨kp1, tn1, rfl, hk1, ht1⟩ := open_crash (hval 1 37 v1 rfl rfl) h1
  have k2 := h2
  have lt2 : ∀ x ∈ p2, x.block < W.heap.size := by obtain ⟨m, hm⟩ := k2; exact DataW.trod_lt m _ _ _ hm
  obtain ⟨a2, len2, cap2, rfl⟩ := okWide_slice Try.underlying27 (hval 2 27 v2 rfl rfl)
  obtain ⟨ts2, b2, ok2, hc2, hm2⟩ := open_things h2
  clear hA0 hval0
  refine (walk a0 len0 cap0 ts0 kp1 tn1 a2 len2 cap2 ts2 W b0 ok0 hc0 hm0 hk1 ht1 b2 ok2 hc2 hm2).mono fun e W' ⟨he, bel⟩ => ?_
  subst he
  exact ⟨_, rfl, _, _, _, [], _, [], hW', trodAll_mk1 (shut_bool Try.underlying4 _), (trodAll_cons_mk (Below.trod laidOut (by kernel_rfl) (of_decide_eq_true (by kernel_rfl)) k0 bel lt0) (trodAll_cons_mk (Below.trod laidOut (by kernel_rfl) (of_decide_eq_true (by kernel_rfl)) k1 bel lt1) (trodAll_cons_mk (Below.trod laidOut (by kernel_rfl) (of_decide_eq_true (by kernel_rfl)) k2 bel lt2) trodAll_mk0))), rfl, bel.frame _, fun h => by cases h⟩

theorem over : Rows.diskCrashesRow.holds Try.pinned (OpenSpec.ofChange Rows.diskCrashesSpec) :=
  OpenClaim.holds_of_wide 6 Try.f6 rfl rfl rfl rfl rfl rfl rfl ⟨rfl, rfl, rfl, rfl, rfl⟩ rfl rfl rfl rfl rfl (by kernel_rfl) Try.func6 (by kernel_rfl)
    (of_decide_eq_true (by kernel_rfl)) (by unfold Func.isWrapper; first | (rw [if_pos (by decide +kernel)]; kernel_rfl) | (rw [if_neg (by decide +kernel)]; exact ⟨rfl, rfl⟩))
    (fun os started H enc _ => lifted os started H enc)

theorem proved : Rows.DiskCrashesSaid := over
end Go.Proofs.Ythhiiimmgghhaaa.diskCrashes
namespace Go.Proofs.Ythhiiimmgghhaaa
theorem diskCrashes_holds : Rows.DiskCrashesSaid := diskCrashes.proved
#print axioms diskCrashes_holds
end Go.Proofs.Ythhiiimmgghhaaa
