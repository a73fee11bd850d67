/-
  waystationlaw03.DiskCopies is true for every script of things and every thing. Nothing is assumed.
-/
import Derived.Test.YthhiiimmgghhaaaRefS
import Derived.Test.YthhiiimmgghhaaaBehind
import Derived.Test.YthhiiimmgghhaaaFew
import Derived.Test.YthhiiimmgghhaaaWorks
import Derived.WalkKit
import Derived.ProofKit
import Derived.OpenShut
import Derived.ShutString
import Derived.ChangeOld
import Derived.Below
namespace Go.Proofs.Ythhiiimmgghhaaa.diskCopies
open Go.ChangeShapes Go.WideShapes Go.ChangeAt Go.RowKit
set_option linter.unusedVariables false
theorem own : ownKnob Try.prog.godebug = none := by kernel_rfl
theorem laidOut : laidOutB Try.prog = true := by kernel_rfl
theorem next_room (d : RDk) (t : RT) : (d.next t).room = d.room := by
  unfold RDk.next RDk.then
  split
  · split <;> rfl
  · rfl
theorem next_len (d : RDk) (t : RT) : d.next t = d ∨ (d.next t).waits.length ≠ d.waits.length := by
  unfold RDk.next RDk.then
  split
  · split
    · exact .inr (by unfold RDk.did; simp)
    · exact .inl rfl
  · cases hw : d.waits with
    | nil =>
      refine .inl ?_
      obtain ⟨r, l, ws⟩ := d
      simp only at hw
      subst hw
      rfl
    | cons x r => exact .inr (by unfold RDk.flush; simp)
theorem rts_one {w : World} {t : RT} {ct : Array Value} (h : RTAt w No t ct) (hs : ct.size = 4) (h1 : ∀ u ∈ ct.toList, u.oneCell' = true) : RTs (w.alloc (.cells ct 65)) No (some ⟨w.heap.size, 0, none⟩) 1 [t] := by
  refine ⟨[ct], rd_one w 65 ct hs h1 (fun h => h), rfl, fun i u cs e1 e2 => ?_⟩
  match i, e1, e2 with
  | 0, e1, e2 => simp at e1 e2; subst e1 e2; exact h.below ((Below.refl _ _).alloc (Nat.le_refl _) _)
theorem crash_all (d : RDk) : d.st.crash (d.waits.length : Int) 0 = d.flush.st := by
  have e : (d.waits.length : Int) = (d.st.waits.length : Int) := by unfold RDk.st; simp
  rw [e]
  show St.mk d.st.room (left d.st (d.st.waits.length : Int) 0) [] = _
  rw [left_all]
  rfl
set_option maxHeartbeats 4000000 in
set_option maxRecDepth 100000 in
theorem walk (a0 : Option Addr) (len0 cap0 : Nat) (ts0 : List RT) (t1 : RT) (cs1 : Array Value) (w : World) (b0 : RTs w No a0 len0 ts0) (ok0 : ∀ t ∈ ts0, RTok t) (hc0 : len0 ≤ cap0) (hm0 : cap0 ≤ maxLen) (b1 : RTAt w No t1 cs1) (ok1 : RTok t1) :
    Calls Try.prog 7 #[.slice a0 len0 cap0, .agg cs1] w fun e w' => e = .returned (.bool true) ∧ Below w.heap.size w w' := by
  have HB0 := Lib.hid b0
  have HOK0 := Lib.hid ok0
  have HB1 := Lib.hid b1
  have HOK1 := Lib.hid ok1
  obtain ⟨Ab, qb, cb, rfl, -, -, -⟩ := b1
  clear b0 ok0 ok1
  go_enter Try.func7, Try.ntmps7
  have hb1 : Below w.heap.size w (w.alloc (.cells #[.int .i64 t1.what, .string (str t1.name), .slice Ab qb cb, .int .i64 t1.n] 65)) := (Below.refl _ _).alloc (Nat.le_refl _) _
  have hx1 : Blk (w.alloc (.cells #[.int .i64 t1.what, .string (str t1.name), .slice Ab qb cb, .int .i64 t1.n] 65)) w.heap.size 65 #[.int .i64 t1.what, .string (str t1.name), .slice Ab qb cb, .int .i64 t1.n] := Blk.new w 65 _
  go_wp2_with fail
  generalize w.alloc (.cells #[.int .i64 t1.what, .string (str t1.name), .slice Ab qb cb, .int .i64 t1.n] 65) = w1 at *
  refine (few_any (HB0.out.below hb1) HOK0.out hm0 hc0).mono ?_
  rintro e w2 ⟨rfl, hb2⟩
  have hbw2 := hb1.trans (hb2.mono hb1.size)
  by_cases hfew : fewN ts0 ≤ 4000
  case neg =>
    have hdf : decide (fewN ts0 ≤ 4000) = false := by simpa using hfew
    rw [hdf]
    go_wp2_with fail
    refine (works_any _).mono ?_
    rintro e w' ⟨rfl, hb⟩
    go_wp2_with fail
    go_ret
    exact ⟨rfl, hbw2.trans (hb.mono hbw2.size)⟩
  case pos =>
  have hdf : decide (fewN ts0 ≤ 4000) = true := by simpa using hfew
  rw [hdf]
  have hx2 := hx1.below hb2 hx1.lt
  obtain ⟨x0, x1, x2, x3⟩ := hx2.four
  go_wp2_with fail
  have hr1 := rts_one (HB1.out.below hbw2) rfl (fun u hu => by simp at hu; rcases hu with rfl | rfl | rfl | rfl <;> rfl)
  have hb23 : Below w2.heap.size w2 (w2.alloc (.cells #[.int .i64 t1.what, .string (str t1.name), .slice Ab qb cb, .int .i64 t1.n] 65)) := (Below.refl _ _).alloc (Nat.le_refl _) _
  have hbw3 := hbw2.trans (hb23.mono hbw2.size)
  have hx3 := hx2.below hb23 hx2.lt
  clear x0 x1 x2 x3 hb23
  generalize w2.alloc (.cells #[.int .i64 t1.what, .string (str t1.name), .slice Ab qb cb, .int .i64 t1.n] 65) = w3 at *
  generalize w2.heap.size = z2 at *
  refine (few_any hr1 (fun t ht => by simp at ht; subst ht; exact HOK1.out) (by unfold maxLen; omega) (Nat.le_refl _)).mono ?_
  rintro e w4 ⟨rfl, hb4⟩
  have hbw4 := hbw3.trans (hb4.mono hbw3.size)
  by_cases hfew2 : fewN [t1] ≤ 4000
  case neg =>
    have hdf2 : decide (fewN [t1] ≤ 4000) = false := by simpa using hfew2
    rw [hdf2]
    go_wp2_with fail
    refine (works_any _).mono ?_
    rintro e w' ⟨rfl, hb⟩
    go_wp2_with fail
    go_ret
    exact ⟨rfl, hbw4.trans (hb.mono hbw4.size)⟩
  case pos =>
  have hdf2 : decide (fewN [t1] ≤ 4000) = true := by simpa using hfew2
  rw [hdf2]
  obtain ⟨hl66, hbd⟩ := few_ok hfew
  obtain ⟨-, hbd2⟩ := few_ok hfew2
  have HL : Hid (len0 ≤ 1000) := Lib.hid (by have := HB0.out.len; omega)
  have HBD : Hid (∀ t ∈ ts0, t.bytes.length ≤ 100000000 ∧ t.name.length ≤ 1000000000) := Lib.hid (fun t ht => by have := hbd t ht; omega)
  have HBT : Hid (t1.bytes.length ≤ 100000000 ∧ t1.name.length ≤ 1000000000) := Lib.hid (by have := hbd2 t1 (by simp); omega)
  have hx4 := hx3.below hb4 hx3.lt
  clear hdf hdf2 hfew hfew2 hbd hbd2 hl66 hx1 hx2 hx3 hb1 hb2 hb4 hbw2 hbw3 hr1
  go_wp2_with fail
  refine (played_any (room := 1000) (by omega) (by omega) (HB0.out.below hbw4) HL.out HBD.out).mono ?_
  rintro e w5 ⟨g, cs, S, rfl, hdk5, hrd5, hS5, hb5, hok, hnmd, hsz⟩
  have HRM : Hid (((⟨1000, [], []⟩ : RDk).run ts0).ok) := Lib.hid hok
  generalize (⟨1000, [], []⟩ : RDk).run ts0 = d at *
  have HRD5 := Lib.hid hrd5
  obtain ⟨A, n, c, B, m, k0, rfl, -, -, -, hrt5, -, -⟩ := hrd5
  have HML : Hid ((m : Int) = (d.waits.length : Int)) := Lib.hid (by rw [hrt5.len])
  have hal : Below w5.heap.size w5 (w5.alloc (.cells #[.int .i64 (d.room : Int), .slice A n c, .slice B m k0] 29)) := (Below.refl _ _).alloc (Nat.le_refl _) _
  have hb56 := hb5.trans (hal.mono hb5.size)
  have hb6 := hbw4.trans (hb56.mono hbw4.size)
  have hx6 := hx4.below hb56 hx4.lt
  have HDK6 := Lib.hid (hdk5.below hal)
  have HRD6 := Lib.hid (HRD5.out.below hal)
  have hv6 : Blk (w5.alloc (.cells #[.int .i64 (d.room : Int), .slice A n c, .slice B m k0] 29)) w5.heap.size 29 #[.int .i64 (d.room : Int), .slice A n c, .slice B m k0] := Blk.new _ _ _
  have HSlow : Hid (∀ b, S b → w.heap.size ≤ b) := Lib.hid (fun b e => Nat.le_trans hbw4.size (hS5 b e))
  have HSv : Hid (¬ S w5.heap.size) := Lib.hid (fun e => by have := hdk5.lt e; omega)
  have HSx : Hid (¬ S w.heap.size) := Lib.hid (fun e => by have h1 := hS5 _ e; have h2 := hx4.lt; omega)
  have HOK := Lib.hid hok
  have HND := Lib.hid hnmd
  clear hb5 hb56 hdk5 hal hx4 hbw4 hS5 hok hnmd hrt5
  go_wp2_with fail
  generalize w5.alloc (.cells #[.int .i64 (d.room : Int), .slice A n c, .slice B m k0] 29) = w6 at *
  generalize w5.heap.size = zv at *
  refine (diskCopy_any HDK6.out (fun b e => HDK6.out.lt e) (by omega)).mono ?_
  rintro e w7 ⟨g', S', rfl, hdk7, hS7, hb7⟩
  have hb7' := hb6.trans (hb7.mono hb6.size)
  have HDC := Lib.hid hdk7
  have HDD : Hid (Dk w7 S (fun b => S b ∨ S' b) g d.st) := Lib.hid ((HDK6.out.wide (fun b hlt e => e.elim id (fun e => by have := hS7 b e; omega)) (fun b e => .inl e)).below hb7)
  have HRD7 : Hid (RDAt w7 (fun b => S b ∨ S' b) d #[.int .i64 (d.room : Int), .slice A n c, .slice B m k0]) := Lib.hid ((HRD6.out.wide (fun b hlt e => e.elim id (fun e => by have := hS7 b e; omega))).below hb7)
  have HSS : Hid (∀ b, S b → ¬ S' b) := Lib.hid (fun b e e' => by have h1 := HDK6.out.lt e; have h2 := hS7 b e'; omega)
  have HSlow' : Hid (∀ b, S' b → w.heap.size ≤ b) := Lib.hid (fun b e => Nat.le_trans hb6.size (hS7 b e))
  have hv7 := hv6.below hb7 hv6.lt
  have hx7 := hx6.below hb7 hx6.lt
  clear hdk7 hS7 hb7 hv6 hx6 hb6
  go_wp2_with fail
  refine (diskSame_any HDD.out HDC.out (.inl rfl) (by omega)).mono ?_
  rintro e w8 ⟨rfl, hb8⟩
  rw [show decide (d.st.room = d.st.room ∧ d.st.waits.length = d.st.waits.length) = true from by simp]
  have hb8' := hb7'.trans (hb8.mono hb7'.size)
  have HDC8 := Lib.hid (HDC.out.below hb8)
  have HDD8 := Lib.hid (HDD.out.below hb8)
  have HRD8 := Lib.hid (HRD7.out.below hb8)
  have hv8 := hv7.below hb8 hv7.lt
  have hx8 := hx7.below hb8 hx7.lt
  have HXS : Hid (∀ b, (S b ∨ S' b) → b < w8.heap.size) := Lib.hid (fun b e => e.elim (fun e => HDD8.out.lt e) (fun e => HDC8.out.lt e))
  have HTA : Hid (RTAt w8 (fun b => S b ∨ S' b) t1 #[.int .i64 t1.what, .string (str t1.name), .slice Ab qb cb, .int .i64 t1.n]) := Lib.hid ((HB1.out.wide (fun b hlt e => e.elim (fun e => by have := HSlow.out b e; omega) (fun e => by have := HSlow'.out b e; omega))).below hb8')
  obtain ⟨e0, e1, e2⟩ := hv8.three
  obtain ⟨x0, x1, x2, x3⟩ := hx8.four
  clear hb7' hb8 hv7 hx7
  go_wp2_with fail
  refine (act_any HDD8.out HXS.out HRD8.out HOK.out HTA.out HBT.out.2 HBT.out.1 (by omega)).mono ?_
  rintro e w9 ⟨cs9, rfl, S1, hm9, hdk9, hrd9⟩
  have hT9 := hm9.turn
  have hb9 := hb8'.trans (hT9.below hb8'.size (fun b e => HSlow.out b e))
  have HDC9 : Hid (Dk w9 S' (fun b => S b ∨ S' b) g' d.st) := Lib.hid (HDC8.out.keep hT9 (fun b _ e => ⟨.inl e, HSS.out b e⟩))
  have HRD9 := Lib.hid (HRD8.out.keep hT9 (fun b _ e => .inl e))
  have hv9 := hv8.keep hT9 HSv.out
  have HDN9 := Lib.hid hdk9
  have HRN9 := Lib.hid hrd9
  have HNX := Lib.hid (next_more HOK.out hdk9.ok HND.out HBT.out.1 (by omega))
  obtain ⟨A8, n8, c8, B8, m8, k8, rfl, -, -, -, -, -, -⟩ := hrd9
  have hal : Below w9.heap.size w9 (w9.alloc (.cells #[.int .i64 ((d.next t1).room : Int), .slice A8 n8 c8, .slice B8 m8 k8] 29)) := (Below.refl _ _).alloc (Nat.le_refl _) _
  have HBa := Lib.hid (hb9.trans (hal.mono hb9.size))
  have HDCa := Lib.hid (HDC9.out.below hal)
  have HDNa := Lib.hid (HDN9.out.below hal)
  have HRDa := Lib.hid (HRD9.out.below hal)
  have HRNa := Lib.hid (HRN9.out.below hal)
  have HVa := Lib.hid (hv9.below hal hv9.lt)
  have HWa : Hid (Blk (w9.alloc (.cells #[.int .i64 ((d.next t1).room : Int), .slice A8 n8 c8, .slice B8 m8 k8] 29)) w9.heap.size 29 #[.int .i64 ((d.next t1).room : Int), .slice A8 n8 c8, .slice B8 m8 k8]) := Lib.hid (Blk.new _ _ _)
  clear e0 e1 e2 x0 x1 x2 x3 hv8 hx8 hm9 hdk9 hT9 hv9 hb9 hb8' hal
  obtain ⟨e0, e1, e2⟩ := HVa.out.three
  go_wp2_with fail
  generalize w9.alloc (.cells #[.int .i64 ((d.next t1).room : Int), .slice A8 n8 c8, .slice B8 m8 k8] 29) = wa at *
  generalize w9.heap.size = zn at *
  clear HDD HDD8 HDC HDC8 HDC9 HDK6 HRD5 HRD6 HRD7 HRD8 HRD9 HTA HDN9 HRN9
  refine (refSame_any HRDa.out HRNa.out HOK.out HNX.out.1 (next_room d t1).symm ((next_len d t1).elim (fun e => .inl e.symm) (fun e => .inr e.symm))).mono ?_
  rintro e wb ⟨rfl, hbb⟩
  have HBb := Lib.hid (HBa.out.trans (hbb.mono HBa.out.size))
  have HDCb := Lib.hid (HDCa.out.below hbb)
  have HDNb := Lib.hid (HDNa.out.below hbb)
  have HRDb := Lib.hid (HRDa.out.below hbb)
  have HRNb := Lib.hid (HRNa.out.below hbb)
  have HVb := Lib.hid (HVa.out.below hbb HVa.out.lt)
  have HWb := Lib.hid (HWa.out.below hbb HWa.out.lt)
  generalize hβ : decide (d.waits.length = (d.next t1).waits.length) = β at *
  have HBE := Lib.hid hβ
  have HEQ1 : Hid (decide ((d.next t1).st.room = d.st.room ∧ (d.next t1).st.waits.length = d.st.waits.length) = β) := Lib.hid (by
    rw [← hβ]
    have e := next_room d t1
    unfold RDk.st
    simp [e, eq_comm])
  have HEQ2 : Hid (decide (d.st.room = (d.next t1).st.room ∧ d.st.waits.length = (d.next t1).st.waits.length) = β) := Lib.hid (by
    rw [← hβ]
    have e := next_room d t1
    unfold RDk.st
    simp [e])
  clear hβ e0 e1 e2 hbb HBa HDCa HDNa HRDa HRNa HVa HWa
  obtain ⟨e0, e1, e2⟩ := HVb.out.three
  go_wp2_with fail
  rw [HML.out]
  refine (diskCrash_any HDCb.out (d.waits.length : Int) 0 (by omega)).mono ?_
  rintro e wc ⟨p, rfl, x, Sx, rfl, hdkc, -, hbc⟩
  have HBc := Lib.hid (HBb.out.trans (hbc.mono HBb.out.size))
  have HDCc := Lib.hid (HDCb.out.below hbc)
  have HDNc := Lib.hid (HDNb.out.below hbc)
  have HRDc := Lib.hid (HRDb.out.below hbc)
  have HRNc := Lib.hid (HRNb.out.below hbc)
  have HVc := Lib.hid (HVb.out.below hbc HVb.out.lt)
  have HWc := Lib.hid (HWb.out.below hbc HWb.out.lt)
  have HDX : Hid (Dk wc Sx Sx x d.flush.st) := Lib.hid (by rw [← crash_all]; exact hdkc)
  clear e0 e1 e2 hbc hdkc HBb HDCb HDNb HRDb HRNb HVb HWb
  go_wp2_with fail
  refine (new_yes 1000 wc (by omega) (by omega)).mono ?_
  rintro e wd ⟨ga, Sa, rfl, hdka, -, hbd⟩
  go_wp2_with fail
  refine (new_yes 1001 wd (by omega) (by omega)).mono ?_
  rintro e we ⟨gb, Sb, rfl, hdkb, -, hbe⟩
  have hbce := hbd.trans (hbe.mono hbd.size)
  have HBe := Lib.hid (HBc.out.trans (hbce.mono HBc.out.size))
  have HDCe := Lib.hid (HDCc.out.below hbce)
  have HDNe := Lib.hid (HDNc.out.below hbce)
  have HRDe := Lib.hid (HRDc.out.below hbce)
  have HRNe := Lib.hid (HRNc.out.below hbce)
  have HVe := Lib.hid (HVc.out.below hbce HVc.out.lt)
  have HWe := Lib.hid (HWc.out.below hbce HWc.out.lt)
  have HDXe := Lib.hid (HDX.out.below hbce)
  have HDA := Lib.hid (hdka.below hbe)
  have HDB := Lib.hid hdkb
  clear hbd hbe hbce hdka hdkb HBc HDCc HDNc HRDc HRNc HVc HWc HDX
  obtain ⟨e0, e1, e2⟩ := HVe.out.three
  go_wp2_with (go_at_call 17; refine (num_any _ _).mono ?_; rintro e w' ⟨rfl, rfl⟩)
  refine (refFlush_any (X := No) (HRDe.out.wide (fun _ _ e => e.elim)) (fun b e => e.elim) HOK.out).mono ?_
  rintro e wf ⟨csf, rfl, hrdf, hbf⟩
  clear e0 e1 e2
  have HFO : Hid (d.flush.ok) := Lib.hid ⟨HOK.out.1.flush, fun t ht => (by cases ht), by have h1 := d.st.size_flush; have h2 := HOK.out.2.2; have e : d.flush.st.size = d.st.flush.size := rfl; omega⟩
  obtain ⟨e0, e1, e2⟩ := (HVe.out.below hbf HVe.out.lt).three
  go_wp2_with fail
  refine (is_any (HDXe.out.below hbf) hrdf rfl HFO.out (fun b e => e.elim) HND.out.flush.1 HND.out.flush.files (by have h1 := d.st.size_flush; have e : d.flush.st.size = d.st.flush.size := rfl; omega)).mono ?_
  rintro e wg ⟨rfl, hbg⟩
  have hbeg := hbf.trans (hbg.mono hbf.size)
  clear e0 e1 e2 hbf hbg hrdf
  obtain ⟨e0, e1, e2⟩ := (HVe.out.below hbeg HVe.out.lt).three
  go_wp2_with fail
  refine (is_any (Y := No) (HDCe.out.below hbeg) ((HRDe.out.wide (fun _ _ e => e.elim)).below hbeg) rfl HOK.out (fun b e => e.elim) HND.out.1 HND.out.files (by omega)).mono ?_
  rintro e wh ⟨rfl, hbh⟩
  have hbeh := hbeg.trans (hbh.mono hbeg.size)
  clear e0 e1 e2 hbeg hbh
  obtain ⟨e0, e1, e2⟩ := (HWe.out.below hbeh HWe.out.lt).three
  go_wp2_with fail
  refine (is_any (Y := No) (HDNe.out.below hbeh) ((HRNe.out.wide (fun _ _ e => e.elim)).below hbeh) rfl HNX.out.1 (fun b e => e.elim) HNX.out.2.1.1 HNX.out.2.1.files (by have := HNX.out.2.2; omega)).mono ?_
  rintro e wi ⟨rfl, hbi⟩
  have hbei := hbeh.trans (hbi.mono hbeh.size)
  clear e0 e1 e2 hbeh hbi
  go_wp2_with fail
  refine (diskSame_any (HDNe.out.below hbei) (HDCe.out.below hbei) ((next_len d t1).elim (fun e => .inl (by rw [e])) (fun e => .inr (.inr ⟨next_room d t1, by unfold RDk.st; simpa using e⟩))) (by have := HNX.out.2.2; omega)).mono ?_
  rintro e wj ⟨rfl, hbj⟩
  rw [HEQ1.out]
  have hbej := hbei.trans (hbj.mono hbei.size)
  clear hbei hbj
  have hbb : (β == β) = true := by simp
  go_wp2_with fail
  refine (diskSame_any (HDCe.out.below hbej) (HDNe.out.below hbej) ((next_len d t1).elim (fun e => .inl (by rw [e])) (fun e => .inr (.inr ⟨(next_room d t1).symm, by unfold RDk.st; simpa using e.symm⟩))) (by omega)).mono ?_
  rintro e wk ⟨rfl, hbk⟩
  rw [HEQ2.out]
  have hbek := hbej.trans (hbk.mono hbej.size)
  clear hbej hbk
  go_wp2_with fail
  refine (diskSame_any (HDA.out.below hbek) (HDB.out.below hbek) (.inr (.inl (by decide))) (by simp [St.size])).mono ?_
  rintro e wl ⟨rfl, hbl⟩
  have hbel := hbek.trans (hbl.mono hbek.size)
  have hF := HBe.out.trans (hbel.mono HBe.out.size)
  go_wp2_with fail
  refine (works_any _).mono ?_
  rintro e wz ⟨rfl, hbz⟩
  go_wp2_with fail
  go_ret
  exact ⟨rfl, hF.trans (hbz.mono hF.size)⟩

set_option maxRecDepth 100000 in
theorem lifted (os : Os) (started : os.Started) (H : Type) (enc : TypeId × Value → H) :
    ReturnsInHanded {} Try.checked os 7 .any (Rows.diskCopiesSpec.pre6 enc Try.prog Try.f7 Rows.diskCopiesRow.domain false) (Rows.diskCopiesSpec.post enc Try.prog Try.f7 false true false false) := by
  refine returnsInHanded_of_change (C := Try.checked) own started (by kernel_rfl) Try.func7
    (ChangeSpec.witness6 (enc := enc) (C := Try.checked) false ⟨#[], #[.slice none 0 0, .agg #[.int .i64 0, .string ⟨#[]⟩, .slice none 0 0, .int .i64 0]], []⟩ 8 (by kernel_rfl) (by kernel_rfl) (by kernel_rfl) (by kernel_rfl)) ?_
  intro W base args ds gs before hval0 hW hcnd _
  have hval : ∀ (j : Nat) t v, Try.f7.params[j]? = some t → args[j]? = some v → Value.okWide Try.prog W .any base t v := hval0
  have hW' := hW
  obtain ⟨p, q, hA0, hV, rfl, hfz, hnd⟩ := hW
  have hA : DataW.TrodAll enc Try.prog W 0 (fun _ => true) true Try.f7.params.toList args.toList ds p := hA0
  rw [Try.params7] at hA hval
  obtain ⟨v0, vs0, d0, ds0, p0, q0, hargs, rfl, rfl, h0, r0⟩ := trodAll_cons hA
  obtain ⟨v1, vs1, d1, ds1, p1, q1, rfl, rfl, rfl, h1, r1⟩ := trodAll_cons r0
  obtain ⟨rfl, rfl, rfl⟩ := trodAll_nil r1
  obtain rfl : args = #[v0, v1] := by cases args; simp_all
  obtain ⟨rfl, rfl⟩ := trodVars_none hV
  have k0 := h0
  have lt0 : ∀ x ∈ p0, x.block < W.heap.size := by obtain ⟨m, hm⟩ := k0; exact DataW.trod_lt m _ _ _ hm
  obtain ⟨a0, len0, cap0, rfl⟩ := okWide_slice Try.underlying27 (hval 0 27 v0 rfl rfl)
  obtain ⟨ts0, b0, ok0, hc0, hm0⟩ := open_things h0
  have k1 := h1
  have lt1 : ∀ x ∈ p1, x.block < W.heap.size := by obtain ⟨m, hm⟩ := k1; exact DataW.trod_lt m _ _ _ hm
  obtain ⟨t1, cs1, rfl, b1, ok1⟩ := open_thing (hval 1 65 v1 rfl rfl) h1
  clear hA0 hval0
  refine (walk a0 len0 cap0 ts0 t1 cs1 W b0 ok0 hc0 hm0 b1 ok1).mono fun e W' ⟨he, bel⟩ => ?_
  subst he
  exact ⟨_, rfl, _, _, _, [], _, [], hW', trodAll_mk1 (shut_bool Try.underlying4 _), (trodAll_cons_mk (Below.trod laidOut (by kernel_rfl) (of_decide_eq_true (by kernel_rfl)) k0 bel lt0) (trodAll_cons_mk (Below.trod laidOut (by kernel_rfl) (of_decide_eq_true (by kernel_rfl)) k1 bel lt1) trodAll_mk0)), rfl, bel.frame _, fun h => by cases h⟩

theorem over : Rows.diskCopiesRow.holds Try.pinned (OpenSpec.ofChange Rows.diskCopiesSpec) :=
  OpenClaim.holds_of_wide 7 Try.f7 rfl rfl rfl rfl rfl rfl rfl ⟨rfl, rfl, rfl, rfl, rfl⟩ rfl rfl rfl rfl rfl (by kernel_rfl) Try.func7 (by kernel_rfl)
    (of_decide_eq_true (by kernel_rfl)) (by unfold Func.isWrapper; first | (rw [if_pos (by decide +kernel)]; kernel_rfl) | (rw [if_neg (by decide +kernel)]; exact ⟨rfl, rfl⟩))
    (fun os started H enc _ => lifted os started H enc)

theorem proved : Rows.DiskCopiesSaid := over
end Go.Proofs.Ythhiiimmgghhaaa.diskCopies
namespace Go.Proofs.Ythhiiimmgghhaaa
theorem diskCopies_holds : Rows.DiskCopiesSaid := diskCopies.proved
#print axioms diskCopies_holds
end Go.Proofs.Ythhiiimmgghhaaa
