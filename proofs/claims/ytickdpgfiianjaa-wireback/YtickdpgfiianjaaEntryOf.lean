/-
  What wire.entry answers: the entry of a body, or that it gives up. Condition: fewer than 1000000 bytes.
-/
import Derived.Test.YtickdpgfiianjaaEntry
namespace Go.Proofs.Ytickdpgfiianjaa
open Go.RowKit
/-- What is known behind wire.entry. -/
def Parsed (w : World) (o : Option Ent) (r : Ending) (w' : World) : Prop :=
  Below w.heap.size w w' ∧ match o with
  | some e => r = .returned e.val
  | none => r = panicE 121
theorem none_zero : Ent.none_.cells = #[.int .i64 0, .int .i64 0, .int .i64 0, .int .i64 0, .int .i64 0, .int .i64 0] := rfl
theorem six_set {w12 : World} {s : Nat} {y : Ent} (h : Blk w12 s 38 y.cells) (x : Ent) : Blk ((((((w12.setCell ⟨s, 0, none⟩ (.int .i64 x.epoch)).setCell ⟨s, 1, none⟩ (.int .i64 x.id)).setCell ⟨s, 2, none⟩ (.int .i64 x.num)).setCell ⟨s, 3, none⟩ (.int .i64 x.seq)).setCell ⟨s, 4, none⟩ (.int .i64 x.kind)).setCell ⟨s, 5, none⟩ (.int .i64 x.value)) s 38 x.cells :=
  (((((h.set_ 0 _).set_ 1 _).set_ 2 _).set_ 3 _).set_ 4 _).set_ 5 _
theorem six_low {a w12 : World} {B s : Nat} (h : Below B a w12) (hs : B ≤ s) (x : Ent) : Below B a ((((((w12.setCell ⟨s, 0, none⟩ (.int .i64 x.epoch)).setCell ⟨s, 1, none⟩ (.int .i64 x.id)).setCell ⟨s, 2, none⟩ (.int .i64 x.num)).setCell ⟨s, 3, none⟩ (.int .i64 x.seq)).setCell ⟨s, 4, none⟩ (.int .i64 x.kind)).setCell ⟨s, 5, none⟩ (.int .i64 x.value)) :=
  (((((h.setCell (p := ⟨s, 0, none⟩) hs _).setCell (p := ⟨s, 1, none⟩) hs _).setCell (p := ⟨s, 2, none⟩) hs _).setCell (p := ⟨s, 3, none⟩) hs _).setCell (p := ⟨s, 4, none⟩) hs _).setCell (p := ⟨s, 5, none⟩) hs _
def afterKind (l : List UInt8) (kd : Nat) : Tk → Option Ent
  | .num ep j => entryId l kd ep (1 + j)
  | _ => none
theorem entryOf_kind (kd : UInt8) (b : List UInt8) (h : ¬ (kd.toNat < 1 ∨ 3 < kd.toNat)) : entryOf (kd :: b) = afterKind (kd :: b) kd.toNat (tk ((kd :: b).drop 1)) := by
  rw [entryOf_cons, if_neg h]
  rcases tk ((kd :: b).drop 1) with _ | _ | ⟨ep, j⟩ <;> rfl
set_option maxRecDepth 100000 in
set_option maxHeartbeats 8000000 in
theorem entry_any (A : Option Addr) (n c : Nat) (l : List UInt8) (w : World) (hr : Bys w w.heap.size A n l) (hn : n < 1000000) :
    Calls Try.prog 68 #[.slice A n c] w (Parsed w (entryOf l) ) := by
  go_enter Try.func68, Try.ntmps68
  go_wp2_with fail
  have HZ0 := Lib.hid (Blk.new w 38 Ent.none_.cells)
  have HB0 : Hid (Below w.heap.size w (w.alloc (.cells Ent.none_.cells 38))) := Lib.hid ((Below.refl _ _).alloc (Nat.le_refl _) _)
  have HS0 : Hid (w.heap.size < (w.alloc (.cells Ent.none_.cells 38)).heap.size) := Lib.hid (by simp)
  have hr0 : Bys (w.alloc (.cells Ent.none_.cells 38)) (w.alloc (.cells Ent.none_.cells 38)).heap.size A n l := (hr.alloc (Nat.le_refl _) _).more (Nat.le_of_lt HS0.out)
  rw [none_zero] at HZ0 HB0 HS0 hr0
  generalize w.alloc (.cells #[.int .i64 0, .int .i64 0, .int .i64 0, .int .i64 0, .int .i64 0, .int .i64 0] 38) = w0 at *
  refine (taker_any A n c 121 l w0 hr0 hn).mono ?_
  rintro e w1 ⟨p, q, r, rfl, ht1, hq, hb1⟩
  have HZ1 := Lib.hid (HZ0.out.below hb1 HS0.out)
  have HB1 := Lib.hid (HB0.out.trans (hb1.mono (Nat.le_of_lt HS0.out)))
  have HQ : Hid (w.heap.size < q) := Lib.hid (Nat.lt_of_lt_of_le HS0.out hq)
  have HQP : Hid (q < p ∧ p < w1.heap.size ∧ l.length = n) := Lib.hid ⟨by have := ht1.2.2.2.2.2; omega, ht1.1.lt, hr.1⟩
  clear HZ0 HB0 HS0 hr0 hr hb1 hq
  unfold nextV takenV
  go_wp2_with fail
  rcases hu : l[0]? with _ | kd
  · have hl0 : l = [] := by have := List.getElem?_eq_none_iff.1 hu; exact List.eq_nil_of_length_eq_zero (by omega)
    have h0n : 0 = n := by have := HQP.out.2.2; rw [hl0] at this; exact this
    have HE : Hid (entryOf l = none) := Lib.hid (by rw [hl0]; rfl)
    clear hu hl0
    refine (next_none ht1 h0n).mono ?_
    rintro e w2 ⟨rfl, rfl⟩
    unfold panicE
    go_wp2_with fail
    refine ⟨rfl, HB1.out, ?_⟩
    rw [HE.out]
    rfl
  · obtain ⟨b, hlb⟩ : ∃ b, l = kd :: b := by
      rcases l with _ | ⟨x, b⟩
      · cases hu
      · simp at hu; exact ⟨b, by rw [hu]⟩
    have HLB := Lib.hid hlb
    have hn0 : 0 < n := by have := HQP.out.2.2; rw [hlb] at this; simp at this; omega
    clear hlb
    refine (next_some ht1 hu).mono ?_
    rintro e w2 ⟨rfl, hw2⟩
    rw [Nat.zero_add] at hw2
    have ht2 := ht1.step 1 (by omega)
    rw [hw2] at ht2
    have hO2 : Only p w1 w2 := by rw [← hw2]; exact Only.set_ _
    have HZ2 := Lib.hid (hO2.blk HZ1.out (by have := HQ.out; have := HQP.out; omega))
    have HB2 := Lib.hid (HB1.out.trans (hO2.below (by have := HQ.out; have := HQP.out; omega)))
    have HP2 : Hid (p < w2.heap.size) := Lib.hid ht2.1.lt
    have hkd := UInt8.toNat_lt kd
    clear hu ht1 hw2 hO2 HZ1 HB1
    go_wp2_with fail
    have hg3 : Blk (w2.alloc (.cells (Ent.mk 0 0 0 0 (kd.toNat : Int) 0).cells 38)) w2.heap.size 38 (Ent.mk 0 0 0 0 (kd.toNat : Int) 0).cells := Blk.new _ _ _
    have hLow3 : Below w2.heap.size w2 (w2.alloc (.cells (Ent.mk 0 0 0 0 (kd.toNat : Int) 0).cells 38)) := (Below.refl _ _).alloc (Nat.le_refl _) _
    have hS3 : w2.heap.size < (w2.alloc (.cells (Ent.mk 0 0 0 0 (kd.toNat : Int) 0).cells 38)).heap.size := by simp
    rw [show (Ent.mk 0 0 0 0 (kd.toNat : Int) 0).cells = #[.int .i64 0, .int .i64 0, .int .i64 0, .int .i64 0, .int .i64 (kd.toNat : Int), .int .i64 0] from rfl] at hLow3 hS3 hg3
    have ht3 := ht2.below hLow3 HP2.out
    have HZ3 := Lib.hid (HZ2.out.below hLow3 (by have := HQ.out; have := HQP.out; have := HP2.out; omega))
    have HB3 := Lib.hid (HB2.out.trans (hLow3.mono (by have := HQ.out; have := HQP.out; have := HP2.out; omega)))
    have HPG : Hid (p < w2.heap.size ∧ w.heap.size < w2.heap.size) := Lib.hid ⟨HP2.out, by have := HQ.out; have := HQP.out; have := HP2.out; omega⟩
    generalize w2.alloc (.cells #[.int .i64 0, .int .i64 0, .int .i64 0, .int .i64 0, .int .i64 (kd.toNat : Int), .int .i64 0] 38) = w3 at *
    generalize w2.heap.size = g at *
    clear hLow3 ht2 HZ2 HB2 HP2
    by_cases k1 : kd.toNat = 1
    · skip
      have HEO : Hid (entryOf l = afterKind l kd.toNat (tk (l.drop 1))) := Lib.hid (by rw [HLB.out]; exact entryOf_kind kd b (by omega))
      have HKK : Hid (kd.toNat = 1) := Lib.hid k1
      refine (kind_data' (by omega) _).mono ?_
      rintro e w4 ⟨rfl, hb4⟩
      have hS4 := hb4.size
      have hW5 : Below w3.heap.size w3 (w4.alloc (.cells #[.func (.func 58) #[] #[], .func (.func 59) #[] #[], .func (.func 60) #[] #[]] 73)) := hb4.alloc hS4 _
      have HK5 := Lib.hid (Blk.new w4 73 #[.func (.func 58) #[] #[], .func (.func 59) #[] #[], .func (.func 60) #[] #[]])
      have HG5 := Lib.hid (hg3.below hW5 hg3.lt)
      have HT5 := Lib.hid (ht3.below hW5 ht3.1.lt)
      have HZ5 := Lib.hid (HZ3.out.below hW5 HZ3.out.lt)
      have HB5 := Lib.hid (HB3.out.trans (hW5.mono HB3.out.size))
      have HBK : Hid (g < w4.heap.size) := Lib.hid (Nat.lt_of_lt_of_le hg3.lt hS4)
      clear hb4 hS4 hW5 ht3 hg3 HZ3 HB3 
      go_wp2_with fail
      generalize w4.alloc (.cells #[.func (.func 58) #[] #[], .func (.func 59) #[] #[], .func (.func 60) #[] #[]] 73) = w5 at *
      generalize w4.heap.size = bk at *
      refine (number_any HT5.out).mono ?_
      rintro e w6 ⟨ho6, hm6⟩
      have HG6 := Lib.hid (ho6.blk HG5.out (by have := HPG.out; omega))
      have HK6 := Lib.hid (ho6.blk HK5.out (by have := HPG.out; have := HBK.out; omega))
      have HZ6 := Lib.hid (ho6.blk HZ5.out (by have := HQ.out; have := HQP.out; omega))
      have HB6 := Lib.hid (HB5.out.trans (ho6.below (by have := HQ.out; have := HQP.out; omega)))
      clear HG5 HK5 HZ5 HB5 HT5 ho6
      rcases htk : tk (l.drop 1) with _ | _ | ⟨ep, j⟩
      · rw [htk] at hm6
        simp only at hm6
        subst hm6
        have HE : Hid (entryOf l = none) := Lib.hid (by rw [HEO.out, htk]; rfl)
        unfold panicE
        go_wp2_with fail
        refine ⟨rfl, HB6.out, ?_⟩
        rw [HE.out]
        rfl
      · rw [htk] at hm6
        simp only at hm6
        subst hm6
        have HE : Hid (entryOf l = none) := Lib.hid (by rw [HEO.out, htk]; rfl)
        unfold panicE
        go_wp2_with fail
        refine ⟨rfl, HB6.out, ?_⟩
        rw [HE.out]
        rfl
      · rw [htk] at hm6
        obtain ⟨rfl, ht6⟩ := hm6
        have e0 : w6.cell? ⟨g, 0, none⟩ = some (.int .i64 0) := HG6.out.cell 0
        have z0 := HG6.out.frozen 0
        have HTK := Lib.hid htk
        have hepb := (tk_drop htk).2.2
        have HG7 : Hid (Blk (w6.setCell ⟨g, 0, none⟩ (.int .i64 (ep : Int))) g 38 (Ent.mk ep 0 0 0 kd.toNat 0).cells) := Lib.hid (HG6.out.set_ 0 _)
        have HK7 := Lib.hid (HK6.out.far (p := ⟨g, 0, none⟩) (by show bk ≠ g; have := HBK.out; omega) (.int .i64 (ep : Int)))
        have HZ7 := Lib.hid (HZ6.out.far (p := ⟨g, 0, none⟩) (by show w.heap.size ≠ g; have := HPG.out; omega) (.int .i64 (ep : Int)))
        have HB7 := Lib.hid (HB6.out.setCell (p := ⟨g, 0, none⟩) (by show w.heap.size ≤ g; have := HPG.out; omega) (.int .i64 (ep : Int)))
        have HT7 := Lib.hid (ht6.below ((Below.refl g w6).setCell (p := ⟨g, 0, none⟩) (Nat.le_refl _) (.int .i64 (ep : Int))) (by have := HPG.out; omega))
        clear HG6 HK6 HZ6 HB6 ht6 htk
        go_wp2_with fail
        clear e0 z0
        generalize w6.setCell ⟨g, 0, none⟩ (.int .i64 (ep : Int)) = w7 at *
        rcases hu2 : l[1 + j]? with _ | i
        · have hkn : 1 + j = n := by
            have := List.getElem?_eq_none_iff.1 hu2
            have := HQP.out.2.2
            have := HT7.out.2.2.2.2.1
            omega
          refine (next_none HT7.out hkn).mono ?_
          rintro e w8 ⟨rfl, rfl⟩
          have HE : Hid (entryOf l = none) := Lib.hid (by rw [HEO.out, HTK.out]; show entryId l kd.toNat ep (1 + j) = _; unfold entryId; rw [hu2])
          unfold panicE
          go_wp2_with fail
          refine ⟨rfl, HB7.out, ?_⟩
          rw [HE.out]
          rfl
        · have HU2 := Lib.hid hu2
          refine (next_some HT7.out hu2).mono ?_
          rintro e w8 ⟨rfl, hw8⟩
          have ht8 := HT7.out.step (1 + j + 1) (by have := (List.getElem?_eq_some_iff.1 hu2).1; have := HQP.out.2.2; omega)
          rw [hw8] at ht8
          have hO8 : Only p w7 w8 := by rw [← hw8]; exact Only.set_ _
          have hib := UInt8.toNat_lt i
          have hg8 := hO8.blk HG7.out (by have := HPG.out; omega)
          have e1 : w8.cell? ⟨g, 1, none⟩ = some (.int .i64 0) := hg8.cell 1
          have z1 := hg8.frozen 1
          have HG9 : Hid (Blk (w8.setCell ⟨g, 1, none⟩ (.int .i64 ((i.toNat : Int) - 1))) g 38 (Ent.mk ep ((i.toNat : Int) - 1) 0 0 kd.toNat 0).cells) := Lib.hid (hg8.set_ 1 _)
          have hk8 := hO8.blk HK7.out (by have := HPG.out; have := HBK.out; omega)
          have d2 : (w8.setCell ⟨g, 1, none⟩ (.int .i64 ((i.toNat : Int) - 1))).cell? ⟨bk, 2, none⟩ = some (.func (.func 60) #[] #[]) := (hk8.far (p := ⟨g, 1, none⟩) (by show bk ≠ g; have := HBK.out; omega) _).cell 2
          have HZ9 := Lib.hid ((hO8.blk HZ7.out (by have := HQ.out; have := HQP.out; omega)).far (p := ⟨g, 1, none⟩) (by show w.heap.size ≠ g; have := HPG.out; omega) (.int .i64 ((i.toNat : Int) - 1)))
          have HB9 := Lib.hid ((HB7.out.trans (hO8.below (by have := HQ.out; have := HQP.out; omega))).setCell (p := ⟨g, 1, none⟩) (by show w.heap.size ≤ g; have := HPG.out; omega) (.int .i64 ((i.toNat : Int) - 1)))
          have HT9 := Lib.hid (ht8.below ((Below.refl g w8).setCell (p := ⟨g, 1, none⟩) (Nat.le_refl _) (.int .i64 ((i.toNat : Int) - 1))) (by have := HPG.out; omega))
          clear HG7 HK7 HZ7 HB7 HT7 hO8 hw8 hu2 hg8 hk8 ht8
          go_wp2_with fail
          clear e1 z1 d2
          generalize w8.setCell ⟨g, 1, none⟩ (.int .i64 ((i.toNat : Int) - 1)) = w9 at *
          refine (takeData_any ep ((i.toNat : Int) - 1) HT9.out (by have h := HG9.out; rw [HKK.out] at h; exact h) HPG.out.1).mono ?_
          rintro e w10 ⟨hb10, hm10⟩
          have HB10 := Lib.hid (HB9.out.trans (hb10.mono (by have := HQ.out; have := HQP.out; omega)))
          rcases htd : dataTk ep ((i.toNat : Int) - 1) l (1 + j + 1) with _ | ⟨x, k'⟩
          · rw [htd] at hm10
            simp only at hm10
            subst hm10
            have HE : Hid (entryOf l = none) := Lib.hid (by rw [HEO.out, HTK.out]; show entryId l kd.toNat ep (1 + j) = _; unfold entryId; rw [HU2.out]; simp only; rw [HKK.out, if_pos rfl]; exact congrArg (endTk l) htd)
            unfold panicE
            go_wp2_with fail
            refine ⟨rfl, HB10.out, ?_⟩
            rw [HE.out]
            rfl
          · rw [htd] at hm10
            obtain ⟨rfl, ht10, hg10, hs10⟩ := hm10
            have HEN : Hid (entryOf l = if k' = n ∧ Right x then some x else none) := Lib.hid (by
              rw [HEO.out, HTK.out]; show entryId l kd.toNat ep (1 + j) = _; unfold entryId; rw [HU2.out]; simp only; rw [HKK.out, if_pos rfl]
              refine (congrArg (endTk l) htd).trans ?_
              unfold endTk
              rw [HQP.out.2.2])
            have hkn := ht10.2.2.2.2.1
            have hzz : Blk w10 w.heap.size 38 Ent.none_.cells := (hs10 w.heap.size (by have := HQ.out; have := HQP.out; omega) (by have := HPG.out; omega)).trans HZ9.out
            have HZ10 := Lib.hid hzz
            have HG10 := Lib.hid hg10
            obtain ⟨c0, c1, c2, c3, c4, c5⟩ := hg10.six
            have hE : Hid (.agg #[.int .i64 x.epoch, .int .i64 x.id, .int .i64 x.num, .int .i64 x.seq, .int .i64 x.kind, .int .i64 x.value] = x.val) := Lib.hid rfl
            clear hzz hg10 hs10 hb10 htd HB9 HZ9 HG9 HT9 HEO HTK HU2 HLB
            go_wp2_with fail
            refine (taken_any ht10.1).mono ?_
            rintro e w11 ⟨rfl, rfl⟩
            clear ht10
            by_cases hlt : k' < n
            · have hd : decide ((k' : Int) < (n : Int)) = true := by simp; omega
              have HE : Hid (entryOf l = none) := Lib.hid (by rw [HEN.out, if_neg (by omega)])
              go_wp2_with fail
              refine ⟨rfl, HB10.out, ?_⟩
              rw [HE.out]
              rfl
            · have hd : decide ((k' : Int) < (n : Int)) = false := by simp; omega
              have HKN : Hid (k' = n) := Lib.hid (by omega)
              go_wp2_with fail
              rw [hE.out]
              refine (check_any x w10).mono ?_
              rintro e w12 ⟨rfl, hb12⟩
              clear c0 c1 c2 c3 c4 c5
              obtain ⟨c0, c1, c2, c3, c4, c5⟩ := (HG10.out.below hb12 HG10.out.lt).six
              have hz12 := HZ10.out.below hb12 HZ10.out.lt
              have HB12 := Lib.hid (HB10.out.trans (hb12.mono HB10.out.size))
              clear hb12
              by_cases hR : Right x
              · rw [errOf_yes hR]
                have HE : Hid (entryOf l = some x) := Lib.hid (by rw [HEN.out, if_pos ⟨HKN.out, hR⟩])
                obtain ⟨s0, s1, s2, s3, s4, s5⟩ := hz12.six
                have y0 := hz12.frozen 0
                have y1 := hz12.frozen 1
                have y2 := hz12.frozen 2
                have y3 := hz12.frozen 3
                have y4 := hz12.frozen 4
                have y5 := hz12.frozen 5
                have HW := Lib.hid (six_set hz12 x)
                have HBW := Lib.hid (six_low HB12.out (Nat.le_refl _) x)
                clear hz12 hR
                go_wp2_with fail
                generalize ((((((w12.setCell ⟨w.heap.size, 0, none⟩ (.int .i64 x.epoch)).setCell ⟨w.heap.size, 1, none⟩ (.int .i64 x.id)).setCell ⟨w.heap.size, 2, none⟩ (.int .i64 x.num)).setCell ⟨w.heap.size, 3, none⟩ (.int .i64 x.seq)).setCell ⟨w.heap.size, 4, none⟩ (.int .i64 x.kind)).setCell ⟨w.heap.size, 5, none⟩ (.int .i64 x.value)) = W at *
                clear s0 s1 s2 s3 s4 s5 y0 y1 y2 y3 y4 y5 c0 c1 c2 c3 c4 c5
                obtain ⟨r0, r1, r2, r3, r4, r5⟩ := HW.out.six
                refine bodyPost_ret (v := x.val) ?_ rfl ⟨HBW.out, by rw [HE.out]⟩
                simp [results, Try.results68, go_sem, r0, r1, r2, r3, r4, r5, Ent.val, Ent.cells]
              · rw [errOf_no hR]
                have HE : Hid (entryOf l = none) := Lib.hid (by rw [HEN.out, if_neg (fun h => hR h.2)])
                clear hz12 hR
                go_wp2_with fail
                refine ⟨rfl, HB12.out, ?_⟩
                rw [HE.out]
                rfl
    by_cases k2 : kd.toNat = 2
    · skip
      have HEO : Hid (entryOf l = afterKind l kd.toNat (tk (l.drop 1))) := Lib.hid (by rw [HLB.out]; exact entryOf_kind kd b (by omega))
      have HKK : Hid (kd.toNat = 2) := Lib.hid k2
      refine (kind_commit' (by omega) _).mono ?_
      rintro e w4 ⟨rfl, hb4⟩
      have hS4 := hb4.size
      have hW5 : Below w3.heap.size w3 (w4.alloc (.cells #[.func (.func 61) #[] #[], .func (.func 62) #[] #[], .func (.func 63) #[] #[]] 73)) := hb4.alloc hS4 _
      have HK5 := Lib.hid (Blk.new w4 73 #[.func (.func 61) #[] #[], .func (.func 62) #[] #[], .func (.func 63) #[] #[]])
      have HG5 := Lib.hid (hg3.below hW5 hg3.lt)
      have HT5 := Lib.hid (ht3.below hW5 ht3.1.lt)
      have HZ5 := Lib.hid (HZ3.out.below hW5 HZ3.out.lt)
      have HB5 := Lib.hid (HB3.out.trans (hW5.mono HB3.out.size))
      have HBK : Hid (g < w4.heap.size) := Lib.hid (Nat.lt_of_lt_of_le hg3.lt hS4)
      clear hb4 hS4 hW5 ht3 hg3 HZ3 HB3 
      go_wp2_with fail
      generalize w4.alloc (.cells #[.func (.func 61) #[] #[], .func (.func 62) #[] #[], .func (.func 63) #[] #[]] 73) = w5 at *
      generalize w4.heap.size = bk at *
      refine (number_any HT5.out).mono ?_
      rintro e w6 ⟨ho6, hm6⟩
      have HG6 := Lib.hid (ho6.blk HG5.out (by have := HPG.out; omega))
      have HK6 := Lib.hid (ho6.blk HK5.out (by have := HPG.out; have := HBK.out; omega))
      have HZ6 := Lib.hid (ho6.blk HZ5.out (by have := HQ.out; have := HQP.out; omega))
      have HB6 := Lib.hid (HB5.out.trans (ho6.below (by have := HQ.out; have := HQP.out; omega)))
      clear HG5 HK5 HZ5 HB5 HT5 ho6
      rcases htk : tk (l.drop 1) with _ | _ | ⟨ep, j⟩
      · rw [htk] at hm6
        simp only at hm6
        subst hm6
        have HE : Hid (entryOf l = none) := Lib.hid (by rw [HEO.out, htk]; rfl)
        unfold panicE
        go_wp2_with fail
        refine ⟨rfl, HB6.out, ?_⟩
        rw [HE.out]
        rfl
      · rw [htk] at hm6
        simp only at hm6
        subst hm6
        have HE : Hid (entryOf l = none) := Lib.hid (by rw [HEO.out, htk]; rfl)
        unfold panicE
        go_wp2_with fail
        refine ⟨rfl, HB6.out, ?_⟩
        rw [HE.out]
        rfl
      · rw [htk] at hm6
        obtain ⟨rfl, ht6⟩ := hm6
        have e0 : w6.cell? ⟨g, 0, none⟩ = some (.int .i64 0) := HG6.out.cell 0
        have z0 := HG6.out.frozen 0
        have HTK := Lib.hid htk
        have hepb := (tk_drop htk).2.2
        have HG7 : Hid (Blk (w6.setCell ⟨g, 0, none⟩ (.int .i64 (ep : Int))) g 38 (Ent.mk ep 0 0 0 kd.toNat 0).cells) := Lib.hid (HG6.out.set_ 0 _)
        have HK7 := Lib.hid (HK6.out.far (p := ⟨g, 0, none⟩) (by show bk ≠ g; have := HBK.out; omega) (.int .i64 (ep : Int)))
        have HZ7 := Lib.hid (HZ6.out.far (p := ⟨g, 0, none⟩) (by show w.heap.size ≠ g; have := HPG.out; omega) (.int .i64 (ep : Int)))
        have HB7 := Lib.hid (HB6.out.setCell (p := ⟨g, 0, none⟩) (by show w.heap.size ≤ g; have := HPG.out; omega) (.int .i64 (ep : Int)))
        have HT7 := Lib.hid (ht6.below ((Below.refl g w6).setCell (p := ⟨g, 0, none⟩) (Nat.le_refl _) (.int .i64 (ep : Int))) (by have := HPG.out; omega))
        clear HG6 HK6 HZ6 HB6 ht6 htk
        go_wp2_with fail
        clear e0 z0
        generalize w6.setCell ⟨g, 0, none⟩ (.int .i64 (ep : Int)) = w7 at *
        rcases hu2 : l[1 + j]? with _ | i
        · have hkn : 1 + j = n := by
            have := List.getElem?_eq_none_iff.1 hu2
            have := HQP.out.2.2
            have := HT7.out.2.2.2.2.1
            omega
          refine (next_none HT7.out hkn).mono ?_
          rintro e w8 ⟨rfl, rfl⟩
          have HE : Hid (entryOf l = none) := Lib.hid (by rw [HEO.out, HTK.out]; show entryId l kd.toNat ep (1 + j) = _; unfold entryId; rw [hu2])
          unfold panicE
          go_wp2_with fail
          refine ⟨rfl, HB7.out, ?_⟩
          rw [HE.out]
          rfl
        · have HU2 := Lib.hid hu2
          refine (next_some HT7.out hu2).mono ?_
          rintro e w8 ⟨rfl, hw8⟩
          have ht8 := HT7.out.step (1 + j + 1) (by have := (List.getElem?_eq_some_iff.1 hu2).1; have := HQP.out.2.2; omega)
          rw [hw8] at ht8
          have hO8 : Only p w7 w8 := by rw [← hw8]; exact Only.set_ _
          have hib := UInt8.toNat_lt i
          have hg8 := hO8.blk HG7.out (by have := HPG.out; omega)
          have e1 : w8.cell? ⟨g, 1, none⟩ = some (.int .i64 0) := hg8.cell 1
          have z1 := hg8.frozen 1
          have HG9 : Hid (Blk (w8.setCell ⟨g, 1, none⟩ (.int .i64 ((i.toNat : Int) - 1))) g 38 (Ent.mk ep ((i.toNat : Int) - 1) 0 0 kd.toNat 0).cells) := Lib.hid (hg8.set_ 1 _)
          have hk8 := hO8.blk HK7.out (by have := HPG.out; have := HBK.out; omega)
          have d2 : (w8.setCell ⟨g, 1, none⟩ (.int .i64 ((i.toNat : Int) - 1))).cell? ⟨bk, 2, none⟩ = some (.func (.func 63) #[] #[]) := (hk8.far (p := ⟨g, 1, none⟩) (by show bk ≠ g; have := HBK.out; omega) _).cell 2
          have HZ9 := Lib.hid ((hO8.blk HZ7.out (by have := HQ.out; have := HQP.out; omega)).far (p := ⟨g, 1, none⟩) (by show w.heap.size ≠ g; have := HPG.out; omega) (.int .i64 ((i.toNat : Int) - 1)))
          have HB9 := Lib.hid ((HB7.out.trans (hO8.below (by have := HQ.out; have := HQP.out; omega))).setCell (p := ⟨g, 1, none⟩) (by show w.heap.size ≤ g; have := HPG.out; omega) (.int .i64 ((i.toNat : Int) - 1)))
          have HT9 := Lib.hid (ht8.below ((Below.refl g w8).setCell (p := ⟨g, 1, none⟩) (Nat.le_refl _) (.int .i64 ((i.toNat : Int) - 1))) (by have := HPG.out; omega))
          clear HG7 HK7 HZ7 HB7 HT7 hO8 hw8 hu2 hg8 hk8 ht8
          go_wp2_with fail
          clear e1 z1 d2
          generalize w8.setCell ⟨g, 1, none⟩ (.int .i64 ((i.toNat : Int) - 1)) = w9 at *
          refine (takeMarker_any (kd.toNat : Int) ep ((i.toNat : Int) - 1) HT9.out HG9.out HPG.out.1).mono ?_
          rintro e w10 ⟨hb10, hm10⟩
          have HB10 := Lib.hid (HB9.out.trans (hb10.mono (by have := HQ.out; have := HQP.out; omega)))
          rcases htd : markTk (kd.toNat : Int) ep ((i.toNat : Int) - 1) l (1 + j + 1) with _ | ⟨x, k'⟩
          · rw [htd] at hm10
            simp only at hm10
            subst hm10
            have HE : Hid (entryOf l = none) := Lib.hid (by rw [HEO.out, HTK.out]; show entryId l kd.toNat ep (1 + j) = _; unfold entryId; rw [HU2.out]; simp only; rw [HKK.out, if_neg (by omega), ← HKK.out]; exact congrArg (endTk l) htd)
            unfold panicE
            go_wp2_with fail
            refine ⟨rfl, HB10.out, ?_⟩
            rw [HE.out]
            rfl
          · rw [htd] at hm10
            obtain ⟨rfl, ht10, hg10, hs10⟩ := hm10
            have HEN : Hid (entryOf l = if k' = n ∧ Right x then some x else none) := Lib.hid (by
              rw [HEO.out, HTK.out]; show entryId l kd.toNat ep (1 + j) = _; unfold entryId; rw [HU2.out]; simp only; rw [HKK.out, if_neg (by omega), ← HKK.out]
              refine (congrArg (endTk l) htd).trans ?_
              unfold endTk
              rw [HQP.out.2.2])
            have hkn := ht10.2.2.2.2.1
            have hzz : Blk w10 w.heap.size 38 Ent.none_.cells := (hs10 w.heap.size (by have := HQ.out; have := HQP.out; omega) (by have := HPG.out; omega)).trans HZ9.out
            have HZ10 := Lib.hid hzz
            have HG10 := Lib.hid hg10
            obtain ⟨c0, c1, c2, c3, c4, c5⟩ := hg10.six
            have hE : Hid (.agg #[.int .i64 x.epoch, .int .i64 x.id, .int .i64 x.num, .int .i64 x.seq, .int .i64 x.kind, .int .i64 x.value] = x.val) := Lib.hid rfl
            clear hzz hg10 hs10 hb10 htd HB9 HZ9 HG9 HT9 HEO HTK HU2 HLB
            go_wp2_with fail
            refine (taken_any ht10.1).mono ?_
            rintro e w11 ⟨rfl, rfl⟩
            clear ht10
            by_cases hlt : k' < n
            · have hd : decide ((k' : Int) < (n : Int)) = true := by simp; omega
              have HE : Hid (entryOf l = none) := Lib.hid (by rw [HEN.out, if_neg (by omega)])
              go_wp2_with fail
              refine ⟨rfl, HB10.out, ?_⟩
              rw [HE.out]
              rfl
            · have hd : decide ((k' : Int) < (n : Int)) = false := by simp; omega
              have HKN : Hid (k' = n) := Lib.hid (by omega)
              go_wp2_with fail
              rw [hE.out]
              refine (check_any x w10).mono ?_
              rintro e w12 ⟨rfl, hb12⟩
              clear c0 c1 c2 c3 c4 c5
              obtain ⟨c0, c1, c2, c3, c4, c5⟩ := (HG10.out.below hb12 HG10.out.lt).six
              have hz12 := HZ10.out.below hb12 HZ10.out.lt
              have HB12 := Lib.hid (HB10.out.trans (hb12.mono HB10.out.size))
              clear hb12
              by_cases hR : Right x
              · rw [errOf_yes hR]
                have HE : Hid (entryOf l = some x) := Lib.hid (by rw [HEN.out, if_pos ⟨HKN.out, hR⟩])
                obtain ⟨s0, s1, s2, s3, s4, s5⟩ := hz12.six
                have y0 := hz12.frozen 0
                have y1 := hz12.frozen 1
                have y2 := hz12.frozen 2
                have y3 := hz12.frozen 3
                have y4 := hz12.frozen 4
                have y5 := hz12.frozen 5
                have HW := Lib.hid (six_set hz12 x)
                have HBW := Lib.hid (six_low HB12.out (Nat.le_refl _) x)
                clear hz12 hR
                go_wp2_with fail
                generalize ((((((w12.setCell ⟨w.heap.size, 0, none⟩ (.int .i64 x.epoch)).setCell ⟨w.heap.size, 1, none⟩ (.int .i64 x.id)).setCell ⟨w.heap.size, 2, none⟩ (.int .i64 x.num)).setCell ⟨w.heap.size, 3, none⟩ (.int .i64 x.seq)).setCell ⟨w.heap.size, 4, none⟩ (.int .i64 x.kind)).setCell ⟨w.heap.size, 5, none⟩ (.int .i64 x.value)) = W at *
                clear s0 s1 s2 s3 s4 s5 y0 y1 y2 y3 y4 y5 c0 c1 c2 c3 c4 c5
                obtain ⟨r0, r1, r2, r3, r4, r5⟩ := HW.out.six
                refine bodyPost_ret (v := x.val) ?_ rfl ⟨HBW.out, by rw [HE.out]⟩
                simp [results, Try.results68, go_sem, r0, r1, r2, r3, r4, r5, Ent.val, Ent.cells]
              · rw [errOf_no hR]
                have HE : Hid (entryOf l = none) := Lib.hid (by rw [HEN.out, if_neg (fun h => hR h.2)])
                clear hz12 hR
                go_wp2_with fail
                refine ⟨rfl, HB12.out, ?_⟩
                rw [HE.out]
                rfl
    by_cases k3 : kd.toNat = 3
    · skip
      have HEO : Hid (entryOf l = afterKind l kd.toNat (tk (l.drop 1))) := Lib.hid (by rw [HLB.out]; exact entryOf_kind kd b (by omega))
      have HKK : Hid (kd.toNat = 3) := Lib.hid k3
      refine (kind_abort' (by omega) _).mono ?_
      rintro e w4 ⟨rfl, hb4⟩
      have hS4 := hb4.size
      have hW5 : Below w3.heap.size w3 (w4.alloc (.cells #[.func (.func 61) #[] #[], .func (.func 62) #[] #[], .func (.func 63) #[] #[]] 73)) := hb4.alloc hS4 _
      have HK5 := Lib.hid (Blk.new w4 73 #[.func (.func 61) #[] #[], .func (.func 62) #[] #[], .func (.func 63) #[] #[]])
      have HG5 := Lib.hid (hg3.below hW5 hg3.lt)
      have HT5 := Lib.hid (ht3.below hW5 ht3.1.lt)
      have HZ5 := Lib.hid (HZ3.out.below hW5 HZ3.out.lt)
      have HB5 := Lib.hid (HB3.out.trans (hW5.mono HB3.out.size))
      have HBK : Hid (g < w4.heap.size) := Lib.hid (Nat.lt_of_lt_of_le hg3.lt hS4)
      clear hb4 hS4 hW5 ht3 hg3 HZ3 HB3 
      go_wp2_with fail
      generalize w4.alloc (.cells #[.func (.func 61) #[] #[], .func (.func 62) #[] #[], .func (.func 63) #[] #[]] 73) = w5 at *
      generalize w4.heap.size = bk at *
      refine (number_any HT5.out).mono ?_
      rintro e w6 ⟨ho6, hm6⟩
      have HG6 := Lib.hid (ho6.blk HG5.out (by have := HPG.out; omega))
      have HK6 := Lib.hid (ho6.blk HK5.out (by have := HPG.out; have := HBK.out; omega))
      have HZ6 := Lib.hid (ho6.blk HZ5.out (by have := HQ.out; have := HQP.out; omega))
      have HB6 := Lib.hid (HB5.out.trans (ho6.below (by have := HQ.out; have := HQP.out; omega)))
      clear HG5 HK5 HZ5 HB5 HT5 ho6
      rcases htk : tk (l.drop 1) with _ | _ | ⟨ep, j⟩
      · rw [htk] at hm6
        simp only at hm6
        subst hm6
        have HE : Hid (entryOf l = none) := Lib.hid (by rw [HEO.out, htk]; rfl)
        unfold panicE
        go_wp2_with fail
        refine ⟨rfl, HB6.out, ?_⟩
        rw [HE.out]
        rfl
      · rw [htk] at hm6
        simp only at hm6
        subst hm6
        have HE : Hid (entryOf l = none) := Lib.hid (by rw [HEO.out, htk]; rfl)
        unfold panicE
        go_wp2_with fail
        refine ⟨rfl, HB6.out, ?_⟩
        rw [HE.out]
        rfl
      · rw [htk] at hm6
        obtain ⟨rfl, ht6⟩ := hm6
        have e0 : w6.cell? ⟨g, 0, none⟩ = some (.int .i64 0) := HG6.out.cell 0
        have z0 := HG6.out.frozen 0
        have HTK := Lib.hid htk
        have hepb := (tk_drop htk).2.2
        have HG7 : Hid (Blk (w6.setCell ⟨g, 0, none⟩ (.int .i64 (ep : Int))) g 38 (Ent.mk ep 0 0 0 kd.toNat 0).cells) := Lib.hid (HG6.out.set_ 0 _)
        have HK7 := Lib.hid (HK6.out.far (p := ⟨g, 0, none⟩) (by show bk ≠ g; have := HBK.out; omega) (.int .i64 (ep : Int)))
        have HZ7 := Lib.hid (HZ6.out.far (p := ⟨g, 0, none⟩) (by show w.heap.size ≠ g; have := HPG.out; omega) (.int .i64 (ep : Int)))
        have HB7 := Lib.hid (HB6.out.setCell (p := ⟨g, 0, none⟩) (by show w.heap.size ≤ g; have := HPG.out; omega) (.int .i64 (ep : Int)))
        have HT7 := Lib.hid (ht6.below ((Below.refl g w6).setCell (p := ⟨g, 0, none⟩) (Nat.le_refl _) (.int .i64 (ep : Int))) (by have := HPG.out; omega))
        clear HG6 HK6 HZ6 HB6 ht6 htk
        go_wp2_with fail
        clear e0 z0
        generalize w6.setCell ⟨g, 0, none⟩ (.int .i64 (ep : Int)) = w7 at *
        rcases hu2 : l[1 + j]? with _ | i
        · have hkn : 1 + j = n := by
            have := List.getElem?_eq_none_iff.1 hu2
            have := HQP.out.2.2
            have := HT7.out.2.2.2.2.1
            omega
          refine (next_none HT7.out hkn).mono ?_
          rintro e w8 ⟨rfl, rfl⟩
          have HE : Hid (entryOf l = none) := Lib.hid (by rw [HEO.out, HTK.out]; show entryId l kd.toNat ep (1 + j) = _; unfold entryId; rw [hu2])
          unfold panicE
          go_wp2_with fail
          refine ⟨rfl, HB7.out, ?_⟩
          rw [HE.out]
          rfl
        · have HU2 := Lib.hid hu2
          refine (next_some HT7.out hu2).mono ?_
          rintro e w8 ⟨rfl, hw8⟩
          have ht8 := HT7.out.step (1 + j + 1) (by have := (List.getElem?_eq_some_iff.1 hu2).1; have := HQP.out.2.2; omega)
          rw [hw8] at ht8
          have hO8 : Only p w7 w8 := by rw [← hw8]; exact Only.set_ _
          have hib := UInt8.toNat_lt i
          have hg8 := hO8.blk HG7.out (by have := HPG.out; omega)
          have e1 : w8.cell? ⟨g, 1, none⟩ = some (.int .i64 0) := hg8.cell 1
          have z1 := hg8.frozen 1
          have HG9 : Hid (Blk (w8.setCell ⟨g, 1, none⟩ (.int .i64 ((i.toNat : Int) - 1))) g 38 (Ent.mk ep ((i.toNat : Int) - 1) 0 0 kd.toNat 0).cells) := Lib.hid (hg8.set_ 1 _)
          have hk8 := hO8.blk HK7.out (by have := HPG.out; have := HBK.out; omega)
          have d2 : (w8.setCell ⟨g, 1, none⟩ (.int .i64 ((i.toNat : Int) - 1))).cell? ⟨bk, 2, none⟩ = some (.func (.func 63) #[] #[]) := (hk8.far (p := ⟨g, 1, none⟩) (by show bk ≠ g; have := HBK.out; omega) _).cell 2
          have HZ9 := Lib.hid ((hO8.blk HZ7.out (by have := HQ.out; have := HQP.out; omega)).far (p := ⟨g, 1, none⟩) (by show w.heap.size ≠ g; have := HPG.out; omega) (.int .i64 ((i.toNat : Int) - 1)))
          have HB9 := Lib.hid ((HB7.out.trans (hO8.below (by have := HQ.out; have := HQP.out; omega))).setCell (p := ⟨g, 1, none⟩) (by show w.heap.size ≤ g; have := HPG.out; omega) (.int .i64 ((i.toNat : Int) - 1)))
          have HT9 := Lib.hid (ht8.below ((Below.refl g w8).setCell (p := ⟨g, 1, none⟩) (Nat.le_refl _) (.int .i64 ((i.toNat : Int) - 1))) (by have := HPG.out; omega))
          clear HG7 HK7 HZ7 HB7 HT7 hO8 hw8 hu2 hg8 hk8 ht8
          go_wp2_with fail
          clear e1 z1 d2
          generalize w8.setCell ⟨g, 1, none⟩ (.int .i64 ((i.toNat : Int) - 1)) = w9 at *
          refine (takeMarker_any (kd.toNat : Int) ep ((i.toNat : Int) - 1) HT9.out HG9.out HPG.out.1).mono ?_
          rintro e w10 ⟨hb10, hm10⟩
          have HB10 := Lib.hid (HB9.out.trans (hb10.mono (by have := HQ.out; have := HQP.out; omega)))
          rcases htd : markTk (kd.toNat : Int) ep ((i.toNat : Int) - 1) l (1 + j + 1) with _ | ⟨x, k'⟩
          · rw [htd] at hm10
            simp only at hm10
            subst hm10
            have HE : Hid (entryOf l = none) := Lib.hid (by rw [HEO.out, HTK.out]; show entryId l kd.toNat ep (1 + j) = _; unfold entryId; rw [HU2.out]; simp only; rw [HKK.out, if_neg (by omega), ← HKK.out]; exact congrArg (endTk l) htd)
            unfold panicE
            go_wp2_with fail
            refine ⟨rfl, HB10.out, ?_⟩
            rw [HE.out]
            rfl
          · rw [htd] at hm10
            obtain ⟨rfl, ht10, hg10, hs10⟩ := hm10
            have HEN : Hid (entryOf l = if k' = n ∧ Right x then some x else none) := Lib.hid (by
              rw [HEO.out, HTK.out]; show entryId l kd.toNat ep (1 + j) = _; unfold entryId; rw [HU2.out]; simp only; rw [HKK.out, if_neg (by omega), ← HKK.out]
              refine (congrArg (endTk l) htd).trans ?_
              unfold endTk
              rw [HQP.out.2.2])
            have hkn := ht10.2.2.2.2.1
            have hzz : Blk w10 w.heap.size 38 Ent.none_.cells := (hs10 w.heap.size (by have := HQ.out; have := HQP.out; omega) (by have := HPG.out; omega)).trans HZ9.out
            have HZ10 := Lib.hid hzz
            have HG10 := Lib.hid hg10
            obtain ⟨c0, c1, c2, c3, c4, c5⟩ := hg10.six
            have hE : Hid (.agg #[.int .i64 x.epoch, .int .i64 x.id, .int .i64 x.num, .int .i64 x.seq, .int .i64 x.kind, .int .i64 x.value] = x.val) := Lib.hid rfl
            clear hzz hg10 hs10 hb10 htd HB9 HZ9 HG9 HT9 HEO HTK HU2 HLB
            go_wp2_with fail
            refine (taken_any ht10.1).mono ?_
            rintro e w11 ⟨rfl, rfl⟩
            clear ht10
            by_cases hlt : k' < n
            · have hd : decide ((k' : Int) < (n : Int)) = true := by simp; omega
              have HE : Hid (entryOf l = none) := Lib.hid (by rw [HEN.out, if_neg (by omega)])
              go_wp2_with fail
              refine ⟨rfl, HB10.out, ?_⟩
              rw [HE.out]
              rfl
            · have hd : decide ((k' : Int) < (n : Int)) = false := by simp; omega
              have HKN : Hid (k' = n) := Lib.hid (by omega)
              go_wp2_with fail
              rw [hE.out]
              refine (check_any x w10).mono ?_
              rintro e w12 ⟨rfl, hb12⟩
              clear c0 c1 c2 c3 c4 c5
              obtain ⟨c0, c1, c2, c3, c4, c5⟩ := (HG10.out.below hb12 HG10.out.lt).six
              have hz12 := HZ10.out.below hb12 HZ10.out.lt
              have HB12 := Lib.hid (HB10.out.trans (hb12.mono HB10.out.size))
              clear hb12
              by_cases hR : Right x
              · rw [errOf_yes hR]
                have HE : Hid (entryOf l = some x) := Lib.hid (by rw [HEN.out, if_pos ⟨HKN.out, hR⟩])
                obtain ⟨s0, s1, s2, s3, s4, s5⟩ := hz12.six
                have y0 := hz12.frozen 0
                have y1 := hz12.frozen 1
                have y2 := hz12.frozen 2
                have y3 := hz12.frozen 3
                have y4 := hz12.frozen 4
                have y5 := hz12.frozen 5
                have HW := Lib.hid (six_set hz12 x)
                have HBW := Lib.hid (six_low HB12.out (Nat.le_refl _) x)
                clear hz12 hR
                go_wp2_with fail
                generalize ((((((w12.setCell ⟨w.heap.size, 0, none⟩ (.int .i64 x.epoch)).setCell ⟨w.heap.size, 1, none⟩ (.int .i64 x.id)).setCell ⟨w.heap.size, 2, none⟩ (.int .i64 x.num)).setCell ⟨w.heap.size, 3, none⟩ (.int .i64 x.seq)).setCell ⟨w.heap.size, 4, none⟩ (.int .i64 x.kind)).setCell ⟨w.heap.size, 5, none⟩ (.int .i64 x.value)) = W at *
                clear s0 s1 s2 s3 s4 s5 y0 y1 y2 y3 y4 y5 c0 c1 c2 c3 c4 c5
                obtain ⟨r0, r1, r2, r3, r4, r5⟩ := HW.out.six
                refine bodyPost_ret (v := x.val) ?_ rfl ⟨HBW.out, by rw [HE.out]⟩
                simp [results, Try.results68, go_sem, r0, r1, r2, r3, r4, r5, Ent.val, Ent.cells]
              · rw [errOf_no hR]
                have HE : Hid (entryOf l = none) := Lib.hid (by rw [HEN.out, if_neg (fun h => hR h.2)])
                clear hz12 hR
                go_wp2_with fail
                refine ⟨rfl, HB12.out, ?_⟩
                rw [HE.out]
                rfl
    · have HE : Hid (entryOf l = none) := Lib.hid (by rw [HLB.out, entryOf_cons, if_pos (by omega)])
      refine (kind_none (kd.toNat : Int) (by omega) _).mono ?_
      rintro e w4 ⟨rfl, hb4⟩
      have HB5 := Lib.hid (fun o => (HB3.out.trans (hb4.mono HB3.out.size)).alloc (Nat.le_trans HB3.out.size hb4.size) o)
      clear hb4
      go_wp2_with fail
      refine ⟨rfl, HB5.out _, ?_⟩
      rw [HE.out]
      rfl
end Go.Proofs.Ytickdpgfiianjaa
