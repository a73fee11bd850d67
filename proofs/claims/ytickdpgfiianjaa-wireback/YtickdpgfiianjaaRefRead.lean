/-
  What waystationref02.Read answers: the entry with which bytes begin, or why there is none. Condition: fewer than 1000000 bytes.
-/
import Derived.Test.YtickdpgfiianjaaRefEntry
import Derived.Test.YtickdpgfiianjaaRefNum
namespace Go.Proofs.Ytickdpgfiianjaa
open Go.RowKit
theorem framed_iff {l : List UInt8} {u : UInt8} (hu : l[4]? = some u) (h3 : 5 + u.toNat ≤ l.length) :
    (framed ((l.drop 5).take u.toNat) = l.take (5 + u.toNat)) ↔ Crc.sum ((l.drop 5).take u.toNat) = low (l.take 4) := by
  have hs := Crc.sum_lt ((l.drop 5).take u.toNat)
  have hi := low_iff (l.take 4) (by rw [List.length_take]; omega) (Crc.sum ((l.drop 5).take u.toNat)) (by omega)
  rw [← hi]
  have hlen : ((l.drop 5).take u.toNat).length = u.toNat := by rw [List.length_take, List.length_drop]; omega
  have hsp : l.take (5 + u.toNat) = l.take 4 ++ [u] ++ (l.drop 5).take u.toNat := by
    rw [List.take_add, show (5 : Nat) = 4 + 1 from rfl, take_snoc_some hu]
  unfold framed
  rw [hlen, hsp, show UInt8.ofNat u.toNat = u from by simp]
  constructor
  · intro h
    have := congrArg (List.take 4) h
    rw [List.append_assoc, List.append_assoc, List.take_append_of_le_length (by rw [length_les]; omega), List.take_append_of_le_length (by rw [List.length_take]; omega), List.take_of_length_le (by rw [length_les]; omega), List.take_take, Nat.min_self] at this
    exact this
  · intro h; rw [h]
set_option maxRecDepth 100000 in
set_option maxHeartbeats 8000000 in
theorem refRead_any (A : Option Addr) (n c : Nat) (l : List UInt8) (w : World) (hr : Bys w w.heap.size A n l) (hc : n ≤ c) (hn : n < 1000000) :
    Calls Try.prog 33 #[.slice A n c] w (ReadOf w (rd l)) := by
  have HL := Lib.hid hr.1
  have HB0 : Hid (Below w.heap.size w (w.alloc (.cells Ent.none_.cells 38))) := Lib.hid ((Below.refl _ _).alloc (Nat.le_refl _) _)
  have hr0 : Bys (w.alloc (.cells Ent.none_.cells 38)) w.heap.size A n l := (hr.alloc (Nat.le_refl _) _)
  rw [none_zero] at hr0 HB0
  by_cases h5 : n < 5
  · have HRD : Hid (rd l = .err 120) := Lib.hid (rd_short (by rw [hr.1]; exact h5))
    have hd : decide ((n : Int) < 5) = true := by simp; omega
    clear hr hr0
    go_enter Try.func33, Try.ntmps33
    go_wp2_with fail
    refine bodyPost_ret (v := .tuple #[Ent.none_.val, .int .i64 0, .int .i64 120]) ?_ rfl ⟨by rw [HRD.out]; rfl, HB0.out⟩
    simp [results, Try.results33, go_sem, Ent.val, Ent.cells, Ent.none_]
  · obtain ⟨ad, u, rfl, hb, hu, hcell⟩ := hr0.at_ (k := 4) (by omega)
    have hcell' : (w.alloc (.cells #[.int .i64 0, .int .i64 0, .int .i64 0, .int .i64 0, .int .i64 0, .int .i64 0] 38)).cell? ⟨ad.block, ad.off + 4, none⟩ = some (.int .u8 (u.toNat : Int)) := by simpa [Addr.add] using hcell
    clear hcell
    have H5 : Hid (¬ l.length < 5) := Lib.hid (by rw [HL.out]; exact h5)
    have hul := UInt8.toNat_lt u
    have hd : decide ((n : Int) < 5) = false := by simp; omega
    by_cases h2 : u.toNat = 0 ∨ 35 < u.toNat
    · have HRD : Hid (rd l = .err 121) := Lib.hid (rd_size H5.out hu h2)
      clear hr hr0 hu
      rcases h2 with h2 | h2
      · have b1 : ((u.toNat : Int) == 0) = true := by simp [h2]
        clear h2
        go_enter Try.func33, Try.ntmps33
        go_wp2_with fail
        refine bodyPost_ret (v := .tuple #[Ent.none_.val, .int .i64 0, .int .i64 121]) ?_ rfl ⟨by rw [HRD.out]; rfl, HB0.out⟩
        simp [results, Try.results33, go_sem, Ent.val, Ent.cells, Ent.none_]
      · have b1 : ((u.toNat : Int) == 0) = false := by rw [beq_eq_false_iff_ne]; omega
        go_enter Try.func33, Try.ntmps33
        go_wp2_with fail
        refine bodyPost_ret (v := .tuple #[Ent.none_.val, .int .i64 0, .int .i64 121]) ?_ rfl ⟨by rw [HRD.out]; rfl, HB0.out⟩
        simp [results, Try.results33, go_sem, Ent.val, Ent.cells, Ent.none_]
    · have b1 : ((u.toNat : Int) == 0) = false := by rw [beq_eq_false_iff_ne]; omega
      have h35 : ¬ 35 < u.toNat := by omega
      by_cases h3 : n < 5 + u.toNat
      · have HRD : Hid (rd l = .err 120) := Lib.hid (rd_cut H5.out hu h2 (by rw [HL.out]; exact h3))
        clear hr hr0 hu h2
        go_enter Try.func33, Try.ntmps33
        go_wp2_with fail
        refine bodyPost_ret (v := .tuple #[Ent.none_.val, .int .i64 0, .int .i64 120]) ?_ rfl ⟨by rw [HRD.out]; rfl, HB0.out⟩
        simp [results, Try.results33, go_sem, Ent.val, Ent.cells, Ent.none_]
      · have HRD := Lib.hid (rd_rest H5.out hu h2 (by rw [HL.out]; exact h3))
        have HIF := Lib.hid (framed_iff hu (by rw [HL.out]; omega))
        have hsm := slice_mid ad n c 5 (5 + u.toNat) 5 (5 + (u.toNat : Int)) rfl (by omega) (by omega) (by omega) (by omega)
        have hsm2 := sliceAt_mid ad n c 5 (5 + u.toNat) 5 (5 + (u.toNat : Int)) rfl (by omega) (by omega) (by omega) (by omega)
        rw [show 5 + u.toNat - 5 = u.toNat from by omega] at hsm hsm2
        have hu0 : 0 < u.toNat := by omega
        clear hr hu h2
        go_enter Try.func33, Try.ntmps33
        go_wp2_with fail
        clear hcell' b1
        have hZ0 : w.heap.size < (w.alloc (.cells #[.int .i64 0, .int .i64 0, .int .i64 0, .int .i64 0, .int .i64 0, .int .i64 0] 38)).heap.size := by simp
        have HZ1 : Hid (Blk (w.alloc (.cells #[.int .i64 0, .int .i64 0, .int .i64 0, .int .i64 0, .int .i64 0, .int .i64 0] 38)) w.heap.size 38 Ent.none_.cells) := Lib.hid (Blk.new w 38 Ent.none_.cells)
        generalize w.alloc (.cells #[.int .i64 0, .int .i64 0, .int .i64 0, .int .i64 0, .int .i64 0, .int .i64 0] 38) = w1 at *
        have hall : Bys w1 w1.heap.size (some ad) n l := hr0.more (Nat.le_of_lt hZ0)
        have hbody : Bys w1 w1.heap.size (some (ad.add 5)) u.toNat ((l.drop 5).take u.toNat) := mid_bys hall (by omega)
        have hhead : Bys w1 w1.heap.size (some ad) (5 + u.toNat) (l.take (5 + u.toNat)) := hall.first (by omega)
        have hbd : Below w1.heap.size w1 w1.drew := (Below.refl _ _).drew
        clear hall hr0
        have hsl := slice_to (some ad) n c (5 + u.toNat) (5 + (u.toNat : Int)) (by omega) (by omega)
        have hsl2 := sliceAt_to (some ad) n c (5 + u.toNat) (5 + (u.toNat : Int)) (by omega) (by omega)
        have t1 := str_toList (l.take (5 + u.toNat))
        have t2 := str_toList (framed ((l.drop 5).take u.toNat))
        have f1 : IntKind.i64.wrap (5 + (u.toNat : Int)) = 5 + (u.toNat : Int) := IntWalk.i64_in _ (by omega)
        refine wp_region_np ?_
        refine wp_region_held_drew (S := fun W => (convert 22 9 (.slice (some ad) (5 + u.toNat) c)).run Try.prog W = .ok (.string (str (l.take (5 + u.toNat)))) W) (by kernel_rfl) (conv_str _ _ _ _ _ _ hhead.drew) (fun hHeld => ?_)
        refine wpAnyH_takeAt (i := 0) (d := 29) (v := ?va0) rfl rfl (by kernel_rfl) (by kernel_rfl) (by kernel_rfl) (fun _ _ _ h => h) (Or.inl ⟨by rfl, ?hya0⟩) hHeld ?_
        case hya0 => intro W hSw; (try dsimp only at hSw); (go_simp; try with_reducible rfl)
        simp only [List.setIfInBounds_toArray, List.set_cons_zero, List.set_cons_succ]
        refine wpAnyH_takeAt (i := 1) (d := 30) (v := ?va1) rfl rfl (by kernel_rfl) (by kernel_rfl) (by kernel_rfl) (fun _ _ _ h => h) (Or.inl ⟨by rfl, ?hya1⟩) hHeld ?_
        case hya1 => intro W hSw; (try dsimp only at hSw); (go_simp; try with_reducible rfl)
        simp only [List.setIfInBounds_toArray, List.set_cons_zero, List.set_cons_succ]
        refine wpAnyH_takeAt (i := 2) (d := 31) (v := ?va2) rfl rfl (by kernel_rfl) (by kernel_rfl) (by kernel_rfl) (fun _ _ _ h => h) (Or.inl ⟨by rfl, ?hya2⟩) hHeld ?_
        case hya2 => intro W hSw; (try dsimp only at hSw); (go_simp; try with_reducible rfl)
        simp only [List.setIfInBounds_toArray, List.set_cons_zero, List.set_cons_succ]
        refine wpAnyH_takeAt (i := 3) (d := 32) (v := ?va3) rfl rfl (by kernel_rfl) (by kernel_rfl) (by kernel_rfl) (fun _ _ _ h => h) (Or.inl ⟨by rfl, ?hya3⟩) hHeld ?_
        case hya3 => intro W hSw; (try dsimp only at hSw); (go_simp; try with_reducible rfl)
        simp only [List.setIfInBounds_toArray, List.set_cons_zero, List.set_cons_succ]
        refine wpAnyH_takeAt (i := 6) (d := 35) (v := ?va6) rfl rfl (by kernel_rfl) (by kernel_rfl) (by kernel_rfl) (fun _ _ _ h => h) (Or.inl ⟨by rfl, ?hya6⟩) hHeld ?_
        case hya6 => intro W hSw; (try dsimp only at hSw); (go_simp; try with_reducible rfl)
        simp only [List.setIfInBounds_toArray, List.set_cons_zero, List.set_cons_succ]
        refine wpAnyH_takeAt (i := 7) (d := 36) (v := ?va7) rfl rfl (by kernel_rfl) (by kernel_rfl) (by kernel_rfl) (fun _ _ _ h => h) (Or.inl ⟨by rfl, ?hya7⟩) hHeld ?_
        case hya7 => intro W hSw; (try dsimp only at hSw); (go_simp; try with_reducible rfl)
        simp only [List.setIfInBounds_toArray, List.set_cons_zero, List.set_cons_succ]
        refine wpAnyH_takeAt (i := 8) (d := 37) (v := ?va8) rfl rfl (by kernel_rfl) (by kernel_rfl) (by kernel_rfl) (fun _ _ _ h => h) (Or.inl ⟨by rfl, ?hya8⟩) hHeld ?_
        case hya8 => intro W hSw; (try dsimp only at hSw); (go_simp; try with_reducible rfl)
        simp only [List.setIfInBounds_toArray, List.set_cons_zero, List.set_cons_succ]
        refine wpAnyH_takeAt (i := 9) (d := 38) (v := ?va9) rfl rfl (by kernel_rfl) (by kernel_rfl) (by kernel_rfl) (fun _ _ _ h => h) (Or.inl ⟨by rfl, ?hya9⟩) hHeld ?_
        case hya9 => intro W hSw; (try dsimp only at hSw); (go_simp; try with_reducible rfl)
        simp only [List.setIfInBounds_toArray, List.set_cons_zero, List.set_cons_succ]
        refine wpAnyH_takeAt (i := 10) (d := 39) (v := ?va10) rfl rfl (by kernel_rfl) (by kernel_rfl) (by kernel_rfl) (fun _ _ _ h => h) (Or.inl ⟨by rfl, ?hya10⟩) hHeld ?_
        case hya10 => intro W hSw; (try dsimp only at hSw); (go_simp; try with_reducible rfl)
        simp only [List.setIfInBounds_toArray, List.set_cons_zero, List.set_cons_succ]
        refine wpAnyH_ready (rs := [4]) (by kernel_rfl) (by simp) (AllReadyH.cons rfl (fun K hK => ?_) AllReadyH.nil)
        go_simp
        refine (refFramed_any _ u.toNat _ ((l.drop 5).take u.toNat) w1.drew hbody.drew (by omega)).mono ?_
        rintro e w2 ⟨v2, rfl, ho2, hb2⟩
        obtain ⟨A2, q2, c2, rfl, hq2⟩ := ho2.form2
        clear hq2
        have hbw : Below w1.heap.size w1 w2 := hbd.trans hb2
        have q4 := conv_str w2 _ A2 q2 c2 _ ho2.bys
        have HZ2 := Lib.hid (HZ1.out.below hbw HZ1.out.lt)
        have HB2 := Lib.hid (HB0.out.trans (hbw.mono (Nat.le_of_lt hZ0)))
        have hbody2 : Bys w2 w2.heap.size (some (ad.add 5)) u.toNat ((l.drop 5).take u.toNat) := (hbody.below hbw).more hbw.size
        dsimp only
        refine hK.out _ _ (conv_str _ _ _ _ _ _ (hhead.below hbw)) (fun hHeld => ?_)
        clear hK K
        refine wpAnyH_ready (rs := [5]) (by kernel_rfl) (by simp) (AllReadyH.cons rfl (fun K hK => ?_) AllReadyH.nil)
        go_simp
        refine hK.out _ _ hHeld (fun hHeld => ?_)
        clear hK K
        refine wpAnyH_takeAt (i := 11) (d := 40) (v := ?vb11) rfl rfl (by kernel_rfl) (by kernel_rfl) (by kernel_rfl) (fun _ _ _ h => h) (Or.inl ⟨by rfl, ?hyb11⟩) hHeld ?_
        case hyb11 => intro W hSw; (try dsimp only at hSw); (go_simp; try with_reducible rfl)
        simp only [List.setIfInBounds_toArray, List.set_cons_zero, List.set_cons_succ]
        refine wpAnyH_done (by kernel_rfl) ?_ _
        clear hHeld hsl hsl2 q4 hb2 hbw hbd hbody hhead ho2 f1
        have hbq : (!(framed ((l.drop 5).take u.toNat) == l.take (5 + u.toNat))) = decide (Crc.sum ((l.drop 5).take u.toNat) ≠ low (l.take 4)) := by
          rw [Bool.eq_iff_iff, Bool.not_eq_true', beq_eq_false_iff_ne, decide_eq_true_eq, ne_eq, HIF.out]
        clear t1 t2
        rw [hbq]
        clear hbq
        by_cases hne : Crc.sum ((l.drop 5).take u.toNat) ≠ low (l.take 4)
        · rw [if_pos hne] at HRD
          rw [decide_eq_true hne]
          clear hne hsm hsm2
          obtain ⟨s0, s1, s2, s3, s4, s5⟩ := HZ2.out.six
          have y0 := HZ2.out.frozen 0
          have y1 := HZ2.out.frozen 1
          have y2 := HZ2.out.frozen 2
          have y3 := HZ2.out.frozen 3
          have y4 := HZ2.out.frozen 4
          have y5 := HZ2.out.frozen 5
          have HS := six_set HZ2.out Ent.none_
          have HLW := six_low HB2.out (Nat.le_refl _) Ent.none_
          simp only [Ent.none_] at s0 s1 s2 s3 s4 s5 HS HLW
          go_wp2_with fail
          clear s0 s1 s2 s3 s4 s5 y0 y1 y2 y3 y4 y5
          generalize ((((((w2.setCell ⟨w.heap.size, 0, none⟩ (.int .i64 0)).setCell ⟨w.heap.size, 1, none⟩ (.int .i64 0)).setCell ⟨w.heap.size, 2, none⟩ (.int .i64 0)).setCell ⟨w.heap.size, 3, none⟩ (.int .i64 0)).setCell ⟨w.heap.size, 4, none⟩ (.int .i64 0)).setCell ⟨w.heap.size, 5, none⟩ (.int .i64 0)) = w8 at *
          obtain ⟨r0, r1, r2, r3, r4, r5⟩ := HS.six
          refine bodyPost_ret (v := .tuple #[Ent.none_.val, .int .i64 0, .int .i64 110]) ?_ rfl ⟨by rw [HRD.out]; rfl, HLW⟩
          simp [results, Try.results33, go_sem, Ent.val, Ent.cells, Ent.none_, r0, r1, r2, r3, r4, r5]
        · rw [if_neg hne] at HRD
          rw [decide_eq_false hne]
          clear hne
          go_wp2_with fail
          clear hsm hsm2
          refine (refEntry_any _ u.toNat _ ((l.drop 5).take u.toNat) w2 hbody2 hu0 (by omega) (by omega)).mono ?_
          rintro e w3 ⟨hb3, hm3⟩
          have hz3 := HZ2.out.below hb3 HZ2.out.lt
          have HB3 := Lib.hid (HB2.out.trans (hb3.mono HB2.out.size))
          clear hb3
          rcases hen : entryOf ((l.drop 5).take u.toNat) with _ | x
          · rw [hen] at hm3 HRD
            obtain ⟨x, rfl⟩ := hm3
            have hz4 := hz3.alloc (.cells #[.int .i64 x.epoch, .int .i64 x.id, .int .i64 x.num, .int .i64 x.seq, .int .i64 x.kind, .int .i64 x.value] 38)
            have hl4 := HB3.out.alloc HB3.out.size (.cells #[.int .i64 x.epoch, .int .i64 x.id, .int .i64 x.num, .int .i64 x.seq, .int .i64 x.kind, .int .i64 x.value] 38)
            obtain ⟨s0, s1, s2, s3, s4, s5⟩ := hz4.six
            have y0 := hz4.frozen 0
            have y1 := hz4.frozen 1
            have y2 := hz4.frozen 2
            have y3 := hz4.frozen 3
            have y4 := hz4.frozen 4
            have y5 := hz4.frozen 5
            have HS := six_set hz4 Ent.none_
            have HLW := six_low hl4 (Nat.le_refl _) Ent.none_
            clear hen hz3 hz4 hl4
            unfold Ent.val Ent.cells
            simp only [Ent.none_] at s0 s1 s2 s3 s4 s5 HS HLW
            go_wp2_with fail
            clear s0 s1 s2 s3 s4 s5 y0 y1 y2 y3 y4 y5
            generalize (((((((w3.alloc (.cells #[.int .i64 x.epoch, .int .i64 x.id, .int .i64 x.num, .int .i64 x.seq, .int .i64 x.kind, .int .i64 x.value] 38)).setCell ⟨w.heap.size, 0, none⟩ (.int .i64 0)).setCell ⟨w.heap.size, 1, none⟩ (.int .i64 0)).setCell ⟨w.heap.size, 2, none⟩ (.int .i64 0)).setCell ⟨w.heap.size, 3, none⟩ (.int .i64 0)).setCell ⟨w.heap.size, 4, none⟩ (.int .i64 0)).setCell ⟨w.heap.size, 5, none⟩ (.int .i64 0)) = w8 at *
            obtain ⟨r0, r1, r2, r3, r4, r5⟩ := HS.six
            refine bodyPost_ret (v := .tuple #[Ent.none_.val, .int .i64 0, .int .i64 121]) ?_ rfl ⟨by rw [HRD.out]; rfl, HLW⟩
            simp [results, Try.results33, go_sem, Ent.val, Ent.cells, Ent.none_, r0, r1, r2, r3, r4, r5]
          · rw [hen] at hm3 HRD
            simp only at hm3
            subst hm3
            have hz4 := hz3.alloc (.cells #[.int .i64 x.epoch, .int .i64 x.id, .int .i64 x.num, .int .i64 x.seq, .int .i64 x.kind, .int .i64 x.value] 38)
            have hl4 := HB3.out.alloc HB3.out.size (.cells #[.int .i64 x.epoch, .int .i64 x.id, .int .i64 x.num, .int .i64 x.seq, .int .i64 x.kind, .int .i64 x.value] 38)
            have hx4 : Blk (w3.alloc (.cells #[.int .i64 x.epoch, .int .i64 x.id, .int .i64 x.num, .int .i64 x.seq, .int .i64 x.kind, .int .i64 x.value] 38)) w3.heap.size 38 x.cells := Blk.new w3 38 x.cells
            have hlt3 : w.heap.size ≠ w3.heap.size := Nat.ne_of_lt hz3.lt
            obtain ⟨s0, s1, s2, s3, s4, s5⟩ := hz4.six
            have y0 := hz4.frozen 0
            have y1 := hz4.frozen 1
            have y2 := hz4.frozen 2
            have y3 := hz4.frozen 3
            have y4 := hz4.frozen 4
            have y5 := hz4.frozen 5
            have HS := six_set hz4 x
            have HLW := six_low hl4 (Nat.le_refl _) x
            simp only [Ent.none_] at s0 s1 s2 s3 s4 s5
            clear hen hz3 hz4 hl4 hx4 hlt3
            unfold Ent.val Ent.cells
            go_wp2_with fail
            clear s0 s1 s2 s3 s4 s5 y0 y1 y2 y3 y4 y5
            generalize (((((((w3.alloc (.cells #[.int .i64 x.epoch, .int .i64 x.id, .int .i64 x.num, .int .i64 x.seq, .int .i64 x.kind, .int .i64 x.value] 38)).setCell ⟨w.heap.size, 0, none⟩ (.int .i64 x.epoch)).setCell ⟨w.heap.size, 1, none⟩ (.int .i64 x.id)).setCell ⟨w.heap.size, 2, none⟩ (.int .i64 x.num)).setCell ⟨w.heap.size, 3, none⟩ (.int .i64 x.seq)).setCell ⟨w.heap.size, 4, none⟩ (.int .i64 x.kind)).setCell ⟨w.heap.size, 5, none⟩ (.int .i64 x.value)) = w8 at *
            obtain ⟨r0, r1, r2, r3, r4, r5⟩ := HS.six
            refine bodyPost_ret (v := .tuple #[x.val, .int .i64 ((5 + u.toNat : Nat) : Int), .int .i64 0]) ?_ rfl ⟨by rw [HRD.out]; rfl, HLW⟩
            simp [results, Try.results33, go_sem, Ent.val, Ent.cells, r0, r1, r2, r3, r4, r5]
end Go.Proofs.Ytickdpgfiianjaa
