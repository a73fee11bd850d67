/-
  What wire.frame answers: the entry of the frame with which bytes begin, or that it gives up. Condition: fewer than 1000000 bytes.
-/
import Derived.Test.YtickdpgfiianjaaEntryOf
import Derived.Test.YtickdpgfiianjaaLow
namespace Go.Proofs.Ytickdpgfiianjaa
open Go.RowKit
/-- What is known behind wire.frame. -/
def Readed (w : World) (o : Rd) (r : Ending) (w' : World) : Prop :=
  Below w.heap.size w w' ∧ match o with
  | .ok e k => r = .returned (.tuple #[e.val, .int .i64 (k : Int)])
  | .err c => r = panicE (c : Int)
theorem slice_mid (ad : Addr) (n c i j : Nat) (x y : Int) (hx : x = (i : Int)) (hy : y = (j : Int)) (hi : i ≤ j) (hj : j ≤ c) (hc : i < c) (W : World) : (Instr.slice 22 (.slice (some ad) n c) (some (.int .i64 x)) (some (.int .i64 y)) none).run Try.prog W = .ok (.slice (some (ad.add i)) (j - i) (c - i)) W := by
  subst hx hy
  obtain ⟨k, hk, hz0, hz1, hz2⟩ := info_parts info5
  have hne : c ≠ i := by omega
  simp [Instr.slice, run_underlying Try.underlying22, Instr.sliceBounds, Instr.sliceBound, asIntOf, hj, hi, sizeOf, typeInfo, hk]
  rw [if_neg hne, hz1, Nat.mul_one]
theorem sliceAt_mid (ad : Addr) (n c i j : Nat) (x y : Int) (hx : x = (i : Int)) (hy : y = (j : Int)) (hi : i ≤ j) (hj : j ≤ c) (hc : i < c) (W : World) : (Instr.sliceAt 22 (.slice (some ad) n c) (some (.int .i64 x)) (some (.int .i64 y)) none).run Try.prog W = .ok (.slice (some (ad.add i)) (j - i) (c - i)) W := by
  rw [← slice_mid ad n c i j x y hx hy hi hj hc W]
  simp [Instr.sliceAt, run_underlying Try.underlying22]
theorem mid_bys {w : World} {B n i k : Nat} {ad : Addr} {l : List UInt8} (h : Bys w B (some ad) n l) (hk : i + k ≤ n) : Bys w B (some (ad.add i)) k ((l.drop i).take k) := by
  refine ⟨by rw [List.length_take, List.length_drop, h.1]; omega, fun h0 => ⟨_, rfl, ?_, fun j u hu => ?_⟩⟩
  · obtain ⟨ad', e, hb, _⟩ := h.2 (by omega)
    injection e with e
    subst e
    rw [block_of_add]; exact hb
  · obtain ⟨ad', e, hb, hc⟩ := h.2 (by omega)
    injection e with e
    subst e
    rw [add_of_add]
    refine hc _ u ?_
    rw [List.getElem?_take] at hu
    split at hu
    · rw [← hu, List.getElem?_drop]
    · cases hu
theorem rd_short {l : List UInt8} (h : l.length < 5) : rd l = .err 120 := if_pos h
theorem rd_size {l : List UInt8} {u : UInt8} (h : ¬ l.length < 5) (hu : l[4]? = some u) (h2 : u.toNat = 0 ∨ 35 < u.toNat) : rd l = .err 121 := by
  unfold rd
  rw [if_neg h, show l.getD 4 0 = u from by rw [List.getD_eq_getElem?_getD, hu]; rfl, if_pos h2]
theorem rd_cut {l : List UInt8} {u : UInt8} (h : ¬ l.length < 5) (hu : l[4]? = some u) (h2 : ¬ (u.toNat = 0 ∨ 35 < u.toNat)) (h3 : l.length < 5 + u.toNat) : rd l = .err 120 := by
  unfold rd
  rw [if_neg h, show l.getD 4 0 = u from by rw [List.getD_eq_getElem?_getD, hu]; rfl, if_neg h2, if_pos h3]
theorem rd_rest {l : List UInt8} {u : UInt8} (h : ¬ l.length < 5) (hu : l[4]? = some u) (h2 : ¬ (u.toNat = 0 ∨ 35 < u.toNat)) (h3 : ¬ l.length < 5 + u.toNat) :
    rd l = if Crc.sum ((l.drop 5).take u.toNat) ≠ low (l.take 4) then .err 110 else match entryOf ((l.drop 5).take u.toNat) with | none => .err 121 | some e => .ok e (5 + u.toNat) := by
  unfold rd
  rw [if_neg h, show l.getD 4 0 = u from by rw [List.getD_eq_getElem?_getD, hu]; rfl, if_neg h2, if_neg h3]
  have hs := Crc.sum_lt ((l.drop 5).take u.toNat)
  have hi := low_iff (l.take 4) (by rw [List.length_take]; omega) (Crc.sum ((l.drop 5).take u.toNat)) (by omega)
  by_cases hh : Crc.sum ((l.drop 5).take u.toNat) = low (l.take 4)
  · rw [if_neg (by rw [ne_eq, hi]; simpa using hh), if_neg (by simpa using hh)]
    rcases entryOf ((l.drop 5).take u.toNat) with _ | e <;> rfl
  · rw [if_pos (by rw [ne_eq, hi]; exact hh), if_pos hh]
set_option maxRecDepth 100000 in
set_option maxHeartbeats 8000000 in
theorem frame_in (A : Option Addr) (n c : Nat) (l : List UInt8) (w : World) (hr : Bys w w.heap.size A n l) (hc : n ≤ c) (hn : n < 1000000) :
    Calls Try.prog 50 #[.slice A n c] w (Readed w (rd l)) := by
  have HL := Lib.hid hr.1
  have HZ0 := Lib.hid (Blk.new w 38 Ent.none_.cells)
  have HB0 : Hid (Below w.heap.size w (w.alloc (.cells Ent.none_.cells 38))) := Lib.hid ((Below.refl _ _).alloc (Nat.le_refl _) _)
  have hr0 : Bys (w.alloc (.cells Ent.none_.cells 38)) w.heap.size A n l := (hr.alloc (Nat.le_refl _) _)
  rw [none_zero] at hr0
  by_cases h5 : n < 5
  · have HRD : Hid (rd l = .err 120) := Lib.hid (rd_short (by rw [hr.1]; exact h5))
    have hd : decide ((n : Int) < 5) = true := by simp; omega
    clear hr hr0
    go_enter Try.func50, Try.ntmps50
    go_wp2_with fail
    refine ⟨rfl, HB0.out, ?_⟩
    rw [HRD.out]
    rfl
  · obtain ⟨ad, u, rfl, hb, hu, hcell⟩ := hr0.at_ (k := 4) (by omega)
    have hcell' : (w.alloc (.cells #[.int .i64 0, .int .i64 0, .int .i64 0, .int .i64 0, .int .i64 0, .int .i64 0] 38)).cell? ⟨ad.block, ad.off + 4, none⟩ = some (.int .u8 (u.toNat : Int)) := by simpa [Addr.add] using hcell
    clear hcell
    have H5 : Hid (¬ l.length < 5) := Lib.hid (by rw [HL.out]; exact h5)
    have hul := UInt8.toNat_lt u
    have hd : decide ((n : Int) < 5) = false := by simp; omega
    by_cases h2 : u.toNat = 0 ∨ 35 < u.toNat
    · have HRD : Hid (rd l = .err 121) := Lib.hid (rd_size H5.out hu h2)
      clear hr hr0 hu
      rcases h2 with h2 | h2
      · have b1 : ((u.toNat : Int) == 0) = true := by simp [h2]
        clear h2
        go_enter Try.func50, Try.ntmps50
        go_wp2_with fail
        refine ⟨rfl, HB0.out, ?_⟩
        rw [HRD.out]
        rfl
      · have b1 : ((u.toNat : Int) == 0) = false := by rw [beq_eq_false_iff_ne]; omega
        go_enter Try.func50, Try.ntmps50
        go_wp2_with fail
        refine ⟨rfl, HB0.out, ?_⟩
        rw [HRD.out]
        rfl
    · have b1 : ((u.toNat : Int) == 0) = false := by rw [beq_eq_false_iff_ne]; omega
      have h35 : ¬ 35 < u.toNat := by omega
      by_cases h3 : n < 5 + u.toNat
      · have HRD : Hid (rd l = .err 120) := Lib.hid (rd_cut H5.out hu h2 (by rw [HL.out]; exact h3))
        clear hr hr0 hu h2
        go_enter Try.func50, Try.ntmps50
        go_wp2_with fail
        refine ⟨rfl, HB0.out, ?_⟩
        rw [HRD.out]
        rfl
      · have HRD := Lib.hid (rd_rest H5.out hu h2 (by rw [HL.out]; exact h3))
        have hsm := slice_mid ad n c 5 (5 + u.toNat) 5 (5 + (u.toNat : Int)) rfl (by omega) (by omega) (by omega) (by omega)
        have hsm2 := sliceAt_mid ad n c 5 (5 + u.toNat) 5 (5 + (u.toNat : Int)) rfl (by omega) (by omega) (by omega) (by omega)
        rw [show 5 + u.toNat - 5 = u.toNat from by omega] at hsm hsm2
        clear hr hu h2
        go_enter Try.func50, Try.ntmps50
        go_wp2_with fail
        clear hsm hsm2 hcell' b1
        have hZ0 : w.heap.size < (w.alloc (.cells #[.int .i64 0, .int .i64 0, .int .i64 0, .int .i64 0, .int .i64 0, .int .i64 0] 38)).heap.size := by simp
        rw [none_zero] at HB0
        have HZ1 : Hid (Blk (w.alloc (.cells #[.int .i64 0, .int .i64 0, .int .i64 0, .int .i64 0, .int .i64 0, .int .i64 0] 38)) w.heap.size 38 Ent.none_.cells) := Lib.hid (Blk.new w 38 Ent.none_.cells)
        clear HZ0
        generalize w.alloc (.cells #[.int .i64 0, .int .i64 0, .int .i64 0, .int .i64 0, .int .i64 0, .int .i64 0] 38) = w1 at *
        have hall : Bys w1 w1.heap.size (some ad) n l := hr0.more (Nat.le_of_lt hZ0)
        have hbody : Bys w1 w1.heap.size (some (ad.add 5)) u.toNat ((l.drop 5).take u.toNat) := mid_bys hall (by omega)
        have hhead : Bys w1 w1.heap.size (some ad) 4 (l.take 4) := hall.first (by omega)
        have hsl := slice_to (some ad) n c 4 4 rfl (by omega)
        have hsl2 := sliceAt_to (some ad) n c 4 4 rfl (by omega)
        have hbd : Below w1.heap.size w1 w1.drew := (Below.refl _ _).drew
        clear hall hr0
        refine wp_region_np ?_
        refine wp_region_held_drew (S := fun _ => True) (by kernel_rfl) trivial (fun hHeld => ?_)
        refine wpAnyH_takeAt (i := 0) (d := 32) (v := ?va0) rfl rfl (by kernel_rfl) (by kernel_rfl) (by kernel_rfl) (fun _ _ _ h => h) (Or.inl ⟨by rfl, ?hya0⟩) hHeld ?_
        case hya0 => intro W hSw; (try dsimp only at hSw); (go_simp; try with_reducible rfl)
        simp only [List.setIfInBounds_toArray, List.set_cons_zero, List.set_cons_succ]
        refine wpAnyH_takeAt (i := 2) (d := 34) (v := ?va2) rfl rfl (by kernel_rfl) (by kernel_rfl) (by kernel_rfl) (fun _ _ _ h => h) (Or.inl ⟨by rfl, ?hya2⟩) hHeld ?_
        case hya2 => intro W hSw; (try dsimp only at hSw); (go_simp; try with_reducible rfl)
        simp only [List.setIfInBounds_toArray, List.set_cons_zero, List.set_cons_succ]
        refine wpAnyH_takeAt (i := 3) (d := 35) (v := ?va3) rfl rfl (by kernel_rfl) (by kernel_rfl) (by kernel_rfl) (fun _ _ _ h => h) (Or.inl ⟨by rfl, ?hya3⟩) hHeld ?_
        case hya3 => intro W hSw; (try dsimp only at hSw); (go_simp; try with_reducible rfl)
        simp only [List.setIfInBounds_toArray, List.set_cons_zero, List.set_cons_succ]
        refine wpAnyH_ready (rs := [1]) (by kernel_rfl) (by simp) (AllReadyH.cons rfl (fun K hK => ?_) AllReadyH.nil)
        · go_simp
          refine (sum_any _ u.toNat _ ((l.drop 5).take u.toNat) w1.drew hbody.drew (by omega)).mono ?_
          rintro e w2 ⟨rfl, hb2⟩
          have hbw : Below w1.heap.size w1 w2 := hbd.trans hb2
          have HZ2 := Lib.hid (HZ1.out.below hbw HZ1.out.lt)
          have HB2 := Lib.hid (HB0.out.trans (hbw.mono (Nat.le_of_lt hZ0)))
          have hbody2 : Bys w2 w2.heap.size (some (ad.add 5)) u.toNat ((l.drop 5).take u.toNat) := (hbody.below hbw).more hbw.size
          dsimp only
          refine hK.out _ _ trivial (fun hHeld => ?_)
          clear hK K
          refine wpAnyH_ready (rs := [4]) (by kernel_rfl) (by simp) (AllReadyH.cons rfl (fun K hK => ?_) AllReadyH.nil)
          go_simp
          refine (lowAhead_any _ _ _ (l.take 4) w2 (hhead.below hbw)).mono ?_
          rintro e w3 ⟨rfl, rfl⟩
          dsimp only
          refine hK.out _ _ trivial (fun hHeld => ?_)
          clear hK K
          refine wpAnyH_takeAt (i := 5) (d := 37) (v := ?vb5) rfl rfl (by kernel_rfl) (by kernel_rfl) (by kernel_rfl) (fun _ _ _ h => h) (Or.inl ⟨by rfl, ?hyb5⟩) hHeld ?_
          case hyb5 => intro W hSw; (try dsimp only at hSw); (go_simp; try with_reducible rfl)
          simp only [List.setIfInBounds_toArray, List.set_cons_zero, List.set_cons_succ]
          refine wpAnyH_done (by kernel_rfl) ?_ _
          clear hHeld hsl hsl2
          by_cases hne : Crc.sum ((l.drop 5).take u.toNat) = low (l.take 4)
          · have bne1 : (((Crc.sum ((l.drop 5).take u.toNat) : Nat) : Int) != ((low (l.take 4) : Nat) : Int)) = false := by rw [hne]; simp
            rw [if_neg (by simpa using hne)] at HRD
            clear hne
            go_wp2_with fail
            clear bne1
            refine (entry_any _ u.toNat _ ((l.drop 5).take u.toNat) w2 hbody2 (by omega)).mono ?_
            rintro e w3 ⟨hb3, hm3⟩
            have hz3 := HZ2.out.below hb3 HZ2.out.lt
            have HB3 := Lib.hid (HB2.out.trans (hb3.mono HB2.out.size))
            clear hb3
            rcases hen : entryOf ((l.drop 5).take u.toNat) with _ | x
            · rw [hen] at hm3 HRD
              simp only at hm3
              subst hm3
              unfold panicE
              clear hz3
              go_wp2_with fail
              refine ⟨rfl, HB3.out, ?_⟩
              rw [HRD.out]
              rfl
            · rw [hen] at hm3 HRD
              simp only at hm3
              subst hm3
              obtain ⟨s0, s1, s2, s3, s4, s5⟩ := hz3.six
              have y0 := hz3.frozen 0
              have y1 := hz3.frozen 1
              have y2 := hz3.frozen 2
              have y3 := hz3.frozen 3
              have y4 := hz3.frozen 4
              have y5 := hz3.frozen 5
              have HW := Lib.hid (six_set hz3 x)
              have HBW := Lib.hid (six_low HB3.out (Nat.le_refl _) x)
              unfold Ent.val Ent.cells
              clear hz3 hen
              go_wp2_with fail
              generalize ((((((w3.setCell ⟨w.heap.size, 0, none⟩ (.int .i64 x.epoch)).setCell ⟨w.heap.size, 1, none⟩ (.int .i64 x.id)).setCell ⟨w.heap.size, 2, none⟩ (.int .i64 x.num)).setCell ⟨w.heap.size, 3, none⟩ (.int .i64 x.seq)).setCell ⟨w.heap.size, 4, none⟩ (.int .i64 x.kind)).setCell ⟨w.heap.size, 5, none⟩ (.int .i64 x.value)) = W at *
              clear s0 s1 s2 s3 s4 s5 y0 y1 y2 y3 y4 y5
              obtain ⟨r0, r1, r2, r3, r4, r5⟩ := HW.out.six
              refine bodyPost_ret (v := .tuple #[x.val, .int .i64 ((5 + u.toNat : Nat) : Int)]) ?_ rfl ⟨HBW.out, by rw [HRD.out]⟩
              simp [results, Try.results50, go_sem, r0, r1, r2, r3, r4, r5, Ent.val, Ent.cells]
          · have bne1 : (((Crc.sum ((l.drop 5).take u.toNat) : Nat) : Int) != ((low (l.take 4) : Nat) : Int)) = true := bne_iff_ne.2 (by omega)
            rw [if_pos hne] at HRD
            clear hne
            go_wp2_with fail
            refine ⟨rfl, HB2.out, ?_⟩
            rw [HRD.out]
            rfl
end Go.Proofs.Ytickdpgfiianjaa
