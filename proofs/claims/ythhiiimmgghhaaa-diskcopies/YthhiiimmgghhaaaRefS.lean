/-
  The document's Same, of disks that are the same or of which unlike many things wait. Conditions: bounds.
-/
import Derived.Test.YthhiiimmgghhaaaCopyD
namespace Go.Proofs.Ythhiiimmgghhaaa
open Go.RowKit
set_option maxRecDepth 100000 in
set_option maxHeartbeats 8000000 in
theorem refSame_any {w : World} {X X' : Nat → Prop} {d d' : RDk} {cs cs' : Array Value} (h : RDAt w X d cs) (h' : RDAt w X' d' cs') (hok : d.ok) (hok' : d'.ok) (hr : d.room = d'.room) (hc : d = d' ∨ d.waits.length ≠ d'.waits.length) :
    Calls Try.prog 36 #[.agg cs, .agg cs'] w fun e w' => e = .returned (.bool (decide (d.waits.length = d'.waits.length))) ∧ Below w.heap.size w w' := by
  obtain ⟨A, n, c, B, m, k0, rfl, hl, hnc, hcm, ht, hmk, hkm⟩ := h
  obtain ⟨A', n', c', B', m', k0', rfl, hl', hnc', hcm', ht', hmk', hkm'⟩ := h'
  have hz := hok.2.2
  have hz' := hok'.2.2
  unfold St.size RDk.st at hz hz'
  simp only [List.length_map] at hz hz'
  have HL := Lib.hid hl
  have HL' := Lib.hid hl'
  have HT := Lib.hid ht
  have HT' := Lib.hid ht'
  have HM := Lib.hid ht.len
  have HM' := Lib.hid ht'.len
  have hn9 : n ≤ 900000 := by have := hl.len; omega
  have hn9' : n' ≤ 900000 := by have := hl'.len; omega
  have hm9 : m ≤ 900000 := by have := ht.len; omega
  rw [hr]
  clear hl hl' ht ht' hz hz' hok hok' hr
  go_enter Try.func36, Try.ntmps36
  have a1 : Blk ((w.alloc (.cells #[.int .i64 (d'.room : Int), .slice A n c, .slice B m k0] 29)).alloc (.cells #[.int .i64 (d'.room : Int), .slice A' n' c', .slice B' m' k0'] 29)) w.heap.size 29 #[.int .i64 (d'.room : Int), .slice A n c, .slice B m k0] := (Blk.new _ _ _).alloc _
  have b1 : Blk ((w.alloc (.cells #[.int .i64 (d'.room : Int), .slice A n c, .slice B m k0] 29)).alloc (.cells #[.int .i64 (d'.room : Int), .slice A' n' c', .slice B' m' k0'] 29)) (w.heap.size + 1) 29 #[.int .i64 (d'.room : Int), .slice A' n' c', .slice B' m' k0'] := by
    have := Blk.new (w.alloc (.cells #[.int .i64 (d'.room : Int), .slice A n c, .slice B m k0] 29)) 29 #[.int .i64 (d'.room : Int), .slice A' n' c', .slice B' m' k0']
    rwa [World.size_alloc] at this
  have hb1 : Below w.heap.size w ((w.alloc (.cells #[.int .i64 (d'.room : Int), .slice A n c, .slice B m k0] 29)).alloc (.cells #[.int .i64 (d'.room : Int), .slice A' n' c', .slice B' m' k0'] 29)) := ((Below.refl _ _).alloc (Nat.le_refl _) _).alloc (by simp) _
  go_wp2_with fail
  generalize ((w.alloc (.cells #[.int .i64 (d'.room : Int), .slice A n c, .slice B m k0] 29)).alloc (.cells #[.int .i64 (d'.room : Int), .slice A' n' c', .slice B' m' k0'] 29)) = w1 at *
  refine (sameFiles_any (HL.out.below hb1) (HL'.out.below hb1) (by omega) (by omega)).mono ?_
  rintro e w2 ⟨rfl, hb2⟩
  have hbw2 := hb1.trans (hb2.mono hb1.size)
  have HA2 := Lib.hid (a1.below hb2 a1.lt)
  have HB2 := Lib.hid (b1.below hb2 b1.lt)
  obtain ⟨x0, x1, x2⟩ := HA2.out.three
  obtain ⟨y0, y1, y2⟩ := HB2.out.three
  clear a1 b1 hb1 hb2
  by_cases hll : d.lasts = d'.lasts
  case neg =>
    have hne : d.waits.length ≠ d'.waits.length := hc.resolve_left (fun e => hll (by rw [e]))
    have hdl : decide (d.lasts = d'.lasts) = false := by simpa using hll
    rw [hdl]
    go_wp2_with fail
    go_ret
    exact ⟨by rw [decide_eq_false hne]; rfl, hbw2⟩
  case pos =>
  have hdl : decide (d.lasts = d'.lasts) = true := by simpa using hll
  rw [hdl]
  clear hll hdl
  rcases hc with hc | hc
  case inr =>
    have hmm : (!((m : Int) == (m' : Int))) = true := by have h1 := HM.out; have h2 := HM'.out; simp; omega
    have hmm2 : ¬ (m : Int) = (m' : Int) := by have h1 := HM.out; have h2 := HM'.out; omega
    go_wp2_with fail
    go_ret
    exact ⟨by rw [decide_eq_false hc]; rfl, hbw2⟩
  case inl =>
  subst hc
  obtain rfl : m' = m := by rw [← HM.out, ← HM'.out]
  have HZ2 := Lib.hid HB2.out.lt
  have HBW := Lib.hid hbw2
  clear x0 x1 x2 y0 y1 y2 hbw2
  obtain ⟨x0, x1, x2⟩ := HA2.out.three
  obtain ⟨y0, y1, y2⟩ := HB2.out.three
  go_wp2_with fail
  clear x0 x1 x2 y0 y1 y2
  go_loopw [5, 6, 7] (fun i _ _ wr => ∃ k : Nat, k ≤ m' ∧ i = .int .i64 k ∧ Below w2.heap.size w2 wr) (fun i _ _ _ => m' - (intOf i).toNat)
  case atStart => exact ⟨0, by omega, rfl, Below.refl _ _⟩
  case round =>
    obtain ⟨j, hj, rfl, hbl⟩ := hrel
    have HBL := Lib.hid hbl
    have HAr := Lib.hid (HA2.out.below hbl HA2.out.lt)
    have HBr := Lib.hid (HB2.out.below hbl HB2.out.lt)
    have HWr := Lib.hid (HBW.out.trans (hbl.mono HBW.out.size))
    obtain ⟨x0, x1, x2⟩ := HAr.out.three
    obtain ⟨y0, y1, y2⟩ := HBr.out.three
    clear hbl
    by_cases hlt : j < m'
    case neg =>
      have hd1 : decide (j < m') = false := by simpa using hlt
      go_wp2_with fail
      go_ret
      exact ⟨by simp, HWr.out⟩
    case pos =>
    have hjl : j < d.waits.length := by have := HM.out; omega
    obtain ⟨ad, B1, q1, c1, rfl, ha1, p0, p1, p2, p3, hy1, hq1, hc1⟩ := HT.out.at_ hjl
    obtain ⟨ae, B2, q2, c2, rfl, ha2, r0, r1, r2, r3, hy2, hq2, hc2⟩ := HT'.out.at_ hjl
    have HC1 : Hid (∀ W, Below w.heap.size w W → W.cell? (ad.add (j * 4)) = some (.int .i64 d.waits[j].what) ∧ W.cell? ⟨(ad.add (j * 4)).block, (ad.add (j * 4)).off + 1, none⟩ = some (.string (str d.waits[j].name)) ∧ W.cell? ⟨(ad.add (j * 4)).block, (ad.add (j * 4)).off + 2, none⟩ = some (.slice B1 q1 c1) ∧ W.cell? ⟨(ad.add (j * 4)).block, (ad.add (j * 4)).off + 3, none⟩ = some (.int .i64 d.waits[j].n)) := Lib.hid (fun W hW =>
        ⟨(hW.cell (p := ad.add (j * 4)) (by rw [block_of_add]; exact ha1)).trans p0, (hW.cell (p := ⟨(ad.add (j * 4)).block, (ad.add (j * 4)).off + 1, none⟩) (by show (ad.add (j * 4)).block < _; rw [block_of_add]; exact ha1)).trans p1, (hW.cell (p := ⟨(ad.add (j * 4)).block, (ad.add (j * 4)).off + 2, none⟩) (by show (ad.add (j * 4)).block < _; rw [block_of_add]; exact ha1)).trans p2, (hW.cell (p := ⟨(ad.add (j * 4)).block, (ad.add (j * 4)).off + 3, none⟩) (by show (ad.add (j * 4)).block < _; rw [block_of_add]; exact ha1)).trans p3⟩)
    have HC2 : Hid (∀ W, Below w.heap.size w W → W.cell? (ae.add (j * 4)) = some (.int .i64 d.waits[j].what) ∧ W.cell? ⟨(ae.add (j * 4)).block, (ae.add (j * 4)).off + 1, none⟩ = some (.string (str d.waits[j].name)) ∧ W.cell? ⟨(ae.add (j * 4)).block, (ae.add (j * 4)).off + 2, none⟩ = some (.slice B2 q2 c2) ∧ W.cell? ⟨(ae.add (j * 4)).block, (ae.add (j * 4)).off + 3, none⟩ = some (.int .i64 d.waits[j].n)) := Lib.hid (fun W hW =>
        ⟨(hW.cell (p := ae.add (j * 4)) (by rw [block_of_add]; exact ha2)).trans r0, (hW.cell (p := ⟨(ae.add (j * 4)).block, (ae.add (j * 4)).off + 1, none⟩) (by show (ae.add (j * 4)).block < _; rw [block_of_add]; exact ha2)).trans r1, (hW.cell (p := ⟨(ae.add (j * 4)).block, (ae.add (j * 4)).off + 2, none⟩) (by show (ae.add (j * 4)).block < _; rw [block_of_add]; exact ha2)).trans r2, (hW.cell (p := ⟨(ae.add (j * 4)).block, (ae.add (j * 4)).off + 3, none⟩) (by show (ae.add (j * 4)).block < _; rw [block_of_add]; exact ha2)).trans r3⟩)
    have HY1 := Lib.hid hy1
    have HY2 := Lib.hid hy2
    clear p0 p1 p2 p3 r0 r1 r2 r3 hy1 hy2
    go_wp2_with fail
    clear x0 x1 x2 y0 y1 y2
    have HWd : Hid (Below w.heap.size w wr.drew) := Lib.hid HWr.out.drew
    have HBd : Hid (Below w2.heap.size w2 wr.drew) := Lib.hid HBL.out.drew
    have HAd := Lib.hid HAr.out.drew
    have HBq := Lib.hid HBr.out.drew
    refine wp_region_np ?_
    refine wp_region_held_drew (S := fun W => Below w.heap.size w W ∧ Below w2.heap.size w2 W) (by kernel_rfl) ⟨HWd.out, HBd.out⟩ (fun hHeld => ?_)
    generalize wr.drew = w0 at *
    refine wpAnyH_takeAt (i := 0) (d := 37) (v := ?vq0x) rfl rfl (by kernel_rfl) (by kernel_rfl) (by kernel_rfl) (fun _ _ _ h => h) (Or.inl ⟨by rfl, ?hyq0x⟩) hHeld ?_
    case hyq0x =>
      intro W hSw
      clear hSw
      (go_simp; try with_reducible rfl)
    simp only [List.setIfInBounds_toArray, List.set_cons_zero, List.set_cons_succ]
    refine wpAnyH_takeAt (i := 1) (d := 38) (v := ?vq1x) rfl rfl (by kernel_rfl) (by kernel_rfl) (by kernel_rfl) (fun _ _ _ h => h) (Or.inl ⟨by rfl, ?hyq1x⟩) hHeld ?_
    case hyq1x =>
      intro W hSw
      obtain ⟨e0, e1, e2⟩ := Blk.three (HA2.out.below hSw.2 HA2.out.lt)
      (go_simp; try with_reducible rfl)
    simp only [List.setIfInBounds_toArray, List.set_cons_zero, List.set_cons_succ]
    refine wpAnyH_takeAt (i := 2) (d := 39) (v := ?vq2x) rfl rfl (by kernel_rfl) (by kernel_rfl) (by kernel_rfl) (fun _ _ _ h => h) (Or.inl ⟨by rfl, ?hyq2x⟩) hHeld ?_
    case hyq2x =>
      intro W hSw
      clear hSw
      (go_simp; try with_reducible rfl)
    simp only [List.setIfInBounds_toArray, List.set_cons_zero, List.set_cons_succ]
    refine wpAnyH_takeAt (i := 3) (d := 40) (v := ?vq3x) rfl rfl (by kernel_rfl) (by kernel_rfl) (by kernel_rfl) (fun _ _ _ h => h) (Or.inl ⟨by rfl, ?hyq3x⟩) hHeld ?_
    case hyq3x =>
      intro W hSw
      clear hSw
      (go_simp; try with_reducible rfl)
    simp only [List.setIfInBounds_toArray, List.set_cons_zero, List.set_cons_succ]
    refine wpAnyH_takeAt (i := 4) (d := 41) (v := ?vq4x) rfl rfl (by kernel_rfl) (by kernel_rfl) (by kernel_rfl) (fun _ _ _ h => h) (Or.inl ⟨by rfl, ?hyq4x⟩) hHeld ?_
    case hyq4x =>
      intro W hSw
      obtain ⟨e0, e1, e2, e3⟩ := HC1.out W hSw.1
      (go_simp; try with_reducible rfl)
    simp only [List.setIfInBounds_toArray, List.set_cons_zero, List.set_cons_succ]
    refine wpAnyH_takeAt (i := 5) (d := 42) (v := ?vq5x) rfl rfl (by kernel_rfl) (by kernel_rfl) (by kernel_rfl) (fun _ _ _ h => h) (Or.inl ⟨by rfl, ?hyq5x⟩) hHeld ?_
    case hyq5x =>
      intro W hSw
      clear hSw
      (go_simp; try with_reducible rfl)
    simp only [List.setIfInBounds_toArray, List.set_cons_zero, List.set_cons_succ]
    refine wpAnyH_takeAt (i := 6) (d := 43) (v := ?vq6x) rfl rfl (by kernel_rfl) (by kernel_rfl) (by kernel_rfl) (fun _ _ _ h => h) (Or.inl ⟨by rfl, ?hyq6x⟩) hHeld ?_
    case hyq6x =>
      intro W hSw
      obtain ⟨e0, e1, e2⟩ := Blk.three (HB2.out.below hSw.2 HB2.out.lt)
      (go_simp; try with_reducible rfl)
    simp only [List.setIfInBounds_toArray, List.set_cons_zero, List.set_cons_succ]
    refine wpAnyH_takeAt (i := 7) (d := 44) (v := ?vq7x) rfl rfl (by kernel_rfl) (by kernel_rfl) (by kernel_rfl) (fun _ _ _ h => h) (Or.inl ⟨by rfl, ?hyq7x⟩) hHeld ?_
    case hyq7x =>
      intro W hSw
      clear hSw
      (go_simp; try with_reducible rfl)
    simp only [List.setIfInBounds_toArray, List.set_cons_zero, List.set_cons_succ]
    refine wpAnyH_takeAt (i := 8) (d := 45) (v := ?vq8x) rfl rfl (by kernel_rfl) (by kernel_rfl) (by kernel_rfl) (fun _ _ _ h => h) (Or.inl ⟨by rfl, ?hyq8x⟩) hHeld ?_
    case hyq8x =>
      intro W hSw
      clear hSw
      (go_simp; try with_reducible rfl)
    simp only [List.setIfInBounds_toArray, List.set_cons_zero, List.set_cons_succ]
    refine wpAnyH_takeAt (i := 9) (d := 46) (v := ?vq9x) rfl rfl (by kernel_rfl) (by kernel_rfl) (by kernel_rfl) (fun _ _ _ h => h) (Or.inl ⟨by rfl, ?hyq9x⟩) hHeld ?_
    case hyq9x =>
      intro W hSw
      obtain ⟨e0, e1, e2, e3⟩ := HC2.out W hSw.1
      (go_simp; try with_reducible rfl)
    simp only [List.setIfInBounds_toArray, List.set_cons_zero, List.set_cons_succ]
    refine wpAnyH_ready (rs := [10, 11]) (by kernel_rfl) (by simp) (AllReadyH.cons rfl (fun K hK => ?_) (AllReadyH.cons rfl (fun K hK => ?_) AllReadyH.nil))
    · go_simp
      have hal : Below w0.heap.size w0 (w0.alloc (.cells #[.int .i64 0, .string ⟨#[]⟩, .slice none 0 0, .int .i64 0] 65)) := (Below.refl _ _).alloc (Nat.le_refl _) _
      refine hK.out _ _ ⟨hHeld.1.trans (hal.mono hHeld.1.size), hHeld.2.trans (hal.mono hHeld.2.size)⟩ (fun hHeld => ?_)
      clear hK K
      try simp only [List.setIfInBounds_toArray, List.set_cons_zero, List.set_cons_succ]
      have Hz6 : Hid (Blk (w0.alloc (.cells #[.int .i64 0, .string ⟨#[]⟩, .slice none 0 0, .int .i64 0] 65)) w0.heap.size 65 #[.int .i64 0, .string ⟨#[]⟩, .slice none 0 0, .int .i64 0]) := Lib.hid (Blk.new _ _ _)
      have HLz6 : Hid (w2.heap.size ≤ w0.heap.size ∧ w.heap.size ≤ w0.heap.size) := Lib.hid (by have h1 := HBd.out.size; have h2 := HWd.out.size; omega)
      clear hal
      generalize w0.alloc (.cells #[.int .i64 0, .string ⟨#[]⟩, .slice none 0 0, .int .i64 0] 65) = w06 at *
      generalize w0.heap.size = z6 at *
      refine wpAnyH_ready (rs := [11]) (by kernel_rfl) (by simp) (AllReadyH.cons rfl (fun K hK => ?_) AllReadyH.nil)
      go_simp
      have hal : Below w06.heap.size w06 (w06.alloc (.cells #[.int .i64 0, .string ⟨#[]⟩, .slice none 0 0, .int .i64 0] 65)) := (Below.refl _ _).alloc (Nat.le_refl _) _
      refine hK.out _ _ ⟨hHeld.1.trans (hal.mono hHeld.1.size), hHeld.2.trans (hal.mono hHeld.2.size)⟩ (fun hHeld => ?_)
      clear hK K
      try simp only [List.setIfInBounds_toArray, List.set_cons_zero, List.set_cons_succ]
      have Hz7 : Hid (Blk (w06.alloc (.cells #[.int .i64 0, .string ⟨#[]⟩, .slice none 0 0, .int .i64 0] 65)) w06.heap.size 65 #[.int .i64 0, .string ⟨#[]⟩, .slice none 0 0, .int .i64 0]) := Lib.hid (Blk.new _ _ _)
      have HLz7 : Hid (w2.heap.size ≤ w06.heap.size ∧ w.heap.size ≤ w06.heap.size) := Lib.hid (by have h1 := HBd.out.size; have h2 := HWd.out.size; have h3 := Hz6.out.lt; have h4 := HLz6.out; exact ⟨by omega, by omega⟩)
      have HNE : Hid (z6 ≠ w06.heap.size) := Lib.hid (by have := Hz6.out.lt; omega)
      have Hz6 := Lib.hid (Hz6.out.alloc (.cells #[.int .i64 0, .string ⟨#[]⟩, .slice none 0 0, .int .i64 0] 65))
      clear hal
      generalize w06.alloc (.cells #[.int .i64 0, .string ⟨#[]⟩, .slice none 0 0, .int .i64 0] 65) = w067 at *
      generalize w06.heap.size = z7 at *
      refine wpAnyH_ready (rs := [12]) (by kernel_rfl) (by simp) (AllReadyH.cons rfl (fun K hK => ?_) AllReadyH.nil)
      refine step_store_blk (by rfl) (by rfl) 65 _ _ (by rfl) z6 _ #[.int .i64 d.waits[j].what, .string (str d.waits[j].name), .slice B1 q1 c1, .int .i64 d.waits[j].n] (by rfl) (by rfl) 65 Hz6.out (by rfl) (info65 _ rfl) (by simp [Value.oneCell']) ?_
      intro ws1 f1 g1 s1
      have hT1 : Turn (fun b => b = z6) w067 ws1 := Turn.of_grown g1 (fun r e => by cases e; rfl)
      have hlz := HLz6.out
      have hH := And.intro (hHeld.1.trans (hT1.below hHeld.1.size (fun b e => by omega))) (hHeld.2.trans (hT1.below hHeld.2.size (fun b e => by omega)))
      refine hK.out _ _ hH (fun hHeld => ?_)
      clear hK K
      have Hz6 := Lib.hid f1
      have Hz7 := Lib.hid (Hz7.out.keep hT1 (fun e => HNE.out e.symm))
      clear f1 g1 s1 hT1 hH hlz
      refine wpAnyH_ready (rs := [13]) (by kernel_rfl) (by simp) (AllReadyH.cons rfl (fun K hK => ?_) AllReadyH.nil)
      refine step_store_blk (by rfl) (by rfl) 65 _ _ (by rfl) z7 _ #[.int .i64 d.waits[j].what, .string (str d.waits[j].name), .slice B2 q2 c2, .int .i64 d.waits[j].n] (by rfl) (by rfl) 65 Hz7.out (by rfl) (info65 _ rfl) (by simp [Value.oneCell']) ?_
      intro ws2 f2 g2 s2
      have hT2 : Turn (fun b => b = z7) ws1 ws2 := Turn.of_grown g2 (fun r e => by cases e; rfl)
      have hlz := HLz7.out
      have hH := And.intro (hHeld.1.trans (hT2.below hHeld.1.size (fun b e => by omega))) (hHeld.2.trans (hT2.below hHeld.2.size (fun b e => by omega)))
      refine hK.out _ _ hH (fun hHeld => ?_)
      clear hK K
      have Hz7 := Lib.hid f2
      have Hz6 := Lib.hid (Hz6.out.keep hT2 (fun e => HNE.out e))
      clear f2 g2 s2 hT2 hH hlz
      refine wpAnyH_done (by kernel_rfl) ?_ _
      obtain ⟨u0, u1, u2, u3⟩ := Hz6.out.four
      obtain ⟨v0, v1, v2, v3⟩ := Hz7.out.four
      have cv1 := conv_str ws2 X B1 q1 c1 _ (HY1.out.below hHeld.1)
      have cv2 := conv_str ws2 X' B2 q2 c2 _ (HY2.out.below hHeld.1)
      have HH := Lib.hid hHeld.2
      have hb1 : (!(d.waits[j].what == d.waits[j].what)) = false := by simp
      have hb2 : (!((str d.waits[j].name).toList == (str d.waits[j].name).toList)) = false := by simp
      have hb3 : (!((str d.waits[j].bytes).toList == (str d.waits[j].bytes).toList)) = false := by simp
      have hb4 : (!(d.waits[j].n == d.waits[j].n)) = false := by simp
      clear hHeld
      go_wp2_with fail
      go_roundw
      case rel => exact ⟨j + 1, by omega, by go_num, HH.out⟩
      case measure => simp [intOf]; omega
    · go_simp
      have hal : Below w0.heap.size w0 (w0.alloc (.cells #[.int .i64 0, .string ⟨#[]⟩, .slice none 0 0, .int .i64 0] 65)) := (Below.refl _ _).alloc (Nat.le_refl _) _
      refine hK.out _ _ ⟨hHeld.1.trans (hal.mono hHeld.1.size), hHeld.2.trans (hal.mono hHeld.2.size)⟩ (fun hHeld => ?_)
      clear hK K
      try simp only [List.setIfInBounds_toArray, List.set_cons_zero, List.set_cons_succ]
      have Hz7 : Hid (Blk (w0.alloc (.cells #[.int .i64 0, .string ⟨#[]⟩, .slice none 0 0, .int .i64 0] 65)) w0.heap.size 65 #[.int .i64 0, .string ⟨#[]⟩, .slice none 0 0, .int .i64 0]) := Lib.hid (Blk.new _ _ _)
      have HLz7 : Hid (w2.heap.size ≤ w0.heap.size ∧ w.heap.size ≤ w0.heap.size) := Lib.hid (by have h1 := HBd.out.size; have h2 := HWd.out.size; omega)
      clear hal
      generalize w0.alloc (.cells #[.int .i64 0, .string ⟨#[]⟩, .slice none 0 0, .int .i64 0] 65) = w07 at *
      generalize w0.heap.size = z7 at *
      refine wpAnyH_ready (rs := [10]) (by kernel_rfl) (by simp) (AllReadyH.cons rfl (fun K hK => ?_) AllReadyH.nil)
      go_simp
      have hal : Below w07.heap.size w07 (w07.alloc (.cells #[.int .i64 0, .string ⟨#[]⟩, .slice none 0 0, .int .i64 0] 65)) := (Below.refl _ _).alloc (Nat.le_refl _) _
      refine hK.out _ _ ⟨hHeld.1.trans (hal.mono hHeld.1.size), hHeld.2.trans (hal.mono hHeld.2.size)⟩ (fun hHeld => ?_)
      clear hK K
      try simp only [List.setIfInBounds_toArray, List.set_cons_zero, List.set_cons_succ]
      have Hz6 : Hid (Blk (w07.alloc (.cells #[.int .i64 0, .string ⟨#[]⟩, .slice none 0 0, .int .i64 0] 65)) w07.heap.size 65 #[.int .i64 0, .string ⟨#[]⟩, .slice none 0 0, .int .i64 0]) := Lib.hid (Blk.new _ _ _)
      have HLz6 : Hid (w2.heap.size ≤ w07.heap.size ∧ w.heap.size ≤ w07.heap.size) := Lib.hid (by have h1 := HBd.out.size; have h2 := HWd.out.size; have h3 := Hz7.out.lt; have h4 := HLz7.out; exact ⟨by omega, by omega⟩)
      have HNE : Hid (z7 ≠ w07.heap.size) := Lib.hid (by have := Hz7.out.lt; omega)
      have Hz7 := Lib.hid (Hz7.out.alloc (.cells #[.int .i64 0, .string ⟨#[]⟩, .slice none 0 0, .int .i64 0] 65))
      clear hal
      generalize w07.alloc (.cells #[.int .i64 0, .string ⟨#[]⟩, .slice none 0 0, .int .i64 0] 65) = w076 at *
      generalize w07.heap.size = z6 at *
      refine wpAnyH_ready (rs := [12]) (by kernel_rfl) (by simp) (AllReadyH.cons rfl (fun K hK => ?_) AllReadyH.nil)
      refine step_store_blk (by rfl) (by rfl) 65 _ _ (by rfl) z6 _ #[.int .i64 d.waits[j].what, .string (str d.waits[j].name), .slice B1 q1 c1, .int .i64 d.waits[j].n] (by rfl) (by rfl) 65 Hz6.out (by rfl) (info65 _ rfl) (by simp [Value.oneCell']) ?_
      intro ws1 f1 g1 s1
      have hT1 : Turn (fun b => b = z6) w076 ws1 := Turn.of_grown g1 (fun r e => by cases e; rfl)
      have hlz := HLz6.out
      have hH := And.intro (hHeld.1.trans (hT1.below hHeld.1.size (fun b e => by omega))) (hHeld.2.trans (hT1.below hHeld.2.size (fun b e => by omega)))
      refine hK.out _ _ hH (fun hHeld => ?_)
      clear hK K
      have Hz6 := Lib.hid f1
      have Hz7 := Lib.hid (Hz7.out.keep hT1 (fun e => HNE.out e))
      clear f1 g1 s1 hT1 hH hlz
      refine wpAnyH_ready (rs := [13]) (by kernel_rfl) (by simp) (AllReadyH.cons rfl (fun K hK => ?_) AllReadyH.nil)
      refine step_store_blk (by rfl) (by rfl) 65 _ _ (by rfl) z7 _ #[.int .i64 d.waits[j].what, .string (str d.waits[j].name), .slice B2 q2 c2, .int .i64 d.waits[j].n] (by rfl) (by rfl) 65 Hz7.out (by rfl) (info65 _ rfl) (by simp [Value.oneCell']) ?_
      intro ws2 f2 g2 s2
      have hT2 : Turn (fun b => b = z7) ws1 ws2 := Turn.of_grown g2 (fun r e => by cases e; rfl)
      have hlz := HLz7.out
      have hH := And.intro (hHeld.1.trans (hT2.below hHeld.1.size (fun b e => by omega))) (hHeld.2.trans (hT2.below hHeld.2.size (fun b e => by omega)))
      refine hK.out _ _ hH (fun hHeld => ?_)
      clear hK K
      have Hz7 := Lib.hid f2
      have Hz6 := Lib.hid (Hz6.out.keep hT2 (fun e => HNE.out e.symm))
      clear f2 g2 s2 hT2 hH hlz
      refine wpAnyH_done (by kernel_rfl) ?_ _
      obtain ⟨u0, u1, u2, u3⟩ := Hz6.out.four
      obtain ⟨v0, v1, v2, v3⟩ := Hz7.out.four
      have cv1 := conv_str ws2 X B1 q1 c1 _ (HY1.out.below hHeld.1)
      have cv2 := conv_str ws2 X' B2 q2 c2 _ (HY2.out.below hHeld.1)
      have HH := Lib.hid hHeld.2
      have hb1 : (!(d.waits[j].what == d.waits[j].what)) = false := by simp
      have hb2 : (!((str d.waits[j].name).toList == (str d.waits[j].name).toList)) = false := by simp
      have hb3 : (!((str d.waits[j].bytes).toList == (str d.waits[j].bytes).toList)) = false := by simp
      have hb4 : (!(d.waits[j].n == d.waits[j].n)) = false := by simp
      clear hHeld
      go_wp2_with fail
      go_roundw
      case rel => exact ⟨j + 1, by omega, by go_num, HH.out⟩
      case measure => simp [intOf]; omega
end Go.Proofs.Ythhiiimmgghhaaa
