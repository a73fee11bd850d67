/-
  net.Copy: another net with the same, in memory of its own. Conditions: bounds.
-/
import Derived.Test.YticabfmjdjcfnaaRound
namespace Go.Proofs.Yticabfmjdjcfnaa
open Go.RowKit Go.Shelf
attribute [local go_sem] Oper.semAt_some
/-- A net that has just been made: its map, its block, the variable that has it. -/
structure Begun (w : World) (s : St) (mN gN cN : Nat) (w' : World) : Prop where
  net : Blk w' gN 73 #[.int .i64 (s.came : Int), .map (some (mN)), .int .i64 (s.most : Int)]
  var : Blk w' cN 25 #[.pointer (some ⟨gN, 0, none⟩)]
  map : NM w' (fun _ => True) mN []
  low : Below w.heap.size w w'
  size : w'.heap.size = w.heap.size + 3
  m_ge : w.heap.size ≤ mN
  g_ge : w.heap.size ≤ gN
  c_ge : w.heap.size ≤ cN
  m_lt : mN < w.heap.size + 3
  g_lt : gN < w.heap.size + 3
  c_lt : cN < w.heap.size + 3
  mg : mN ≠ gN
  mc : mN ≠ cN
  gc : gN ≠ cN
theorem Begun.drew {w : World} {s : St} {mN gN cN : Nat} {w' : World} (h : Begun w s mN gN cN w') : Begun w s mN gN cN w'.drew := ⟨h.net, h.var, h.map, h.low.drew, h.size, h.m_ge, h.g_ge, h.c_ge, h.m_lt, h.g_lt, h.c_lt, h.mg, h.mc, h.gc⟩
theorem begun1 (w : World) (s : St) : Begun w s (w.heap.size) (w.heap.size + 1) (w.heap.size + 1 + 1) (((w.alloc (.map #[] 0)).alloc (.cells #[.int .i64 (s.came : Int), .map (some (w.heap.size)), .int .i64 (s.most : Int)] 73)).alloc (.cells #[.pointer (some ⟨w.heap.size + 1, 0, none⟩)] 25)) where
  net := (blk_new _ 73 _ (by simp)).alloc _
  var := blk_new _ 25 _ (by simp)
  map := by
    exact (NM.made w (fun _ => True)).below (((Below.refl _ (w.alloc (.map #[] 0))).alloc (Nat.le_refl _) _).alloc (by simp) _)
  low := (((Below.refl _ _).alloc (Nat.le_refl _) _).alloc (by simp) _).alloc (by simp; omega) _
  size := by simp
  m_ge := by omega
  g_ge := by omega
  c_ge := by omega
  m_lt := by omega
  g_lt := by omega
  c_lt := by omega
  mg := by omega
  mc := by omega
  gc := by omega
theorem begun2 (w : World) (s : St) : Begun w s (w.heap.size) (w.heap.size + 1 + 1) (w.heap.size + 1) (((w.alloc (.map #[] 0)).alloc (.cells #[.pointer (some ⟨w.heap.size + 1 + 1, 0, none⟩)] 25)).alloc (.cells #[.int .i64 (s.came : Int), .map (some (w.heap.size)), .int .i64 (s.most : Int)] 73)) where
  net := blk_new _ 73 _ (by simp)
  var := (blk_new _ 25 _ (by simp)).alloc _
  map := by
    exact (NM.made w (fun _ => True)).below (((Below.refl _ (w.alloc (.map #[] 0))).alloc (Nat.le_refl _) _).alloc (by simp) _)
  low := (((Below.refl _ _).alloc (Nat.le_refl _) _).alloc (by simp) _).alloc (by simp; omega) _
  size := by simp
  m_ge := by omega
  g_ge := by omega
  c_ge := by omega
  m_lt := by omega
  g_lt := by omega
  c_lt := by omega
  mg := by omega
  mc := by omega
  gc := by omega
theorem begun3 (w : World) (s : St) : Begun w s (w.heap.size + 1) (w.heap.size + 1 + 1) (w.heap.size) (((w.alloc (.cells #[.pointer (some ⟨w.heap.size + 1 + 1, 0, none⟩)] 25)).alloc (.map #[] 0)).alloc (.cells #[.int .i64 (s.came : Int), .map (some (w.heap.size + 1)), .int .i64 (s.most : Int)] 73)) where
  net := blk_new _ 73 _ (by simp)
  var := ((Blk.new _ _ _).alloc _).alloc _
  map := by
    have h0 := NM.made (w.alloc (.cells #[.pointer (some ⟨w.heap.size + 1 + 1, 0, none⟩)] 25)) (fun _ => True)
    simp only [World.size_alloc] at h0
    exact h0.below ((Below.refl _ _).alloc (Nat.le_refl _) _)
  low := (((Below.refl _ _).alloc (Nat.le_refl _) _).alloc (by simp) _).alloc (by simp; omega) _
  size := by simp
  m_ge := by omega
  g_ge := by omega
  c_ge := by omega
  m_lt := by omega
  g_lt := by omega
  c_lt := by omega
  mg := by omega
  mc := by omega
  gc := by omega
theorem take_lt {l : Row} (hr : Rises l) {k : Nat} (hk : k < l.length) : ∀ q ∈ l.take k, q.1 < l[k].1 := fun q hq => by
  obtain ⟨i, hi, rfl⟩ := List.mem_take_iff_getElem.1 hq
  exact List.pairwise_iff_getElem.1 hr i k (by omega) hk (by omega)
/-- What holds between two messages. -/
structure CopyI (w : World) (s : St) (mN gN cN E : Nat) (k : Nat) (W : World) : Prop where
  low : Below w.heap.size w W
  net : Blk W gN 73 #[.int .i64 (s.came : Int), .map (some (mN)), .int .i64 (s.most : Int)]
  var : Blk W cN 25 #[.pointer (some ⟨gN, 0, none⟩)]
  map : NM W (fun b => b < E) mN (s.l.take k)
theorem CopyI.keep {w : World} {s : St} {mN gN cN E k : Nat} {W W' : World} {T : Nat → Prop} (h : CopyI w s mN gN cN E k W) (ht : Turn T W W') (hT : ∀ b, T b → w.heap.size ≤ b ∧ b ≠ mN ∧ b ≠ gN ∧ b ≠ cN ∧ b < E) : CopyI w s mN gN cN E k W' where
  low := h.low.trans (ht.below h.low.size (fun b e => (hT b e).1))
  net := h.net.keep ht (fun e => (hT _ e).2.2.1 rfl)
  var := h.var.keep ht (fun e => (hT _ e).2.2.2.1 rfl)
  map := h.map.keep ht (fun _ _ e => (hT _ e).2.2.2.2) (fun e => (hT _ e).2.1 rfl)
set_option maxRecDepth 100000 in
set_option maxHeartbeats 8000000 in
theorem copy_any {w : World} {S : Nat → Prop} {g : Nat} {s : St} (hN : Nt w S g s) : Calls Try.prog 19 #[.pointer (some ⟨g, 0, none⟩)] w fun e w' => ∃ gN S', e = .returned (.pointer (some ⟨gN, 0, none⟩)) ∧ Nt w' S' gN s ∧ (∀ b, S' b → w.heap.size ≤ b) ∧ Below w.heap.size w w' := by
  obtain ⟨m, h⟩ := hN
  have hok := h.ok
  have HOK := Lib.hid hok
  have hl4 : s.l.length ≤ 4096 := Nat.le_trans hok.len hok.hi
  have hgl := h.blk.lt
  have HH := Lib.hid h
  have hmd := made_net h
  obtain ⟨c0, c1, c2⟩ := h.blk.three
  have HB := Lib.hid h.blk
  have hmm := @run_makeMap Try.prog
  clear h hok
  refine (callsIn_wide (n := 5)).1 ?_
  refine callsIn_of_wp_marks Try.func19 rfl trivial ?_ rfl
  simp only [Try.ntmps19, List.size_toArray, List.length_cons, List.length_nil, Nat.reduceAdd, Nat.reduceSub, Array.replicate_succ, Array.replicate_zero, List.push_toArray, List.append_toArray, List.nil_append, List.cons_append]
  gi_wp2_with fail
  refine ⟨trivial, (callsIn_wide.2 hmd).mono ?_⟩
  rintro e w' ⟨rfl, rfl⟩
  gi_wp2_with fail
  refine (wpIn_wide (n := 5)).2 (wp_region_by (fun a' w' => ∃ mN gN cN, a' = { tmps := #[.pointer (some ⟨g, 0, none⟩), undef, .pointer none, .pointer (some ⟨cN, 0, none⟩), undef, undef, .pointer (some ⟨g, 0, none⟩), .bool true, .bool false, .pointer (some ⟨g, 0, none⟩), .pointer (some ⟨g, 0, none⟩), .pointer (some ⟨g, 0, none⟩), .agg #[.int .i64 (s.came : Int)], .map (some (mN)), .pointer (some ⟨g, 0, none⟩), .pointer (some ⟨g, 0, none⟩), .pointer (some ⟨g, 2, none⟩), .int .i64 (s.most : Int), .agg #[.int .i64 (s.came : Int), .map (some (mN)), .int .i64 (s.most : Int)], .pointer (some ⟨gN, 0, none⟩), undef, undef, undef, undef, undef, undef, undef, undef, undef, undef, undef, undef, undef, undef, undef], defers := [] } ∧ Begun w s mN gN cN w') ?regs ?rest)
  case regs =>
    refine wp_region_np ?_
    refine wp_region_held_drew (S := fun W => Blk W g 73 #[.int .i64 (s.came : Int), .map (some m), .int .i64 (s.most : Int)]) (by kernel_rfl) HB.out (fun hHeld => ?_)
    refine wpAnyH_takeAt (i := 0) (d := 9) (v := ?vq0x) rfl rfl (by kernel_rfl) (by kernel_rfl) (by kernel_rfl) (fun _ _ _ h => h) (Or.inl ⟨by rfl, ?hyq0x⟩) hHeld ?_
    case hyq0x =>
      intro W hSw
      clear hSw
      (go_simp; try with_reducible rfl)
    simp only [List.setIfInBounds_toArray, List.set_cons_zero, List.set_cons_succ]
    refine wpAnyH_takeAt (i := 1) (d := 10) (v := ?vq1x) rfl rfl (by kernel_rfl) (by kernel_rfl) (by kernel_rfl) (fun _ _ _ h => h) (Or.inl ⟨by rfl, ?hyq1x⟩) hHeld ?_
    case hyq1x =>
      intro W hSw
      clear hSw
      (go_simp; try with_reducible rfl)
    simp only [List.setIfInBounds_toArray, List.set_cons_zero, List.set_cons_succ]
    refine wpAnyH_takeAt (i := 2) (d := 11) (v := ?vq2x) rfl rfl (by kernel_rfl) (by kernel_rfl) (by kernel_rfl) (fun _ _ _ h => h) (Or.inl ⟨by rfl, ?hyq2x⟩) hHeld ?_
    case hyq2x =>
      intro W hSw
      clear hSw
      (go_simp; try with_reducible rfl)
    simp only [List.setIfInBounds_toArray, List.set_cons_zero, List.set_cons_succ]
    refine wpAnyH_takeAt (i := 3) (d := 12) (v := ?vq3x) rfl rfl (by kernel_rfl) (by kernel_rfl) (by kernel_rfl) (fun _ _ _ h => h) (Or.inl ⟨by rfl, ?hyq3x⟩) hHeld ?_
    case hyq3x =>
      intro W hSw
      obtain ⟨s0, s1, s2⟩ := Blk.three hSw; clear hSw
      (go_simp; try with_reducible rfl)
    simp only [List.setIfInBounds_toArray, List.set_cons_zero, List.set_cons_succ]
    refine wpAnyH_takeAt (i := 5) (d := 14) (v := ?vq4x) rfl rfl (by kernel_rfl) (by kernel_rfl) (by kernel_rfl) (fun _ _ _ h => h) (Or.inl ⟨by rfl, ?hyq4x⟩) hHeld ?_
    case hyq4x =>
      intro W hSw
      clear hSw
      (go_simp; try with_reducible rfl)
    simp only [List.setIfInBounds_toArray, List.set_cons_zero, List.set_cons_succ]
    refine wpAnyH_takeAt (i := 6) (d := 15) (v := ?vq5x) rfl rfl (by kernel_rfl) (by kernel_rfl) (by kernel_rfl) (fun _ _ _ h => h) (Or.inl ⟨by rfl, ?hyq5x⟩) hHeld ?_
    case hyq5x =>
      intro W hSw
      clear hSw
      (go_simp; try with_reducible rfl)
    simp only [List.setIfInBounds_toArray, List.set_cons_zero, List.set_cons_succ]
    refine wpAnyH_takeAt (i := 7) (d := 16) (v := ?vq6x) rfl rfl (by kernel_rfl) (by kernel_rfl) (by kernel_rfl) (fun _ _ _ h => h) (Or.inl ⟨by rfl, ?hyq6x⟩) hHeld ?_
    case hyq6x =>
      intro W hSw
      clear hSw
      (go_simp; try with_reducible rfl)
    simp only [List.setIfInBounds_toArray, List.set_cons_zero, List.set_cons_succ]
    refine wpAnyH_takeAt (i := 8) (d := 17) (v := ?vq7x) rfl rfl (by kernel_rfl) (by kernel_rfl) (by kernel_rfl) (fun _ _ _ h => h) (Or.inl ⟨by rfl, ?hyq7x⟩) hHeld ?_
    case hyq7x =>
      intro W hSw
      obtain ⟨s0, s1, s2⟩ := Blk.three hSw; clear hSw
      (go_simp; try with_reducible rfl)
    simp only [List.setIfInBounds_toArray, List.set_cons_zero, List.set_cons_succ]
    refine wpAnyH_ready (rs := [4, 11]) (by kernel_rfl) (by simp) (AllReadyH.cons rfl (fun K hK => ?_) (AllReadyH.cons rfl (fun K hK => ?_) AllReadyH.nil))
    · go_simp
      refine hK.out _ _ ?_ (fun hHeld => ?_)
      · exact (hHeld.alloc _)
      clear hK K
      try simp only [List.setIfInBounds_toArray, List.set_cons_zero, List.set_cons_succ]
      refine wpAnyH_takeAt (i := 9) (d := 18) (v := ?vq8x) rfl rfl (by kernel_rfl) (by kernel_rfl) (by kernel_rfl) (fun _ _ _ h => h) (Or.inl ⟨by rfl, ?hyq8x⟩) hHeld ?_
      case hyq8x =>
        intro W hSw
        clear hSw
        (go_simp; try with_reducible rfl)
      simp only [List.setIfInBounds_toArray, List.set_cons_zero, List.set_cons_succ]
      refine wpAnyH_ready (rs := [10, 11]) (by kernel_rfl) (by simp) (AllReadyH.cons rfl (fun K hK => ?_) (AllReadyH.cons rfl (fun K hK => ?_) AllReadyH.nil))
      · go_simp
        refine hK.out _ _ ?_ (fun hHeld => ?_)
        · exact (hHeld.alloc _)
        clear hK K
        try simp only [List.setIfInBounds_toArray, List.set_cons_zero, List.set_cons_succ]
        refine wpAnyH_ready (rs := [11]) (by kernel_rfl) (by simp) (AllReadyH.cons rfl (fun K hK => ?_) AllReadyH.nil)
        go_simp
        refine hK.out _ _ ?_ (fun hHeld => ?_)
        · exact (hHeld.alloc _)
        clear hK K
        try simp only [List.setIfInBounds_toArray, List.set_cons_zero, List.set_cons_succ]
        refine wpAnyH_ready (rs := [12]) (by kernel_rfl) (by simp) (AllReadyH.cons rfl (fun K hK => ?_) AllReadyH.nil)
        have hBG := begun1 w s
        go_simp
        refine hK.out _ _ ?_ (fun hHeld => ?_)
        · exact ((HB.out.alloc _).alloc _).alloc _
        clear hK K
        try simp only [List.setIfInBounds_toArray, List.set_cons_zero, List.set_cons_succ]
        refine wpAnyH_done (by kernel_rfl) ?_ _
        exact ⟨rfl, _, _, _, rfl, hBG.drew⟩
      · go_simp
        refine hK.out _ _ ?_ (fun hHeld => ?_)
        · exact (hHeld.alloc _)
        clear hK K
        try simp only [List.setIfInBounds_toArray, List.set_cons_zero, List.set_cons_succ]
        refine wpAnyH_ready (rs := [10]) (by kernel_rfl) (by simp) (AllReadyH.cons rfl (fun K hK => ?_) AllReadyH.nil)
        go_simp
        refine hK.out _ _ ?_ (fun hHeld => ?_)
        · exact (hHeld.alloc _)
        clear hK K
        try simp only [List.setIfInBounds_toArray, List.set_cons_zero, List.set_cons_succ]
        refine wpAnyH_ready (rs := [12]) (by kernel_rfl) (by simp) (AllReadyH.cons rfl (fun K hK => ?_) AllReadyH.nil)
        have hBG := begun2 w s
        go_simp
        refine hK.out _ _ ?_ (fun hHeld => ?_)
        · exact ((HB.out.alloc _).alloc _).alloc _
        clear hK K
        try simp only [List.setIfInBounds_toArray, List.set_cons_zero, List.set_cons_succ]
        refine wpAnyH_done (by kernel_rfl) ?_ _
        exact ⟨rfl, _, _, _, rfl, hBG.drew⟩
    · go_simp
      refine hK.out _ _ ?_ (fun hHeld => ?_)
      · exact (hHeld.alloc _)
      clear hK K
      try simp only [List.setIfInBounds_toArray, List.set_cons_zero, List.set_cons_succ]
      refine wpAnyH_ready (rs := [4]) (by kernel_rfl) (by simp) (AllReadyH.cons rfl (fun K hK => ?_) AllReadyH.nil)
      go_simp
      refine hK.out _ _ ?_ (fun hHeld => ?_)
      · exact (hHeld.alloc _)
      clear hK K
      try simp only [List.setIfInBounds_toArray, List.set_cons_zero, List.set_cons_succ]
      refine wpAnyH_takeAt (i := 9) (d := 18) (v := ?vq9x) rfl rfl (by kernel_rfl) (by kernel_rfl) (by kernel_rfl) (fun _ _ _ h => h) (Or.inl ⟨by rfl, ?hyq9x⟩) hHeld ?_
      case hyq9x =>
        intro W hSw
        clear hSw
        (go_simp; try with_reducible rfl)
      simp only [List.setIfInBounds_toArray, List.set_cons_zero, List.set_cons_succ]
      refine wpAnyH_ready (rs := [10]) (by kernel_rfl) (by simp) (AllReadyH.cons rfl (fun K hK => ?_) AllReadyH.nil)
      go_simp
      refine hK.out _ _ ?_ (fun hHeld => ?_)
      · exact (hHeld.alloc _)
      clear hK K
      try simp only [List.setIfInBounds_toArray, List.set_cons_zero, List.set_cons_succ]
      refine wpAnyH_ready (rs := [12]) (by kernel_rfl) (by simp) (AllReadyH.cons rfl (fun K hK => ?_) AllReadyH.nil)
      have hBG := begun3 w s
      go_simp
      refine hK.out _ _ ?_ (fun hHeld => ?_)
      · exact ((HB.out.alloc _).alloc _).alloc _
      clear hK K
      try simp only [List.setIfInBounds_toArray, List.set_cons_zero, List.set_cons_succ]
      refine wpAnyH_done (by kernel_rfl) ?_ _
      exact ⟨rfl, _, _, _, rfl, hBG.drew⟩
  case rest =>
  rintro a' w1 ⟨mN, gN, cN, rfl, hBG⟩
  have h1 := HH.out.below hBG.low
  obtain ⟨d0, d1, d2⟩ := h1.blk.three
  obtain ⟨b1, b2, b3, b4, b5, b6, b7, b8, b9, b10, b11, b12, b13, b14⟩ := hBG
  have HZ1 := Lib.hid b5
  have HM := Lib.hid h1.map
  have HSL := Lib.hid (HH.out.lt)
  clear h1 c0 c1 c2 hmd b5
  gi_wp2_with fail
  refine ⟨trivial, (callsIn_wide.2 (inOrder_any m w1)).mono ?_⟩
  rintro e WB ⟨rfl, hWB⟩
  have hbB : Below w1.heap.size w1 WB := by rw [← hWB]; exact (Below.refl _ _).alloc (Nat.le_refl _) _
  have hxB : WB.cell? ⟨w1.heap.size, 0, none⟩ = some (.map (some m)) := by rw [← hWB]; exact (Blk.new w1 69 _).cell 0
  have hzB : WB.heap.size = w1.heap.size + 1 := by rw [← hWB]; simp
  have HZB := Lib.hid hzB
  clear hWB hzB
  have hltB : w1.heap.size < WB.heap.size := block_lt_of_cell hxB
  have hMB := HM.out.below hbB
  have hz1 := Nat.le_of_eq HZ1.out
  have hz1b := Nat.le_of_eq HZ1.out.symm
  have hzBa := Nat.le_of_eq HZB.out
  have HI0 : Hid (CopyI w s mN gN cN (WB.heap.size + 2) 0 WB) := Lib.hid ⟨b4.trans (hbB.mono b4.size), b1.below hbB b1.lt, b2.below hbB b2.lt, (b3.below hbB).wide (fun _ _ _ => trivial)⟩
  have hmz := HSL.out m HH.out.m_in
  have hKEY : ∀ p ∈ s.l, KeyN p.1 := by obtain ⟨vs, _, _, _, h4, _⟩ := HH.out.map; exact h4
  have HKEY := Lib.hid hKEY
  have hTWO : ∀ b, two WB.heap.size b → w.heap.size ≤ b ∧ b ≠ mN ∧ b ≠ gN ∧ b ≠ cN ∧ b < WB.heap.size + 2 := fun b e => by rcases e with e | e <;> omega
  have HTWO := Lib.hid hTWO
  clear hKEY hTWO b1 b2 b3 hbB d0 d1 d2 HM
  gi_wp2_with fail
  refine range_v (Ab := Turn No) rfl (by omega) (gf := 47) (lb := #[.pointer (some ⟨w1.heap.size, 0, none⟩)]) rfl trivial (enters_of Try.func47 (by kernel_rfl) rfl)
    (iter_in (5 - 1) (by omega) w1.heap.size m s.l (fun b => ¬ S b ∨ b = m ∨ b = g) (fun b => b = mN) WB hxB hMB
      (fun b e => ⟨by omega, by omega, .inl (fun q => by have := HSL.out b q; omega)⟩) (fun b e => by omega))
    (fun h h' => h.trans h' (fun _ _ e => e)) (fun x A B ht hz => ht.mono (fun b _ e => .inr e)) (fun k x A hv => by obtain ⟨p, v, _, e, _⟩ := hv; rw [e]; rfl)
    (fun A B b ht _ hb => ht.block b hb (fun h => h))
    (CopyI w s mN gN cN (WB.heap.size + 2)) (fun _ _ _ => False)
    (fun k A B hi ht => hi.keep ht HTWO.out)
    (fun c k A B hi ht => hi.elim)
    (fun k A B hi ht => hi.keep ht (fun b e => e.elim))
    (fun c k A B hi ht => hi.elim)
    HI0.out (fun x => .cells (x.getD 1 undef).cells 39)
    (fun x b => { tmps := #[.pointer (some ⟨g, 0, none⟩), undef, .pointer none, .pointer (some ⟨cN, 0, none⟩), x.getD 0 undef, .pointer (some ⟨b, 0, none⟩), .pointer (some ⟨g, 0, none⟩), .bool true, .bool false, .pointer (some ⟨g, 0, none⟩), .pointer (some ⟨g, 0, none⟩), .pointer (some ⟨g, 0, none⟩), .agg #[.int .i64 (s.came : Int)], .map (some (mN)), .pointer (some ⟨g, 0, none⟩), .pointer (some ⟨g, 0, none⟩), .pointer (some ⟨g, 2, none⟩), .int .i64 (s.most : Int), .agg #[.int .i64 (s.came : Int), .map (some (mN)), .int .i64 (s.most : Int)], .pointer (some ⟨gN, 0, none⟩), .pointer (some ⟨g, 0, none⟩), .pointer (some ⟨g, 0, none⟩), .pointer (some ⟨g, 1, none⟩), .map (some m), .func (.func 47) #[] #[.pointer (some ⟨w1.heap.size, 0, none⟩)], x.getD 0 undef, x.getD 1 undef, undef, undef, undef, undef, undef, undef, undef, undef], defers := [] })
    ?assign ?body ?done ?stop
  case assign =>
    intro li k x A K hk hv hK
    obtain ⟨p, v, _, rfl, Am, nm, cm, rfl, _⟩ := hv
    gi_wp2
    exact hK
  case stop => exact fun c k B _ h => h.elim
  case body =>
    intro li k x A0 A hI0 hk hv hob hbB0 hTA
    obtain ⟨p, v, hp, rfl, Am, q, cm, rfl, hby⟩ := hv
    have hpk : s.l[k] = p := by
      have := List.getElem?_eq_getElem hk
      rw [hp] at this
      injection this with this
      exact this.symm
    have hIA := hI0.keep hTA HTWO.out
    have hbyA : MsgV A (fun b => ¬ S b ∨ b = m ∨ b = g) p.2 (.agg #[.int .i64 p.2.fr, .int .i64 p.2.to, .slice Am q cm]) := ⟨_, _, _, rfl, hby.keep hTA (fun b _ e => .inl (fun q => by have := HSL.out b q; rcases e with e | e <;> omega))⟩
    have kM : Blk A A0.heap.size 39 #[.int .i64 p.2.fr, .int .i64 p.2.to, .slice Am q cm] := hob
    obtain ⟨b, hbe⟩ : ∃ b, b = A0.heap.size := ⟨_, rfl⟩
    rw [← hbe] at kM hbB0 ⊢
    have hbz := kM.lt
    have hq4 : p.2.b.length ≤ 4096 := HOK.out.short p (List.mem_of_getElem? hp)
    have hkey := HKEY.out p (List.mem_of_getElem? hp)
    have hltk : ∀ p' ∈ s.l.take k, p'.1 < p.1 := by rw [← hpk]; exact take_lt HOK.out.rises hk
    have htk : s.l.take (k + 1) = s.l.take k ++ [(p.1, p.2)] := by rw [List.take_succ_eq_append_getElem hk, hpk]
    have hlk : (s.l.take k).length < 1000000 := by rw [List.length_take]; omega
    have HKK := Lib.hid (And.intro hkey (And.intro hltk (And.intro htk (And.intro hlk hIA))))
    have g0 : (#[Value.int IntKind.i64 p.1, Value.agg #[.int .i64 p.2.fr, .int .i64 p.2.to, .slice Am q cm]]).getD 0 undef = .int .i64 p.1 := rfl
    have g1 : (#[Value.int IntKind.i64 p.1, Value.agg #[.int .i64 p.2.fr, .int .i64 p.2.to, .slice Am q cm]]).getD 1 undef = .agg #[.int .i64 p.2.fr, .int .i64 p.2.to, .slice Am q cm] := rfl
    rw [g0, g1]
    have e0 : A.cell? ⟨cN, 0, none⟩ = some (.pointer (some ⟨gN, 0, none⟩)) := hIA.var.cell 0
    have e1 : A.cell? ⟨gN, 1, none⟩ = some (.map (some mN)) := hIA.net.cell 1
    clear g0 g1 hbe hTA hI0 hby hob hp hpk hkey hltk htk hlk hIA hMB hxB
    gi_wp2_with fail
    refine round_np ?_
    refine round_held (S := fun W => W.cell? ⟨cN, 0, none⟩ = some (.pointer (some ⟨gN, 0, none⟩)) ∧ W.cell? ⟨gN, 1, none⟩ = some (.map (some mN)) ∧ Blk W b 39 #[.int .i64 p.2.fr, .int .i64 p.2.to, .slice Am q cm]) (by kernel_rfl) (by kernel_rfl) np_out (show _ ∧ _ ∧ _ from ⟨e0, e1, kM⟩) (fun hHeld => ?_)
    refine wpAnyH_takeAt (i := 0) (d := 27) (v := ?vq10x) rfl rfl (by kernel_rfl) (by kernel_rfl) (by kernel_rfl) (fun _ _ _ h => h) (Or.inl ⟨by rfl, ?hyq10x⟩) hHeld ?_
    case hyq10x =>
      intro W hSw
      obtain ⟨sa, sb, sk⟩ : _ ∧ _ ∧ Blk W b 39 #[.int .i64 p.2.fr, .int .i64 p.2.to, .slice Am q cm] := hSw; obtain ⟨s0, s1, s2⟩ := sk.three; clear sk
      (go_simp; try with_reducible rfl)
    simp only [List.setIfInBounds_toArray, List.set_cons_zero, List.set_cons_succ]
    refine wpAnyH_takeAt (i := 1) (d := 28) (v := ?vq11x) rfl rfl (by kernel_rfl) (by kernel_rfl) (by kernel_rfl) (fun _ _ _ h => h) (Or.inl ⟨by rfl, ?hyq11x⟩) hHeld ?_
    case hyq11x =>
      intro W hSw
      clear hSw
      (go_simp; try with_reducible rfl)
    simp only [List.setIfInBounds_toArray, List.set_cons_zero, List.set_cons_succ]
    refine wpAnyH_takeAt (i := 2) (d := 29) (v := ?vq12x) rfl rfl (by kernel_rfl) (by kernel_rfl) (by kernel_rfl) (fun _ _ _ h => h) (Or.inl ⟨by rfl, ?hyq12x⟩) hHeld ?_
    case hyq12x =>
      intro W hSw
      clear hSw
      (go_simp; try with_reducible rfl)
    simp only [List.setIfInBounds_toArray, List.set_cons_zero, List.set_cons_succ]
    refine wpAnyH_takeAt (i := 3) (d := 30) (v := ?vq13x) rfl rfl (by kernel_rfl) (by kernel_rfl) (by kernel_rfl) (fun _ _ _ h => h) (Or.inl ⟨by rfl, ?hyq13x⟩) hHeld ?_
    case hyq13x =>
      intro W hSw
      obtain ⟨sa, sb, sk⟩ : _ ∧ _ ∧ Blk W b 39 #[.int .i64 p.2.fr, .int .i64 p.2.to, .slice Am q cm] := hSw; obtain ⟨s0, s1, s2⟩ := sk.three; clear sk
      (go_simp; try with_reducible rfl)
    simp only [List.setIfInBounds_toArray, List.set_cons_zero, List.set_cons_succ]
    refine wpAnyH_takeAt (i := 4) (d := 31) (v := ?vq14x) rfl rfl (by kernel_rfl) (by kernel_rfl) (by kernel_rfl) (fun _ _ _ h => h) (Or.inl ⟨by rfl, ?hyq14x⟩) hHeld ?_
    case hyq14x =>
      intro W hSw
      clear hSw
      (go_simp; try with_reducible rfl)
    simp only [List.setIfInBounds_toArray, List.set_cons_zero, List.set_cons_succ]
    refine wpAnyH_takeAt (i := 5) (d := 32) (v := ?vq15x) rfl rfl (by kernel_rfl) (by kernel_rfl) (by kernel_rfl) (fun _ _ _ h => h) (Or.inl ⟨by rfl, ?hyq15x⟩) hHeld ?_
    case hyq15x =>
      intro W hSw
      obtain ⟨sa, sb, sk⟩ : _ ∧ _ ∧ Blk W b 39 #[.int .i64 p.2.fr, .int .i64 p.2.to, .slice Am q cm] := hSw; obtain ⟨s0, s1, s2⟩ := sk.three; clear sk
      (go_simp; try with_reducible rfl)
    simp only [List.setIfInBounds_toArray, List.set_cons_zero, List.set_cons_succ]
    refine wpAnyH_ready (rs := [6]) (by kernel_rfl) (by simp) (AllReadyH.cons rfl (fun K hK => ?_) AllReadyH.nil)
    go_simp
    refine (another_any (w := A.drew) (v := .agg #[.int .i64 p.2.fr, .int .i64 p.2.to, .slice Am q cm]) (m := p.2) (X := fun b => ¬ S b ∨ b = m ∨ b = g) (hbyA.below (Below.refl _ _).drew) (by omega)).mono ?_
    rintro e A3 ⟨v3, rfl, hn3, hb3⟩
    dsimp only
    have hb3' : Below A.heap.size A A3 := ((Below.refl _ _).drew).trans hb3
    have u0 := (hb3'.cell (p := ⟨cN, 0, none⟩) (show cN < _ from by omega)).trans e0
    have u1 := (hb3'.cell (p := ⟨gN, 1, none⟩) (show gN < _ from by omega)).trans e1
    have kM3 := kM.below hb3' kM.lt
    refine hK.out _ _ (show _ ∧ _ ∧ _ from ⟨u0, u1, kM3⟩) (fun hHeld => ?_)
    clear hK K
    try simp only [List.setIfInBounds_toArray, List.set_cons_zero, List.set_cons_succ]
    refine wpAnyH_ready (rs := [7]) (by kernel_rfl) (by simp) (AllReadyH.cons rfl (fun K hK => ?_) AllReadyH.nil)
    obtain ⟨r1, r2, r3, r4, r5⟩ := HKK.out
    have hz3 := hb3'.size
    have hv3 : MsgV A3 (fun b => b < WB.heap.size + 2) p.2 v3 := by
      obtain ⟨A4, n4, c4, e4, ho4, hnw⟩ := hn3
      refine ⟨A4, n4, c4, e4, ho4.bys (fun r e => ?_)⟩
      have r1 : A.heap.size ≤ r := hnw r e
      omega
    obtain ⟨A5, hupd, m5, hg5⟩ := (r5.map.below hb3').store (c := p.1) r1 r2 hv3 r4 (show mN < _ by omega)
    have hT5 : Turn (fun b => b = mN) A3 A5 := Turn.of_grown hg5 (fun r e => by injection e with e; exact e.symm)
    have n5 := (r5.net.below hb3' (by omega)).keep hT5 (fun e => b12 e.symm)
    have v5 := (r5.var.below hb3' (by omega)).keep hT5 (fun e => b13 e.symm)
    have k5 := kM3.keep hT5 (by omega)
    go_simp
    refine hK.out _ _ (show _ ∧ _ ∧ _ from ⟨v5.cell 0, n5.cell 1, k5⟩) (fun hHeld => ?_)
    clear hK K
    try simp only [List.setIfInBounds_toArray, List.set_cons_zero, List.set_cons_succ]
    refine wpAnyH_done (by kernel_rfl) ?_ _
    gi_wp2_with fail
    have hTT : Turn (fun b => b = mN) A A5 := (Turn.of_below hb3' (fun b => b = mN)).trans hT5 (fun _ _ e => e)
    have hl5 := r5.low
    refine ⟨Both.of_turn hTT (by omega) (by omega) (by omega), hTT.mono (fun b _ e => .inl e), ?_, n5, v5, ?_⟩
    · exact hl5.trans (hTT.below hl5.size (fun b e => by omega))
    · rw [r3]; exact m5
  case done =>
    intro W hI hd
    have e0 : W.cell? ⟨cN, 0, none⟩ = some (.pointer (some ⟨gN, 0, none⟩)) := hI.var.cell 0
    have hW2 : Turn (two WB.heap.size) W (W.putObj WB.heap.size (.deferred none)) := turn_putObj W WB.heap.size (.deferred none) (S := two WB.heap.size) (.inl rfl)
    have hI2 := hI.keep hW2 HTWO.out
    have hmap := hI2.map
    rw [List.take_length] at hmap
    have hzz := hI2.low.size
    have hml := hmap.lt
    have hgl2 := hI2.net.lt
    have HFIN : Hid (Nt (W.putObj WB.heap.size (.deferred none)) (fun b => (b = mN ∨ b = gN ∨ WB.heap.size + 2 ≤ b) ∧ b < (W.putObj WB.heap.size (.deferred none)).heap.size) gN s) := Lib.hid ⟨mN, hI2.net, hmap.wide (fun b hb e => by
        rcases e with e | e | e
        · rcases Nat.lt_or_ge b (WB.heap.size + 2) with q | q
          · exact q
          · exact absurd ⟨.inr (.inr q), hb⟩ e
        · omega
        · omega), HOK.out, ⟨.inr (.inl rfl), hgl2⟩, ⟨.inl rfl, hml⟩, b12, fun b e => e.2⟩
    have HLOW := Lib.hid hI2.low
    clear hI2 hmap hI hW2 hml hgl2 hzz
    gi_wp2_with fail
    refine ⟨by simp, .inl ⟨_, _, rfl, run_takeDeferred hd, ?_⟩⟩
    exact ⟨_, by simp [results, Try.results19, go_sem], gN, _, rfl, HFIN.out, fun b e => by rcases e.1 with q | q | q <;> omega, HLOW.out⟩
end Go.Proofs.Yticabfmjdjcfnaa
