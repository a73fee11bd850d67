/-
  The document's Crash. Conditions: bounds.
-/
import Derived.Test.YthhiiimmgghhaaaRefDo
namespace Go.Proofs.Ythhiiimmgghhaaa
open Go.RowKit
theorem slice27_to (a : Option Addr) (n c k : Nat) (i : Int) (hi : i = (k : Int)) (hk : k ≤ c) (W : World) : (Instr.slice 27 (.slice a n c) none (some (.int .i64 i)) none).run Try.prog W = .ok (.slice a k c) W := by
  subst hi
  obtain ⟨j, hj, hz0, hz1, hz2⟩ := info_parts el27.info
  have ha : a.map (fun x : Addr => x.add 0) = a := by cases a <;> simp [Addr.add]
  simp [Instr.slice, run_underlying Try.underlying27, Instr.sliceBounds, Instr.sliceBound, asIntOf, hk, sizeOf, typeInfo, hj, ha]
theorem Fine.take {room : Nat} : ∀ {ts : List Th} {l : FL} (k : Nat), Fine room l ts → Fine room l (ts.take k)
  | [], _, k, h => by simpa using h
  | t :: ts, l, 0, h => h.1
  | t :: ts, l, k + 1, h => ⟨h.1, h.2.1, Fine.take k h.2.2⟩
def RDk.pre (d : RDk) (k : Nat) : RDk := ⟨d.room, d.lasts, d.waits.take k⟩
theorem RDk.ok.pre {d : RDk} (h : d.ok) (k : Nat) : (d.pre k).ok := by
  refine ⟨⟨h.1.1, h.1.2.1, h.1.2.2.1, ?_⟩, fun t ht => h.2.1 t (List.mem_of_mem_take ht), ?_⟩
  · have := h.1.2.2.2.take k
    unfold RDk.st RDk.pre at *
    simp only [List.map_take] at *
    exact this
  · have := h.2.2
    unfold St.size RDk.st RDk.pre at *
    simp only [List.length_map, List.length_take] at *
    omega
theorem RDk.pre_files (d : RDk) (k : Nat) : (d.pre k).st.files = d.upto k := rfl
theorem RTs.first {w : World} {X : Nat → Prop} {A : Option Addr} {n k : Nat} {ts : List RT} (h : RTs w X A n ts) (hk : k ≤ n) : RTs w X A k (ts.take k) := by
  have hl := h.len
  obtain ⟨css, h1, h2, h3⟩ := h
  refine ⟨css.take k, h1.first hk, by simp [h2], fun i t cs e1 e2 => ?_⟩
  rw [List.getElem?_take] at e1 e2
  split at e1
  · rename_i hi
    rw [if_pos hi] at e2
    exact h3 i t cs e1 e2
  · cases e1
def RDk.crash (d : RDk) (kp tn : Int) : RDk := ⟨d.room, left d.st kp tn, []⟩
theorem RDk.crash_st (d : RDk) (kp tn : Int) : (d.crash kp tn).st = d.st.crash kp tn := rfl
theorem left_whole {d : RDk} {kp tn : Int} (h : pick kp d.waits.length = d.waits.length) : left d.st kp tn = d.upto (pick kp d.waits.length) := by
  unfold left RDk.upto RDk.st
  simp only [List.length_map]
  rw [List.map_take, List.getElem?_eq_none (by simp; omega)]
theorem left_next {d : RDk} {kp tn : Int} (h : pick kp d.waits.length < d.waits.length) : left d.st kp tn = torn (d.upto (pick kp d.waits.length)) (d.waits[pick kp d.waits.length]).th tn := by
  unfold left RDk.upto RDk.st
  simp only [List.length_map]
  rw [List.map_take, List.getElem?_map, List.getElem?_eq_getElem h]
  rfl
theorem torn_not {t : RT} {l : FL} {tn : Int} (h : t.what ≠ 0) : torn l t.th tn = l := by
  have e : t.th.bytes = [] := by unfold RT.th; rw [if_neg h]; split <;> rfl
  unfold torn
  rw [e]
  rw [if_neg (by have := pick_le tn ([] : Bs).length; simp at this ⊢; omega)]
theorem torn_put {t : RT} {l : FL} {tn : Int} (h : t.what = 0) : torn l t.th tn = if 0 < pick tn t.bytes.length then putF t.name (t.bytes.take (pick tn t.bytes.length)) l else l := by
  unfold torn RT.th
  rw [if_pos h]
  rfl
theorem pick_nil (tn : Int) : pick tn 0 = 0 := by have := pick_le tn 0; omega
theorem torn_done {t : RT} {l : FL} {tn : Int} (hr : Rises l) (h : t.what = 0) (h0 : 0 < pick tn t.bytes.length) : torn l t.th tn = doneR ⟨t.what, t.name, t.bytes.take (pick tn t.bytes.length), t.n⟩ l := by
  rw [torn_put h, if_pos h0, doneR_on hr]
  unfold RT.th
  simp only
  rw [if_pos h]
  rfl
def CrashRD (w : World) (X : Nat → Prop) (d : RDk) (kp tn : Int) (e : Ending) (w' : World) : Prop := ∃ cs, e = .returned (.agg cs) ∧ RDAt w' X (d.crash kp tn) cs ∧ Below w.heap.size w w'
theorem crashed {w w' : World} {X : Nat → Prop} {d : RDk} {kp tn : Int} {A : Option Addr} {n c : Nat} {l : FL} (hl : left d.st kp tn = l) (h : RFs w' X A n l) (hn : n ≤ c) (hc : c ≤ maxLen) (hb : Below w.heap.size w w') : CrashRD w X d kp tn (.returned (.agg #[.int .i64 (d.room : Int), .slice A n c, .slice none 0 0])) w' :=
  ⟨_, rfl, ⟨A, n, c, none, 0, 0, rfl, by unfold RDk.crash; rw [hl]; exact h, hn, hc, RTs.nil, Nat.le_refl _, Nat.zero_le _⟩, hb⟩
set_option maxRecDepth 100000 in
set_option maxHeartbeats 16000000 in
theorem refCrash_any {w : World} {X : Nat → Prop} {d : RDk} {cs : Array Value} (h : RDAt w X d cs) (hX : ∀ b, X b → b < w.heap.size) (hok : d.ok) (kp tn : Int) :
    Calls Try.prog 34 #[.agg cs, .int .i64 kp, .int .i64 tn] w (CrashRD w X d kp tn) := by
  have HO := Lib.hid hok
  have HX := Lib.hid hX
  have HD := Lib.hid h
  obtain ⟨A, n, c, B, m, k0, rfl, hl, hnc, hcm, hts, hmk, hkm⟩ := h
  have HT := Lib.hid hts
  have HML := Lib.hid hts.len
  have HL := Lib.hid hl
  have hm9 : m ≤ 900000 := by have h1 := hts.len; have hsz := hok.2.2; unfold St.size RDk.st at hsz; simp only [List.length_map] at hsz; omega
  clear hok hX hts hl
  go_enter Try.func34, Try.ntmps34
  have b0 : Blk ((w.alloc (.cells #[.int .i64 (d.room : Int), .slice A n c, .slice B m k0] 29)).alloc (.cells #[.int .i64 0, .slice none 0 0, .slice none 0 0] 29)) w.heap.size 29 #[.int .i64 (d.room : Int), .slice A n c, .slice B m k0] := (Blk.new _ _ _).alloc _
  have r0 : Blk ((w.alloc (.cells #[.int .i64 (d.room : Int), .slice A n c, .slice B m k0] 29)).alloc (.cells #[.int .i64 0, .slice none 0 0, .slice none 0 0] 29)) (w.heap.size + 1) 29 #[.int .i64 0, .slice none 0 0, .slice none 0 0] := by
    have := Blk.new (w.alloc (.cells #[.int .i64 (d.room : Int), .slice A n c, .slice B m k0] 29)) 29 #[.int .i64 0, .slice none 0 0, .slice none 0 0]
    rwa [World.size_alloc] at this
  have hb0 : Below w.heap.size w ((w.alloc (.cells #[.int .i64 (d.room : Int), .slice A n c, .slice B m k0] 29)).alloc (.cells #[.int .i64 0, .slice none 0 0, .slice none 0 0] 29)) := ((Below.refl _ _).alloc (Nat.le_refl _) _).alloc (by simp) _
  go_wp2_with fail
  generalize ((w.alloc (.cells #[.int .i64 (d.room : Int), .slice A n c, .slice B m k0] 29)).alloc (.cells #[.int .i64 0, .slice none 0 0, .slice none 0 0] 29)) = w1 at *
  refine (refPick_any kp m w1 (by omega)).mono ?_
  rintro e w' ⟨rfl, rfl⟩
  have hpk := pick_le kp m
  have HPK : Hid (pick kp m = pick kp d.waits.length) := Lib.hid (by rw [HML.out])
  generalize pick kp m = k at *
  have hsl := fun W => slice27_to B m k0 k (k : Int) rfl (by omega) W
  go_wp2_with fail
  refine wp_region_np ?_
  refine wp_region_held_drew (S := fun W => Blk W w.heap.size 29 #[.int .i64 (d.room : Int), .slice A n c, .slice B m k0]) (by kernel_rfl) b0.drew (fun hHeld => ?_)
  refine wpAnyH_takeAt (i := 0) (d := 16) (v := ?vq0x) rfl rfl (by kernel_rfl) (by kernel_rfl) (by kernel_rfl) (fun _ _ _ h => h) (Or.inl ⟨by rfl, ?hyq0x⟩) hHeld ?_
  case hyq0x =>
    intro W hSw
    clear hSw
    (go_simp; try with_reducible rfl)
  simp only [List.setIfInBounds_toArray, List.set_cons_zero, List.set_cons_succ]
  refine wpAnyH_takeAt (i := 1) (d := 17) (v := ?vq1x) rfl rfl (by kernel_rfl) (by kernel_rfl) (by kernel_rfl) (fun _ _ _ h => h) (Or.inl ⟨by rfl, ?hyq1x⟩) hHeld ?_
  case hyq1x =>
    intro W hSw
    obtain ⟨e0, e1, e2⟩ := Blk.three (show Blk W w.heap.size 29 #[.int .i64 (d.room : Int), .slice A n c, .slice B m k0] from hSw)
    (go_simp; try with_reducible rfl)
  simp only [List.setIfInBounds_toArray, List.set_cons_zero, List.set_cons_succ]
  refine wpAnyH_takeAt (i := 2) (d := 18) (v := ?vq2x) rfl rfl (by kernel_rfl) (by kernel_rfl) (by kernel_rfl) (fun _ _ _ h => h) (Or.inl ⟨by rfl, ?hyq2x⟩) hHeld ?_
  case hyq2x =>
    intro W hSw
    clear hSw
    (go_simp; try with_reducible rfl)
  simp only [List.setIfInBounds_toArray, List.set_cons_zero, List.set_cons_succ]
  refine wpAnyH_takeAt (i := 3) (d := 19) (v := ?vq3x) rfl rfl (by kernel_rfl) (by kernel_rfl) (by kernel_rfl) (fun _ _ _ h => h) (Or.inl ⟨by rfl, ?hyq3x⟩) hHeld ?_
  case hyq3x =>
    intro W hSw
    obtain ⟨e0, e1, e2⟩ := Blk.three (show Blk W w.heap.size 29 #[.int .i64 (d.room : Int), .slice A n c, .slice B m k0] from hSw)
    (go_simp; try with_reducible rfl)
  simp only [List.setIfInBounds_toArray, List.set_cons_zero, List.set_cons_succ]
  refine wpAnyH_takeAt (i := 4) (d := 20) (v := ?vq4x) rfl rfl (by kernel_rfl) (by kernel_rfl) (by kernel_rfl) (fun _ _ _ h => h) (Or.inl ⟨by rfl, ?hyq4x⟩) hHeld ?_
  case hyq4x =>
    intro W hSw
    clear hSw
    (go_simp; try with_reducible rfl)
  simp only [List.setIfInBounds_toArray, List.set_cons_zero, List.set_cons_succ]
  refine wpAnyH_takeAt (i := 5) (d := 21) (v := ?vq5x) rfl rfl (by kernel_rfl) (by kernel_rfl) (by kernel_rfl) (fun _ _ _ h => h) (Or.inl ⟨by rfl, ?hyq5x⟩) hHeld ?_
  case hyq5x =>
    intro W hSw
    obtain ⟨e0, e1, e2⟩ := Blk.three (show Blk W w.heap.size 29 #[.int .i64 (d.room : Int), .slice A n c, .slice B m k0] from hSw)
    (go_simp; try with_reducible rfl)
  simp only [List.setIfInBounds_toArray, List.set_cons_zero, List.set_cons_succ]
  refine wpAnyH_takeAt (i := 6) (d := 22) (v := ?vq6x) rfl rfl (by kernel_rfl) (by kernel_rfl) (by kernel_rfl) (fun _ _ _ h => h) (Or.inl ⟨by rfl, ?hyq6x⟩) hHeld ?_
  case hyq6x =>
    intro W hSw
    clear hSw
    (go_simp; try with_reducible rfl)
  simp only [List.setIfInBounds_toArray, List.set_cons_zero, List.set_cons_succ]
  refine wpAnyH_takeAt (i := 7) (d := 23) (v := ?vq7x) rfl rfl (by kernel_rfl) (by kernel_rfl) (by kernel_rfl) (fun _ _ _ h => h) (Or.inl ⟨by rfl, ?hyq7x⟩) hHeld ?_
  case hyq7x =>
    intro W hSw
    clear hSw
    (go_simp; try with_reducible rfl)
  simp only [List.setIfInBounds_toArray, List.set_cons_zero, List.set_cons_succ]
  refine wpAnyH_takeAt (i := 8) (d := 24) (v := ?vq8x) rfl rfl (by kernel_rfl) (by kernel_rfl) (by kernel_rfl) (fun _ _ _ h => h) (Or.inl ⟨by rfl, ?hyq8x⟩) hHeld ?_
  case hyq8x =>
    intro W hSw
    clear hSw
    (go_simp; try with_reducible rfl)
  simp only [List.setIfInBounds_toArray, List.set_cons_zero, List.set_cons_succ]
  refine wpAnyH_ready (rs := [9]) (by kernel_rfl) (by simp) (AllReadyH.cons rfl (fun K hK => ?_) AllReadyH.nil)
  go_simp
  have hrd : RDAt w1.drew (fun b => X b ∨ b = w.heap.size + 1) (d.pre k) #[.int .i64 (d.room : Int), .slice A n c, .slice B k k0] := RDAt.below (w := w) ⟨A, n, c, B, k, k0, rfl, HL.out.wide (fun b hb e => e.elim id (fun e => by omega)), hnc, hcm, (HT.out.wide (fun b hb e => e.elim id (fun e => by omega))).first hpk, by omega, hkm⟩ hb0.drew
  refine (refFiles_any hrd (fun b hb => hb.elim (fun hb => Nat.lt_of_lt_of_le (HX.out b hb) hb0.size) (fun e => e ▸ r0.lt)) (HO.out.pre k)).mono ?_
  rintro e w2 ⟨A2, q2, c2, rfl, hr2, hqc2, hcm2, hb2⟩
  have hb2' : Below w1.heap.size w1 w2 := ⟨hb2.os, hb2.tape, hb2.output, hb2.size, hb2.block⟩
  refine hK.out _ _ (b0.below hb2' b0.lt) (fun hHeld => ?_)
  clear hK K
  try simp only [List.setIfInBounds_toArray, List.set_cons_zero, List.set_cons_succ]
  refine wpAnyH_takeAt (i := 10) (d := 8) (v := ?vq9x) rfl rfl (by kernel_rfl) (by kernel_rfl) (by kernel_rfl) (fun _ _ _ h => h) (Or.inl ⟨by rfl, ?hyq9x⟩) hHeld ?_
  case hyq9x =>
    intro W hSw
    clear hSw
    (go_simp; try with_reducible rfl)
  simp only [List.setIfInBounds_toArray, List.set_cons_zero, List.set_cons_succ]
  refine wpAnyH_done (by kernel_rfl) ?_ _
  have b2 := b0.below hb2' b0.lt
  have r2 := r0.below hb2' r0.lt
  have hbl2 := hb0.trans (hb2'.mono hb0.size)
  have HR2 : Hid (RFs w2 (fun b => X b ∨ b = w.heap.size + 1) A2 q2 (d.upto k)) := Lib.hid hr2
  have hq2 : q2 ≤ 900000 := by have h1 := hr2.len; have h2 := RDk.upto_len HO.out k; rw [RDk.pre_files] at h1; omega
  have HRR := Lib.hid r2
  have HBL := Lib.hid hbl2
  clear hHeld hr2 hb2 hb2' b0 r0 hb0 r2 hbl2 hrd hsl
  obtain ⟨x0, x1, x2⟩ := b2.three
  by_cases hkm' : k < m
  case neg =>
    have hd1 : decide (k < m) = false := by simpa using hkm'
    have HLF : Hid (left d.st kp tn = d.upto k) := Lib.hid (by rw [HPK.out]; exact left_whole (by have := HML.out; have := HPK.out; omega))
    clear hkm'
    go_wp2_with (with_reducible refine at_store 29 rfl ?_)
    refine Stop.go (wpList_store_blk (by rfl) (by rfl) 29 _ _ (by rfl) (w.heap.size + 1) _ #[.int .i64 (d.room : Int), .slice A2 q2 c2, .slice none 0 0] (by rfl) (by rfl) 29 HRR.out (by rfl) (info29 _ rfl) (by simp [Value.oneCell']) ?_)
    intro w9 f9 g9 s9
    go_wp2_with fail
    refine bodyPost_ret (v := .agg #[.int .i64 (d.room : Int), .slice A2 q2 c2, .slice none 0 0]) (results_cell_row (by rfl) _ _ (w.heap.size + 1) 29 _ (0, 0) _ (by rfl) f9 Try.underlying29 (by rfl) (info29 _ rfl)) rfl ?_
    have hb9 := below_grown HBL.out g9 (Nat.le_refl _) (by omega)
    exact crashed HLF.out ((HR2.out.keep (Turn.of_grown (S := fun b => b = w.heap.size + 1) g9 (fun r e => by cases e; rfl)) (fun b _ e => .inr e)).wide (fun _ _ e => .inl e)) hqc2 hcm2 hb9
  case pos =>
  have hd1 : decide (k < m) = true := by simpa using hkm'
  have hkl : k < d.waits.length := by have := HML.out; omega
  have HLS : Hid (left d.st kp tn = torn (d.upto k) d.waits[k].th tn) := Lib.hid (by
    have e := HPK.out
    subst e
    exact left_next hkl)
  obtain ⟨ad, B1, q1, c1, rfl, ha1, s0, s1, s2, s3, hy1, hq1, hc1⟩ := (HT.out.below HBL.out).at_ hkl
  have hwk := HO.out.2.1 d.waits[k] (List.getElem_mem hkl)
  have HYL := Lib.hid hy1.1
  have HY1 := Lib.hid hy1
  have HWK := Lib.hid hwk
  have hqk : q1 ≤ 100000000 := by have := hy1.1; have := hwk.2.2; omega
  clear hy1 hwk
  by_cases hw : d.waits[k].what = 0
  case neg =>
    have hq0 : (d.waits[k].what == 0) = false := by simpa using hw
    have HLF : Hid (left d.st kp tn = d.upto k) := Lib.hid (by rw [HLS.out, torn_not hw])
    clear hw
    go_wp2_with (with_reducible refine at_store 29 rfl ?_)
    refine Stop.go (wpList_store_blk (by rfl) (by rfl) 29 _ _ (by rfl) (w.heap.size + 1) _ #[.int .i64 (d.room : Int), .slice A2 q2 c2, .slice none 0 0] (by rfl) (by rfl) 29 HRR.out (by rfl) (info29 _ rfl) (by simp [Value.oneCell']) ?_)
    intro w9 f9 g9 s9
    go_wp2_with fail
    refine bodyPost_ret (v := .agg #[.int .i64 (d.room : Int), .slice A2 q2 c2, .slice none 0 0]) (results_cell_row (by rfl) _ _ (w.heap.size + 1) 29 _ (0, 0) _ (by rfl) f9 Try.underlying29 (by rfl) (info29 _ rfl)) rfl ?_
    have hb9 := below_grown HBL.out g9 (Nat.le_refl _) (by omega)
    exact crashed HLF.out ((HR2.out.keep (Turn.of_grown (S := fun b => b = w.heap.size + 1) g9 (fun r e => by cases e; rfl)) (fun b _ e => .inr e)).wide (fun _ _ e => .inl e)) hqc2 hcm2 hb9
  case pos =>
  have hq0 : (d.waits[k].what == 0) = true := by simpa using hw
  have HW0 := Lib.hid hw
  clear hw
  by_cases hz : 0 < q1
  case neg =>
    have hdz : decide (0 < q1) = false := by simpa using hz
    have HLF : Hid (left d.st kp tn = d.upto k) := Lib.hid (by rw [HLS.out, torn_put HW0.out, HYL.out, show q1 = 0 by omega, pick_nil]; rfl)
    clear hz
    go_wp2_with (with_reducible refine at_store 29 rfl ?_)
    refine Stop.go (wpList_store_blk (by rfl) (by rfl) 29 _ _ (by rfl) (w.heap.size + 1) _ #[.int .i64 (d.room : Int), .slice A2 q2 c2, .slice none 0 0] (by rfl) (by rfl) 29 HRR.out (by rfl) (info29 _ rfl) (by simp [Value.oneCell']) ?_)
    intro w9 f9 g9 s9
    go_wp2_with fail
    refine bodyPost_ret (v := .agg #[.int .i64 (d.room : Int), .slice A2 q2 c2, .slice none 0 0]) (results_cell_row (by rfl) _ _ (w.heap.size + 1) 29 _ (0, 0) _ (by rfl) f9 Try.underlying29 (by rfl) (info29 _ rfl)) rfl ?_
    have hb9 := below_grown HBL.out g9 (Nat.le_refl _) (by omega)
    exact crashed HLF.out ((HR2.out.keep (Turn.of_grown (S := fun b => b = w.heap.size + 1) g9 (fun r e => by cases e; rfl)) (fun b _ e => .inr e)).wide (fun _ _ e => .inl e)) hqc2 hcm2 hb9
  case pos =>
  have hdz : decide (0 < q1) = true := by simpa using hz
  go_wp2_with fail
  have hv : Blk (w2.alloc (.cells #[.int .i64 d.waits[k].what, .string (str d.waits[k].name), .slice B1 q1 c1, .int .i64 d.waits[k].n] 65)) w2.heap.size 65 #[.int .i64 d.waits[k].what, .string (str d.waits[k].name), .slice B1 q1 c1, .int .i64 d.waits[k].n] := Blk.new _ _ _
  have hbv : Below w2.heap.size w2 (w2.alloc (.cells #[.int .i64 d.waits[k].what, .string (str d.waits[k].name), .slice B1 q1 c1, .int .i64 d.waits[k].n] 65)) := (Below.refl _ _).alloc (Nat.le_refl _) _
  have HR3 := Lib.hid (HR2.out.below hbv)
  have HRR3 := Lib.hid (HRR.out.below hbv HRR.out.lt)
  have HBL3 := Lib.hid (HBL.out.trans (hbv.mono HBL.out.size))
  have HY3 : Hid (Bys (w2.alloc (.cells #[.int .i64 d.waits[k].what, .string (str d.waits[k].name), .slice B1 q1 c1, .int .i64 d.waits[k].n] 65)) (fun b => X b ∨ b = w2.heap.size) B1 q1 d.waits[k].bytes) := Lib.hid ((HY1.out.wide (fun b hb e => e.elim id (fun e => by omega))).below hbv)
  have HR3z : Hid (RFs (w2.alloc (.cells #[.int .i64 d.waits[k].what, .string (str d.waits[k].name), .slice B1 q1 c1, .int .i64 d.waits[k].n] 65)) (fun b => (X b ∨ b = w.heap.size + 1) ∨ b = w2.heap.size) A2 q2 (d.upto k)) := Lib.hid ((HR2.out.wide (fun b hb e => e.elim id (fun e => by omega))).below hbv)
  have HZ : Hid (w.heap.size + 1 < w2.heap.size) := Lib.hid HRR.out.lt
  have b3 := b2.below hbv b2.lt
  generalize w2.alloc (.cells #[.int .i64 d.waits[k].what, .string (str d.waits[k].name), .slice B1 q1 c1, .int .i64 d.waits[k].n] 65) = w3 at *
  generalize w2.heap.size = z at *
  clear x0 x1 x2 s0 s1 s2 s3 b2 hbv
  obtain ⟨x0, x1, x2⟩ := b3.three
  obtain ⟨v0, v1, v2, v3⟩ := hv.four
  have fz := hv.frozen 2
  refine (refPick_any tn q1 w3 (by omega)).mono ?_
  rintro e w' ⟨rfl, rfl⟩
  have hp1 := pick_le tn q1
  have HP1 : Hid (pick tn q1 = pick tn d.waits[k].bytes.length) := Lib.hid (by rw [HYL.out])
  generalize pick tn q1 = p1 at *
  by_cases hp0 : 0 < p1
  case neg =>
    have hdp : decide (0 < p1) = false := by simpa using hp0
    have HLF : Hid (left d.st kp tn = d.upto k) := Lib.hid (by rw [HLS.out, torn_put HW0.out, if_neg (by rw [← HP1.out]; exact hp0)])
    clear hp0
    go_wp2_with (with_reducible refine at_store 29 rfl ?_)
    refine Stop.go (wpList_store_blk (by rfl) (by rfl) 29 _ _ (by rfl) (w.heap.size + 1) _ #[.int .i64 (d.room : Int), .slice A2 q2 c2, .slice none 0 0] (by rfl) (by rfl) 29 HRR3.out (by rfl) (info29 _ rfl) (by simp [Value.oneCell']) ?_)
    intro w9 f9 g9 s9
    go_wp2_with fail
    refine bodyPost_ret (v := .agg #[.int .i64 (d.room : Int), .slice A2 q2 c2, .slice none 0 0]) (results_cell_row (by rfl) _ _ (w.heap.size + 1) 29 _ (0, 0) _ (by rfl) f9 Try.underlying29 (by rfl) (info29 _ rfl)) rfl ?_
    have hb9 := below_grown HBL3.out g9 (Nat.le_refl _) (by omega)
    exact crashed HLF.out ((HR3.out.keep (Turn.of_grown (S := fun b => b = w.heap.size + 1) g9 (fun r e => by cases e; rfl)) (fun b _ e => .inr e)).wide (fun _ _ e => .inl e)) hqc2 hcm2 hb9
  case pos =>
  have hdp : decide (0 < p1) = true := by simpa using hp0
  have HLF : Hid (left d.st kp tn = doneR ⟨d.waits[k].what, d.waits[k].name, d.waits[k].bytes.take p1, d.waits[k].n⟩ (d.upto k)) := Lib.hid (by rw [HLS.out, torn_done (RDk.upto_rises HO.out k) HW0.out (by rw [← HP1.out]; exact hp0), ← HP1.out])
  have hsl := fun W => slice_to B1 q1 c1 p1 (p1 : Int) rfl (by omega) W
  clear hp0
  go_wp2_with fail
  have hv4 : Blk (w3.setCell ⟨z, 2, none⟩ (.slice B1 p1 c1)) z 65 #[.int .i64 d.waits[k].what, .string (str d.waits[k].name), .slice B1 p1 c1, .int .i64 d.waits[k].n] := hv.set_ 2 _
  have hT4 : Turn (fun b => b = z) w3 (w3.setCell ⟨z, 2, none⟩ (.slice B1 p1 c1)) := (Turn.refl (fun b => b = z) _).setCell (p := ⟨z, 2, none⟩) (fun _ => rfl) _
  have hzz := HZ.out
  have HR4 := Lib.hid ((HR3z.out.keep hT4 (fun b _ e => .inr e)).wide (X' := fun b => X b ∨ b = w.heap.size + 1) (fun b _ e => .inl e))
  have HY4 := Lib.hid ((HY3.out.keep hT4 (fun b _ e => .inr e)).wide (X' := X) (fun b _ e => .inl e))
  have HRR4 := Lib.hid (HRR3.out.keep hT4 (by omega))
  have HBL4 := Lib.hid (HBL3.out.trans (hT4.below HBL3.out.size (fun b e => by omega)))
  have b4 := b3.keep hT4 (by omega)
  generalize w3.setCell ⟨z, 2, none⟩ (.slice B1 p1 c1) = w4 at *
  clear x0 x1 x2 v0 v1 v2 v3 fz hv b3 hT4
  have hto := RDk.upto_can HO.out hkl
  have hln := HY4.out.1
  refine (done_any HR4.out (fun b hb => hb.elim (fun hb => Nat.lt_of_lt_of_le (HX.out b hb) HBL4.out.size) (fun e => e ▸ HRR4.out.lt)) (t := ⟨d.waits[k].what, d.waits[k].name, d.waits[k].bytes.take p1, d.waits[k].n⟩) (Y := X) ⟨B1, p1, c1, rfl, HY4.out.first hp1, by omega, hc1⟩ (.inl HW0.out) (fun h => absurd (h.symm.trans HW0.out) (by decide)) (by omega) (by show (d.waits[k].bytes.take p1).length ≤ _; rw [List.length_take]; omega) (by have := hto.2; omega)).mono ?_
  rintro e w5 ⟨A5, q5, c5, rfl, hr5, hqc5, hcm5, hb5⟩
  have HR5 := Lib.hid hr5
  have HRR5 := Lib.hid (HRR4.out.below hb5 HRR4.out.lt)
  have HBL5 := Lib.hid (HBL4.out.trans (hb5.mono HBL4.out.size))
  obtain ⟨x0, x1, x2⟩ := (b4.below hb5 b4.lt).three
  clear hr5 hb5 b4 hto hln hv4
  go_wp2_with (with_reducible refine at_store 29 rfl ?_)
  refine Stop.go (wpList_store_blk (by rfl) (by rfl) 29 _ _ (by rfl) (w.heap.size + 1) _ #[.int .i64 (d.room : Int), .slice A5 q5 c5, .slice none 0 0] (by rfl) (by rfl) 29 HRR5.out (by rfl) (info29 _ rfl) (by simp [Value.oneCell']) ?_)
  intro w9 f9 g9 s9
  go_wp2_with fail
  refine bodyPost_ret (v := .agg #[.int .i64 (d.room : Int), .slice A5 q5 c5, .slice none 0 0]) (results_cell_row (by rfl) _ _ (w.heap.size + 1) 29 _ (0, 0) _ (by rfl) f9 Try.underlying29 (by rfl) (info29 _ rfl)) rfl ?_
  have hb9 := below_grown HBL5.out g9 (Nat.le_refl _) (by omega)
  exact crashed HLF.out ((HR5.out.keep (Turn.of_grown (S := fun b => b = w.heap.size + 1) g9 (fun r e => by cases e; rfl)) (fun b _ e => .inr e)).wide (fun _ _ e => .inl e)) hqc5 hcm5 hb9
end Go.Proofs.Ythhiiimmgghhaaa
