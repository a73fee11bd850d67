/-
  A disk behind things, and the document's (played). Conditions: bounds.
-/
import Derived.Test.YthhiiimmgghhaaaAct
import Derived.Test.YthhiiimmgghhaaaIs
namespace Go.Proofs.Ythhiiimmgghhaaa
open Go.RowKit
theorem doC_nm' {s : St} {t : RT} (h : doC s t = 0) : isNm t.name = true := by
  cases hn : isNm t.name with
  | true => rfl
  | false => rw [doC_nm hn] at h; omega
theorem th_name (t : RT) : t.th.name = t.name := by
  unfold RT.th
  split
  · rfl
  · split <;> rfl
theorem next_more {d : RDk} {t : RT} (hok : d.ok) (hst : (d.next t).st.ok) (hn : Nmd d.st) (hb : t.bytes.length ≤ 100000000) (hsz : d.st.size < 900000) : (d.next t).ok ∧ Nmd (d.next t).st ∧ (d.next t).st.size ≤ d.st.size + 1 := by
  unfold RDk.next at *
  by_cases hw : t.what = 0 ∨ t.what = 1 ∨ t.what = 2
  · rw [if_pos hw] at *
    unfold RDk.then at *
    by_cases h0 : doC d.st t = 0
    · rw [if_pos h0] at *
      rw [RDk.did_st] at hst
      have hsd := d.st.size_done t.th
      refine ⟨⟨by rw [RDk.did_st]; exact hst, fun u hu => ?_, by rw [RDk.did_st, hsd]; omega⟩, by rw [RDk.did_st]; exact hn.done (by rw [th_name]; exact doC_nm' h0), by rw [RDk.did_st, hsd]; omega⟩
      rcases List.mem_append.1 (show u ∈ d.waits ++ [t] from hu) with hu | hu
      · exact hok.2.1 u hu
      · simp at hu
        subst hu
        refine ⟨hw, fun h1 => ?_, hb⟩
        unfold doC cutC at h0
        rw [if_neg (by omega), if_pos h1] at h0
        split at h0
        · split at h0
          · rename_i h2; exact h2.1
          · omega
        · rename_i h2; exact absurd h0 h2
    · rw [if_neg h0] at *
      exact ⟨hok, hn, by omega⟩
  · rw [if_neg hw] at *
    have hsf := d.st.size_flush
    have h1 : d.flush.st.size ≤ d.st.size := hsf
    exact ⟨⟨hst, fun u hu => (by cases hu), by have := hok.2.2; omega⟩, hn.flush, by omega⟩
/-- The document's disk behind things. -/
def RDk.run (d : RDk) (ts : List RT) : RDk := ts.foldl RDk.next d
theorem run_snoc (d : RDk) (ts : List RT) {k : Nat} (h : k < ts.length) : d.run (ts.take (k + 1)) = (d.run (ts.take k)).next ts[k] := by
  unfold RDk.run
  rw [List.take_succ_eq_append_getElem h, List.foldl_append]
  rfl
/-- What holds between two things. -/
structure Pl (w : World) (g zv k : Nat) (S : Nat → Prop) (d : RDk) (cs : Array Value) (wr : World) : Prop where
  dk : Dk wr S (fun b => S b ∨ b = zv ∨ b = w.heap.size) g d.st
  rd : RDAt wr (fun b => S b ∨ b = zv ∨ b = w.heap.size) d cs
  ok : d.ok
  nmd : Nmd d.st
  size : d.st.size ≤ k
  low : ∀ b, S b → w.heap.size < b ∧ b ≠ zv
  zlow : w.heap.size < zv
  res : Blk wr w.heap.size 29 #[.int .i64 0, .slice none 0 0, .slice none 0 0]
  var : Blk wr zv 29 cs
  below : Below w.heap.size w wr
theorem Pl.drew {w : World} {g zv k : Nat} {S : Nat → Prop} {d : RDk} {cs : Array Value} {wr : World} (h : Pl w g zv k S d cs wr) : Pl w g zv k S d cs wr.drew :=
  have hb : Below wr.heap.size wr wr.drew := (Below.refl _ _).drew
  ⟨h.dk.below hb, h.rd.below hb, h.ok, h.nmd, h.size, h.low, h.zlow, h.res.drew, h.var.drew, h.below.drew⟩
theorem Pl.small {w : World} {g zv k : Nat} {S : Nat → Prop} {d : RDk} {cs : Array Value} {wr : World} (h : Pl w g zv k S d cs wr) : ∀ b, (S b ∨ b = zv ∨ b = w.heap.size) → b < wr.heap.size := fun b e => by
  rcases e with e | e | e
  · exact h.dk.lt e
  · rw [e]; exact h.var.lt
  · rw [e]; exact h.res.lt
/-- A thing was done by both. -/
theorem Pl.acted {w : World} {g zv k : Nat} {S : Nat → Prop} {d : RDk} {cs cs' : Array Value} {wr w5 : World} {t : RT} (h : Pl w g zv k S d cs wr) (ha : ActsC wr S (fun b => S b ∨ b = zv ∨ b = w.heap.size) g (d.next t) cs' w5) (hb : t.bytes.length ≤ 100000000) (hk : k < 900000) :
    Blk w5 zv 29 cs ∧ Below w.heap.size w w5 ∧ ∃ S', ∀ w6, Blk w6 zv 29 cs' → w5.grownBy w6 (some zv) → Pl w g zv (k + 1) S' (d.next t) cs' w6 := by
  obtain ⟨S', hm, hd, hr⟩ := ha
  have hnS : ¬ S zv := fun e => (h.low _ e).2 rfl
  have hnR : ¬ S w.heap.size := fun e => by have := (h.low _ e).1; omega
  have hv5 := h.var.keep hm.turn hnS
  have hr5 := h.res.keep hm.turn hnR
  have hb5 : Below w.heap.size w w5 := h.below.trans (hm.turn.below h.below.size (fun b e => by have := (h.low b e).1; omega))
  have hvl := h.var.lt
  have hnS' : ¬ S' zv := fun e => (hm.new _ e).elim hnS (fun e => by omega)
  have hrl := h.res.lt
  refine ⟨hv5, hb5, S', fun w6 hv6 hg => ?_⟩
  have hT : Turn (fun b => b = zv) w5 w6 := Turn.of_grown hg (fun r e => by cases e; rfl)
  have hmore := next_more h.ok hd.ok h.nmd hb (by have := h.size; omega)
  have hd6 := hd.keep hT (fun b _ e => ⟨.inl (.inr (.inl e)), fun e' => hnS' (e ▸ e')⟩)
  have hr6 := hr.keep hT (fun b _ e => .inl (.inr (.inl e)))
  exact ⟨hd6.wide (fun b _ e => e.elim .inr (fun e => .inl (.inr e))) (fun b e => .inl e), hr6.wide (fun b _ e => e.elim .inr (fun e => .inl (.inr e))), hmore.1, hmore.2.1, by have := hmore.2.2; have := h.size; omega,
    fun b e => (hm.new b e).elim (h.low b) (fun e => ⟨by omega, by omega⟩), h.zlow, hr5.keep hT (by have := h.zlow; omega), hv6, hb5.trans (hT.below hb5.size (fun b e => by have := h.zlow; omega))⟩
def Played (w : World) (d : RDk) (e : Ending) (w' : World) : Prop := ∃ g cs S, e = .returned (.tuple #[.pointer (some ⟨g, 0, none⟩), .agg cs, .bool true]) ∧ Dk w' S S g d.st ∧ RDAt w' S d cs ∧ (∀ b, S b → w.heap.size ≤ b) ∧ Below w.heap.size w w' ∧ d.ok ∧ Nmd d.st ∧ d.st.size < 100000
theorem Dk.fresh {w : World} {S X X' : Nat → Prop} {g r : Nat} {l : FL} (h : Dk w S X g ⟨r, l, []⟩) (hS : ∀ b, S b → X' b) : Dk w S X' g ⟨r, l, []⟩ := by
  obtain ⟨m1, m2, S1, S2, wv, h⟩ := h
  refine ⟨m1, m2, S1, S2, wv, { h with ts := ?_, inX := hS }⟩
  obtain ⟨css, h1, h2, h3⟩ := h.ts
  exact ⟨css, h1, h2, fun i t cs e => by simp at e⟩
set_option maxRecDepth 100000 in
set_option maxHeartbeats 16000000 in
theorem played_any {w : World} {room : Nat} (h1 : 1 ≤ room) (h2 : room ≤ 16777216) {a : Option Addr} {len cap : Nat} {ts : List RT} (hts : RTs w No a len ts) (hlen : len ≤ 1000) (hbd : ∀ t ∈ ts, t.bytes.length ≤ 100000000 ∧ t.name.length ≤ 1000000000) :
    Calls Try.prog 30 #[.int .i64 (room : Int), .slice a len cap] w (Played w ((⟨room, [], []⟩ : RDk).run ts)) := by
  have HTS := Lib.hid hts
  have HBD := Lib.hid hbd
  have HL := Lib.hid hts.len
  clear hts hbd
  go_enter Try.func30, Try.ntmps30
  have r1 : Blk (w.alloc (.cells #[.int .i64 0, .slice none 0 0, .slice none 0 0] 29)) w.heap.size 29 #[.int .i64 0, .slice none 0 0, .slice none 0 0] := Blk.new _ _ _
  have hb1 : Below w.heap.size w (w.alloc (.cells #[.int .i64 0, .slice none 0 0, .slice none 0 0] 29)) := (Below.refl _ _).alloc (Nat.le_refl _) _
  have hz1 : (w.alloc (.cells #[.int .i64 0, .slice none 0 0, .slice none 0 0] 29)).heap.size = w.heap.size + 1 := World.size_alloc _ _
  have HZ1 := Lib.hid hz1
  clear hz1
  go_wp2_with fail
  generalize w.alloc (.cells #[.int .i64 0, .slice none 0 0, .slice none 0 0] 29) = w1 at *
  refine (new_yes room w1 h1 h2).mono ?_
  rintro e w2 ⟨g, S0, rfl, hD0, hS0, hb2⟩
  have r2 := r1.below hb2 r1.lt
  have hbl2 := hb1.trans (hb2.mono hb1.size)
  have HD0 := Lib.hid hD0
  have HS0 := Lib.hid hS0
  clear hD0 hS0 r1 hb1
  go_wp2_with fail
  refine (refNew_yes (w := w2) (fun b => S0 b ∨ b = w.heap.size) h1 h2).mono ?_
  rintro e w3 ⟨cs3, rfl, hrd3, hb3⟩
  have HRD3 := Lib.hid hrd3
  obtain ⟨A3, n3, c3, B3, m3, k3, rfl, -, -, -, -, -, -⟩ := hrd3
  have r3 := r2.below hb3 r2.lt
  have hbl3 := hbl2.trans (hb3.mono hbl2.size)
  have HS3 : Hid (∀ b, S0 b → w.heap.size < b ∧ b < w3.heap.size) := Lib.hid (fun b e => by
    have e1 := HS0.out b e
    have e2 := HZ1.out
    have e3 := HD0.out.lt e
    have e4 := hb3.size
    omega)
  have HD3 := Lib.hid (HD0.out.below hb3)
  clear r2 hbl2 hb3 hb2
  go_wp2_with fail
  refine (num_any 0 _).mono ?_
  rintro e w' ⟨rfl, rfl⟩
  have hal : Below w3.heap.size w3 (w3.alloc (.cells #[.int .i64 (room : Int), .slice A3 n3 c3, .slice B3 m3 k3] 29)) := (Below.refl _ _).alloc (Nat.le_refl _) _
  have hpl : Pl w g w3.heap.size 0 S0 ⟨room, [], []⟩ #[.int .i64 (room : Int), .slice A3 n3 c3, .slice B3 m3 k3] (w3.alloc (.cells #[.int .i64 (room : Int), .slice A3 n3 c3, .slice B3 m3 k3] 29)) :=
    ⟨Dk.fresh (HD3.out.below hal) (fun b e => .inl e), (HRD3.out.wide (fun b hb e => e.elim .inl (fun e => e.elim (fun e => by omega) .inr))).below hal, ⟨(HD3.out).ok, fun t ht => (by cases ht), by simp [St.size, RDk.st]⟩, nmd_new room, by simp [St.size, RDk.st],
      fun b e => by have := HS3.out b e; omega, r3.lt, r3.alloc _, Blk.new _ _ _, hbl3.trans (hal.mono hbl3.size)⟩
  have HPL := Lib.hid hpl
  clear hpl hal r3 hbl3
  go_wp2_with fail
  generalize w3.alloc (.cells #[.int .i64 (room : Int), .slice A3 n3 c3, .slice B3 m3 k3] 29) = w4 at *
  generalize w3.heap.size = zv at *
  go_loopw [11, 12] (fun f i wr => ∃ (k : Nat) (S : Nat → Prop) (cs : Array Value), k ≤ len ∧ f = .bool true ∧ i = .int .i64 k ∧ Pl w g zv k S ((⟨room, [], []⟩ : RDk).run (ts.take k)) cs wr) (fun _ i _ => len - (intOf i).toNat)
  case atStart => exact ⟨0, S0, _, by omega, rfl, rfl, HPL.out⟩
  case round =>
    obtain ⟨k, S, cs, hk, rfl, rfl, hP⟩ := hrel
    have HP := Lib.hid hP
    clear hP
    by_cases hlt : k < len
    case pos =>
      have hkl : k < ts.length := by have := HL.out; omega
      have HRS := Lib.hid (run_snoc ⟨room, [], []⟩ ts hkl)
      generalize (⟨room, [], []⟩ : RDk).run (ts.take k) = d at *
      obtain ⟨ad, B1, q1, c1, rfl, ha1, x0, x1, x2, x3, hy1, hq1, hc1⟩ := HTS.out.at_ hkl
      have HCELL : Hid (∀ W, Below w.heap.size w W → W.cell? (ad.add (k * 4)) = some (.int .i64 ts[k].what) ∧ W.cell? ⟨(ad.add (k * 4)).block, (ad.add (k * 4)).off + 1, none⟩ = some (.string (str ts[k].name)) ∧ W.cell? ⟨(ad.add (k * 4)).block, (ad.add (k * 4)).off + 2, none⟩ = some (.slice B1 q1 c1) ∧ W.cell? ⟨(ad.add (k * 4)).block, (ad.add (k * 4)).off + 3, none⟩ = some (.int .i64 ts[k].n)) := Lib.hid (fun W hW =>
        ⟨(hW.cell (p := ad.add (k * 4)) (by rw [block_of_add]; exact ha1)).trans x0,
         (hW.cell (p := ⟨(ad.add (k * 4)).block, (ad.add (k * 4)).off + 1, none⟩) (by show (ad.add (k * 4)).block < _; rw [block_of_add]; exact ha1)).trans x1,
         (hW.cell (p := ⟨(ad.add (k * 4)).block, (ad.add (k * 4)).off + 2, none⟩) (by show (ad.add (k * 4)).block < _; rw [block_of_add]; exact ha1)).trans x2,
         (hW.cell (p := ⟨(ad.add (k * 4)).block, (ad.add (k * 4)).off + 3, none⟩) (by show (ad.add (k * 4)).block < _; rw [block_of_add]; exact ha1)).trans x3⟩)
      have HY1 := Lib.hid hy1
      have HBT := Lib.hid (HBD.out ts[k] (List.getElem_mem hkl))
      have hrd := HP.out.rd
      obtain ⟨A, n, c, B, m, k0, rfl, -, -, -, -, -, -⟩ := hrd
      clear x0 x1 x2 x3 hy1
      go_wp2_with fail
      refine wp_region_np ?_
      refine wp_region_held_drew (S := fun W => Below w.heap.size w W) (by kernel_rfl) HP.out.below.drew (fun hHeld => ?_)
      refine wpAnyH_takeAt (i := 0) (d := 40) (v := ?vq0x) rfl rfl (by kernel_rfl) (by kernel_rfl) (by kernel_rfl) (fun _ _ _ h => h) (Or.inl ⟨by rfl, ?hyq0x⟩) hHeld ?_
      case hyq0x =>
        intro W hSw
        clear hSw
        (go_simp; try with_reducible rfl)
      simp only [List.setIfInBounds_toArray, List.set_cons_zero, List.set_cons_succ]
      refine wpAnyH_takeAt (i := 2) (d := 42) (v := ?vq1x) rfl rfl (by kernel_rfl) (by kernel_rfl) (by kernel_rfl) (fun _ _ _ h => h) (Or.inl ⟨by rfl, ?hyq1x⟩) hHeld ?_
      case hyq1x =>
        intro W hSw
        clear hSw
        (go_simp; try with_reducible rfl)
      simp only [List.setIfInBounds_toArray, List.set_cons_zero, List.set_cons_succ]
      refine wpAnyH_takeAt (i := 3) (d := 43) (v := ?vq2x) rfl rfl (by kernel_rfl) (by kernel_rfl) (by kernel_rfl) (fun _ _ _ h => h) (Or.inl ⟨by rfl, ?hyq2x⟩) hHeld ?_
      case hyq2x =>
        intro W hSw
        clear hSw
        (go_simp; try with_reducible rfl)
      simp only [List.setIfInBounds_toArray, List.set_cons_zero, List.set_cons_succ]
      refine wpAnyH_takeAt (i := 4) (d := 44) (v := ?vq3x) rfl rfl (by kernel_rfl) (by kernel_rfl) (by kernel_rfl) (fun _ _ _ h => h) (Or.inl ⟨by rfl, ?hyq3x⟩) hHeld ?_
      case hyq3x =>
        intro W hSw
        clear hSw
        (go_simp; try with_reducible rfl)
      simp only [List.setIfInBounds_toArray, List.set_cons_zero, List.set_cons_succ]
      refine wpAnyH_takeAt (i := 5) (d := 45) (v := ?vq4x) rfl rfl (by kernel_rfl) (by kernel_rfl) (by kernel_rfl) (fun _ _ _ h => h) (Or.inl ⟨by rfl, ?hyq4x⟩) hHeld ?_
      case hyq4x =>
        intro W hSw
        obtain ⟨e0, e1, e2, e3⟩ := HCELL.out W hSw
        (go_simp; try with_reducible rfl)
      simp only [List.setIfInBounds_toArray, List.set_cons_zero, List.set_cons_succ]
      refine wpAnyH_ready (rs := [1]) (by kernel_rfl) (by simp) (AllReadyH.cons rfl (fun K hK => ?_) AllReadyH.nil)
      obtain ⟨e0, e1, e2⟩ := HP.out.var.drew.three
      go_simp
      refine hK.out _ _ hHeld (fun hHeld => ?_)
      clear hK K e0 e1 e2
      try simp only [List.setIfInBounds_toArray, List.set_cons_zero, List.set_cons_succ]
      refine wpAnyH_ready (rs := [6]) (by kernel_rfl) (by simp) (AllReadyH.cons rfl (fun K hK => ?_) AllReadyH.nil)
      go_simp
      have hPd := HP.out.drew
      have hta : RTAt wr.drew (fun b => S b ∨ b = zv ∨ b = w.heap.size) ts[k] #[.int .i64 ts[k].what, .string (str ts[k].name), .slice B1 q1 c1, .int .i64 ts[k].n] := RTAt.below (w := w) ⟨B1, q1, c1, rfl, HY1.out.wide (fun b hb e => by
        rcases e with e | e | e
        · have := (HP.out.low b e).1; omega
        · have := HP.out.zlow; omega
        · omega), hq1, hc1⟩ hHeld
      refine (act_any hPd.dk hPd.small hPd.rd hPd.ok hta HBT.out.2 HBT.out.1 (by have := hPd.size; omega)).mono ?_
      rintro e w5 ⟨cs5, rfl, hac⟩
      have hrd5 := hac
      obtain ⟨S5, -, -, A5, n5, c5, B5, m5, k5, rfl, -, -, -, -, -, -⟩ := hrd5
      obtain ⟨hv5, hb5, S', hfin⟩ := hPd.acted hac HBT.out.1 (by omega)
      have HFIN := Lib.hid hfin
      refine hK.out _ _ hb5 (fun hHeld => ?_)
      clear hK K hfin hac hta hPd
      try simp only [List.setIfInBounds_toArray, List.set_cons_zero, List.set_cons_succ]
      refine wpAnyH_takeAt (i := 7) (d := 39) (v := ?vq5x) rfl rfl (by kernel_rfl) (by kernel_rfl) (by kernel_rfl) (fun _ _ _ h => h) (Or.inl ⟨by rfl, ?hyq5x⟩) hHeld ?_
      case hyq5x =>
        intro W hSw
        clear hSw
        (go_simp; try with_reducible rfl)
      simp only [List.setIfInBounds_toArray, List.set_cons_zero, List.set_cons_succ]
      refine wpAnyH_takeAt (i := 8) (d := 47) (v := ?vq6x) rfl rfl (by kernel_rfl) (by kernel_rfl) (by kernel_rfl) (fun _ _ _ h => h) (Or.inl ⟨by rfl, ?hyq6x⟩) hHeld ?_
      case hyq6x =>
        intro W hSw
        clear hSw
        (go_simp; try with_reducible rfl)
      simp only [List.setIfInBounds_toArray, List.set_cons_zero, List.set_cons_succ]
      refine wpAnyH_takeAt (i := 9) (d := 48) (v := ?vq7x) rfl rfl (by kernel_rfl) (by kernel_rfl) (by kernel_rfl) (fun _ _ _ h => h) (Or.inl ⟨by rfl, ?hyq7x⟩) hHeld ?_
      case hyq7x =>
        intro W hSw
        clear hSw
        (go_simp; try with_reducible rfl)
      simp only [List.setIfInBounds_toArray, List.set_cons_zero, List.set_cons_succ]
      refine wpAnyH_ready (rs := [10]) (by kernel_rfl) (by simp) (AllReadyH.cons rfl (fun K hK => ?_) AllReadyH.nil)
      refine step_store_blk (by rfl) (by rfl) 29 _ _ (by rfl) zv _ #[.int .i64 ((d.next ts[k]).room : Int), .slice A5 n5 c5, .slice B5 m5 k5] (by rfl) (by rfl) 29 hv5 (by rfl) (info29 _ rfl) (by simp [Value.oneCell']) ?_
      intro w6 f6 g6 s6
      have hP6 := HFIN.out w6 f6 g6
      have HP6 := Lib.hid hP6
      refine hK.out _ _ hP6.below (fun hHeld => ?_)
      clear hK K hP6 f6 g6 s6
      refine wpAnyH_takeAt (i := 11) (d := 11) (v := ?vq8x) rfl rfl (by kernel_rfl) (by kernel_rfl) (by kernel_rfl) (fun _ _ _ h => h) (Or.inl ⟨by rfl, ?hyq8x⟩) hHeld ?_
      case hyq8x =>
        intro W hSw
        clear hSw
        (go_simp; try with_reducible rfl)
      simp only [List.setIfInBounds_toArray, List.set_cons_zero, List.set_cons_succ]
      refine wpAnyH_done (by kernel_rfl) ?_ _
      go_wp2_with fail
      go_roundw
      case rel => exact ⟨k + 1, S', _, by omega, rfl, by go_num, by rw [HRS.out]; exact HP6.out⟩
      case measure => simp [intOf]; omega
    case neg =>
      have hd1 : decide (k < len) = false := by simpa using hlt
      have htk : ts.take k = ts := List.take_of_length_le (by have := HL.out; omega)
      rw [htk] at HP
      clear htk
      generalize (⟨room, [], []⟩ : RDk).run ts = d at *
      have hrd := HP.out.rd
      obtain ⟨A, n, c, B, m, k0, rfl, -, -, -, -, -, -⟩ := hrd
      go_wp2_with fail
      refine wp_region_np ?_
      refine wp_region_held_drew (S := fun W => Blk W zv 29 #[.int .i64 (d.room : Int), .slice A n c, .slice B m k0]) (by kernel_rfl) HP.out.var.drew (fun hHeld => ?_)
      refine wpAnyH_takeAt (i := 0) (d := 49) (v := ?vq9x) rfl rfl (by kernel_rfl) (by kernel_rfl) (by kernel_rfl) (fun _ _ _ h => h) (Or.inl ⟨by rfl, ?hyq9x⟩) hHeld ?_
      case hyq9x =>
        intro W hSw
        clear hSw
        (go_simp; try with_reducible rfl)
      simp only [List.setIfInBounds_toArray, List.set_cons_zero, List.set_cons_succ]
      refine wpAnyH_takeAt (i := 1) (d := 50) (v := ?vq10x) rfl rfl (by kernel_rfl) (by kernel_rfl) (by kernel_rfl) (fun _ _ _ h => h) (Or.inl ⟨by rfl, ?hyq10x⟩) hHeld ?_
      case hyq10x =>
        intro W hSw
        obtain ⟨e0, e1, e2⟩ := Blk.three (show Blk W zv 29 #[.int .i64 (d.room : Int), .slice A n c, .slice B m k0] from hSw)
        (go_simp; try with_reducible rfl)
      simp only [List.setIfInBounds_toArray, List.set_cons_zero, List.set_cons_succ]
      refine wpAnyH_takeAt (i := 2) (d := 51) (v := ?vq11x) rfl rfl (by kernel_rfl) (by kernel_rfl) (by kernel_rfl) (fun _ _ _ h => h) (Or.inl ⟨by rfl, ?hyq11x⟩) hHeld ?_
      case hyq11x =>
        intro W hSw
        clear hSw
        (go_simp; try with_reducible rfl)
      simp only [List.setIfInBounds_toArray, List.set_cons_zero, List.set_cons_succ]
      refine wpAnyH_takeAt (i := 3) (d := 52) (v := ?vq12x) rfl rfl (by kernel_rfl) (by kernel_rfl) (by kernel_rfl) (fun _ _ _ h => h) (Or.inl ⟨by rfl, ?hyq12x⟩) hHeld ?_
      case hyq12x =>
        intro W hSw
        clear hSw
        (go_simp; try with_reducible rfl)
      simp only [List.setIfInBounds_toArray, List.set_cons_zero, List.set_cons_succ]
      refine wpAnyH_takeAt (i := 4) (d := 53) (v := ?vq13x) rfl rfl (by kernel_rfl) (by kernel_rfl) (by kernel_rfl) (fun _ _ _ h => h) (Or.inl ⟨by rfl, ?hyq13x⟩) hHeld ?_
      case hyq13x =>
        intro W hSw
        clear hSw
        (go_simp; try with_reducible rfl)
      simp only [List.setIfInBounds_toArray, List.set_cons_zero, List.set_cons_succ]
      refine wpAnyH_takeAt (i := 5) (d := 54) (v := ?vq14x) rfl rfl (by kernel_rfl) (by kernel_rfl) (by kernel_rfl) (fun _ _ _ h => h) (Or.inl ⟨by rfl, ?hyq14x⟩) hHeld ?_
      case hyq14x =>
        intro W hSw
        obtain ⟨e0, e1, e2⟩ := Blk.three (show Blk W zv 29 #[.int .i64 (d.room : Int), .slice A n c, .slice B m k0] from hSw)
        (go_simp; try with_reducible rfl)
      simp only [List.setIfInBounds_toArray, List.set_cons_zero, List.set_cons_succ]
      refine wpAnyH_ready (rs := [6]) (by kernel_rfl) (by simp) (AllReadyH.cons rfl (fun K hK => ?_) AllReadyH.nil)
      go_simp
      have hPd := HP.out.drew
      refine (is_any hPd.dk hPd.rd rfl hPd.ok hPd.small hPd.nmd.1 hPd.nmd.files (by have := hPd.size; omega)).mono ?_
      rintro e w5 ⟨rfl, hb5⟩
      have hv5 := hPd.var.below hb5 hPd.var.lt
      refine hK.out _ _ hv5 (fun hHeld => ?_)
      clear hK K
      try simp only [List.setIfInBounds_toArray, List.set_cons_zero, List.set_cons_succ]
      refine wpAnyH_takeAt (i := 7) (d := 56) (v := ?vq15x) rfl rfl (by kernel_rfl) (by kernel_rfl) (by kernel_rfl) (fun _ _ _ h => h) (Or.inl ⟨by rfl, ?hyq15x⟩) hHeld ?_
      case hyq15x =>
        intro W hSw
        clear hSw
        (go_simp; try with_reducible rfl)
      simp only [List.setIfInBounds_toArray, List.set_cons_zero, List.set_cons_succ]
      refine wpAnyH_takeAt (i := 8) (d := 4) (v := ?vq16x) rfl rfl (by kernel_rfl) (by kernel_rfl) (by kernel_rfl) (fun _ _ _ h => h) (Or.inl ⟨by rfl, ?hyq16x⟩) hHeld ?_
      case hyq16x =>
        intro W hSw
        clear hSw
        (go_simp; try with_reducible rfl)
      simp only [List.setIfInBounds_toArray, List.set_cons_zero, List.set_cons_succ]
      refine wpAnyH_ready (rs := [9]) (by kernel_rfl) (by simp) (AllReadyH.cons rfl (fun K hK => ?_) AllReadyH.nil)
      refine step_store_blk (by rfl) (by rfl) 29 _ _ (by rfl) w.heap.size _ #[.int .i64 (d.room : Int), .slice A n c, .slice B m k0] (by rfl) (by rfl) 29 (hPd.res.below hb5 hPd.res.lt) (by rfl) (info29 _ rfl) (by simp [Value.oneCell']) ?_
      intro w6 f6 g6 s6
      have hT6 : Turn (fun b => b = w.heap.size) w5 w6 := Turn.of_grown g6 (fun r e => by cases e; rfl)
      refine hK.out _ _ (hv5.keep hT6 (by have := hPd.zlow; omega)) (fun hHeld => ?_)
      clear hK K
      refine wpAnyH_takeAt (i := 10) (d := 6) (v := ?vq17x) rfl rfl (by kernel_rfl) (by kernel_rfl) (by kernel_rfl) (fun _ _ _ h => h) (Or.inl ⟨by rfl, ?hyq17x⟩) hHeld ?_
      case hyq17x =>
        intro W hSw
        clear hSw
        (go_simp; try with_reducible rfl)
      simp only [List.setIfInBounds_toArray, List.set_cons_zero, List.set_cons_succ]
      refine wpAnyH_done (by kernel_rfl) ?_ _
      go_wp2_with fail
      refine bodyPost_ret (v := .tuple #[.pointer (some ⟨g, 0, none⟩), .agg #[.int .i64 (d.room : Int), .slice A n c, .slice B m k0], .bool true]) (results_tct (by rfl) _ _ w.heap.size 29 _ (0, 0) _ (by rfl) f6 Try.underlying29 (by rfl) (info29 _ rfl) (by rfl) (by rfl)) rfl ?_
      have hd6 := (hPd.dk.below hb5).keep hT6 (fun b _ e => ⟨.inr (.inr e), fun e' => by have := (hPd.low b e').1; omega⟩)
      have hr6 := (hPd.rd.below hb5).keep hT6 (fun b _ e => .inr (.inr e))
      have hbl := hPd.below.trans (hb5.mono hPd.below.size)
      exact ⟨g, _, S, rfl, hd6.wide (fun b _ e => .inl e) (fun b e => e), hr6.wide (fun b _ e => .inl e), fun b e => by have := (hPd.low b e).1; omega, hbl.trans (hT6.below hbl.size (fun b e => by omega)), hPd.ok, hPd.nmd, by have := hPd.size; omega⟩
end Go.Proofs.Ythhiiimmgghhaaa
