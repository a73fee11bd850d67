/-
  waystationlaw05.played: a net behind calls, and the document's. Conditions: bounds.
-/
import Derived.Test.YticabfmjdjcfnaaAct
import Derived.Test.YticabfmjdjcfnaaFew
namespace Go.Proofs.Yticabfmjdjcfnaa
open Go.RowKit
/-- What holds between two calls by both, while the result's block waits. -/
structure Pw (w : World) (g zv k : Nat) (S : Nat → Prop) (s : St) (cs : Array Value) (wr : World) : Prop where
  net : Nt wr S g s
  ref : RAt wr (fun b => S b ∨ (b = zv ∨ b = w.heap.size)) s cs
  var : Blk wr zv 28 cs
  res : Blk wr w.heap.size 28 #[.int .i64 0, .slice none 0 0, .int .i64 0]
  low : ∀ b, S b → w.heap.size < b ∧ b ≠ zv
  zlow : w.heap.size < zv
  came : s.came ≤ k
  below : Below w.heap.size w wr
theorem Pw.drew {w : World} {g zv k : Nat} {S : Nat → Prop} {s : St} {cs : Array Value} {wr : World} (h : Pw w g zv k S s cs wr) : Pw w g zv k S s cs wr.drew :=
  have hb : Below wr.heap.size wr wr.drew := (Below.refl _ _).drew
  ⟨h.net.below hb, h.ref.below hb, h.var.drew, h.res.drew, h.low, h.zlow, h.came, h.below.drew⟩
theorem Pw.small {w : World} {g zv k : Nat} {S : Nat → Prop} {s : St} {cs : Array Value} {wr : World} (h : Pw w g zv k S s cs wr) : ∀ b, (b = zv ∨ b = w.heap.size) → b < wr.heap.size := fun b e => by
  rcases e with e | e
  · rw [e]; exact h.var.lt
  · rw [e]; exact h.res.lt
theorem Pw.acted {w : World} {g zv k : Nat} {S S' : Nat → Prop} {s s' : St} {cs cs' : Array Value} {wr w5 : World} (h : Pw w g zv k S s cs wr) (hS2 : ∀ b, S' b → S b ∨ wr.heap.size ≤ b) (hT : Turn S wr w5) (hN : Nt w5 S' g s') (hR : RAt w5 (fun b => S' b ∨ (b = zv ∨ b = w.heap.size)) s' cs') (hc : s'.came ≤ k + 1) :
    Blk w5 zv 28 cs ∧ Below w.heap.size w w5 ∧ ∀ w6, Blk w6 zv 28 cs' → w5.grownBy w6 (some zv) → Pw w g zv (k + 1) S' s' cs' w6 := by
  have hnS : ¬ S zv := fun e => (h.low _ e).2 rfl
  have hnR : ¬ S w.heap.size := fun e => by have := (h.low _ e).1; omega
  have hv5 := h.var.keep hT hnS
  have hr5 := h.res.keep hT hnR
  have hb5 : Below w.heap.size w w5 := h.below.trans (hT.below h.below.size (fun b e => by have := (h.low b e).1; omega))
  have hvl := h.var.lt
  have hrl := h.res.lt
  have hlow : ∀ b, S' b → w.heap.size < b ∧ b ≠ zv := fun b e => (hS2 b e).elim (h.low b) (fun e => ⟨by omega, by omega⟩)
  refine ⟨hv5, hb5, fun w6 hv6 hg => ?_⟩
  have hT6 : Turn (fun b => b = zv) w5 w6 := Turn.of_grown hg (fun r e => by injection e with e; exact e.symm)
  have hz := h.zlow
  exact ⟨hN.keep hT6 (fun b _ e e' => (hlow b e').2 e), hR.keep hT6 (fun b _ e => .inr (.inl e)), hv6, hr5.keep hT6 (by omega), hlow, hz, hc, hb5.trans (hT6.below hb5.size (fun b e => by omega))⟩
def Played (w : World) (e : Ending) (w' : World) : Prop := ∃ g cs S s, e = .returned (.tuple #[.pointer (some ⟨g, 0, none⟩), .agg cs, .bool true]) ∧ Nt w' S g s ∧ RAt w' S s cs ∧ (∀ b, S b → w.heap.size ≤ b) ∧ Below w.heap.size w w' ∧ s.came ≤ 1000
set_option maxRecDepth 100000 in
set_option maxHeartbeats 16000000 in
theorem played_any {w : World} {r : Nat} (h1 : 1 ≤ r) (h2 : r ≤ 4096) {a : Option Addr} {len cap : Nat} {xs : List Ac} (hxs : Acs w No a len xs) (hlen : len ≤ 100) (hbd : ∀ t ∈ xs, t.m.b.length ≤ 10000) :
    Calls Try.prog 11 #[.int .i64 (r : Int), .slice a len cap] w (Played w) := by
  have HA := Lib.hid (hxs.wide (X' := fun b => w.heap.size ≤ b) (fun b hb e => absurd e (by omega)))
  have HBD := Lib.hid hbd
  have HL := Lib.hid hxs.len
  clear hxs hbd
  go_enter Try.func11, Try.ntmps11
  have r1 : Blk (w.alloc (.cells #[.int .i64 0, .slice none 0 0, .int .i64 0] 28)) w.heap.size 28 #[.int .i64 0, .slice none 0 0, .int .i64 0] := Blk.new _ _ _
  have hb1 : Below w.heap.size w (w.alloc (.cells #[.int .i64 0, .slice none 0 0, .int .i64 0] 28)) := (Below.refl _ _).alloc (Nat.le_refl _) _
  have HZ1 := Lib.hid (show (w.alloc (.cells #[.int .i64 0, .slice none 0 0, .int .i64 0] 28)).heap.size = w.heap.size + 1 from World.size_alloc _ _)
  go_wp2_with fail
  generalize w.alloc (.cells #[.int .i64 0, .slice none 0 0, .int .i64 0] 28) = w1 at *
  refine (new_yes r w1 h1 h2).mono ?_
  rintro e w2 ⟨g, S0, rfl, hN0, hS0, hb2⟩
  have r2 := r1.below hb2 r1.lt
  have hbl2 := hb1.trans (hb2.mono hb1.size)
  have HN0 := Lib.hid hN0
  have HS0 := Lib.hid hS0
  clear hN0 hS0 r1 hb1
  go_wp2_with fail
  refine (refNew_yes (w := w2) (fun b => S0 b ∨ b = w.heap.size) h1 h2).mono ?_
  rintro e w3 ⟨cs3, rfl, hR3, hb3⟩
  obtain ⟨hcz, hca⟩ := hR3.size
  have HR3 := Lib.hid hR3
  have r3 := r2.below hb3 r2.lt
  have hbl3 := hbl2.trans (hb3.mono hbl2.size)
  have HS3 : Hid (∀ b, S0 b → w.heap.size < b ∧ b < w3.heap.size) := Lib.hid (fun b e => by
    have e1 := HS0.out b e
    have e2 := HZ1.out
    have e3 := HN0.out.lt e
    have e4 := hb3.size
    omega)
  have HN3 := Lib.hid (HN0.out.below hb3)
  clear r2 hbl2 hb3 hb2 hR3 HS0 HZ1 HN0
  go_wp2_with (with_reducible refine at_store 28 rfl ?_)
  refine Stop.go (wpList_store_blk (by rfl) (by rfl) 28 _ _ (by rfl) w3.heap.size _ cs3 (by rfl) (by rfl) 28 (Blk.new w3 28 #[.int .i64 0, .slice none 0 0, .int .i64 0]) (by rw [hcz]; rfl) (info28 _ hcz) hca ?_)
  intro w4 f4 g4 s4
  clear s4
  have hal : Below w3.heap.size w3 w4 := below_grown ((Below.refl _ _).alloc (Nat.le_refl _) _) g4 (Nat.le_refl _) (Nat.le_refl _)
  have hpl : Pw w g w3.heap.size 0 S0 ⟨r, [], 0⟩ cs3 w4 :=
    ⟨HN3.out.below hal, (HR3.out.wide (fun b hb e => e.elim .inl (fun e => e.elim (fun e => absurd e (by omega)) .inr))).below hal, f4, r3.below hal r3.lt,
      fun b e => by have := HS3.out b e; omega, r3.lt, Nat.le_refl _, hbl3.trans (hal.mono hbl3.size)⟩
  have HPL := Lib.hid hpl
  generalize hzv : w3.heap.size = zv at *
  clear hpl hal r3 hbl3 g4 f4 hcz hca HR3 HS3 HN3 hzv
  go_wp2_with (go_at_call 18; refine (num_any _ _).mono ?_; rintro e w' ⟨rfl, rfl⟩)
  go_loopw [11, 12] (fun f i wr => ∃ (k : Nat) (S : Nat → Prop) (s : St) (cs : Array Value), k ≤ len ∧ f = .bool true ∧ i = .int .i64 k ∧ Pw w g zv k S s cs wr) (fun _ i _ => len - (intOf i).toNat)
  case atStart => exact ⟨0, S0, _, _, by omega, rfl, rfl, HPL.out⟩
  case round =>
    obtain ⟨k, S, s, cs, hk, rfl, rfl, hP⟩ := hrel
    have HP := Lib.hid hP
    clear hP HPL
    obtain ⟨A, n, c, hcse⟩ := HP.out.ref.three
    subst hcse
    by_cases hlt : k < len
    case pos =>
      have hkl : k < xs.length := by have := HL.out; omega
      obtain ⟨ad, ccs, rfl, hadl, hadx, hac, hc0, hcell⟩ := HA.out.at_ hkl
      have hbx := HBD.out _ (List.getElem_mem hkl)
      generalize xs[k] = x at hac hbx
      have HAC := Lib.hid hac
      obtain ⟨Ab, qb, cb, rfl, -, -, -, -, -, -, -⟩ := hac
      have hada : (ad.add (k * 5)).block < w.heap.size := by rw [block_of_add]; omega
      have HCELL : Hid (∀ W, Below w.heap.size w W → W.cell? (ad.add (k * 5)) = some (.int .i64 x.what) ∧ W.cell? ⟨(ad.add (k * 5)).block, (ad.add (k * 5)).off + 1, none⟩ = some (.int .i64 x.pick) ∧ W.cell? ⟨(ad.add (k * 5)).block, (ad.add (k * 5)).off + 2, none⟩ = some (.int .i64 x.m.fr) ∧ W.cell? ⟨(ad.add (k * 5)).block, (ad.add (k * 5)).off + 3, none⟩ = some (.int .i64 x.m.to) ∧ W.cell? ⟨(ad.add (k * 5)).block, (ad.add (k * 5)).off + 4, none⟩ = some (.slice Ab qb cb)) := Lib.hid (fun W hW =>
        ⟨(hW.cell (p := (ad.add (k * 5))) hada).trans (hc0 _ rfl), (hW.cell (p := ⟨(ad.add (k * 5)).block, (ad.add (k * 5)).off + 1, none⟩) hada).trans (hcell 0 _ rfl), (hW.cell (p := ⟨(ad.add (k * 5)).block, (ad.add (k * 5)).off + 2, none⟩) hada).trans (hcell 1 _ rfl), (hW.cell (p := ⟨(ad.add (k * 5)).block, (ad.add (k * 5)).off + 3, none⟩) hada).trans (hcell 2 _ rfl), (hW.cell (p := ⟨(ad.add (k * 5)).block, (ad.add (k * 5)).off + 4, none⟩) hada).trans (hcell 3 _ rfl)⟩)
      clear hc0 hcell hadl hadx
      have hki : ((k : Nat) : Int) < ((len : Nat) : Int) := by omega
      go_wp2_with fail
      refine wp_region_np ?_
      refine wp_region_held_drew (S := fun W => Below w.heap.size w W) (by kernel_rfl) HP.out.below.drew (fun hHeld => ?_)
      refine wpAnyH_takeAt (i := 0) (d := 40) (v := ?vq0x) rfl rfl (by kernel_rfl) (by kernel_rfl) (by kernel_rfl) (fun _ _ _ h => h) (Or.inl ⟨by rfl, ?hyq0x⟩) hHeld ?_
      case hyq0x =>
        intro W hSw
        clear hSw
        (go_simp; try with_reducible rfl)
      simp only [List.setIfInBounds_toArray, List.set_cons_zero, List.set_cons_succ]
      refine wpAnyH_takeAt (i := 2) (d := 42) (v := ?vq1x) rfl rfl (by kernel_rfl) (by kernel_rfl) (by kernel_rfl) (fun _ _ _ h => h) (Or.inl ⟨by rfl, ?hyq1x⟩) hHeld ?_
      case hyq1x =>
        intro W hSw
        clear hSw
        (go_simp; try with_reducible rfl)
      simp only [List.setIfInBounds_toArray, List.set_cons_zero, List.set_cons_succ]
      refine wpAnyH_takeAt (i := 3) (d := 43) (v := ?vq2x) rfl rfl (by kernel_rfl) (by kernel_rfl) (by kernel_rfl) (fun _ _ _ h => h) (Or.inl ⟨by rfl, ?hyq2x⟩) hHeld ?_
      case hyq2x =>
        intro W hSw
        clear hSw
        (go_simp; try with_reducible rfl)
      simp only [List.setIfInBounds_toArray, List.set_cons_zero, List.set_cons_succ]
      refine wpAnyH_takeAt (i := 4) (d := 44) (v := ?vq3x) rfl rfl (by kernel_rfl) (by kernel_rfl) (by kernel_rfl) (fun _ _ _ h => h) (Or.inl ⟨by rfl, ?hyq3x⟩) hHeld ?_
      case hyq3x =>
        intro W hSw
        clear hSw
        (go_simp; try with_reducible rfl)
      simp only [List.setIfInBounds_toArray, List.set_cons_zero, List.set_cons_succ]
      refine wpAnyH_takeAt (i := 5) (d := 45) (v := ?vq4x) rfl rfl (by kernel_rfl) (by kernel_rfl) (by kernel_rfl) (fun _ _ _ h => h) (Or.inl ⟨by rfl, ?hyq4x⟩) hHeld ?_
      case hyq4x =>
        intro W hSw
        obtain ⟨e0, e1, e2, e3, e4⟩ := HCELL.out W hSw
        (go_simp; try with_reducible rfl)
      simp only [List.setIfInBounds_toArray, List.set_cons_zero, List.set_cons_succ]
      refine wpAnyH_ready (rs := [1]) (by kernel_rfl) (by simp) (AllReadyH.cons rfl (fun K hK => ?_) AllReadyH.nil)
      obtain ⟨e0, e1, e2⟩ := HP.out.var.drew.three
      go_simp
      refine hK.out _ _ hHeld (fun hHeld => ?_)
      clear hK K e0 e1 e2
      try simp only [List.setIfInBounds_toArray, List.set_cons_zero, List.set_cons_succ]
      refine wpAnyH_ready (rs := [6]) (by kernel_rfl) (by simp) (AllReadyH.cons rfl (fun K hK => ?_) AllReadyH.nil)
      go_simp
      have hPd := HP.out.drew
      have hta : AcAt wr.drew S x #[.int .i64 x.what, .int .i64 x.pick, .int .i64 x.m.fr, .int .i64 x.m.to, .slice Ab qb cb] := (HAC.out.wide (fun b _ e => by have := (HP.out.low b e).1; omega)).keep (S := No) (Turn.of_below (show Below w.heap.size w wr.drew from hHeld) No) (fun _ _ h => h.elim)
      refine (act_any hPd.net hPd.ref hPd.small hta (by omega) (by have := hPd.came; omega)).mono ?_
      rintro e w5 ⟨cs5, rfl, S', hS1, hS2, hT5, hN5, hR5⟩
      obtain ⟨A5, n5, c5, rfl⟩ := hR5.three
      obtain ⟨hv5, hb5, hfin⟩ := hPd.acted hS2 hT5 hN5 hR5 (by have := came_next s x; have := hPd.came; omega)
      have HFIN := Lib.hid hfin
      refine hK.out _ _ hb5 (fun hHeld => ?_)
      clear hK K hfin hta hPd hS1 hS2 hT5 hN5 hR5
      try simp only [List.setIfInBounds_toArray, List.set_cons_zero, List.set_cons_succ]
      refine wpAnyH_takeAt (i := 7) (d := 39) (v := ?vq5x) rfl rfl (by kernel_rfl) (by kernel_rfl) (by kernel_rfl) (fun _ _ _ h => h) (Or.inl ⟨by rfl, ?hyq5x⟩) hHeld ?_
      case hyq5x =>
        intro W hSw
        clear hSw
        (go_simp; try with_reducible rfl)
      simp only [List.setIfInBounds_toArray, List.set_cons_zero, List.set_cons_succ]
      refine wpAnyH_takeAt (i := 8) (d := 47) (v := ?vq6x) rfl rfl (by kernel_rfl) (by kernel_rfl) (by kernel_rfl) (fun _ _ _ h => h) (Or.inl ⟨by rfl, ?hyq6x⟩) hHeld ?_
      case hyq6x =>
        intro W hSw
        clear hSw
        (go_simp; try with_reducible rfl)
      simp only [List.setIfInBounds_toArray, List.set_cons_zero, List.set_cons_succ]
      refine wpAnyH_takeAt (i := 9) (d := 48) (v := ?vq7x) rfl rfl (by kernel_rfl) (by kernel_rfl) (by kernel_rfl) (fun _ _ _ h => h) (Or.inl ⟨by rfl, ?hyq7x⟩) hHeld ?_
      case hyq7x =>
        intro W hSw
        clear hSw
        (go_simp; try with_reducible rfl)
      simp only [List.setIfInBounds_toArray, List.set_cons_zero, List.set_cons_succ]
      refine wpAnyH_ready (rs := [10]) (by kernel_rfl) (by simp) (AllReadyH.cons rfl (fun K hK => ?_) AllReadyH.nil)
      refine step_store_blk (by rfl) (by rfl) 28 _ _ (by rfl) zv _ #[.int .i64 ((s.next x).most : Int), .slice A5 n5 c5, .int .i64 ((s.next x).came : Int)] (by rfl) (by rfl) 28 hv5 (by rfl) (info28 _ rfl) (by simp [Value.oneCell']) ?_
      intro w6 f6 g6 s6
      have hP6 := HFIN.out w6 f6 g6
      have HP6 := Lib.hid hP6
      refine hK.out _ _ hP6.below (fun hHeld => ?_)
      clear hK K hP6 f6 g6 s6
      refine wpAnyH_takeAt (i := 11) (d := 11) (v := ?vq8x) rfl rfl (by kernel_rfl) (by kernel_rfl) (by kernel_rfl) (fun _ _ _ h => h) (Or.inl ⟨by rfl, ?hyq8x⟩) hHeld ?_
      case hyq8x =>
        intro W hSw
        clear hSw
        (go_simp; try with_reducible rfl)
      simp only [List.setIfInBounds_toArray, List.set_cons_zero, List.set_cons_succ]
      refine wpAnyH_done (by kernel_rfl) ?_ _
      go_wp2_with fail
      exact ⟨⟨k + 1, S', _, _, by omega, rfl, by go_num, HP6.out⟩, by simp [intOf]; omega⟩
    case neg =>
      have hd1 : decide (k < len) = false := by simpa using hlt
      go_wp2_with fail
      refine wp_region_np ?_
      refine wp_region_held_drew (S := fun W => Blk W zv 28 #[.int .i64 (s.most : Int), .slice A n c, .int .i64 (s.came : Int)]) (by kernel_rfl) HP.out.var.drew (fun hHeld => ?_)
      refine wpAnyH_takeAt (i := 0) (d := 49) (v := ?vq9x) rfl rfl (by kernel_rfl) (by kernel_rfl) (by kernel_rfl) (fun _ _ _ h => h) (Or.inl ⟨by rfl, ?hyq9x⟩) hHeld ?_
      case hyq9x =>
        intro W hSw
        clear hSw
        (go_simp; try with_reducible rfl)
      simp only [List.setIfInBounds_toArray, List.set_cons_zero, List.set_cons_succ]
      refine wpAnyH_takeAt (i := 1) (d := 50) (v := ?vq10x) rfl rfl (by kernel_rfl) (by kernel_rfl) (by kernel_rfl) (fun _ _ _ h => h) (Or.inl ⟨by rfl, ?hyq10x⟩) hHeld ?_
      case hyq10x =>
        intro W hSw
        obtain ⟨e0, e1, e2⟩ := Blk.three (show Blk W zv 28 #[.int .i64 (s.most : Int), .slice A n c, .int .i64 (s.came : Int)] from hSw)
        (go_simp; try with_reducible rfl)
      simp only [List.setIfInBounds_toArray, List.set_cons_zero, List.set_cons_succ]
      refine wpAnyH_takeAt (i := 2) (d := 51) (v := ?vq11x) rfl rfl (by kernel_rfl) (by kernel_rfl) (by kernel_rfl) (fun _ _ _ h => h) (Or.inl ⟨by rfl, ?hyq11x⟩) hHeld ?_
      case hyq11x =>
        intro W hSw
        clear hSw
        (go_simp; try with_reducible rfl)
      simp only [List.setIfInBounds_toArray, List.set_cons_zero, List.set_cons_succ]
      refine wpAnyH_takeAt (i := 3) (d := 52) (v := ?vq12x) rfl rfl (by kernel_rfl) (by kernel_rfl) (by kernel_rfl) (fun _ _ _ h => h) (Or.inl ⟨by rfl, ?hyq12x⟩) hHeld ?_
      case hyq12x =>
        intro W hSw
        clear hSw
        (go_simp; try with_reducible rfl)
      simp only [List.setIfInBounds_toArray, List.set_cons_zero, List.set_cons_succ]
      refine wpAnyH_takeAt (i := 4) (d := 53) (v := ?vq13x) rfl rfl (by kernel_rfl) (by kernel_rfl) (by kernel_rfl) (fun _ _ _ h => h) (Or.inl ⟨by rfl, ?hyq13x⟩) hHeld ?_
      case hyq13x =>
        intro W hSw
        clear hSw
        (go_simp; try with_reducible rfl)
      simp only [List.setIfInBounds_toArray, List.set_cons_zero, List.set_cons_succ]
      refine wpAnyH_takeAt (i := 5) (d := 54) (v := ?vq14x) rfl rfl (by kernel_rfl) (by kernel_rfl) (by kernel_rfl) (fun _ _ _ h => h) (Or.inl ⟨by rfl, ?hyq14x⟩) hHeld ?_
      case hyq14x =>
        intro W hSw
        obtain ⟨e0, e1, e2⟩ := Blk.three (show Blk W zv 28 #[.int .i64 (s.most : Int), .slice A n c, .int .i64 (s.came : Int)] from hSw)
        (go_simp; try with_reducible rfl)
      simp only [List.setIfInBounds_toArray, List.set_cons_zero, List.set_cons_succ]
      refine wpAnyH_ready (rs := [6]) (by kernel_rfl) (by simp) (AllReadyH.cons rfl (fun K hK => ?_) AllReadyH.nil)
      go_simp
      have hPd := HP.out.drew
      refine (is_any hPd.net hPd.ref).mono ?_
      rintro e w5 ⟨rfl, hb5⟩
      have hv5 := hPd.var.below hb5 hPd.var.lt
      refine hK.out _ _ hv5 (fun hHeld => ?_)
      clear hK K
      try simp only [List.setIfInBounds_toArray, List.set_cons_zero, List.set_cons_succ]
      refine wpAnyH_takeAt (i := 7) (d := 56) (v := ?vq15x) rfl rfl (by kernel_rfl) (by kernel_rfl) (by kernel_rfl) (fun _ _ _ h => h) (Or.inl ⟨by rfl, ?hyq15x⟩) hHeld ?_
      case hyq15x =>
        intro W hSw
        clear hSw
        (go_simp; try with_reducible rfl)
      simp only [List.setIfInBounds_toArray, List.set_cons_zero, List.set_cons_succ]
      refine wpAnyH_takeAt (i := 8) (d := 4) (v := ?vq16x) rfl rfl (by kernel_rfl) (by kernel_rfl) (by kernel_rfl) (fun _ _ _ h => h) (Or.inl ⟨by rfl, ?hyq16x⟩) hHeld ?_
      case hyq16x =>
        intro W hSw
        clear hSw
        (go_simp; try with_reducible rfl)
      simp only [List.setIfInBounds_toArray, List.set_cons_zero, List.set_cons_succ]
      refine wpAnyH_ready (rs := [9]) (by kernel_rfl) (by simp) (AllReadyH.cons rfl (fun K hK => ?_) AllReadyH.nil)
      refine step_store_blk (by rfl) (by rfl) 28 _ _ (by rfl) w.heap.size _ #[.int .i64 (s.most : Int), .slice A n c, .int .i64 (s.came : Int)] (by rfl) (by rfl) 28 (hPd.res.below hb5 hPd.res.lt) (by rfl) (info28 _ rfl) (by simp [Value.oneCell']) ?_
      intro w6 f6 g6 s6
      have hT6 : Turn (fun b => b = w.heap.size) w5 w6 := Turn.of_grown g6 (fun r e => by injection e with e; exact e.symm)
      refine hK.out _ _ (hv5.keep hT6 (by have := hPd.zlow; omega)) (fun hHeld => ?_)
      clear hK K
      refine wpAnyH_takeAt (i := 10) (d := 6) (v := ?vq17x) rfl rfl (by kernel_rfl) (by kernel_rfl) (by kernel_rfl) (fun _ _ _ h => h) (Or.inl ⟨by rfl, ?hyq17x⟩) hHeld ?_
      case hyq17x =>
        intro W hSw
        clear hSw
        (go_simp; try with_reducible rfl)
      simp only [List.setIfInBounds_toArray, List.set_cons_zero, List.set_cons_succ]
      refine wpAnyH_done (by kernel_rfl) ?_ _
      go_wp2_with fail
      refine bodyPost_ret (v := .tuple #[.pointer (some ⟨g, 0, none⟩), .agg #[.int .i64 (s.most : Int), .slice A n c, .int .i64 (s.came : Int)], .bool true]) (results_tct (by rfl) _ _ w.heap.size 28 _ (0, 0) _ (by rfl) f6 Try.underlying28 (by rfl) (info28 _ rfl) (by rfl) (by rfl)) rfl ?_
      have hd6 := (hPd.net.below hb5).keep hT6 (fun b _ e e' => by have := (hPd.low b e').1; omega)
      have hr6 := (hPd.ref.below hb5).keep hT6 (fun b _ e => .inr (.inr e))
      have hbl := hPd.below.trans (hb5.mono hPd.below.size)
      exact ⟨g, _, S, s, rfl, hd6, hr6.wide (fun b _ e => .inl e), fun b e => by have := (hPd.low b e).1; omega, hbl.trans (hT6.below hbl.size (fun b e => by omega)), by have := hPd.came; omega⟩
end Go.Proofs.Yticabfmjdjcfnaa
