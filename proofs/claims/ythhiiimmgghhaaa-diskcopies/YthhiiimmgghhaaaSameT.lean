/-
  Things that are alike, files that are the same. Conditions: bounds.
-/
import Derived.Test.YthhiiimmgghhaaaPlayed
namespace Go.Proofs.Ythhiiimmgghhaaa
open Go.RowKit
set_option maxRecDepth 100000 in
set_option maxHeartbeats 4000000 in
theorem same_yes (t : Th) (p q p' q' : Nat) (w : World) : Calls Try.prog 57 #[.agg (t.cells p q), .agg (t.cells p' q')] w fun e w' => e = .returned (.bool true) ∧ Below w.heap.size w w' := by
  rw [Th.cells_eq, Th.cells_eq]
  go_enter Try.func57, Try.ntmps57
  go_wp2_with fail
  go_ret
  exact ⟨rfl, ((Below.refl _ _).alloc (Nat.le_refl _) _).alloc (by simp) _⟩
/-- A slice of things, as far as they are told. -/
def ThR (w : World) (A : Option Addr) (n : Nat) (ts : List Th) : Prop := ∃ css, Rd w No 5 A n css ∧ css.length = ts.length ∧ ∀ (i : Nat) (t : Th) (cs : Array Value), ts[i]? = some t → css[i]? = some cs → ∃ p q, cs = t.cells p q
theorem ThR.below {w w' : World} {A : Option Addr} {n : Nat} {ts : List Th} (h : ThR w A n ts) (hb : Below w.heap.size w w') : ThR w' A n ts := by
  obtain ⟨css, h1, h2⟩ := h
  exact ⟨css, h1.below hb, h2⟩
theorem ThR.len {w : World} {A : Option Addr} {n : Nat} {ts : List Th} (h : ThR w A n ts) : ts.length = n := by
  obtain ⟨css, h1, h2, _⟩ := h
  rw [← h2]; exact h1.1
theorem OwnT.thr {w : World} {X : Nat → Prop} {A : Option Addr} {n c : Nat} {ts : List Th} (h : OwnT w X (.slice A n c) ts) : ThR w A n ts := by
  obtain ⟨css, h1, h2, h3⟩ := h
  refine ⟨css, h2.rd (X := No) (fun _ _ h => h), h1, fun i t cs e1 e2 => ?_⟩
  obtain ⟨p, q, e, _⟩ := h3 i t cs e1 e2
  exact ⟨p, q, e⟩
theorem ThR.at_ {w : World} {A : Option Addr} {n : Nat} {ts : List Th} (h : ThR w A n ts) {k : Nat} (hk : k < ts.length) : ∃ ad p q, A = some ad ∧ ad.block < w.heap.size ∧ ∀ W, Below w.heap.size w W → W.cell? (ad.add (k * 5)) = some (.int .i64 ts[k].deed) ∧ W.cell? ⟨(ad.add (k * 5)).block, (ad.add (k * 5)).off + 1, none⟩ = some (.string (str ts[k].name)) ∧ W.cell? ⟨(ad.add (k * 5)).block, (ad.add (k * 5)).off + 2, none⟩ = some (.string (str ts[k].bytes)) ∧ W.cell? ⟨(ad.add (k * 5)).block, (ad.add (k * 5)).off + 3, none⟩ = some (.int .i64 ts[k].num) ∧ W.cell? ⟨(ad.add (k * 5)).block, (ad.add (k * 5)).off + 4, none⟩ = some (.func (.func ts[k].fn) #[] (ts[k].lb p q)) := by
  obtain ⟨css, hrd, hcl, hcs⟩ := h
  have hck := List.getElem?_eq_getElem (show k < css.length by omega)
  obtain ⟨ad, e, h1, _, _, _⟩ := hrd.load hck
  obtain ⟨p, q, he⟩ := hcs k ts[k] _ (List.getElem?_eq_getElem hk) hck
  refine ⟨ad, p, q, e, h1, fun W hW => ?_⟩
  obtain ⟨ad', e', _, _, h3, h4⟩ := (hrd.below hW).load hck
  rw [e] at e'
  cases e'
  rw [he, Th.cells_eq] at h3 h4
  exact ⟨h3 _ rfl, h4 0 _ rfl, h4 1 _ rfl, h4 2 _ rfl, h4 3 _ rfl⟩
set_option maxRecDepth 100000 in
set_option maxHeartbeats 4000000 in
theorem alike_no {A B : Option Addr} {n c m k : Nat} (f : Value) (w : World) (h : n ≠ m) : Calls Try.prog 56 #[.slice A n c, .slice B m k, f] w fun e w' => e = .returned (.bool false) ∧ Below w.heap.size w w' := by
  have hne : (!((n : Int) == (m : Int))) = true := by simp; omega
  have hne2 : ¬ (n : Int) = (m : Int) := by omega
  go_enter Try.func56, Try.ntmps56
  go_wp2_with fail
  go_ret
  exact ⟨rfl, Below.refl _ _⟩
set_option maxRecDepth 100000 in
set_option maxHeartbeats 8000000 in
theorem alike_yes {A B : Option Addr} {n c k : Nat} {ts : List Th} {w : World} (ha : ThR w A n ts) (hb : ThR w B n ts) (hn : n ≤ 1000000) : Calls Try.prog 56 #[.slice A n c, .slice B n k, .func (.func 57) #[] #[]] w fun e w' => e = .returned (.bool true) ∧ Below w.heap.size w w' := by
  have HA := Lib.hid ha
  have HB := Lib.hid hb
  have HL := Lib.hid ha.len
  clear ha hb
  go_enter Try.func56, Try.ntmps56
  go_wp2_with fail
  go_loopw [7, 8, 16] (fun _ _ i wr => ∃ k : Nat, k ≤ n ∧ i = .int .i64 k ∧ Below w.heap.size w wr) (fun _ _ i _ => n - (intOf i).toNat)
  case atStart => exact ⟨0, by omega, rfl, Below.refl _ _⟩
  case round =>
    obtain ⟨j, hj, rfl, hbl⟩ := hrel
    by_cases hlt : j < n
    case neg =>
      have hd1 : decide (j < n) = false := by simpa using hlt
      go_wp2_with fail
      go_ret
      exact ⟨rfl, hbl⟩
    case pos =>
    have hjl : j < ts.length := by have := HL.out; omega
    obtain ⟨ad, p, q, rfl, had, hca⟩ := (HA.out.below hbl).at_ hjl
    obtain ⟨ae, p2, q2, rfl, hae, hcb⟩ := (HB.out.below hbl).at_ hjl
    have HCB := Lib.hid hcb
    have HBL := Lib.hid hbl
    obtain ⟨x0, x1, x2, x3, x4⟩ := hca wr (Below.refl _ _)
    generalize ts[j] = t at *
    clear hcb hca hbl
    go_wp2_with fail
    have hv : Blk (wr.alloc (.cells #[.int .i64 t.deed, .string (str t.name), .string (str t.bytes), .int .i64 t.num, .func (.func t.fn) #[] (t.lb p q)] 92)) wr.heap.size 92 #[.int .i64 t.deed, .string (str t.name), .string (str t.bytes), .int .i64 t.num, .func (.func t.fn) #[] (t.lb p q)] := Blk.new _ _ _
    have hal : Below wr.heap.size wr (wr.alloc (.cells #[.int .i64 t.deed, .string (str t.name), .string (str t.bytes), .int .i64 t.num, .func (.func t.fn) #[] (t.lb p q)] 92)) := (Below.refl _ _).alloc (Nat.le_refl _) _
    clear x0 x1 x2 x3 x4
    have HHE : Hid (∀ W, Below (wr.alloc (.cells #[.int .i64 t.deed, .string (str t.name), .string (str t.bytes), .int .i64 t.num, .func (.func t.fn) #[] (t.lb p q)] 92)).heap.size (wr.alloc (.cells #[.int .i64 t.deed, .string (str t.name), .string (str t.bytes), .int .i64 t.num, .func (.func t.fn) #[] (t.lb p q)] 92)) W → Below wr.heap.size wr W) := Lib.hid (fun W h => hal.trans (h.mono hal.size))
    have HV := Lib.hid hv
    have HZX : Hid (w.heap.size ≤ wr.heap.size) := Lib.hid HBL.out.size
    clear hv hal
    generalize wr.alloc (.cells #[.int .i64 t.deed, .string (str t.name), .string (str t.bytes), .int .i64 t.num, .func (.func t.fn) #[] (t.lb p q)] 92) = wv at *
    generalize wr.heap.size = zx at *
    refine wp_region_np ?_
    refine wp_region_held_drew (S := fun W => Below wv.heap.size wv W) (by kernel_rfl) (Below.refl _ _).drew (fun hHeld => ?_)
    refine wpAnyH_takeAt (i := 0) (d := 21) (v := ?vq0x) rfl rfl (by kernel_rfl) (by kernel_rfl) (by kernel_rfl) (fun _ _ _ h => h) (Or.inl ⟨by rfl, ?hyq0x⟩) hHeld ?_
    case hyq0x =>
      intro W hSw
      clear hSw
      (go_simp; try with_reducible rfl)
    simp only [List.setIfInBounds_toArray, List.set_cons_zero, List.set_cons_succ]
    refine wpAnyH_takeAt (i := 1) (d := 22) (v := ?vq1x) rfl rfl (by kernel_rfl) (by kernel_rfl) (by kernel_rfl) (fun _ _ _ h => h) (Or.inl ⟨by rfl, ?hyq1x⟩) hHeld ?_
    case hyq1x =>
      intro W hSw
      obtain ⟨e0, e1, e2, e3, e4⟩ := Blk.five5 (HV.out.below hSw HV.out.lt)
      (go_simp; try with_reducible rfl)
    simp only [List.setIfInBounds_toArray, List.set_cons_zero, List.set_cons_succ]
    refine wpAnyH_takeAt (i := 2) (d := 23) (v := ?vq2x) rfl rfl (by kernel_rfl) (by kernel_rfl) (by kernel_rfl) (fun _ _ _ h => h) (Or.inl ⟨by rfl, ?hyq2x⟩) hHeld ?_
    case hyq2x =>
      intro W hSw
      clear hSw
      (go_simp; try with_reducible rfl)
    simp only [List.setIfInBounds_toArray, List.set_cons_zero, List.set_cons_succ]
    refine wpAnyH_takeAt (i := 3) (d := 24) (v := ?vq3x) rfl rfl (by kernel_rfl) (by kernel_rfl) (by kernel_rfl) (fun _ _ _ h => h) (Or.inl ⟨by rfl, ?hyq3x⟩) hHeld ?_
    case hyq3x =>
      intro W hSw
      clear hSw
      (go_simp; try with_reducible rfl)
    simp only [List.setIfInBounds_toArray, List.set_cons_zero, List.set_cons_succ]
    refine wpAnyH_takeAt (i := 4) (d := 25) (v := ?vq4x) rfl rfl (by kernel_rfl) (by kernel_rfl) (by kernel_rfl) (fun _ _ _ h => h) (Or.inl ⟨by rfl, ?hyq4x⟩) hHeld ?_
    case hyq4x =>
      intro W hSw
      clear hSw
      (go_simp; try with_reducible rfl)
    simp only [List.setIfInBounds_toArray, List.set_cons_zero, List.set_cons_succ]
    refine wpAnyH_takeAt (i := 5) (d := 26) (v := ?vq5x) rfl rfl (by kernel_rfl) (by kernel_rfl) (by kernel_rfl) (fun _ _ _ h => h) (Or.inl ⟨by rfl, ?hyq5x⟩) hHeld ?_
    case hyq5x =>
      intro W hSw
      obtain ⟨e0, e1, e2, e3, e4⟩ := HCB.out W (HHE.out W hSw)
      (go_simp; try with_reducible rfl)
    simp only [List.setIfInBounds_toArray, List.set_cons_zero, List.set_cons_succ]
    refine wpAnyH_ready (rs := [6]) (by kernel_rfl) (by simp) (AllReadyH.cons rfl (fun K hK => ?_) AllReadyH.nil)
    go_simp
    have hs := same_yes t p q p2 q2 wv.drew
    rw [Th.cells_eq, Th.cells_eq] at hs
    refine hs.mono ?_
    rintro e w5 ⟨rfl, hb5⟩
    have hb5' : Below wv.heap.size wv w5 := ⟨hb5.os, hb5.tape, hb5.output, hb5.size, hb5.block⟩
    refine hK.out _ _ hb5' (fun hHeld => ?_)
    clear hK K hs
    try simp only [List.setIfInBounds_toArray, List.set_cons_zero, List.set_cons_succ]
    refine wpAnyH_takeAt (i := 7) (d := 28) (v := ?vq6x) rfl rfl (by kernel_rfl) (by kernel_rfl) (by kernel_rfl) (fun _ _ _ h => h) (Or.inl ⟨by rfl, ?hyq6x⟩) hHeld ?_
    case hyq6x =>
      intro W hSw
      clear hSw
      (go_simp; try with_reducible rfl)
    simp only [List.setIfInBounds_toArray, List.set_cons_zero, List.set_cons_succ]
    refine wpAnyH_done (by kernel_rfl) ?_ _
    have HBR := Lib.hid (HHE.out w5 hb5')
    clear hHeld
    go_wp2_with fail
    go_roundw
    case rel => exact ⟨j + 1, by omega, by go_num, HBL.out.trans (HBR.out.mono HZX.out)⟩
    case measure => simp [intOf]; omega
end Go.Proofs.Ythhiiimmgghhaaa
