/-
  The document's Good. Conditions: at most 1000000 entries.
-/
import Derived.Test.YthcphoijanebhaaDoorDocs9
import Derived.Test.YthcphoijanebhaaDoorStable9
import Derived.Deep.Cut
namespace Go.Proofs.YthcphoijanebhaaDoor
open Go.RowKit Go.Maps
set_option linter.unusedVariables false
/-- Is a log good, by the document? -/
def RGoodL (l : List Ent) : Prop := allE [] l = 0 ∧ ∀ j e, l[j]? = some e → behE (l.take j) e = false
section
variable {w : World} {X : Nat → Prop} {A : Option Addr} {n c : Nat} {l : List Ent}
theorem Rd.ents_take (h : Rd w X 6 A n (cellsOf l)) {k : Nat} (hk : k ≤ n) : Rd w X 6 A k (cellsOf (l.take k)) := by
  have := h.first hk
  rwa [show (cellsOf l).take k = cellsOf (l.take k) by unfold cellsOf; rw [List.map_take]] at this
set_option maxRecDepth 100000 in
set_option maxHeartbeats 4000000 in
theorem refGood_any (h : Rd w X 6 A n (cellsOf l)) (hn : n ≤ 1000000) (hnc : n ≤ c) : Calls Tryd.prog 20 #[.slice A n c] w fun r w' => ∃ b, r = .returned (.bool b) ∧ (b = true ↔ RGoodL l) ∧ Below w.heap.size w w' := by
  have HLEN := Lib.hid h.lenE
  have HR := Lib.hid h
  have hri := refRight_any (c := c) h hn
  clear h
  go_enter Tryd.func20, Tryd.ntmps20
  go_wp2_with fail
  refine hri.mono ?_
  rintro x w1 ⟨rfl, hb1⟩
  have HB1 := Lib.hid hb1
  clear hri hb1
  by_cases hz : allE [] l = 0
  case neg =>
    have d1 : decide (allE [] l = 0) = false := decide_eq_false hz
    rw [d1]
    have HZ := Lib.hid hz
    clear hz d1
    go_wp2_with fail
    go_ret
    exact ⟨false, rfl, ⟨fun q => (by cases q), fun q => absurd q.1 HZ.out⟩, HB1.out⟩
  have d1 : decide (allE [] l = 0) = true := decide_eq_true hz
  rw [d1]
  have HZ := Lib.hid hz
  clear hz d1
  go_wp2_with fail
  go_loopw [3] (fun i wv => ∃ k : Nat, k ≤ n ∧ i = .int .i64 k ∧ Below w.heap.size w wv ∧ Hid (∀ j e, j < k → l[j]? = some e → behE (l.take j) e = false)) (fun i _ => n - (iOf i).toNat)
  case atStart => exact ⟨0, by omega, rfl, HB1.out, Lib.hid (fun j e hj => by omega)⟩
  case round =>
    obtain ⟨k, hk, rfl, hb, HM⟩ := hrel
    have HB := Lib.hid hb
    clear hb
    by_cases hlt : k < n
    case neg =>
      have hd1 : decide (k < n) = false := by simpa using hlt
      have HF : Hid (RGoodL l) := Lib.hid ⟨HZ.out, fun j e hj => HM.out j e (by have := (List.getElem?_eq_some_iff.1 hj).1; have := HLEN.out; omega) hj⟩
      clear hlt
      go_wp2_with fail
      go_ret
      exact ⟨true, rfl, ⟨fun _ => HF.out, fun _ => rfl⟩, HB.out⟩
    case pos =>
    obtain ⟨e, he⟩ : ∃ e, l[k]? = some e := ⟨_, List.getElem?_eq_getElem (by rw [HLEN.out]; exact hlt)⟩
    have HE := Lib.hid he
    obtain ⟨ad, rfl, -⟩ := (HR.out.below HB.out).ent he
    have hd1 : decide (k < n) = true := by simpa using hlt
    have HW : Hid (∀ W, Below wr.heap.size wr W → Below w.heap.size w W) := Lib.hid fun W hW => HB.out.trans (hW.mono HB.out.size)
    have hbe : ∀ W, Below wr.heap.size wr W → Calls Tryd.prog 39 #[.slice (some ad) k c, .agg #[.int .i64 e.epoch, .int .i64 e.id, .int .i64 e.num, .int .i64 e.seq, .int .i64 e.kind, .int .i64 e.value]] W (fun r w' => r = .returned (.bool (behE (l.take k) e)) ∧ Below W.heap.size W w') := fun W hW => behind_any (((HR.out.below (HW.out W hW)).ents_take hk)) (by omega) e
    clear he
    go_upto_region 6 with fail
    refine wp_region_np ?_
    refine wp_region_held_drew (S := fun W => Below wr.heap.size wr W) (by kernel_rfl) (show Below wr.heap.size wr wr.drew from (Below.refl _ _).drew) (fun hHeld => ?_)
    refine wpAnyH_takeAt (i := 0) (d := 13) (v := ?vq0x) rfl rfl (by kernel_rfl) (by kernel_rfl) (by kernel_rfl) (fun _ _ _ h => h) (Or.inl ⟨by rfl, ?hyq0x⟩) hHeld ?_
    case hyq0x =>
      intro W hSw
      clear hSw
      (go_simp; try with_reducible rfl)
    simp only [List.setIfInBounds_toArray, List.set_cons_zero, List.set_cons_succ]
    refine wpAnyH_takeAt (i := 1) (d := 14) (v := ?vq1x) rfl rfl (by kernel_rfl) (by kernel_rfl) (by kernel_rfl) (fun _ _ _ h => h) (Or.inl ⟨by rfl, ?hyq1x⟩) hHeld ?_
    case hyq1x =>
      intro W hSw
      clear hSw
      (go_simp; try with_reducible rfl)
    simp only [List.setIfInBounds_toArray, List.set_cons_zero, List.set_cons_succ]
    refine wpAnyH_takeAt (i := 2) (d := 15) (v := ?vq2x) rfl rfl (by kernel_rfl) (by kernel_rfl) (by kernel_rfl) (fun _ _ _ h => h) (Or.inl ⟨by rfl, ?hyq2x⟩) hHeld ?_
    case hyq2x =>
      intro W hSw
      have qs := slice22_to (some ad) n c k (by omega); clear hSw
      (go_simp; try with_reducible rfl)
    simp only [List.setIfInBounds_toArray, List.set_cons_zero, List.set_cons_succ]
    refine wpAnyH_takeAt (i := 3) (d := 16) (v := ?vq3x) rfl rfl (by kernel_rfl) (by kernel_rfl) (by kernel_rfl) (fun _ _ _ h => h) (Or.inl ⟨by rfl, ?hyq3x⟩) hHeld ?_
    case hyq3x =>
      intro W hSw
      clear hSw
      (go_simp; try with_reducible rfl)
    simp only [List.setIfInBounds_toArray, List.set_cons_zero, List.set_cons_succ]
    refine wpAnyH_takeAt (i := 4) (d := 17) (v := ?vq4x) rfl rfl (by kernel_rfl) (by kernel_rfl) (by kernel_rfl) (fun _ _ _ h => h) (Or.inl ⟨by rfl, ?hyq4x⟩) hHeld ?_
    case hyq4x =>
      intro W hSw
      clear hSw
      (go_simp; try with_reducible rfl)
    simp only [List.setIfInBounds_toArray, List.set_cons_zero, List.set_cons_succ]
    refine wpAnyH_takeAt (i := 5) (d := 18) (v := ?vq5x) rfl rfl (by kernel_rfl) (by kernel_rfl) (by kernel_rfl) (fun _ _ _ h => h) (Or.inl ⟨by rfl, ?hyq5x⟩) hHeld ?_
    case hyq5x =>
      intro W hSw
      clear hSw
      (go_simp; try with_reducible rfl)
    simp only [List.setIfInBounds_toArray, List.set_cons_zero, List.set_cons_succ]
    refine wpAnyH_takeAt (i := 6) (d := 19) (v := ?vq6x) rfl rfl (by kernel_rfl) (by kernel_rfl) (by kernel_rfl) (fun _ _ _ h => h) (Or.inl ⟨by rfl, ?hyq6x⟩) hHeld ?_
    case hyq6x =>
      intro W hSw
      obtain ⟨ad2, ea, hadl, -, s0, s1, s2, s3, s4, s5⟩ := (HR.out.below (HW.out W hSw)).ent HE.out; injection ea with ea; subst ea; clear hSw
      (go_simp; try with_reducible rfl)
    simp only [List.setIfInBounds_toArray, List.set_cons_zero, List.set_cons_succ]
    refine wpAnyH_ready (rs := [7]) (by kernel_rfl) (by simp) (AllReadyH.cons rfl (fun K hK => ?_) AllReadyH.nil)
    go_simp
    refine (hbe wr.drew (Below.refl _ _).drew).mono ?_
    rintro x w2 ⟨rfl, hb2⟩
    dsimp only
    have hc2 : Below wr.heap.size wr w2 := ((Below.refl _ _).drew).trans hb2
    refine hK.out _ _ hc2 (fun hHeld => ?_)
    clear hK K
    try simp only [List.setIfInBounds_toArray, List.set_cons_zero, List.set_cons_succ]
    refine wpAnyH_done (by kernel_rfl) ?_ _
    have HB2 := Lib.hid (HW.out _ hc2)
    clear hHeld hbe hb2 hc2
    cases hbh : behE (l.take k) e with
    | false =>
      have HN : Hid (∀ j f, j < k + 1 → l[j]? = some f → behE (l.take j) f = false) := Lib.hid fun j f hj hf => by
        rcases Nat.lt_or_ge j k with q | q
        · exact HM.out j f q hf
        · obtain rfl : j = k := by omega
          rw [HE.out] at hf
          injection hf with hf
          rw [← hf]; exact hbh
      clear hbh
      go_wp2_with fail
      go_round
      case rel => exact ⟨k + 1, by omega, by go_num, HB2.out, HN⟩
      case measure => simp [iOf]; omega
    | true =>
      have HN := Lib.hid hbh
      clear hbh
      go_wp2_with fail
      go_ret
      exact ⟨false, rfl, ⟨fun q => (by cases q), fun q => by have := q.2 k e HE.out; rw [HN.out] at this; cases this⟩, HB2.out⟩
end
end Go.Proofs.YthcphoijanebhaaDoor
