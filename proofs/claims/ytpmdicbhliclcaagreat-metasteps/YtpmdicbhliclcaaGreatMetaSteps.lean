/-
  The law MetaSteps: who is in step, by fences, elections, and what leaders ask, one behind the other.
-/
import Derived.Test.YtpmdicbhliclcaaGreatPlayw
import Derived.WalkKit
import Derived.ProofKit
import Derived.OpenShut
import Derived.ShutString
import Derived.ChangeOld
import Derived.Below
namespace Go.Proofs.YtpmdicbhliclcaaGreat.metaSteps
open Go.ChangeShapes Go.WideShapes Go.ChangeAt Go.RowKit Go.Maps
set_option linter.unusedVariables false
theorem own : ownKnob Tryz.prog.godebug = none := by kernel_rfl
theorem laidOut : laidOutB Tryz.prog = true := by kernel_rfl
/-- An act that is being made lies in the newest block. -/
structure LcI (wr W : World) (cs : Array Value) : Prop where
  low : Below wr.heap.size wr W
  blk : Blk W wr.heap.size 43 cs
theorem LcI.set_ {wr W : World} {cs : Array Value} (h : LcI wr W cs) (j : Nat) (v : Value) : LcI wr (W.setCell ⟨wr.heap.size, j, none⟩ v) (cs.setIfInBounds j v) :=
  ⟨h.low.trans (((Turn.refl (fun z => z = wr.heap.size) W).setCell (p := ⟨wr.heap.size, j, none⟩) (fun _ => rfl) v).below h.low.size (fun z e => by omega)), h.blk.set_ j v⟩
/-- Its list is being made. -/
structure LsI (wr W : World) (kd B : Int) (p : Nat) (V : List Int) (sv : Value) : Prop where
  lc : LcI wr W #[.int .i64 kd, .int .i64 0, .int .i64 B, .int .i64 0, .int .i64 0, .bool false, .bool true, sv]
  own : OwnK W 3 1 sv (intsOf V)
  fresh : ∀ b, sv.ownBlock = some b → wr.heap.size < b
  len : V.length ≤ p
theorem LsI.mid {wr W w9 : World} {kd B x : Int} {p : Nat} {V : List Int} {sv v9 : Value} {o : Obj} (h : LsI wr W kd B p V sv) (hg : Grew sv (W.alloc o) v9 w9) : LcI wr w9 #[.int .i64 kd, .int .i64 0, .int .i64 B, .int .i64 0, .int .i64 0, .bool false, .bool true, sv] := by
  have hz : wr.heap.size < W.heap.size := h.lc.blk.lt
  have ht := hg.turn (S := fun z => sv.ownBlock = some z) (fun g e => e)
  have ha : Below wr.heap.size wr (W.alloc o) := h.lc.low.alloc h.lc.low.size _
  refine ⟨ha.trans (ht.below ha.size (fun z e => by have := h.fresh z e; omega)), ((h.lc.blk.alloc o).keep ht (fun e => by have := h.fresh _ e; omega))⟩
theorem LsI.more {wr W w9 : World} {kd B x : Int} {p : Nat} {V : List Int} {sv v9 : Value} {o : Obj} (h : LsI wr W kd B p V sv) (ho : OwnK w9 3 1 v9 (intsOf V ++ [#[.int .i64 x]])) (hg : Grew sv (W.alloc o) v9 w9) : LsI wr (w9.setCell ⟨wr.heap.size, 7, none⟩ v9) kd B (p + 1) (V ++ [x]) v9 := by
  have hz : wr.heap.size < W.heap.size := h.lc.blk.lt
  have hf : ∀ b, v9.ownBlock = some b → wr.heap.size < b := fun b e => by
    rcases hg.2 b e with q | q
    · exact h.fresh b q
    · have : (W.alloc o).heap.size = W.heap.size + 1 := by simp
      omega
  have hT : Turn (fun z => z = wr.heap.size) w9 (w9.setCell ⟨wr.heap.size, 7, none⟩ v9) := (Turn.refl (fun z => z = wr.heap.size) w9).setCell (p := ⟨wr.heap.size, 7, none⟩) (fun _ => rfl) v9
  refine ⟨(h.mid (x := x) hg).set_ 7 v9, ?_, hf, by have := h.len; simp; omega⟩
  have h2 := ho.keep hT (fun b e q => by have := hf b e; omega)
  simpa [intsOf] using h2
set_option maxHeartbeats 4000000 in
set_option maxRecDepth 100000 in
theorem walk (a0 : Option Addr) (len0 cap0 : Nat) (z0 : Nat → Nat × Nat × Nat) (w : World) (b0 : Rows3 w a0 len0 z0) (hc0 : len0 ≤ cap0) (hm0 : cap0 ≤ maxLen) :
    Calls Tryz.prog 8 #[.slice a0 len0 cap0] w fun e w' => e = .returned (.bool true) ∧ Below w.heap.size w w' := by
  have HP := Lib.hid b0
  clear b0 hc0 hm0
  go_enter Tryz.func8, Tryz.ntmps8
  by_cases h40 : 40 < len0
  case pos =>
    have d1 : decide (40 < len0) = true := decide_eq_true h40
    have d2 : decide ((40 : Int) < (len0 : Int)) = true := decide_eq_true (by omega)
    clear h40
    go_wp2_with fail
    refine (known_any _).mono ?_
    rintro r w4 ⟨rfl, hb4⟩
    have HF := Lib.hid hb4
    clear hb4
    go_wp2_with fail
    go_ret
    exact ⟨rfl, HF.out⟩
  case neg =>
  have d1 : decide (40 < len0) = false := decide_eq_false h40
  have d2 : decide ((40 : Int) < (len0 : Int)) = false := decide_eq_false (by omega)
  have h40' : len0 ≤ 40 := by omega
  have HS0 : Hid (([] : List ((Ac × List Int) × Value)).length = 0 ∧ AcJ w [] (.slice none 0 0) w) := Lib.hid ⟨rfl, AcJ.nil w⟩
  clear h40
  go_wp2_with fail
  go_loopw [3, 4] (fun l i wv => ∃ (q : Nat) (k : List ((Ac × List Int) × Value)), q ≤ len0 ∧ i = .int .i64 q ∧ Hid (k.length = q ∧ AcJ w k l wv)) (fun _ i _ => len0 - (iOf i).toNat)
  case atStart => exact ⟨0, _, by omega, rfl, HS0⟩
  case round =>
    clear HS0
    obtain ⟨q, k, hq, rfl, HI⟩ := hrel
    by_cases hlt : q < len0
    case neg =>
      have hd1 : decide (q < len0) = false := decide_eq_false hlt
      clear hlt hq
      obtain ⟨A9, c9, hv⟩ := HI.out.2.form
      subst hv
      have hpl := play_any (k := c9) HI.out.2.acts 4 1 1
      rw [List.length_map] at hpl
      have HB8 := Lib.hid HI.out.2.low
      clear HI
      go_wp2_with fail
      refine hpl.mono ?_
      rintro r w5 ⟨rfl, hb5⟩
      have HF := Lib.hid (HB8.out.trans (hb5.mono HB8.out.size))
      clear hpl hb5
      go_wp2_with fail
      go_ret
      exact ⟨rfl, HF.out⟩
    case pos =>
    have hd1 : decide (q < len0) = true := decide_eq_true hlt
    obtain ⟨h1, h2, h3, ad, eA, -, c0, c1, c2⟩ := (HP.out.below HI.out.2.low).at_ hlt
    subst eA
    have HE := Lib.hid (And.intro c0 (And.intro c1 c2))
    have HLT : Hid (q < len0 ∧ len0 ≤ 40) := Lib.hid ⟨hlt, h40'⟩
    obtain ⟨y0, ey0⟩ : ∃ y : Int, y = ((z0 q).1 : Int) := ⟨_, rfl⟩
    rw [← ey0] at c0
    obtain ⟨y1, ey1⟩ : ∃ y : Int, y = ((z0 q).2.1 : Int) := ⟨_, rfl⟩
    rw [← ey1] at c1
    obtain ⟨y2, ey2⟩ : ∃ y : Int, y = ((z0 q).2.2 : Int) := ⟨_, rfl⟩
    rw [← ey2] at c2

    clear hq h1 h2 h3 ey0 ey1 ey2 HE
    go_wp2_with (with_reducible refine at_store 43 rfl ?_)
    refine Stop.go (wpList_store_blk (by rfl) (by rfl) 43 _ _ (by rfl) wr.heap.size _ #[.int .i64 ?K0, .int .i64 0, .int .i64 0, .int .i64 0, .int .i64 0, .bool false, .bool true, .slice none 0 0] (by rfl) (by rfl) 43 (Blk.new wr 43 #[.int .i64 0, .int .i64 0, .int .i64 0, .int .i64 0, .int .i64 0, .bool false, .bool false, .slice none 0 0]) (by rfl) (by kernel_rfl) (by simp [Value.oneCell']) ?_)
    intro w3 hB3 hg3 hs3
    have hal3 : Below wr.heap.size wr w3 := below_grown ((Below.refl wr.heap.size wr).alloc (Nat.le_refl _) (.cells #[.int .i64 0, .int .i64 0, .int .i64 0, .int .i64 0, .int .i64 0, .bool false, .bool false, .slice none 0 0] 43)) hg3 (Nat.le_refl _) (Nat.le_refl _)
    have HL3 : Hid (LcI wr w3 #[.int .i64 (wrap64 (1 + wrap64 (y0.tmod 4))), .int .i64 0, .int .i64 0, .int .i64 0, .int .i64 0, .bool false, .bool true, .slice none 0 0]) := Lib.hid ⟨hal3, hB3⟩
    have l0 : w3.cell? ⟨wr.heap.size, 0, none⟩ = some (.int .i64 (wrap64 (1 + wrap64 (y0.tmod 4)))) := hB3.cell 0
    have c1' := cell_below c1 hal3
    have c2' := cell_below c2 hal3
    have HC2 := Lib.hid c2
    clear hB3 hg3 hs3 hal3 c0 c1
    go_upto_region 10 with fail
    generalize wrap64 (1 + wrap64 (y0.tmod 4)) = kd at *
    generalize wrap64 (y1.tmod 4) = B at *
    clear l0 c1' c2 HP
    by_cases h1 : kd = 1
    case pos =>
      have e1 := eqb h1
      clear h1
      have f1 : w3.cell? ⟨wr.heap.size, 1, none⟩ = some (.int .i64 0) := HL3.out.blk.cell 1
      have f1' := HL3.out.blk.frozen 1
      have HL4 : Hid (LcI wr (w3.setCell ⟨wr.heap.size, 1, none⟩ (.int .i64 B)) #[.int .i64 kd, .int .i64 B, .int .i64 0, .int .i64 0, .int .i64 0, .bool false, .bool true, .slice none 0 0]) := Lib.hid (HL3.out.set_ 1 _)
      go_upto_region 22 with fail
      generalize w3.setCell ⟨wr.heap.size, 1, none⟩ (.int .i64 B) = w4 at *
      clear f1 f1' c2' HL3
      have HJ9 : Hid (AcJ w k u3 w4) := Lib.hid (HI.out.2.below HL4.out.low)
      go_wp2_with (with_reducible refine at_load 43 rfl ?_)
      refine Stop.go (wpList_load_blk (by rfl) 43 _ (by rfl) wr.heap.size (by rfl) 43 _ HL4.out.blk _ und43 (by rfl) (by kernel_rfl) ?_)
      go_wp2_with (at_builtin; refine stop ?_)
      refine Stop.go (wpList_append_a el24 _ (by rfl) _ _ (by rfl) u3 (rowB k) (by rfl) (HJ9.out.own.alloc _) No (some ⟨w4.heap.size, 0, none⟩) 1 1 [aArr (⟨kd, B, 0, 0, 0, false, true⟩ : Ac) (.slice none 0 0 : Value)] (by rfl) (rd_act rfl (fun h => h)) (by rw [rowB_len]; have := HI.out.1; have := HLT.out; omega) (by omega) ?_)
      intro v9 w9 ho9 hg9
      have HN : Hid ((k ++ [(((⟨kd, B, 0, 0, 0, false, true⟩ : Ac), []), (.slice none 0 0 : Value))]).length = q + 1 ∧ AcJ w (k ++ [(((⟨kd, B, 0, 0, 0, false, true⟩ : Ac), []), (.slice none 0 0 : Value))]) v9 w9) := Lib.hid ⟨by simp; have := HI.out.1; omega, HJ9.out.more ho9 hg9 ⟨none, 0, rfl, Rd.none_⟩⟩
      have hq5 := HLT.out.1
      have hq6 := HLT.out.2
      clear ho9 hg9 HJ9
      go_wp2_with fail
      go_round
      case rel => exact ⟨q + 1, _, by have := HLT.out; omega, by go_num, HN⟩
      case measure => simp [iOf]; have := HLT.out; omega
    case neg =>
    have e1 := neb h1
    clear h1
    by_cases h2 : kd = 2
    case pos =>
      have e2 := eqb h2
      clear h2
      have f1 : w3.cell? ⟨wr.heap.size, 1, none⟩ = some (.int .i64 0) := HL3.out.blk.cell 1
      have f1' := HL3.out.blk.frozen 1
      have HL4 : Hid (LcI wr (w3.setCell ⟨wr.heap.size, 1, none⟩ (.int .i64 B)) #[.int .i64 kd, .int .i64 B, .int .i64 0, .int .i64 0, .int .i64 0, .bool false, .bool true, .slice none 0 0]) := Lib.hid (HL3.out.set_ 1 _)
      go_upto_region 22 with fail
      generalize w3.setCell ⟨wr.heap.size, 1, none⟩ (.int .i64 B) = w4 at *
      clear f1 f1' c2' HL3
      have HJ9 : Hid (AcJ w k u3 w4) := Lib.hid (HI.out.2.below HL4.out.low)
      go_wp2_with (with_reducible refine at_load 43 rfl ?_)
      refine Stop.go (wpList_load_blk (by rfl) 43 _ (by rfl) wr.heap.size (by rfl) 43 _ HL4.out.blk _ und43 (by rfl) (by kernel_rfl) ?_)
      go_wp2_with (at_builtin; refine stop ?_)
      refine Stop.go (wpList_append_a el24 _ (by rfl) _ _ (by rfl) u3 (rowB k) (by rfl) (HJ9.out.own.alloc _) No (some ⟨w4.heap.size, 0, none⟩) 1 1 [aArr (⟨kd, B, 0, 0, 0, false, true⟩ : Ac) (.slice none 0 0 : Value)] (by rfl) (rd_act rfl (fun h => h)) (by rw [rowB_len]; have := HI.out.1; have := HLT.out; omega) (by omega) ?_)
      intro v9 w9 ho9 hg9
      have HN : Hid ((k ++ [(((⟨kd, B, 0, 0, 0, false, true⟩ : Ac), []), (.slice none 0 0 : Value))]).length = q + 1 ∧ AcJ w (k ++ [(((⟨kd, B, 0, 0, 0, false, true⟩ : Ac), []), (.slice none 0 0 : Value))]) v9 w9) := Lib.hid ⟨by simp; have := HI.out.1; omega, HJ9.out.more ho9 hg9 ⟨none, 0, rfl, Rd.none_⟩⟩
      have hq5 := HLT.out.1
      have hq6 := HLT.out.2
      clear ho9 hg9 HJ9
      go_wp2_with fail
      go_round
      case rel => exact ⟨q + 1, _, by have := HLT.out; omega, by go_num, HN⟩
      case measure => simp [iOf]; have := HLT.out; omega
    case neg =>
    have e2 := neb h2
    clear h2
    by_cases h3 : kd = 3
    case pos =>
      have e3 := eqb h3
      clear h3
      go_upto_region 14 with fail
      refine wp_region_np ?_
      refine wp_region_held_drew (S := fun W => Below wr.heap.size wr W) (by kernel_rfl) (show Below wr.heap.size wr w3.drew from HL3.out.low.drew) (fun hHeld => ?_)
      have HLV : Hid (LcI wr w3.drew #[.int .i64 kd, .int .i64 0, .int .i64 0, .int .i64 0, .int .i64 0, .bool false, .bool true, .slice none 0 0]) := Lib.hid ⟨HL3.out.low.drew, HL3.out.blk.drew⟩
      generalize hv0 : w3.drew = V0 at *
      clear hv0 HL3 c2'
      refine wpAnyH_takeAt (i := 0) (d := 43) (v := ?vq0x) rfl rfl (by kernel_rfl) (by kernel_rfl) (by kernel_rfl) (fun _ _ _ h => h) (Or.inl ⟨by rfl, ?hyq0x⟩) hHeld ?_
      case hyq0x =>
        intro W hSw
        clear hSw
        (go_simp; try with_reducible rfl)
      simp only [List.setIfInBounds_toArray, List.set_cons_zero, List.set_cons_succ]
      refine wpAnyH_takeAt (i := 1) (d := 44) (v := ?vq1x) rfl rfl (by kernel_rfl) (by kernel_rfl) (by kernel_rfl) (fun _ _ _ h => h) (Or.inl ⟨by rfl, ?hyq1x⟩) hHeld ?_
      case hyq1x =>
        intro W hSw
        clear hSw
        (go_simp; try with_reducible rfl)
      simp only [List.setIfInBounds_toArray, List.set_cons_zero, List.set_cons_succ]
      refine wpAnyH_takeAt (i := 2) (d := 45) (v := ?vq2x) rfl rfl (by kernel_rfl) (by kernel_rfl) (by kernel_rfl) (fun _ _ _ h => h) (Or.inl ⟨by rfl, ?hyq2x⟩) hHeld ?_
      case hyq2x =>
        intro W hSw
        clear hSw
        (go_simp; try with_reducible rfl)
      simp only [List.setIfInBounds_toArray, List.set_cons_zero, List.set_cons_succ]
      refine wpAnyH_takeAt (i := 3) (d := 46) (v := ?vq3x) rfl rfl (by kernel_rfl) (by kernel_rfl) (by kernel_rfl) (fun _ _ _ h => h) (Or.inl ⟨by rfl, ?hyq3x⟩) hHeld ?_
      case hyq3x =>
        intro W hSw
        clear hSw; have h9 := HLT.out.1
        (go_simp; try with_reducible rfl)
      simp only [List.setIfInBounds_toArray, List.set_cons_zero, List.set_cons_succ]
      refine wpAnyH_takeAt (i := 4) (d := 47) (v := ?vq4x) rfl rfl (by kernel_rfl) (by kernel_rfl) (by kernel_rfl) (fun _ _ _ h => h) (Or.inl ⟨by rfl, ?hyq4x⟩) hHeld ?_
      case hyq4x =>
        intro W hSw
        clear hSw; have h9 := HLT.out.1
        (go_simp; try with_reducible rfl)
      simp only [List.setIfInBounds_toArray, List.set_cons_zero, List.set_cons_succ]
      refine wpAnyH_takeAt (i := 5) (d := 48) (v := ?vq5x) rfl rfl (by kernel_rfl) (by kernel_rfl) (by kernel_rfl) (fun _ _ _ h => h) (Or.inl ⟨by rfl, ?hyq5x⟩) hHeld ?_
      case hyq5x =>
        intro W hSw
        have e2 := cell_below HC2.out hSw; clear hSw
        (go_simp; try with_reducible rfl)
      simp only [List.setIfInBounds_toArray, List.set_cons_zero, List.set_cons_succ]
      refine wpAnyH_takeAt (i := 6) (d := 49) (v := ?vq6x) rfl rfl (by kernel_rfl) (by kernel_rfl) (by kernel_rfl) (fun _ _ _ h => h) (Or.inl ⟨by rfl, ?hyq6x⟩) hHeld ?_
      case hyq6x =>
        intro W hSw
        clear hSw
        (go_simp; try with_reducible rfl)
      simp only [List.setIfInBounds_toArray, List.set_cons_zero, List.set_cons_succ]
      refine wpAnyH_takeAt (i := 7) (d := 50) (v := ?vq7x) rfl rfl (by kernel_rfl) (by kernel_rfl) (by kernel_rfl) (fun _ _ _ h => h) (Or.inl ⟨by rfl, ?hyq7x⟩) hHeld ?_
      case hyq7x =>
        intro W hSw
        clear hSw
        (go_simp; try with_reducible rfl)
      simp only [List.setIfInBounds_toArray, List.set_cons_zero, List.set_cons_succ]
      refine wpAnyH_takeAt (i := 8) (d := 51) (v := ?vq8x) rfl rfl (by kernel_rfl) (by kernel_rfl) (by kernel_rfl) (fun _ _ _ h => h) (Or.inl ⟨by rfl, ?hyq8x⟩) hHeld ?_
      case hyq8x =>
        intro W hSw
        clear hSw
        (go_simp; try with_reducible rfl)
      simp only [List.setIfInBounds_toArray, List.set_cons_zero, List.set_cons_succ]
      refine wpAnyH_ready (rs := [9]) (by kernel_rfl) (by simp) (AllReadyH.cons rfl (fun K hK => ?_) AllReadyH.nil)
      have f2 : V0.cell? ⟨wr.heap.size, 2, none⟩ = some (.int .i64 0) := HLV.out.blk.cell 2
      have f2' := HLV.out.blk.frozen 2
      have HLW : Hid (LcI wr (V0.setCell ⟨wr.heap.size, 2, none⟩ (.int .i64 B)) #[.int .i64 kd, .int .i64 0, .int .i64 B, .int .i64 0, .int .i64 0, .bool false, .bool true, .slice none 0 0]) := Lib.hid (HLV.out.set_ 2 _)
      go_simp
      refine hK.out _ _ HLW.out.low (fun hHeld => ?_)
      clear hK K f2 f2'
      try simp only [List.setIfInBounds_toArray, List.set_cons_zero, List.set_cons_succ]
      refine wpAnyH_takeAt (i := 10) (d := 52) (v := ?vq9x) rfl rfl (by kernel_rfl) (by kernel_rfl) (by kernel_rfl) (fun _ _ _ h => h) (Or.inl ⟨by rfl, ?hyq9x⟩) hHeld ?_
      case hyq9x =>
        intro W hSw
        clear hSw
        (go_simp; try with_reducible rfl)
      simp only [List.setIfInBounds_toArray, List.set_cons_zero, List.set_cons_succ]
      refine wpAnyH_ready (rs := [11]) (by kernel_rfl) (by simp) (AllReadyH.cons rfl (fun K hK => ?_) AllReadyH.nil)
      have f5 : (V0.setCell ⟨wr.heap.size, 2, none⟩ (.int .i64 B)).cell? ⟨wr.heap.size, 5, none⟩ = some (.bool false) := HLW.out.blk.cell 5
      have f5' := HLW.out.blk.frozen 5
      have HLY : Hid (LcI wr ((V0.setCell ⟨wr.heap.size, 2, none⟩ (.int .i64 B)).setCell ⟨wr.heap.size, 5, none⟩ (.bool (y2.tmod 5 == 0))) #[.int .i64 kd, .int .i64 0, .int .i64 B, .int .i64 0, .int .i64 0, .bool (y2.tmod 5 == 0), .bool true, .slice none 0 0]) := Lib.hid (HLW.out.set_ 5 _)
      generalize V0.setCell ⟨wr.heap.size, 2, none⟩ (.int .i64 B) = V1 at *
      go_simp
      refine hK.out _ _ HLY.out.low (fun hHeld => ?_)
      clear hK K f5 f5'
      try simp only [List.setIfInBounds_toArray, List.set_cons_zero, List.set_cons_succ]
      refine wpAnyH_done (by kernel_rfl) ?_ _
      clear hHeld HLW HLV
      generalize V1.setCell ⟨wr.heap.size, 5, none⟩ (.bool (y2.tmod 5 == 0)) = w4 at *
      have HJ9 : Hid (AcJ w k u3 w4) := Lib.hid (HI.out.2.below HLY.out.low)
      go_wp2_with (with_reducible refine at_load 43 rfl ?_)
      refine Stop.go (wpList_load_blk (by rfl) 43 _ (by rfl) wr.heap.size (by rfl) 43 _ HLY.out.blk _ und43 (by rfl) (by kernel_rfl) ?_)
      go_wp2_with (at_builtin; refine stop ?_)
      refine Stop.go (wpList_append_a el24 _ (by rfl) _ _ (by rfl) u3 (rowB k) (by rfl) (HJ9.out.own.alloc _) No (some ⟨w4.heap.size, 0, none⟩) 1 1 [aArr (⟨kd, 0, B, 0, 0, (y2.tmod 5 == 0), true⟩ : Ac) (.slice none 0 0 : Value)] (by rfl) (rd_act rfl (fun h => h)) (by rw [rowB_len]; have := HI.out.1; have := HLT.out; omega) (by omega) ?_)
      intro v9 w9 ho9 hg9
      have HN : Hid ((k ++ [(((⟨kd, 0, B, 0, 0, (y2.tmod 5 == 0), true⟩ : Ac), []), (.slice none 0 0 : Value))]).length = q + 1 ∧ AcJ w (k ++ [(((⟨kd, 0, B, 0, 0, (y2.tmod 5 == 0), true⟩ : Ac), []), (.slice none 0 0 : Value))]) v9 w9) := Lib.hid ⟨by simp; have := HI.out.1; omega, HJ9.out.more ho9 hg9 ⟨none, 0, rfl, Rd.none_⟩⟩
      have hq5 := HLT.out.1
      have hq6 := HLT.out.2
      clear ho9 hg9 HJ9
      go_wp2_with fail
      go_round
      case rel => exact ⟨q + 1, _, by have := HLT.out; omega, by go_num, HN⟩
      case measure => simp [iOf]; have := HLT.out; omega
    case neg =>
    have e3 := neb h3
    clear h3
    by_cases h4 : kd = 4
    case pos =>
      have e4 := eqb h4
      clear h4
      have f2 : w3.cell? ⟨wr.heap.size, 2, none⟩ = some (.int .i64 0) := HL3.out.blk.cell 2
      have f2' := HL3.out.blk.frozen 2
      have HL4 : Hid (LcI wr (w3.setCell ⟨wr.heap.size, 2, none⟩ (.int .i64 B)) #[.int .i64 kd, .int .i64 0, .int .i64 B, .int .i64 0, .int .i64 0, .bool false, .bool true, .slice none 0 0]) := Lib.hid (HL3.out.set_ 2 _)
      go_upto_region 17 with fail
      generalize w3.setCell ⟨wr.heap.size, 2, none⟩ (.int .i64 B) = w4 at *
      clear f2 f2' c2' HL3
      generalize wr = wo at *
      have HS4 : Hid (LsI wo w4 kd B 0 [] (.slice none 0 0)) := Lib.hid ⟨HL4.out, OwnK.nil _ _ _, fun z e => (nomatch e), Nat.le_refl _⟩
      clear HL4
      go_wp2_with fail
      go_loopw [7] (fun i wv => ∃ (p : Nat) (V : List Int) (sv : Value), p ≤ 4 ∧ i = .int .i64 p ∧ Hid (LsI wo wv kd B p V sv)) (fun i _ => 4 - (iOf i).toNat)
      case atStart => exact ⟨0, _, _, by omega, rfl, HS4⟩
      case round =>
        clear HS4
        obtain ⟨p, V, sv, hp, rfl, HLS⟩ := hrel
        obtain ⟨A7, k7, hsv, -⟩ := ints_form HLS.out.own
        subst hsv
        by_cases hp4 : p < 4
        case neg =>
          have dp : decide (p < 4) = false := decide_eq_false hp4
          have dp2 : decide ((p : Int) < 4) = false := decide_eq_false (by omega)
          clear hp4 hp
          have HL5 := Lib.hid HLS.out.lc
          have HS5 : Hid (IsR wr (fun z => u3.ownBlock = some z) (.slice A7 V.length k7) V) := Lib.hid ⟨A7, k7, rfl, HLS.out.own.rd (fun g e q => by have := HLS.out.fresh g e; have := HI.out.2.own.lt q; omega)⟩
          clear HLS
          have HJ9 : Hid (AcJ w k u3 wr) := Lib.hid (HI.out.2.below HL5.out.low)
          go_wp2_with (with_reducible refine at_load 43 rfl ?_)
          refine Stop.go (wpList_load_blk (by rfl) 43 _ (by rfl) wo.heap.size (by rfl) 43 _ HL5.out.blk _ und43 (by rfl) (by kernel_rfl) ?_)
          go_wp2_with (at_builtin; refine stop ?_)
          refine Stop.go (wpList_append_a el24 _ (by rfl) _ _ (by rfl) u3 (rowB k) (by rfl) (HJ9.out.own.alloc _) No (some ⟨wr.heap.size, 0, none⟩) 1 1 [aArr (⟨kd, 0, B, 0, 0, false, true⟩ : Ac) (.slice A7 V.length k7 : Value)] (by rfl) (rd_act rfl (fun h => h)) (by rw [rowB_len]; have := HI.out.1; have := HLT.out; omega) (by omega) ?_)
          intro v9 w9 ho9 hg9
          have HN : Hid ((k ++ [(((⟨kd, 0, B, 0, 0, false, true⟩ : Ac), V), (.slice A7 V.length k7 : Value))]).length = q + 1 ∧ AcJ w (k ++ [(((⟨kd, 0, B, 0, 0, false, true⟩ : Ac), V), (.slice A7 V.length k7 : Value))]) v9 w9) := Lib.hid ⟨by simp; have := HI.out.1; omega, HJ9.out.more ho9 hg9 HS5.out⟩
          have hq5 := HLT.out.1
          have hq6 := HLT.out.2
          clear ho9 hg9 HJ9
          go_wp2_with fail
          go_round
          case rel => exact ⟨q + 1, _, by have := HLT.out; omega, by go_num, HN⟩
          case measure => simp [iOf]; have := HLT.out; omega
        case pos =>
        have dp : decide (p < 4) = true := decide_eq_true hp4
        have dp2 : decide ((p : Int) < 4) = true := decide_eq_true (by omega)
        have c2w := cell_below HC2.out HLS.out.lc.low
        have hq5 := HLT.out.1
        cases hb : (bits BinOp.and IntKind.u8 (y2 / 2 ^ p) 1 != 0) with
        | true =>
          have s7 : wr.cell? ⟨wo.heap.size, 7, none⟩ = some (.slice A7 V.length k7) := HLS.out.lc.blk.cell 7
          go_wp2_with (at_builtin; refine stop ?_)
          refine Stop.go (wpList_append_k el41 _ (by rfl) _ _ (by rfl) (.slice A7 V.length k7) (intsOf V) (by rfl) (HLS.out.own.alloc _) No (some ⟨wr.heap.size, 0, none⟩) 1 1 [#[.int .i64 (p : Int)]] (by rfl) (rd_one wr 3 #[.int .i64 (p : Int)] rfl (by simp [Value.oneCell']) (fun h => h)) (by have := HLS.out.len; simp [intsOf]; omega) (by omega) ?_)
          intro v9 w9 ho9 hg9
          have HM9 := Lib.hid (HLS.out.mid (x := 0) hg9)
          have HN9 : Hid (LsI wo (w9.setCell ⟨wo.heap.size, 7, none⟩ v9) kd B (p + 1) (V ++ [(p : Int)]) v9) := Lib.hid (HLS.out.more ho9 hg9)
          clear ho9 hg9 s7 hb HLS c2w
          obtain ⟨A9, k9, e9, -⟩ := ints_form HN9.out.own
          subst e9
          have hlen : (V ++ [(p : Int)]).length = V.length + 1 := by simp
          rw [hlen] at HN9
          clear hlen
          have s7 : w9.cell? ⟨wo.heap.size, 7, none⟩ = some (.slice A7 V.length k7) := HM9.out.blk.cell 7
          have g7 := HM9.out.blk.frozen 7
          go_wp2_with fail
          go_round
          case rel => exact ⟨p + 1, _, _, by omega, by go_num, HN9⟩
          case measure => simp [iOf]; omega
        | false =>
          have HN9 : Hid (LsI wo wr kd B (p + 1) V (.slice A7 V.length k7)) := Lib.hid ⟨HLS.out.lc, HLS.out.own, HLS.out.fresh, by have := HLS.out.len; omega⟩
          clear HLS
          go_wp2_with fail
          go_round
          case rel => exact ⟨p + 1, _, _, by omega, by go_num, HN9⟩
          case measure => simp [iOf]; omega
    case neg =>
    have e4 := neb h4
    clear h4
    clear c2'
    have HJ9 : Hid (AcJ w k u3 w3) := Lib.hid (HI.out.2.below HL3.out.low)
    go_wp2_with (with_reducible refine at_load 43 rfl ?_)
    refine Stop.go (wpList_load_blk (by rfl) 43 _ (by rfl) wr.heap.size (by rfl) 43 _ HL3.out.blk _ und43 (by rfl) (by kernel_rfl) ?_)
    go_wp2_with (at_builtin; refine stop ?_)
    refine Stop.go (wpList_append_a el24 _ (by rfl) _ _ (by rfl) u3 (rowB k) (by rfl) (HJ9.out.own.alloc _) No (some ⟨w3.heap.size, 0, none⟩) 1 1 [aArr (⟨kd, 0, 0, 0, 0, false, true⟩ : Ac) (.slice none 0 0 : Value)] (by rfl) (rd_act rfl (fun h => h)) (by rw [rowB_len]; have := HI.out.1; have := HLT.out; omega) (by omega) ?_)
    intro v9 w9 ho9 hg9
    have HN : Hid ((k ++ [(((⟨kd, 0, 0, 0, 0, false, true⟩ : Ac), []), (.slice none 0 0 : Value))]).length = q + 1 ∧ AcJ w (k ++ [(((⟨kd, 0, 0, 0, 0, false, true⟩ : Ac), []), (.slice none 0 0 : Value))]) v9 w9) := Lib.hid ⟨by simp; have := HI.out.1; omega, HJ9.out.more ho9 hg9 ⟨none, 0, rfl, Rd.none_⟩⟩
    have hq5 := HLT.out.1
    have hq6 := HLT.out.2
    clear ho9 hg9 HJ9
    go_wp2_with fail
    go_round
    case rel => exact ⟨q + 1, _, by have := HLT.out; omega, by go_num, HN⟩
    case measure => simp [iOf]; have := HLT.out; omega

set_option maxRecDepth 100000 in
theorem lifted (os : Os) (started : os.Started) (H : Type) (enc : TypeId × Value → H) :
    ReturnsInHanded {} Tryz.checked os 8 .any (Rows.metaStepsSpec.pre6 enc Tryz.prog Tryz.f8 Rows.metaStepsRow.domain false) (Rows.metaStepsSpec.post enc Tryz.prog Tryz.f8 false true false false) := by
  refine returnsInHanded_of_change (C := Tryz.checked) own started (by kernel_rfl) Tryz.func8
    (ChangeSpec.witness6 (enc := enc) (C := Tryz.checked) false ⟨#[], #[.slice none 0 0], []⟩ 8 (by kernel_rfl) (by kernel_rfl) (by kernel_rfl) (by kernel_rfl)) ?_
  intro W base args ds gs before hval0 hW hcnd _
  have hval : ∀ (j : Nat) t v, Tryz.f8.params[j]? = some t → args[j]? = some v → Value.okWide Tryz.prog W .any base t v := hval0
  have hW' := hW
  obtain ⟨p, q, hA0, hV, rfl, hfz, hnd⟩ := hW
  have hA : DataW.TrodAll enc Tryz.prog W 0 (fun _ => true) true Tryz.f8.params.toList args.toList ds p := hA0
  rw [Tryz.params8] at hA hval
  obtain ⟨v0, vs0, d0, ds0, p0, q0, hargs, rfl, rfl, h0, r0⟩ := trodAll_cons hA
  obtain ⟨rfl, rfl, rfl⟩ := trodAll_nil r0
  obtain rfl : args = #[v0] := by cases args; simp_all
  obtain ⟨rfl, rfl⟩ := trodVars_none hV
  have k0 := h0
  have lt0 : ∀ x ∈ p0, x.block < W.heap.size := by obtain ⟨m, hm⟩ := k0; exact DataW.trod_lt m _ _ _ hm
  obtain ⟨a0, len0, cap0, rfl⟩ := okWide_slice Tryz.underlying82 (hval 0 82 v0 rfl rfl)
  obtain ⟨⟨z0, b0⟩, hc0, hm0⟩ := open_rows3 h0
  clear hA0 hval0
  refine (walk a0 len0 cap0 z0 W b0 hc0 hm0).mono fun e W' ⟨he, bel⟩ => ?_
  subst he
  exact ⟨_, rfl, _, _, _, [], _, [], hW', trodAll_mk1 (shut_bool Tryz.underlying4 _), (trodAll_cons_mk (Below.trod laidOut (by kernel_rfl) (of_decide_eq_true (by kernel_rfl)) k0 bel lt0) trodAll_mk0), rfl, bel.frame _, fun h => by cases h⟩

theorem over : Rows.metaStepsRow.holds Tryz.pinned (OpenSpec.ofChange Rows.metaStepsSpec) :=
  OpenClaim.holds_of_wide 8 Tryz.f8 rfl rfl rfl rfl rfl rfl rfl ⟨rfl, rfl, rfl, rfl, rfl⟩ rfl rfl rfl rfl rfl (by kernel_rfl) Tryz.func8 (by kernel_rfl)
    (of_decide_eq_true (by kernel_rfl)) (by unfold Func.isWrapper; first | (rw [if_pos (by decide +kernel)]; kernel_rfl) | (rw [if_neg (by decide +kernel)]; exact ⟨rfl, rfl⟩))
    (fun os started H enc _ => lifted os started H enc)

theorem proved : Rows.MetaStepsSaid := over
end Go.Proofs.YtpmdicbhliclcaaGreat.metaSteps
namespace Go.Proofs.YtpmdicbhliclcaaGreat
theorem metaSteps_holds : Rows.MetaStepsSaid := metaSteps.proved
#print axioms metaSteps_holds
end Go.Proofs.YtpmdicbhliclcaaGreat
