/-
  Frames, WireFrames: they are the second hand's where each entry may be, and none where one may not; the entries stay as they were.
-/
import Derived.Test.YtickdpgfiianjaaRefFrames
import Derived.Test.YtickdpgfiianjaaRefRight
import Derived.Test.YtickdpgfiianjaaRefAll
import Derived.Test.YtickdpgfiianjaaOpen
import Derived.WalkKit
import Derived.ProofKit
import Derived.OpenShut
import Derived.ShutString
import Derived.ChangeOld
import Derived.Below
namespace Go.Proofs.Ytickdpgfiianjaa.wireFrames
open Go.ChangeShapes Go.WideShapes Go.ChangeAt Go.RowKit
set_option linter.unusedVariables false
theorem own : ownKnob Try.prog.godebug = none := by kernel_rfl
theorem laidOut : laidOutB Try.prog = true := by kernel_rfl
def s77 : Ent := ⟨0, 0, 0, 77, 0, 0⟩
theorem blk77 (w : World) : Blk (w.alloc (.cells #[.int .i64 0, .int .i64 0, .int .i64 0, .int .i64 77, .int .i64 0, .int .i64 0] 38)) w.heap.size 38 s77.cells := Blk.new w 38 _
set_option maxHeartbeats 4000000 in
set_option maxRecDepth 100000 in
theorem walk (a0 : Option Addr) (len0 cap0 : Nat) (es0 : List Ent) (w : World) (b0 : Ents w w.heap.size a0 len0 es0) (hc0 : len0 ≤ cap0) (hm0 : cap0 ≤ maxLen) :
    Calls Try.prog 6 #[.slice a0 len0 cap0] w fun e w' => e = .returned (.bool true) ∧ Below w.heap.size w w' := by
  have hmx : cap0 ≤ 9223372036854775807 := by unfold maxLen at hm0; omega
  clear hm0
  by_cases h2 : 100 < len0
  · go_enter Try.func6, Try.ntmps6
    go_wp2_with fail
    refine (works_any w).mono ?_
    rintro e w1 ⟨rfl, hb⟩
    go_wp2_with fail
    go_ret
    exact ⟨rfl, hb⟩
  have HLEN := Lib.hid b0.1
  go_enter Try.func6, Try.ntmps6
  go_wp2_with (at_builtin; refine stop ?_)
  refine Stop.go (wpList_append_ents _ (by rfl) _ _ (by rfl) w.heap.size _ [] (by rfl) (ownE_empty _ _ (Nat.le_refl _)) w.heap.size a0 len0 cap0 es0 (by rfl) (b0.below ((Below.refl _ _).alloc (Nat.le_refl _) _)) (by simp) (by omega) (le_alloc (Nat.le_refl _) _) ?_)
  intro v1 w1 ho1 hg1
  rw [List.nil_append] at ho1
  have hb1 : Below w.heap.size w w1 := ((Below.refl _ _).alloc (Nat.le_refl _) _).trans (below_of_grown hg1.1 (le_alloc (Nat.le_refl _) _) (fun g e => ((ownE_empty w w.heap.size (Nat.le_refl _)).lt e).1))
  have HB1 := Lib.hid hb1
  clear hg1 hb1
  go_wp2_with (at_builtin; refine stop ?_)
  refine Stop.go (wpList_append_ents _ (by rfl) _ _ (by rfl) w.heap.size _ es0 (by rfl) (ho1.below ((Below.refl w1.heap.size w1).alloc (Nat.le_refl _) _) (Nat.le_refl _)) _ _ 1 _ [s77] (by rfl) (ents_one (blk77 w1) (Nat.lt_succ_self _)) (by have := HLEN.out; omega) (by omega) (le_alloc HB1.out.size _) ?_)
  intro v2 w2 ho2 hg2
  have HB2 : Hid (Below w.heap.size w w2) := Lib.hid ((HB1.out.alloc HB1.out.size _).trans (below_of_grown hg2.1 (le_alloc HB1.out.size _) (fun g e => (ho1.lt e).1)))
  clear hg2 ho1
  obtain ⟨A2, q2, c2, rfl, hq2, hc2, hm2⟩ := ho2.form
  have hq2' : q2 = len0 + 1 := by rw [hq2, List.length_append, HLEN.out]; rfl
  clear hq2
  subst hq2'
  have hmx2 : c2 ≤ 9223372036854775807 := by unfold maxLen at hm2; omega
  have hE2 := ho2.ents
  have HM2 : Hid (Ents w2 w2.heap.size A2 len0 es0) := Lib.hid (by
    have := hE2.first (k := len0) (by omega)
    rwa [List.take_append_of_le_length (by rw [HLEN.out]; exact Nat.le_refl _), List.take_of_length_le (by rw [HLEN.out]; exact Nat.le_refl _)] at this)
  obtain ⟨ad, x77, rfl, had, hx77, hat⟩ := hE2.at_ (k := len0) (by omega)
  have hx : x77 = s77 := by rw [List.getElem?_append_right (by rw [HLEN.out]; exact Nat.le_refl _), HLEN.out, Nat.sub_self] at hx77; injection hx77 with h; exact h.symm
  subst hx
  have HAT2 := Lib.hid hat
  have HAD2 := Lib.hid had
  clear hm2 hE2 hat had hx77 ho2
  have hsl := slice43_to (some ad) (len0 + 1) c2 len0 (len0 : Int) rfl (by omega)
  go_wp2_with fail
  clear hsl
  refine (frames_any _ len0 c2 es0 w2 HM2.out (by omega)).mono ?_
  rintro r w3 ⟨hb3, ⟨hAR, v, rfl, ho3⟩ | ⟨hNR, rfl⟩⟩
  case inr =>
    have HB3 := Lib.hid (HB2.out.trans (hb3.mono HB2.out.size))
    have HNR := Lib.hid hNR
    clear hb3 hNR
    go_wp2_with fail
    go_loopw [6] (fun i wr => ∃ k : Nat, k ≤ len0 ∧ i = .int .i64 k ∧ AllRight (es0.take k) ∧ Below w.heap.size w wr) (fun i _ => len0 - (intOf i).toNat)
    case atStart => exact ⟨0, by omega, rfl, fun e h => by simp at h, HB3.out⟩
    case round =>
      obtain ⟨k, hk, rfl, hrt, hb⟩ := hrel
      by_cases hlt : k < len0
      case neg => exact absurd (by rwa [List.take_of_length_le (by have := HLEN.out; omega)] at hrt) HNR.out
      obtain ⟨ad0, e, rfl, hA, hek, c0, c1, c2, c3, c4, c5⟩ := (b0.below hb).at_ hlt
      have HB := Lib.hid hb
      have HEK := Lib.hid hek
      have HRT := Lib.hid hrt
      have hE : Hid (.agg #[.int .i64 e.epoch, .int .i64 e.id, .int .i64 e.num, .int .i64 e.seq, .int .i64 e.kind, .int .i64 e.value] = e.val) := Lib.hid rfl
      clear hb hek hrt
      go_wp2_with fail
      clear c0 c1 c2 c3 c4 c5
      rw [hE.out]
      refine (right_any e wr).mono ?_
      rintro r w4 ⟨rfl, hb4⟩
      have HB4 := Lib.hid (HB.out.trans (hb4.mono HB.out.size))
      clear hb4
      by_cases hR : Right e
      · rw [decide_eq_true hR]
        have HR := Lib.hid hR
        clear hR
        go_wp2_with fail
        go_roundw
        case rel =>
          refine ⟨k + 1, by omega, by go_num, ?_, HB4.out⟩
          rw [take_snoc_some HEK.out]
          intro x hx
          rcases List.mem_append.1 hx with hx | hx
          · exact HRT.out x hx
          · simp at hx; subst hx; exact HR.out
        case measure => simp [intOf]; omega
      · rw [decide_eq_false hR]
        clear hR
        go_wp2_with (go_at_call 17; refine (num_any _ _).mono ?_; rintro e w' ⟨rfl, rfl⟩)
        refine (works_any w4).mono ?_
        rintro r w5 ⟨rfl, hb5⟩
        have hfin := HB4.out.trans (hb5.mono HB4.out.size)
        clear hb5
        go_wp2_with fail
        go_ret
        exact ⟨rfl, hfin⟩
  have HB3 := Lib.hid (HB2.out.trans (hb3.mono HB2.out.size))
  have HAR := Lib.hid hAR
  have HM3 := Lib.hid ((HM2.out.below hb3).more hb3.size)
  have HAT3 : Hid (At w3 (ad.add (len0 * 6)) s77) := Lib.hid (HAT2.out.keep fun q hq => hb3.cell (by rw [hq, block_of_add]; exact HAD2.out))
  have HAD3 : Hid (ad.block < w3.heap.size) := Lib.hid (Nat.lt_of_lt_of_le HAD2.out hb3.size)
  obtain ⟨A3, q3, c3, rfl, hq3⟩ := ho3.form2
  have HY3 := Lib.hid ho3.bys
  clear hb3 hAR hq3 ho3 HAT2 HAD2 HM2
  go_wp2_with fail
  go_loopw [6] (fun i wr => ∃ k : Nat, k ≤ len0 ∧ i = .int .i64 k ∧ Below w3.heap.size w3 wr) (fun i _ => len0 - (intOf i).toNat)
  case atStart => exact ⟨0, by omega, rfl, Below.refl _ _⟩
  case round =>
    obtain ⟨k, hk, rfl, hb⟩ := hrel
    have HB := Lib.hid hb
    have HBW := Lib.hid (HB3.out.trans (hb.mono HB3.out.size))
    clear hb
    by_cases hlt : k < len0
    · obtain ⟨ad0, e, rfl, hA, hek, c0, c1, c2, c3, c4, c5⟩ := (b0.below HBW.out).at_ hlt
      have HR : Hid (Right e) := Lib.hid (HAR.out e (List.mem_of_getElem? hek))
      have hE : Hid (.agg #[.int .i64 e.epoch, .int .i64 e.id, .int .i64 e.num, .int .i64 e.seq, .int .i64 e.kind, .int .i64 e.value] = e.val) := Lib.hid rfl
      clear hek
      go_wp2_with fail
      clear c0 c1 c2 c3 c4 c5
      rw [hE.out]
      refine (right_any e wr).mono ?_
      rintro r w4 ⟨rfl, hb4⟩
      have HB4 := Lib.hid (HB.out.trans (hb4.mono HB.out.size))
      clear hb4
      rw [decide_eq_true HR.out]
      go_wp2_with fail
      go_roundw
      case rel => exact ⟨k + 1, by omega, by go_num, HB4.out⟩
      case measure => simp [intOf]; omega
    obtain rfl : k = len0 := by omega
    go_wp2_with fail
    have SS : Hid (∀ W, Below wr.heap.size wr W → ((convert 22 9 (.slice A3 q3 c3)).run Try.prog W = .ok (.string (str (frames es0))) W ∧ At W (ad.add (k * 6)) s77)) :=
      Lib.hid fun W hW => by
        have h3 := HB.out.trans (hW.mono HB.out.size)
        exact ⟨conv_str W _ _ _ _ _ (HY3.out.below h3), HAT3.out.keep fun q hq => h3.cell (by rw [hq, block_of_add]; exact HAD3.out)⟩
    have hbd : Below wr.heap.size wr wr.drew := (Below.refl _ _).drew
    have t1 := str_toList (frames es0)
    have hsl := slice43_to (some ad) k c2 (k + 1) ((k : Int) + 1) (by omega) (by omega)
    have hwr : IntKind.i64.wrap ((k : Int) + 1) = (k : Int) + 1 := IntWalk.i64_in _ (by omega)
    have hnn : (0 : Int) ≤ (k : Int) + 1 := by omega
    have hcc : (k : Int) + 1 ≤ (c2 : Int) := by omega
    have hkk : (k : Int) < (k : Int) + 1 := by omega
    have htn : ((k : Int) + 1).toNat = k + 1 := by omega
    refine wp_region_np ?_
    refine wp_region_held_drew (S := fun W => (convert 22 9 (.slice A3 q3 c3)).run Try.prog W = .ok (.string (str (frames es0))) W ∧ At W (ad.add (k * 6)) s77) (by kernel_rfl) (SS.out _ hbd) (fun hHeld => ?_)
    refine wpAnyH_takeAt (i := 0) (d := 48) (v := ?vf0) rfl rfl (by kernel_rfl) (by kernel_rfl) (by kernel_rfl) (fun _ _ _ h => h) (Or.inl ⟨by rfl, ?hyf0⟩) hHeld ?_
    case hyf0 =>
      intro W hSw
      clear hSw
      (go_simp; try with_reducible rfl)
    simp only [List.setIfInBounds_toArray, List.set_cons_zero, List.set_cons_succ]
    refine wpAnyH_takeAt (i := 1) (d := 49) (v := ?vf1) rfl rfl (by kernel_rfl) (by kernel_rfl) (by kernel_rfl) (fun _ _ _ h => h) (Or.inl ⟨by rfl, ?hyf1⟩) hHeld ?_
    case hyf1 =>
      intro W hSw
      have sc := hSw.1
      (go_simp; try with_reducible rfl)
    simp only [List.setIfInBounds_toArray, List.set_cons_zero, List.set_cons_succ]
    refine wpAnyH_takeAt (i := 2) (d := 50) (v := ?vf2) rfl rfl (by kernel_rfl) (by kernel_rfl) (by kernel_rfl) (fun _ _ _ h => h) (Or.inl ⟨by rfl, ?hyf2⟩) hHeld ?_
    case hyf2 =>
      intro W hSw
      clear hSw
      (go_simp; try with_reducible rfl)
    simp only [List.setIfInBounds_toArray, List.set_cons_zero, List.set_cons_succ]
    refine wpAnyH_ready (rs := [3]) (by kernel_rfl) (by simp) (AllReadyH.cons rfl (fun K hK => ?_) AllReadyH.nil)
    go_simp
    refine (refFrames_any a0 k cap0 es0 wr.drew ((b0.below (HBW.out.trans (hbd.mono HBW.out.size))).more (HBW.out.trans (hbd.mono HBW.out.size)).size) HAR.out (by omega)).mono ?_
    rintro r w5 ⟨v5, rfl, ho5, hb5⟩
    obtain ⟨A5, q5, k5, rfl, hq5⟩ := ho5.form2
    clear hq5
    have hb5' := hbd.trans hb5
    have q4 := conv_str w5 _ A5 q5 k5 _ ho5.bys
    dsimp only
    refine hK.out _ _ (SS.out _ hb5') (fun hHeld => ?_)
    clear hK K
    refine wpAnyH_ready (rs := [4]) (by kernel_rfl) (by simp) (AllReadyH.cons rfl (fun K hK => ?_) AllReadyH.nil)
    go_simp
    refine hK.out _ _ hHeld (fun hHeld => ?_)
    clear hK K q4 ho5 hb5
    refine wpAnyH_takeAt (i := 5) (d := 53) (v := ?vf5) rfl rfl (by kernel_rfl) (by kernel_rfl) (by kernel_rfl) (fun _ _ _ h => h) (Or.inl ⟨by rfl, ?hyf5⟩) hHeld ?_
    case hyf5 =>
      intro W hSw
      clear hSw
      (go_simp; try with_reducible rfl)
    simp only [List.setIfInBounds_toArray, List.set_cons_zero, List.set_cons_succ]
    refine wpAnyH_takeAt (i := 6) (d := 54) (v := ?vf6) rfl rfl (by kernel_rfl) (by kernel_rfl) (by kernel_rfl) (fun _ _ _ h => h) (Or.inl ⟨by rfl, ?hyf6⟩) hHeld ?_
    case hyf6 =>
      intro W hSw
      clear hSw
      (go_simp; try with_reducible rfl)
    simp only [List.setIfInBounds_toArray, List.set_cons_zero, List.set_cons_succ]
    refine wpAnyH_takeAt (i := 7) (d := 55) (v := ?vf7) rfl rfl (by kernel_rfl) (by kernel_rfl) (by kernel_rfl) (fun _ _ _ h => h) (Or.inl ⟨by rfl, ?hyf7⟩) hHeld ?_
    case hyf7 =>
      intro W hSw
      clear hSw
      (go_simp; try with_reducible rfl)
    simp only [List.setIfInBounds_toArray, List.set_cons_zero, List.set_cons_succ]
    refine wpAnyH_ready (rs := [8]) (by kernel_rfl) (by simp) (AllReadyH.cons rfl (fun K hK => ?_) AllReadyH.nil)
    go_simp
    refine (num_any _ _).mono ?_
    rintro r w' ⟨rfl, rfl⟩
    dsimp only
    refine hK.out _ _ hHeld (fun hHeld => ?_)
    clear hK K
    refine wpAnyH_takeAt (i := 9) (d := 57) (v := ?vf9) rfl rfl (by kernel_rfl) (by kernel_rfl) (by kernel_rfl) (fun _ _ _ h => h) (Or.inl ⟨by rfl, ?hyf9⟩) hHeld ?_
    case hyf9 =>
      intro W hSw
      clear hSw
      (go_simp; try with_reducible rfl)
    simp only [List.setIfInBounds_toArray, List.set_cons_zero, List.set_cons_succ]
    refine wpAnyH_takeAt (i := 10) (d := 58) (v := ?vf10) rfl rfl (by kernel_rfl) (by kernel_rfl) (by kernel_rfl) (fun _ _ _ h => h) (Or.inl ⟨by rfl, ?hyf10⟩) hHeld ?_
    case hyf10 =>
      intro W hSw
      clear hSw
      (go_simp; try with_reducible rfl)
    simp only [List.setIfInBounds_toArray, List.set_cons_zero, List.set_cons_succ]
    refine wpAnyH_takeAt (i := 11) (d := 59) (v := ?vf11) rfl rfl (by kernel_rfl) (by kernel_rfl) (by kernel_rfl) (fun _ _ _ h => h) (Or.inl ⟨by rfl, ?hyf11⟩) hHeld ?_
    case hyf11 =>
      intro W hSw
      clear hSw
      (go_simp; try with_reducible rfl)
    simp only [List.setIfInBounds_toArray, List.set_cons_zero, List.set_cons_succ]
    refine wpAnyH_takeAt (i := 12) (d := 60) (v := ?vf12) rfl rfl (by kernel_rfl) (by kernel_rfl) (by kernel_rfl) (fun _ _ _ h => h) (Or.inl ⟨by rfl, ?hyf12⟩) hHeld ?_
    case hyf12 =>
      intro W hSw
      clear hSw
      (go_simp; try with_reducible rfl)
    simp only [List.setIfInBounds_toArray, List.set_cons_zero, List.set_cons_succ]
    refine wpAnyH_takeAt (i := 13) (d := 61) (v := ?vf13) rfl rfl (by kernel_rfl) (by kernel_rfl) (by kernel_rfl) (fun _ _ _ h => h) (Or.inl ⟨by rfl, ?hyf13⟩) hHeld ?_
    case hyf13 =>
      intro W hSw
      clear hSw
      (go_simp; try with_reducible rfl)
    simp only [List.setIfInBounds_toArray, List.set_cons_zero, List.set_cons_succ]
    refine wpAnyH_ready (rs := [14]) (by kernel_rfl) (by simp) (AllReadyH.cons rfl (fun K hK => ?_) AllReadyH.nil)
    go_simp
    have h5 := HB.out.trans (hb5'.mono HB.out.size)
    have h6 := HB3.out.trans (h5.mono HB3.out.size)
    refine (same_any (some ad) k c2 a0 cap0 es0 w5 ((HM3.out.below h5).more h5.size) ((b0.below h6).more h6.size) (by omega)).mono ?_
    rintro r w6 ⟨rfl, hb6⟩
    have hb6' := hb5'.trans (hb6.mono hb5'.size)
    dsimp only
    refine hK.out _ _ (SS.out _ hb6') (fun hHeld => ?_)
    clear hK K hb6 h5 h6 hb5'
    refine wpAnyH_takeAt (i := 15) (d := 63) (v := ?vf15) rfl rfl (by kernel_rfl) (by kernel_rfl) (by kernel_rfl) (fun _ _ _ h => h) (Or.inl ⟨by rfl, ?hyf15⟩) hHeld ?_
    case hyf15 =>
      intro W hSw
      clear hSw
      (go_simp; try with_reducible rfl)
    simp only [List.setIfInBounds_toArray, List.set_cons_zero, List.set_cons_succ]
    refine wpAnyH_takeAt (i := 16) (d := 64) (v := ?vf16) rfl rfl (by kernel_rfl) (by kernel_rfl) (by kernel_rfl) (fun _ _ _ h => h) (Or.inl ⟨by rfl, ?hyf16⟩) hHeld ?_
    case hyf16 =>
      intro W hSw
      clear hSw
      (go_simp; try with_reducible rfl)
    simp only [List.setIfInBounds_toArray, List.set_cons_zero, List.set_cons_succ]
    refine wpAnyH_takeAt (i := 17) (d := 65) (v := ?vf17) rfl rfl (by kernel_rfl) (by kernel_rfl) (by kernel_rfl) (fun _ _ _ h => h) (Or.inl ⟨by rfl, ?hyf17⟩) hHeld ?_
    case hyf17 =>
      intro W hSw
      clear hSw
      (go_simp; try with_reducible rfl)
    simp only [List.setIfInBounds_toArray, List.set_cons_zero, List.set_cons_succ]
    refine wpAnyH_takeAt (i := 18) (d := 66) (v := ?vf18) rfl rfl (by kernel_rfl) (by kernel_rfl) (by kernel_rfl) (fun _ _ _ h => h) (Or.inl ⟨by rfl, ?hyf18⟩) hHeld ?_
    case hyf18 =>
      intro W hSw
      clear hSw
      (go_simp; try with_reducible rfl)
    simp only [List.setIfInBounds_toArray, List.set_cons_zero, List.set_cons_succ]
    refine wpAnyH_takeAt (i := 19) (d := 67) (v := ?vf19) rfl rfl (by kernel_rfl) (by kernel_rfl) (by kernel_rfl) (fun _ _ _ h => h) (Or.inl ⟨by rfl, ?hyf19⟩) hHeld ?_
    case hyf19 =>
      intro W hSw
      clear hSw
      (go_simp; try with_reducible rfl)
    simp only [List.setIfInBounds_toArray, List.set_cons_zero, List.set_cons_succ]
    refine wpAnyH_takeAt (i := 20) (d := 68) (v := ?vf20) rfl rfl (by kernel_rfl) (by kernel_rfl) (by kernel_rfl) (fun _ _ _ h => h) (Or.inl ⟨by rfl, ?hyf20⟩) hHeld ?_
    case hyf20 =>
      intro W hSw
      clear hSw
      (go_simp; try with_reducible rfl)
    simp only [List.setIfInBounds_toArray, List.set_cons_zero, List.set_cons_succ]
    refine wpAnyH_takeAt (i := 21) (d := 69) (v := ?vf21) rfl rfl (by kernel_rfl) (by kernel_rfl) (by kernel_rfl) (fun _ _ _ h => h) (Or.inl ⟨by rfl, ?hyf21⟩) hHeld ?_
    case hyf21 =>
      intro W hSw
      clear hSw
      (go_simp; try with_reducible rfl)
    simp only [List.setIfInBounds_toArray, List.set_cons_zero, List.set_cons_succ]
    refine wpAnyH_takeAt (i := 22) (d := 70) (v := ?vf22) rfl rfl (by kernel_rfl) (by kernel_rfl) (by kernel_rfl) (fun _ _ _ h => h) (Or.inl ⟨by rfl, ?hyf22⟩) hHeld ?_
    case hyf22 =>
      intro W hSw
      clear hSw
      (go_simp; try with_reducible rfl)
    simp only [List.setIfInBounds_toArray, List.set_cons_zero, List.set_cons_succ]
    refine wpAnyH_takeAt (i := 23) (d := 71) (v := ?vf23) rfl rfl (by kernel_rfl) (by kernel_rfl) (by kernel_rfl) (fun _ _ _ h => h) (Or.inl ⟨by rfl, ?hyf23⟩) hHeld ?_
    case hyf23 =>
      intro W hSw
      clear hSw
      (go_simp; try with_reducible rfl)
    simp only [List.setIfInBounds_toArray, List.set_cons_zero, List.set_cons_succ]
    refine wpAnyH_takeAt (i := 24) (d := 72) (v := ?vf24) rfl rfl (by kernel_rfl) (by kernel_rfl) (by kernel_rfl) (fun _ _ _ h => h) (Or.inl ⟨by rfl, ?hyf24⟩) hHeld ?_
    case hyf24 =>
      intro W hSw
      clear hSw
      (go_simp; try with_reducible rfl)
    simp only [List.setIfInBounds_toArray, List.set_cons_zero, List.set_cons_succ]
    refine wpAnyH_takeAt (i := 25) (d := 73) (v := ?vf25) rfl rfl (by kernel_rfl) (by kernel_rfl) (by kernel_rfl) (fun _ _ _ h => h) (Or.inl ⟨by rfl, ?hyf25⟩) hHeld ?_
    case hyf25 =>
      intro W hSw
      clear hSw
      (go_simp; try with_reducible rfl)
    simp only [List.setIfInBounds_toArray, List.set_cons_zero, List.set_cons_succ]
    refine wpAnyH_takeAt (i := 26) (d := 74) (v := ?vf26) rfl rfl (by kernel_rfl) (by kernel_rfl) (by kernel_rfl) (fun _ _ _ h => h) (Or.inl ⟨by rfl, ?hyf26⟩) hHeld ?_
    case hyf26 =>
      intro W hSw
      obtain ⟨s0, s1, s2, s3, s4, s5⟩ := hSw.2
      (go_simp; try with_reducible rfl)
    simp only [List.setIfInBounds_toArray, List.set_cons_zero, List.set_cons_succ]
    refine wpAnyH_takeAt (i := 27) (d := 75) (v := ?vf27) rfl rfl (by kernel_rfl) (by kernel_rfl) (by kernel_rfl) (fun _ _ _ h => h) (Or.inl ⟨by rfl, ?hyf27⟩) hHeld ?_
    case hyf27 =>
      intro W hSw
      clear hSw
      (go_simp; try with_reducible rfl)
    simp only [List.setIfInBounds_toArray, List.set_cons_zero, List.set_cons_succ]
    refine wpAnyH_takeAt (i := 28) (d := 76) (v := ?vf28) rfl rfl (by kernel_rfl) (by kernel_rfl) (by kernel_rfl) (fun _ _ _ h => h) (Or.inl ⟨by rfl, ?hyf28⟩) hHeld ?_
    case hyf28 =>
      intro W hSw
      clear hSw
      (go_simp; try with_reducible rfl)
    simp only [List.setIfInBounds_toArray, List.set_cons_zero, List.set_cons_succ]
    refine wpAnyH_takeAt (i := 29) (d := 77) (v := ?vf29) rfl rfl (by kernel_rfl) (by kernel_rfl) (by kernel_rfl) (fun _ _ _ h => h) (Or.inl ⟨by rfl, ?hyf29⟩) hHeld ?_
    case hyf29 =>
      intro W hSw
      clear hSw
      (go_simp; try with_reducible rfl)
    simp only [List.setIfInBounds_toArray, List.set_cons_zero, List.set_cons_succ]
    refine wpAnyH_ready (rs := [30]) (by kernel_rfl) (by simp) (AllReadyH.cons rfl (fun K hK => ?_) AllReadyH.nil)
    go_simp
    refine (works_any w6).mono ?_
    rintro r w7 ⟨rfl, hb7⟩
    have hb7' := hb6'.trans (hb7.mono hb6'.size)
    dsimp only
    refine hK.out _ _ (SS.out _ hb7') (fun hHeld => ?_)
    clear hK K hb7
    refine wpAnyH_takeAt (i := 31) (d := 79) (v := ?vf31) rfl rfl (by kernel_rfl) (by kernel_rfl) (by kernel_rfl) (fun _ _ _ h => h) (Or.inl ⟨by rfl, ?hyf31⟩) hHeld ?_
    case hyf31 =>
      intro W hSw
      clear hSw
      (go_simp; try with_reducible rfl)
    simp only [List.setIfInBounds_toArray, List.set_cons_zero, List.set_cons_succ]
    refine wpAnyH_takeAt (i := 32) (d := 2) (v := ?vf32) rfl rfl (by kernel_rfl) (by kernel_rfl) (by kernel_rfl) (fun _ _ _ h => h) (Or.inl ⟨by rfl, ?hyf32⟩) hHeld ?_
    case hyf32 =>
      intro W hSw
      clear hSw
      (go_simp; try with_reducible rfl)
    simp only [List.setIfInBounds_toArray, List.set_cons_zero, List.set_cons_succ]
    refine wpAnyH_done (by kernel_rfl) ?_ _
    have hfin := HBW.out.trans (hb7'.mono HBW.out.size)
    clear hHeld t1 hb7' hb6' hbd hsl
    go_wp2_with fail
    go_ret
    exact ⟨rfl, hfin⟩

set_option maxRecDepth 100000 in
theorem lifted (os : Os) (started : os.Started) (H : Type) (enc : TypeId × Value → H) :
    ReturnsInHanded {} Try.checked os 6 .any (Rows.wireFramesSpec.pre6 enc Try.prog Try.f6 Rows.wireFramesRow.domain false) (Rows.wireFramesSpec.post enc Try.prog Try.f6 false true false false) := by
  refine returnsInHanded_of_change (C := Try.checked) own started (by kernel_rfl) Try.func6
    (ChangeSpec.witness6 (enc := enc) (C := Try.checked) false ⟨#[], #[.slice none 0 0], []⟩ 8 (by kernel_rfl) (by kernel_rfl) (by kernel_rfl) (by kernel_rfl)) ?_
  intro W base args ds gs before hval0 hW hcnd _
  have hval : ∀ (j : Nat) t v, Try.f6.params[j]? = some t → args[j]? = some v → Value.okWide Try.prog W .any base t v := hval0
  have hW' := hW
  obtain ⟨p, q, hA0, hV, rfl, hfz, hnd⟩ := hW
  have hA : DataW.TrodAll enc Try.prog W 0 (fun _ => true) true Try.f6.params.toList args.toList ds p := hA0
  rw [Try.params6] at hA hval
  obtain ⟨v0, vs0, d0, ds0, p0, q0, hargs, rfl, rfl, h0, r0⟩ := trodAll_cons hA
  obtain ⟨rfl, rfl, rfl⟩ := trodAll_nil r0
  obtain rfl : args = #[v0] := by cases args; simp_all
  obtain ⟨rfl, rfl⟩ := trodVars_none hV
  have k0 := h0
  have lt0 : ∀ x ∈ p0, x.block < W.heap.size := by obtain ⟨m, hm⟩ := k0; exact DataW.trod_lt m _ _ _ hm
  obtain ⟨a0, len0, cap0, rfl⟩ := okWide_slice Try.underlying43 (hval 0 43 v0 rfl rfl)
  obtain ⟨es0, b0, hc0, hm0⟩ := open_ents h0
  clear hA0 hval0
  refine (walk a0 len0 cap0 es0 W b0 hc0 hm0).mono fun e W' ⟨he, bel⟩ => ?_
  subst he
  exact ⟨_, rfl, _, _, _, [], _, [], hW', trodAll_mk1 (shut_bool Try.underlying4 _), (trodAll_cons_mk (Below.trod laidOut (by kernel_rfl) (of_decide_eq_true (by kernel_rfl)) k0 bel lt0) trodAll_mk0), rfl, bel.frame _, fun h => by cases h⟩

theorem over : Rows.wireFramesRow.holds Try.pinned (OpenSpec.ofChange Rows.wireFramesSpec) :=
  OpenClaim.holds_of_wide 6 Try.f6 rfl rfl rfl rfl rfl rfl rfl ⟨rfl, rfl, rfl, rfl, rfl⟩ rfl rfl rfl rfl rfl (by kernel_rfl) Try.func6 (by kernel_rfl)
    (of_decide_eq_true (by kernel_rfl)) (by unfold Func.isWrapper; first | (rw [if_pos (by decide +kernel)]; kernel_rfl) | (rw [if_neg (by decide +kernel)]; exact ⟨rfl, rfl⟩))
    (fun os started H enc _ => lifted os started H enc)

theorem proved : Rows.WireFramesSaid := over
end Go.Proofs.Ytickdpgfiianjaa.wireFrames
namespace Go.Proofs.Ytickdpgfiianjaa
theorem wireFrames_holds : Rows.WireFramesSaid := wireFrames.proved
#print axioms wireFrames_holds
end Go.Proofs.Ytickdpgfiianjaa
