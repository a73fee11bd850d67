/-
  The longest entries, WireMost: their frames have at most 40 bytes, are the second hand's, and are read back.
-/
import Derived.Test.YtickdpgfiianjaaRefBody
import Derived.Test.YtickdpgfiianjaaWorks
import Derived.WalkKit
import Derived.ProofKit
import Derived.OpenShut
import Derived.ShutString
import Derived.ChangeOld
import Derived.Below
namespace Go.Proofs.Ytickdpgfiianjaa.wireMost
open Go.ChangeShapes Go.WideShapes Go.ChangeAt Go.RowKit
set_option linter.unusedVariables false
theorem own : ownKnob Try.prog.godebug = none := by kernel_rfl
theorem laidOut : laidOutB Try.prog = true := by kernel_rfl
def m0 : Ent := ⟨2147483647, 3, 2147483647, 2147483647, 1, -2147483648⟩
def m1 : Ent := ⟨2147483647, -1, 0, 0, 1, 2147483647⟩
def m2 : Ent := ⟨2147483647, 3, 2147483647, 0, 3, 0⟩
theorem right_ms : ∀ e ∈ [m0, m1, m2], Right e := by decide
theorem laid (w : World) (B : Nat) (hB : w.heap.size < B) : Ents (w.alloc (.cells #[.int .i64 2147483647, .int .i64 3, .int .i64 2147483647, .int .i64 2147483647, .int .i64 1, .int .i64 (-2147483648), .int .i64 2147483647, .int .i64 (-1), .int .i64 0, .int .i64 0, .int .i64 1, .int .i64 2147483647, .int .i64 2147483647, .int .i64 3, .int .i64 2147483647, .int .i64 0, .int .i64 3, .int .i64 0] 38)) B (some ⟨w.heap.size, 0, none⟩) 3 [m0, m1, m2] := by
  have hN := Blk.new w 38 #[.int .i64 2147483647, .int .i64 3, .int .i64 2147483647, .int .i64 2147483647, .int .i64 1, .int .i64 (-2147483648), .int .i64 2147483647, .int .i64 (-1), .int .i64 0, .int .i64 0, .int .i64 1, .int .i64 2147483647, .int .i64 2147483647, .int .i64 3, .int .i64 2147483647, .int .i64 0, .int .i64 3, .int .i64 0]
  refine ⟨rfl, fun _ => ⟨_, rfl, hB, ?_⟩⟩
  intro i e he
  rcases i with _ | _ | _ | i
  · injection he with he; subst he; exact ⟨hN.cell 0, hN.cell 1, hN.cell 2, hN.cell 3, hN.cell 4, hN.cell 5⟩
  · injection he with he; subst he; exact ⟨hN.cell 6, hN.cell 7, hN.cell 8, hN.cell 9, hN.cell 10, hN.cell 11⟩
  · injection he with he; subst he; exact ⟨hN.cell 12, hN.cell 13, hN.cell 14, hN.cell 15, hN.cell 16, hN.cell 17⟩
  · cases he
set_option maxHeartbeats 4000000 in
set_option maxRecDepth 100000 in
theorem walk (w : World) :
    Calls Try.prog 12 #[] w fun e w' => e = .returned (.bool true) ∧ Below w.heap.size w w' := by
  have HL := Lib.hid (laid w (w.heap.size + 1) (Nat.lt_succ_self _))
  have HB0 := Lib.hid ((Below.refl w.heap.size w).alloc (Nat.le_refl _) (.cells #[.int .i64 2147483647, .int .i64 3, .int .i64 2147483647, .int .i64 2147483647, .int .i64 1, .int .i64 (-2147483648), .int .i64 2147483647, .int .i64 (-1), .int .i64 0, .int .i64 0, .int .i64 1, .int .i64 2147483647, .int .i64 2147483647, .int .i64 3, .int .i64 2147483647, .int .i64 0, .int .i64 3, .int .i64 0] 38))
  have HZ0 : Hid ((w.alloc (.cells #[.int .i64 2147483647, .int .i64 3, .int .i64 2147483647, .int .i64 2147483647, .int .i64 1, .int .i64 (-2147483648), .int .i64 2147483647, .int .i64 (-1), .int .i64 0, .int .i64 0, .int .i64 1, .int .i64 2147483647, .int .i64 2147483647, .int .i64 3, .int .i64 2147483647, .int .i64 0, .int .i64 3, .int .i64 0] 38)).heap.size = w.heap.size + 1) := Lib.hid (by simp)
  go_enter Try.func12, Try.ntmps12
  go_wp2_with fail
  generalize w.alloc (.cells #[.int .i64 2147483647, .int .i64 3, .int .i64 2147483647, .int .i64 2147483647, .int .i64 1, .int .i64 (-2147483648), .int .i64 2147483647, .int .i64 (-1), .int .i64 0, .int .i64 0, .int .i64 1, .int .i64 2147483647, .int .i64 2147483647, .int .i64 3, .int .i64 2147483647, .int .i64 0, .int .i64 3, .int .i64 0] 38) = w0 at *
  generalize (some ⟨w.heap.size, 0, none⟩ : Option Addr) = A at *
  have HL0 : Hid (Ents w0 w0.heap.size A 3 [m0, m1, m2]) := Lib.hid (HL.out.more (Nat.le_of_eq HZ0.out.symm))
  clear HL HZ0
  go_loopw [2] (fun i wr => ∃ k : Nat, k ≤ 3 ∧ i = .int .i64 k ∧ Below w0.heap.size w0 wr) (fun i _ => 3 - (intOf i).toNat)
  case atStart => exact ⟨0, by omega, rfl, Below.refl _ _⟩
  case round =>
    obtain ⟨k, hk, rfl, hb⟩ := hrel
    have HZR := Lib.hid hb.size
    have HBR := Lib.hid hb
    by_cases hlt : k < 3
    case neg =>
      obtain rfl : k = 3 := by omega
      clear hb
      go_wp2_with fail
      refine (works_any wr).mono ?_
      rintro e w1 ⟨rfl, hb1⟩
      have hfin := HB0.out.trans ((HBR.out.trans (hb1.mono HZR.out)).mono HB0.out.size)
      clear hb1
      go_wp2_with fail
      go_ret
      exact ⟨rfl, hfin⟩
    obtain ⟨ad, e, rfl, hA, hek, c0, c1, c2, c3, c4, c5⟩ := (HL0.out.below hb).at_ hlt
    have HR : Hid (Right e) := Lib.hid (right_ms e (List.mem_of_getElem? hek))
    have HAT : Hid (At wr (ad.add (k * 6)) e) := Lib.hid ⟨c0, c1, c2, c3, c4, c5⟩
    have HAD : Hid (ad.block < wr.heap.size) := Lib.hid (by have := HZR.out; omega)
    have hE : Hid (.agg #[.int .i64 e.epoch, .int .i64 e.id, .int .i64 e.num, .int .i64 e.seq, .int .i64 e.kind, .int .i64 e.value] = e.val) := Lib.hid rfl
    have hgd := guard38
    clear hb hek hA
    go_wp2_with fail
    clear c0 c1 c2 c3 c4 c5
    rw [hE.out]
    refine (frameOf_any e wr).mono ?_
    rintro r w2 ⟨hb2, ⟨-, v, rfl, ho2⟩ | ⟨hN, -⟩⟩
    case inr => exact absurd HR.out hN
    have HB2 := Lib.hid (HBR.out.trans (hb2.mono HZR.out))
    have HAT2 : Hid (At w2 (ad.add (k * 6)) e) := Lib.hid (HAT.out.keep fun q hq => hb2.cell (by rw [hq, block_of_add]; exact HAD.out))
    have HAD2 : Hid (ad.block < w2.heap.size) := Lib.hid (by have := HAD.out; have := hb2.size; omega)
    obtain ⟨A2, q2, k2, rfl, hq2⟩ := ho2.form2
    have hq40 : q2 ≤ 40 := by have := length_frame HR.out; omega
    have HRD : Hid (rd (frame e) = .ok e q2) := Lib.hid (by have := rd_frame e HR.out []; rwa [List.append_nil, ← hq2] at this)
    obtain ⟨hc2, hm2⟩ := ho2.cap
    have hmx : k2 ≤ 9223372036854775807 := by unfold maxLen at hm2; omega
    have HY2 := Lib.hid ho2.bys
    clear hq2 hb2 ho2 hm2
    go_wp2_with fail
    refine (read_any A2 q2 k2 _ w2 HY2.out hc2 (by omega)).mono ?_
    rintro r w3 ⟨rfl, hb3⟩
    rw [HRD.out]
    have HB3 := Lib.hid ((HB2.out.trans (hb3.mono HB2.out.size)).alloc (HB2.out.trans (hb3.mono HB2.out.size)).size (.cells #[.int .i64 e.epoch, .int .i64 e.id, .int .i64 e.num, .int .i64 e.seq, .int .i64 e.kind, .int .i64 e.value] 38))
    have HX3 := Lib.hid (box_blk w3 e)
    have HAT3 : Hid (At (w3.alloc (.cells #[.int .i64 e.epoch, .int .i64 e.id, .int .i64 e.num, .int .i64 e.seq, .int .i64 e.kind, .int .i64 e.value] 38)) (ad.add (k * 6)) e) := Lib.hid (HAT2.out.keep fun q hq => ((hb3.alloc hb3.size _).cell (by rw [hq, block_of_add]; exact HAD2.out)))
    have HY3 := Lib.hid (HY2.out.below (hb3.alloc hb3.size (.cells #[.int .i64 e.epoch, .int .i64 e.id, .int .i64 e.num, .int .i64 e.seq, .int .i64 e.kind, .int .i64 e.value] 38)))
    have HZ3 : Hid (w2.heap.size ≤ w3.heap.size ∧ w3.heap.size < (w3.alloc (.cells #[.int .i64 e.epoch, .int .i64 e.id, .int .i64 e.num, .int .i64 e.seq, .int .i64 e.kind, .int .i64 e.value] 38)).heap.size) := Lib.hid ⟨hb3.size, by simp⟩
    clear hb3
    simp only [rdEnt, rdLen, rdErr, Ent.val]
    unfold Ent.cells
    go_wp2_with fail
    generalize w3.alloc (.cells #[.int .i64 e.epoch, .int .i64 e.id, .int .i64 e.num, .int .i64 e.seq, .int .i64 e.kind, .int .i64 e.value] 38) = w4 at *
    have SS : Hid (∀ W, Below w4.heap.size w4 W → ((convert 22 9 (.slice A2 q2 k2)).run Try.prog W = .ok (.string (str (frame e))) W ∧ Blk W w3.heap.size 38 e.cells ∧ At W (ad.add (k * 6)) e)) :=
      Lib.hid fun W hW => ⟨conv_str W _ _ _ _ _ (HY3.out.below (hW.mono (Nat.le_of_lt (Nat.lt_of_le_of_lt HZ3.out.1 HZ3.out.2)))), HX3.out.below hW HZ3.out.2, HAT3.out.keep fun q hq => hW.cell (by rw [hq, block_of_add]; have := HAD2.out; have := HZ3.out; omega)⟩
    have hbd : Below w4.heap.size w4 w4.drew := (Below.refl _ _).drew
    have t1 := str_toList (frame e)
    have hd40 : decide (40 < (q2 : Int)) = false := decide_eq_false (by omega)
    clear hq40
    have hq : ∀ W, (binOp .neq 38 (.agg #[.int .i64 e.epoch, .int .i64 e.id, .int .i64 e.num, .int .i64 e.seq, .int .i64 e.kind, .int .i64 e.value]) (.agg #[.int .i64 e.epoch, .int .i64 e.id, .int .i64 e.num, .int .i64 e.seq, .int .i64 e.kind, .int .i64 e.value])).run Try.prog W = .ok (.bool false) W := fun W => by
      have := neq38 e e W
      rwa [same_refl] at this
    refine wp_region_np ?_
    refine wp_region_held_drew (S := fun W => (convert 22 9 (.slice A2 q2 k2)).run Try.prog W = .ok (.string (str (frame e))) W ∧ Blk W w3.heap.size 38 e.cells ∧ At W (ad.add (k * 6)) e) (by kernel_rfl) (SS.out _ hbd) (fun hHeld => ?_)
    refine wpAnyH_takeAt (i := 0) (d := 32) (v := ?vm0) rfl rfl (by kernel_rfl) (by kernel_rfl) (by kernel_rfl) (fun _ _ _ h => h) (Or.inl ⟨by rfl, ?hym0⟩) hHeld ?_
    case hym0 =>
      intro W hSw
      clear hSw
      (go_simp; try with_reducible rfl)
    simp only [List.setIfInBounds_toArray, List.set_cons_zero, List.set_cons_succ]
    refine wpAnyH_takeAt (i := 2) (d := 34) (v := ?vm2) rfl rfl (by kernel_rfl) (by kernel_rfl) (by kernel_rfl) (fun _ _ _ h => h) (Or.inl ⟨by rfl, ?hym2⟩) hHeld ?_
    case hym2 =>
      intro W hSw
      clear hSw
      (go_simp; try with_reducible rfl)
    simp only [List.setIfInBounds_toArray, List.set_cons_zero, List.set_cons_succ]
    refine wpAnyH_ready (rs := [1]) (by kernel_rfl) (by simp) (AllReadyH.cons rfl (fun K hK => ?_) AllReadyH.nil)
    go_simp
    refine (num_any _ _).mono ?_
    rintro r w' ⟨rfl, rfl⟩
    dsimp only
    refine hK.out _ _ hHeld (fun hHeld => ?_)
    clear hK K
    refine wpAnyH_ready (rs := [3]) (by kernel_rfl) (by simp) (AllReadyH.cons rfl (fun K hK => ?_) AllReadyH.nil)
    go_simp
    refine (num_any _ _).mono ?_
    rintro r w' ⟨rfl, rfl⟩
    dsimp only
    refine hK.out _ _ hHeld (fun hHeld => ?_)
    clear hK K
    refine wpAnyH_takeAt (i := 4) (d := 36) (v := ?vm4) rfl rfl (by kernel_rfl) (by kernel_rfl) (by kernel_rfl) (fun _ _ _ h => h) (Or.inl ⟨by rfl, ?hym4⟩) hHeld ?_
    case hym4 =>
      intro W hSw
      clear hSw
      (go_simp; try with_reducible rfl)
    simp only [List.setIfInBounds_toArray, List.set_cons_zero, List.set_cons_succ]
    refine wpAnyH_takeAt (i := 5) (d := 37) (v := ?vm5) rfl rfl (by kernel_rfl) (by kernel_rfl) (by kernel_rfl) (fun _ _ _ h => h) (Or.inl ⟨by rfl, ?hym5⟩) hHeld ?_
    case hym5 =>
      intro W hSw
      clear hSw
      (go_simp; try with_reducible rfl)
    simp only [List.setIfInBounds_toArray, List.set_cons_zero, List.set_cons_succ]
    refine wpAnyH_takeAt (i := 6) (d := 38) (v := ?vm6) rfl rfl (by kernel_rfl) (by kernel_rfl) (by kernel_rfl) (fun _ _ _ h => h) (Or.inl ⟨by rfl, ?hym6⟩) hHeld ?_
    case hym6 =>
      intro W hSw
      clear hSw
      (go_simp; try with_reducible rfl)
    simp only [List.setIfInBounds_toArray, List.set_cons_zero, List.set_cons_succ]
    refine wpAnyH_takeAt (i := 7) (d := 39) (v := ?vm7) rfl rfl (by kernel_rfl) (by kernel_rfl) (by kernel_rfl) (fun _ _ _ h => h) (Or.inl ⟨by rfl, ?hym7⟩) hHeld ?_
    case hym7 =>
      intro W hSw
      obtain ⟨s0, s1, s2, s3, s4, s5⟩ := Blk.six hSw.2.1
      (go_simp; try with_reducible rfl)
    simp only [List.setIfInBounds_toArray, List.set_cons_zero, List.set_cons_succ]
    refine wpAnyH_takeAt (i := 8) (d := 40) (v := ?vm8) rfl rfl (by kernel_rfl) (by kernel_rfl) (by kernel_rfl) (fun _ _ _ h => h) (Or.inl ⟨by rfl, ?hym8⟩) hHeld ?_
    case hym8 =>
      intro W hSw
      clear hSw
      (go_simp; try with_reducible rfl)
    simp only [List.setIfInBounds_toArray, List.set_cons_zero, List.set_cons_succ]
    refine wpAnyH_takeAt (i := 9) (d := 41) (v := ?vm9) rfl rfl (by kernel_rfl) (by kernel_rfl) (by kernel_rfl) (fun _ _ _ h => h) (Or.inl ⟨by rfl, ?hym9⟩) hHeld ?_
    case hym9 =>
      intro W hSw
      clear hSw
      (go_simp; try with_reducible rfl)
    simp only [List.setIfInBounds_toArray, List.set_cons_zero, List.set_cons_succ]
    refine wpAnyH_takeAt (i := 10) (d := 42) (v := ?vm10) rfl rfl (by kernel_rfl) (by kernel_rfl) (by kernel_rfl) (fun _ _ _ h => h) (Or.inl ⟨by rfl, ?hym10⟩) hHeld ?_
    case hym10 =>
      intro W hSw
      clear hSw
      (go_simp; try with_reducible rfl)
    simp only [List.setIfInBounds_toArray, List.set_cons_zero, List.set_cons_succ]
    refine wpAnyH_takeAt (i := 11) (d := 43) (v := ?vm11) rfl rfl (by kernel_rfl) (by kernel_rfl) (by kernel_rfl) (fun _ _ _ h => h) (Or.inl ⟨by rfl, ?hym11⟩) hHeld ?_
    case hym11 =>
      intro W hSw
      obtain ⟨s0, s1, s2, s3, s4, s5⟩ := hSw.2.2
      (go_simp; try with_reducible rfl)
    simp only [List.setIfInBounds_toArray, List.set_cons_zero, List.set_cons_succ]
    refine wpAnyH_takeAt (i := 12) (d := 44) (v := ?vm12) rfl rfl (by kernel_rfl) (by kernel_rfl) (by kernel_rfl) (fun _ _ _ h => h) (Or.inl ⟨by rfl, ?hym12⟩) hHeld ?_
    case hym12 =>
      intro W hSw
      clear hSw
      (go_simp; try with_reducible rfl)
    simp only [List.setIfInBounds_toArray, List.set_cons_zero, List.set_cons_succ]
    refine wpAnyH_takeAt (i := 13) (d := 45) (v := ?vm13) rfl rfl (by kernel_rfl) (by kernel_rfl) (by kernel_rfl) (fun _ _ _ h => h) (Or.inl ⟨by rfl, ?hym13⟩) hHeld ?_
    case hym13 =>
      intro W hSw
      clear hSw
      (go_simp; try with_reducible rfl)
    simp only [List.setIfInBounds_toArray, List.set_cons_zero, List.set_cons_succ]
    refine wpAnyH_takeAt (i := 14) (d := 46) (v := ?vm14) rfl rfl (by kernel_rfl) (by kernel_rfl) (by kernel_rfl) (fun _ _ _ h => h) (Or.inl ⟨by rfl, ?hym14⟩) hHeld ?_
    case hym14 =>
      intro W hSw
      clear hSw
      (go_simp; try with_reducible rfl)
    simp only [List.setIfInBounds_toArray, List.set_cons_zero, List.set_cons_succ]
    refine wpAnyH_takeAt (i := 15) (d := 47) (v := ?vm15) rfl rfl (by kernel_rfl) (by kernel_rfl) (by kernel_rfl) (fun _ _ _ h => h) (Or.inl ⟨by rfl, ?hym15⟩) hHeld ?_
    case hym15 =>
      intro W hSw
      clear hSw
      (go_simp; try with_reducible rfl)
    simp only [List.setIfInBounds_toArray, List.set_cons_zero, List.set_cons_succ]
    refine wpAnyH_takeAt (i := 16) (d := 48) (v := ?vm16) rfl rfl (by kernel_rfl) (by kernel_rfl) (by kernel_rfl) (fun _ _ _ h => h) (Or.inl ⟨by rfl, ?hym16⟩) hHeld ?_
    case hym16 =>
      intro W hSw
      clear hSw
      (go_simp; try with_reducible rfl)
    simp only [List.setIfInBounds_toArray, List.set_cons_zero, List.set_cons_succ]
    refine wpAnyH_takeAt (i := 17) (d := 49) (v := ?vm17) rfl rfl (by kernel_rfl) (by kernel_rfl) (by kernel_rfl) (fun _ _ _ h => h) (Or.inl ⟨by rfl, ?hym17⟩) hHeld ?_
    case hym17 =>
      intro W hSw
      clear hSw
      (go_simp; try with_reducible rfl)
    simp only [List.setIfInBounds_toArray, List.set_cons_zero, List.set_cons_succ]
    refine wpAnyH_takeAt (i := 18) (d := 50) (v := ?vm18) rfl rfl (by kernel_rfl) (by kernel_rfl) (by kernel_rfl) (fun _ _ _ h => h) (Or.inl ⟨by rfl, ?hym18⟩) hHeld ?_
    case hym18 =>
      intro W hSw
      clear hSw
      (go_simp; try with_reducible rfl)
    simp only [List.setIfInBounds_toArray, List.set_cons_zero, List.set_cons_succ]
    refine wpAnyH_takeAt (i := 19) (d := 51) (v := ?vm19) rfl rfl (by kernel_rfl) (by kernel_rfl) (by kernel_rfl) (fun _ _ _ h => h) (Or.inl ⟨by rfl, ?hym19⟩) hHeld ?_
    case hym19 =>
      intro W hSw
      clear hSw
      (go_simp; try with_reducible rfl)
    simp only [List.setIfInBounds_toArray, List.set_cons_zero, List.set_cons_succ]
    refine wpAnyH_takeAt (i := 20) (d := 52) (v := ?vm20) rfl rfl (by kernel_rfl) (by kernel_rfl) (by kernel_rfl) (fun _ _ _ h => h) (Or.inl ⟨by rfl, ?hym20⟩) hHeld ?_
    case hym20 =>
      intro W hSw
      clear hSw
      (go_simp; try with_reducible rfl)
    simp only [List.setIfInBounds_toArray, List.set_cons_zero, List.set_cons_succ]
    refine wpAnyH_takeAt (i := 21) (d := 53) (v := ?vm21) rfl rfl (by kernel_rfl) (by kernel_rfl) (by kernel_rfl) (fun _ _ _ h => h) (Or.inl ⟨by rfl, ?hym21⟩) hHeld ?_
    case hym21 =>
      intro W hSw
      clear hSw
      (go_simp; try with_reducible rfl)
    simp only [List.setIfInBounds_toArray, List.set_cons_zero, List.set_cons_succ]
    refine wpAnyH_takeAt (i := 22) (d := 54) (v := ?vm22) rfl rfl (by kernel_rfl) (by kernel_rfl) (by kernel_rfl) (fun _ _ _ h => h) (Or.inl ⟨by rfl, ?hym22⟩) hHeld ?_
    case hym22 =>
      intro W hSw
      clear hSw
      (go_simp; try with_reducible rfl)
    simp only [List.setIfInBounds_toArray, List.set_cons_zero, List.set_cons_succ]
    refine wpAnyH_takeAt (i := 23) (d := 55) (v := ?vm23) rfl rfl (by kernel_rfl) (by kernel_rfl) (by kernel_rfl) (fun _ _ _ h => h) (Or.inl ⟨by rfl, ?hym23⟩) hHeld ?_
    case hym23 =>
      intro W hSw
      clear hSw
      (go_simp; try with_reducible rfl)
    simp only [List.setIfInBounds_toArray, List.set_cons_zero, List.set_cons_succ]
    refine wpAnyH_takeAt (i := 24) (d := 56) (v := ?vm24) rfl rfl (by kernel_rfl) (by kernel_rfl) (by kernel_rfl) (fun _ _ _ h => h) (Or.inl ⟨by rfl, ?hym24⟩) hHeld ?_
    case hym24 =>
      intro W hSw
      clear hSw
      (go_simp; try with_reducible rfl)
    simp only [List.setIfInBounds_toArray, List.set_cons_zero, List.set_cons_succ]
    refine wpAnyH_takeAt (i := 25) (d := 57) (v := ?vm25) rfl rfl (by kernel_rfl) (by kernel_rfl) (by kernel_rfl) (fun _ _ _ h => h) (Or.inl ⟨by rfl, ?hym25⟩) hHeld ?_
    case hym25 =>
      intro W hSw
      clear hSw
      (go_simp; try with_reducible rfl)
    simp only [List.setIfInBounds_toArray, List.set_cons_zero, List.set_cons_succ]
    refine wpAnyH_takeAt (i := 26) (d := 58) (v := ?vm26) rfl rfl (by kernel_rfl) (by kernel_rfl) (by kernel_rfl) (fun _ _ _ h => h) (Or.inl ⟨by rfl, ?hym26⟩) hHeld ?_
    case hym26 =>
      intro W hSw
      clear hSw
      (go_simp; try with_reducible rfl)
    simp only [List.setIfInBounds_toArray, List.set_cons_zero, List.set_cons_succ]
    refine wpAnyH_takeAt (i := 27) (d := 59) (v := ?vm27) rfl rfl (by kernel_rfl) (by kernel_rfl) (by kernel_rfl) (fun _ _ _ h => h) (Or.inl ⟨by rfl, ?hym27⟩) hHeld ?_
    case hym27 =>
      intro W hSw
      have sc := hSw.1
      (go_simp; try with_reducible rfl)
    simp only [List.setIfInBounds_toArray, List.set_cons_zero, List.set_cons_succ]
    refine wpAnyH_takeAt (i := 28) (d := 60) (v := ?vm28) rfl rfl (by kernel_rfl) (by kernel_rfl) (by kernel_rfl) (fun _ _ _ h => h) (Or.inl ⟨by rfl, ?hym28⟩) hHeld ?_
    case hym28 =>
      intro W hSw
      clear hSw
      (go_simp; try with_reducible rfl)
    simp only [List.setIfInBounds_toArray, List.set_cons_zero, List.set_cons_succ]
    refine wpAnyH_takeAt (i := 29) (d := 61) (v := ?vm29) rfl rfl (by kernel_rfl) (by kernel_rfl) (by kernel_rfl) (fun _ _ _ h => h) (Or.inl ⟨by rfl, ?hym29⟩) hHeld ?_
    case hym29 =>
      intro W hSw
      clear hSw
      (go_simp; try with_reducible rfl)
    simp only [List.setIfInBounds_toArray, List.set_cons_zero, List.set_cons_succ]
    refine wpAnyH_takeAt (i := 30) (d := 62) (v := ?vm30) rfl rfl (by kernel_rfl) (by kernel_rfl) (by kernel_rfl) (fun _ _ _ h => h) (Or.inl ⟨by rfl, ?hym30⟩) hHeld ?_
    case hym30 =>
      intro W hSw
      clear hSw
      (go_simp; try with_reducible rfl)
    simp only [List.setIfInBounds_toArray, List.set_cons_zero, List.set_cons_succ]
    refine wpAnyH_takeAt (i := 31) (d := 63) (v := ?vm31) rfl rfl (by kernel_rfl) (by kernel_rfl) (by kernel_rfl) (fun _ _ _ h => h) (Or.inl ⟨by rfl, ?hym31⟩) hHeld ?_
    case hym31 =>
      intro W hSw
      obtain ⟨s0, s1, s2, s3, s4, s5⟩ := hSw.2.2
      (go_simp; try with_reducible rfl)
    simp only [List.setIfInBounds_toArray, List.set_cons_zero, List.set_cons_succ]
    refine wpAnyH_ready (rs := [32]) (by kernel_rfl) (by simp) (AllReadyH.cons rfl (fun K hK => ?_) AllReadyH.nil)
    go_simp
    rw [hE.out]
    refine (refFrame_any e HR.out w4.drew).mono ?_
    rintro r w5 ⟨v5, rfl, ho5, hb5⟩
    obtain ⟨A5, q5, k5, rfl, hq5⟩ := ho5.form2
    clear hq5
    have hb5' := hbd.trans hb5
    have q4 := conv_str w5 _ A5 q5 k5 _ ho5.bys
    dsimp only
    refine hK.out _ _ (SS.out _ hb5') (fun hHeld => ?_)
    clear hK K
    refine wpAnyH_ready (rs := [33]) (by kernel_rfl) (by simp) (AllReadyH.cons rfl (fun K hK => ?_) AllReadyH.nil)
    go_simp
    refine hK.out _ _ hHeld (fun hHeld => ?_)
    clear hK K q4 ho5 hb5
    refine wpAnyH_takeAt (i := 34) (d := 66) (v := ?vm34) rfl rfl (by kernel_rfl) (by kernel_rfl) (by kernel_rfl) (fun _ _ _ h => h) (Or.inl ⟨by rfl, ?hym34⟩) hHeld ?_
    case hym34 =>
      intro W hSw
      clear hSw
      (go_simp; try with_reducible rfl)
    simp only [List.setIfInBounds_toArray, List.set_cons_zero, List.set_cons_succ]
    refine wpAnyH_takeAt (i := 35) (d := 67) (v := ?vm35) rfl rfl (by kernel_rfl) (by kernel_rfl) (by kernel_rfl) (fun _ _ _ h => h) (Or.inl ⟨by rfl, ?hym35⟩) hHeld ?_
    case hym35 =>
      intro W hSw
      clear hSw
      (go_simp; try with_reducible rfl)
    simp only [List.setIfInBounds_toArray, List.set_cons_zero, List.set_cons_succ]
    refine wpAnyH_done (by kernel_rfl) ?_ _
    have HB5 := Lib.hid (HB3.out.trans (hb5'.mono HB3.out.size))
    clear hHeld t1 hb5' hbd hq
    go_wp2_with fail
    go_roundw
    case rel => exact ⟨k + 1, by omega, by go_num, HB5.out⟩
    case measure => simp [intOf]; omega

set_option maxRecDepth 100000 in
theorem lifted (os : Os) (started : os.Started) (H : Type) (enc : TypeId × Value → H) :
    ReturnsInHanded {} Try.checked os 12 .any (Rows.wireMostSpec.pre6 enc Try.prog Try.f12 Rows.wireMostRow.domain false) (Rows.wireMostSpec.post enc Try.prog Try.f12 false true false false) := by
  refine returnsInHanded_of_change (C := Try.checked) own started (by kernel_rfl) Try.func12
    (ChangeSpec.witness6 (enc := enc) (C := Try.checked) false ⟨#[], #[], []⟩ 8 (by kernel_rfl) (by kernel_rfl) (by kernel_rfl) (by kernel_rfl)) ?_
  intro W base args ds gs before hval0 hW hcnd _
  have hval : ∀ (j : Nat) t v, Try.f12.params[j]? = some t → args[j]? = some v → Value.okWide Try.prog W .any base t v := hval0
  have hW' := hW
  obtain ⟨p, q, hA0, hV, rfl, hfz, hnd⟩ := hW
  have hA : DataW.TrodAll enc Try.prog W 0 (fun _ => true) true Try.f12.params.toList args.toList ds p := hA0
  rw [Try.params12] at hA hval
  obtain ⟨rfl, rfl, rfl⟩ := trodAll_none hA
  obtain ⟨rfl, rfl⟩ := trodVars_none hV
  clear hA0 hval0
  refine (walk W).mono fun e W' ⟨he, bel⟩ => ?_
  subst he
  exact ⟨_, rfl, _, _, _, [], _, [], hW', trodAll_mk1 (shut_bool Try.underlying4 _), trodAll_mk0, rfl, bel.frame _, fun h => by cases h⟩

theorem over : Rows.wireMostRow.holds Try.pinned (OpenSpec.ofChange Rows.wireMostSpec) :=
  OpenClaim.holds_of_wide 12 Try.f12 rfl rfl rfl rfl rfl rfl rfl ⟨rfl, rfl, rfl, rfl, rfl⟩ rfl rfl rfl rfl rfl (by kernel_rfl) Try.func12 (by kernel_rfl)
    (of_decide_eq_true (by kernel_rfl)) (by unfold Func.isWrapper; first | (rw [if_pos (by decide +kernel)]; kernel_rfl) | (rw [if_neg (by decide +kernel)]; exact ⟨rfl, rfl⟩))
    (fun os started H enc _ => lifted os started H enc)

theorem proved : Rows.WireMostSaid := over
end Go.Proofs.Ytickdpgfiianjaa.wireMost
namespace Go.Proofs.Ytickdpgfiianjaa
theorem wireMost_holds : Rows.WireMostSaid := wireMost.proved
#print axioms wireMost_holds
end Go.Proofs.Ytickdpgfiianjaa
