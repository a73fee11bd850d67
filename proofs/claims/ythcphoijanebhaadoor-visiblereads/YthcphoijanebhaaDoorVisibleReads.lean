/-
  What a reader is told, as the document says. For every input.
-/
import Derived.Test.YthcphoijanebhaaDoorReader9
import Derived.Test.YthcphoijanebhaaDoorNums9
import Derived.Test.YthcphoijanebhaaDoorWhole9
import Derived.Test.YthcphoijanebhaaDoorOpen
import Derived.Test.YthcphoijanebhaaDoorLaid9
import Derived.Test.YthcphoijanebhaaDoorRows
import Derived.Test.YthcphoijanebhaaDoorTie
import Derived.Test.YthcphoijanebhaaDoorCards
import Derived.WalkKit
import Derived.ProofKit
import Derived.OpenShut
import Derived.ShutString
import Derived.ChangeOld
import Derived.Below
import Derived.SevenTiedAt
namespace Go.Proofs.YthcphoijanebhaaDoor.visibleReads
open Go.ChangeShapes Go.WideShapes Go.ChangeAt Go.RowKit Go.Maps
set_option linter.unusedVariables false
theorem own : ownKnob Tryd.prog.godebug = none := by kernel_rfl
theorem laidOut : laidOutB Tryd.prog = true := by kernel_rfl
set_option maxHeartbeats 16000000 in
set_option maxRecDepth 100000 in
theorem walk (a0 : Option Addr) (len0 cap0 : Nat) (l0 : List Ent) (a1 : Option Addr) (len1 cap1 : Nat) (z1 : Nat → Int) (w : World) (b0 : Rd w No 6 a0 len0 (cellsOf l0)) (hc0 : len0 ≤ cap0) (hm0 : cap0 ≤ maxLen) (he0 : ∀ e ∈ l0, In64P e.key) (b1 : Ints w a1 len1 z1) (hc1 : len1 ≤ cap1) (hm1 : cap1 ≤ maxLen) (hN : Nob w) :
    Calls Tryd.prog 5 #[.slice a0 len0 cap0, .slice a1 len1 cap1] w fun e w' => e = .returned (.bool true) ∧ Below w.heap.size w w' := by
  have HN := Lib.hid hN
  have HR := Lib.hid b0
  have HI := Lib.hid b1
  have HE := Lib.hid he0
  have HL := Lib.hid b0.lenE
  have H0 := Lib.hid hN.2.2
  have hl1 : len1 ≤ 9223372036854775807 := by unfold maxLen at hm1; omega
  clear hN b0 b1 he0 hm0 hm1 hc0 hc1
  by_cases h60 : 60 < len0
  · have d1 : decide ((60 : Int) < (len0 : Int)) = true := decide_eq_true (by omega)
    clear h60
    go_enter Tryd.func5, Tryd.ntmps5
    go_wp2_with fail
    refine (works_any HN.out).mono ?_
    rintro r w1 ⟨rfl, hb⟩
    have HB := Lib.hid hb
    clear hb
    go_wp2_with fail
    go_ret
    exact ⟨rfl, HB.out⟩
  have d1 : decide ((60 : Int) < (len0 : Int)) = false := decide_eq_false (by omega)
  have hle : len0 ≤ 60 := by omega
  have HNG : Hid (∀ W, Below w.heap.size w W → Nob W) := Lib.hid fun W hb => HN.out.low hb
  clear h60
  go_enter Tryd.func5, Tryd.ntmps5
  go_wp2_with fail
  refine (vnew_any w).mono ?_
  rintro x w1 ⟨r, rfl, hR1, hb1⟩
  have hS1 : ∀ x, NewB w w1 x → w.heap.size ≤ x ∧ x < w1.heap.size := fun x hx => hx
  have hal := (Below.refl w1.heap.size w1).alloc (Nat.le_refl _) (.cells #[.slice none 0 0, .int .i64 0, .slice none 0 0] 40)
  have HS0 : Hid (RS w (w1.alloc (.cells #[.slice none 0 0, .int .i64 0, .slice none 0 0] 40)) (NewB w w1) r [] 0 [] w1.heap.size none 0 0 none 0) := Lib.hid
    ⟨hR1.below hal, fun x hx => ⟨(hS1 x hx).1, Nat.lt_of_lt_of_le (hS1 x hx).2 hal.size⟩, fun q => by have := (hS1 _ q).2; omega, hb1.size, Blk.new w1 40 _, Rd.none_, Nat.le_refl _, Rd.none_, hb1.trans (hal.mono hb1.size), GoodL.nil, ToldIs.nil_⟩
  clear hR1 hb1 hal hS1
  go_upto_region 5 with fail
  generalize hw2 : w1.alloc (.cells #[.slice none 0 0, .int .i64 0, .slice none 0 0] 40) = w2 at *
  clear hw2
  generalize hbw : w1.heap.size = bw at *
  clear hbw
  go_wp2_with fail
  go_loopw [7] (fun i wv => ∃ j : Nat, j ≤ len0 ∧ i = .int .i64 j ∧ ∃ S l k V A n c B d, l.length ≤ j ∧ RS w wv S r l k V bw A n c B d) (fun i _ => len0 - (iOf' i).toNat)
  case atStart => exact ⟨0, by omega, rfl, _, [], 0, [], none, 0, 0, none, 0, Nat.le_refl _, HS0.out⟩
  case round =>
    clear HS0
    obtain ⟨j, hj, rfl, S, l, k, V, A, n, c, B, d, hlj, hS⟩ := hrel
    have HS := Lib.hid hS
    have HNL := Lib.hid hS.rl.lenE
    have hn60 : n ≤ 60 := by have := HNL.out; omega
    have hV60 : V.length ≤ 60 := by have := hS.to.len; omega
    clear hS
    by_cases hlt : j < len0
    case neg =>
      have hd1 : decide (j < len0) = false := by simpa using hlt
      have h11 : ((1 : Int) == 1) = true := by simp
      have h00 : ((0 : Int) == 0) = true := by simp
      clear hlt
      have his := HS.out.is (by omega)
      obtain ⟨r0, r1, r2⟩ := HS.out.blk.three
      go_wp2_with fail
      refine (rto_nil _ 0).mono ?_
      rintro x w4 ⟨rfl, rfl⟩
      go_wp2_with fail
      refine his.mono ?_
      rintro x w5 ⟨rfl, hb5⟩
      have HB5 := Lib.hid (HS.out.bb.trans (hb5.mono HS.out.bb.size))
      clear his hb5 r0 r1 r2
      go_wp2_with fail
      refine (num_any _ _).mono ?_
      rintro x w6 ⟨rfl, rfl⟩
      have hpn : Calls Tryd.prog 23 #[.pointer none, .agg #[.int .i64 0, .int .i64 0, .int .i64 0, .int .i64 0, .int .i64 0, .int .i64 0]] w5 fun x w' => x = .returned (.int .i64 1) ∧ Below w5.heap.size w5 w' := rpush_nil w5 Ent.none_
      go_wp2_with fail
      refine hpn.mono ?_
      rintro x w6 ⟨rfl, hb6⟩
      have HB6 := Lib.hid (HB5.out.trans (hb6.mono HB5.out.size))
      clear hpn hb6
      go_wp2_with fail
      refine (num_any _ _).mono ?_
      rintro x w7 ⟨rfl, rfl⟩
      go_wp2_with fail
      refine (rlen_nil _).mono ?_
      rintro x w7 ⟨rfl, rfl⟩
      go_wp2_with fail
      refine (rat_nil _).mono ?_
      rintro x w7 ⟨rfl, rfl⟩
      go_wp2_with fail
      refine (rtold_nil _).mono ?_
      rintro x w7 ⟨rfl, rfl⟩
      go_wp2_with fail
      refine (rcopy_nil _).mono ?_
      rintro x w7 ⟨rfl, rfl⟩
      go_wp2_with fail
      refine (works_any (HNG.out _ HB6.out)).mono ?_
      rintro x w7 ⟨rfl, hb⟩
      have HB7 := Lib.hid (HB6.out.trans (hb.mono HB6.out.size))
      clear hb
      go_wp2_with fail
      go_ret
      exact ⟨rfl, HB7.out⟩
    case pos =>
    have hd1 : decide (j < len0) = true := by simpa using hlt
    obtain ⟨e, he⟩ : ∃ e, l0[j]? = some e := ⟨_, List.getElem?_eq_getElem (by rw [HL.out]; exact hlt)⟩
    have HEJ := Lib.hid he
    obtain ⟨ad, rfl, -⟩ := (HR.out.below HS.out.bb).ent he
    have hjl : j < len0 := hlt
    have HPD := Lib.hid (rpush1_is e HS.out.gd.allR)
    have HPE := Lib.hid (push_doc (e := e) HS.out.gd.allR)
    have HSL : Hid (∀ x, S x ∨ x = bw → x < wr.heap.size) := Lib.hid (fun x hx => hx.elim (fun q => (HS.out.lt x q).2) (fun q => q ▸ HS.out.blk.lt))
    clear he hlt
    go_upto_region 8 with fail
    refine wp_region_np ?_
    refine wp_region_held_drew (S := fun W => Below wr.heap.size wr W) (by kernel_rfl) (show Below wr.heap.size wr wr.drew from (Below.refl _ _).drew) (fun hHeld => ?_)
    generalize hv0 : wr.drew = V0 at *
    clear hv0
    refine wpAnyH_takeAt (i := 0) (d := 31) (v := ?vq0x) rfl rfl (by kernel_rfl) (by kernel_rfl) (by kernel_rfl) (fun _ _ _ h => h) (Or.inl ⟨by rfl, ?hyq0x⟩) hHeld ?_
    case hyq0x =>
      intro W hSw
      obtain ⟨r0, r1, r2⟩ := Blk.three (HS.out.blk.below hSw HS.out.blk.lt); clear hSw
      (go_simp; try with_reducible rfl)
    simp only [List.setIfInBounds_toArray, List.set_cons_zero, List.set_cons_succ]
    refine wpAnyH_takeAt (i := 1) (d := 32) (v := ?vq1x) rfl rfl (by kernel_rfl) (by kernel_rfl) (by kernel_rfl) (fun _ _ _ h => h) (Or.inl ⟨by rfl, ?hyq1x⟩) hHeld ?_
    case hyq1x =>
      intro W hSw
      clear hSw
      (go_simp; try with_reducible rfl)
    simp only [List.setIfInBounds_toArray, List.set_cons_zero, List.set_cons_succ]
    refine wpAnyH_takeAt (i := 2) (d := 33) (v := ?vq2x) rfl rfl (by kernel_rfl) (by kernel_rfl) (by kernel_rfl) (fun _ _ _ h => h) (Or.inl ⟨by rfl, ?hyq2x⟩) hHeld ?_
    case hyq2x =>
      intro W hSw
      clear hSw
      (go_simp; try with_reducible rfl)
    simp only [List.setIfInBounds_toArray, List.set_cons_zero, List.set_cons_succ]
    refine wpAnyH_takeAt (i := 3) (d := 34) (v := ?vq3x) rfl rfl (by kernel_rfl) (by kernel_rfl) (by kernel_rfl) (fun _ _ _ h => h) (Or.inl ⟨by rfl, ?hyq3x⟩) hHeld ?_
    case hyq3x =>
      intro W hSw
      clear hSw
      (go_simp; try with_reducible rfl)
    simp only [List.setIfInBounds_toArray, List.set_cons_zero, List.set_cons_succ]
    refine wpAnyH_takeAt (i := 4) (d := 35) (v := ?vq4x) rfl rfl (by kernel_rfl) (by kernel_rfl) (by kernel_rfl) (fun _ _ _ h => h) (Or.inl ⟨by rfl, ?hyq4x⟩) hHeld ?_
    case hyq4x =>
      intro W hSw
      obtain ⟨ad2, ea, hadl, -, s0, s1, s2, s3, s4, s5⟩ := (HR.out.below (HS.out.bb.trans (hSw.mono HS.out.bb.size))).ent HEJ.out; injection ea with ea; subst ea; clear hSw
      (go_simp; try with_reducible rfl)
    simp only [List.setIfInBounds_toArray, List.set_cons_zero, List.set_cons_succ]
    refine wpAnyH_ready (rs := [5, 9]) (by kernel_rfl) (by simp) (AllReadyH.cons rfl (fun K hK => ?_) (AllReadyH.cons rfl (fun K hK => ?_) AllReadyH.nil))
    · go_simp
      refine (refPush_any (X := fun x => S x ∨ x = bw) (c := c) (HS.out.rl.below hHeld) (by omega) HS.out.nc (fun x hx => Nat.lt_of_lt_of_le (HSL.out x hx) hHeld.size) (k : Int) e).mono ?_
      rintro x V1 ⟨A2, n2, c2, rfl, hL2, hc2, hn2, hb2⟩
      dsimp only
      have hHeld2 : Below wr.heap.size wr V1 := hHeld.trans (hb2.mono hHeld.size)
      refine hK.out _ _ hHeld2 (fun hHeld => ?_)
      clear hK K hHeld2 hb2
      try simp only [List.setIfInBounds_toArray, List.set_cons_zero, List.set_cons_succ]
      refine wpAnyH_takeAt (i := 6) (d := 30) (v := ?vq5x) rfl rfl (by kernel_rfl) (by kernel_rfl) (by kernel_rfl) (fun _ _ _ h => h) (Or.inl ⟨by rfl, ?hyq5x⟩) hHeld ?_
      case hyq5x =>
        intro W hSw
        clear hSw
        (go_simp; try with_reducible rfl)
      simp only [List.setIfInBounds_toArray, List.set_cons_zero, List.set_cons_succ]
      refine wpAnyH_takeAt (i := 7) (d := 37) (v := ?vq6x) rfl rfl (by kernel_rfl) (by kernel_rfl) (by kernel_rfl) (fun _ _ _ h => h) (Or.inl ⟨by rfl, ?hyq6x⟩) hHeld ?_
      case hyq6x =>
        intro W hSw
        clear hSw
        (go_simp; try with_reducible rfl)
      simp only [List.setIfInBounds_toArray, List.set_cons_zero, List.set_cons_succ]
      refine wpAnyH_takeAt (i := 8) (d := 38) (v := ?vq7x) rfl rfl (by kernel_rfl) (by kernel_rfl) (by kernel_rfl) (fun _ _ _ h => h) (Or.inl ⟨by rfl, ?hyq7x⟩) hHeld ?_
      case hyq7x =>
        intro W hSw
        clear hSw
        (go_simp; try with_reducible rfl)
      simp only [List.setIfInBounds_toArray, List.set_cons_zero, List.set_cons_succ]
      refine wpAnyH_ready (rs := [9]) (by kernel_rfl) (by simp) (AllReadyH.cons rfl (fun K hK => ?_) AllReadyH.nil)
      go_simp
      have hX : Blk (V1.alloc (.cells #[.slice none 0 0, .int .i64 0, .slice none 0 0] 40)) V1.heap.size 40 #[.slice none 0 0, .int .i64 0, .slice none 0 0] := Blk.new V1 40 _
      have hbx : wr.heap.size ≤ V1.heap.size := hHeld.size
      have hL2 := (hL2.wide (X' := fun x => S x ∨ x = bw ∨ x = V1.heap.size) (fun b hb q => q.imp id (fun q => q.elim id (fun q => absurd q (by omega))))).alloc (.cells #[.slice none 0 0, .int .i64 0, .slice none 0 0] 40)
      refine hK.out _ _ (hHeld.alloc hHeld.size _) (fun hHeld => ?_)
      clear hK K
      generalize hv2 : V1.alloc (.cells #[.slice none 0 0, .int .i64 0, .slice none 0 0] 40) = V2 at *
      clear hv2
      generalize hbxe : V1.heap.size = bx at *
      clear hbxe
      refine wpAnyH_ready (rs := [10]) (by kernel_rfl) (by simp) (AllReadyH.cons rfl (fun K hK => ?_) AllReadyH.nil)
      refine step_store_blk (by rfl) (by rfl) 40 _ _ (by rfl) bx _ #[.slice A2 n2 c2, .int .i64 (k : Int), .slice B V.length d] (by rfl) (by rfl) 40 hX (by rfl) (by kernel_rfl) (by simp [Value.oneCell']) ?_
      intro V3 hX hg hs
      have hTx : Turn (fun x => x = bx) V2 V3 := Turn.of_grown hg (fun r e => by injection e with e; exact e.symm)
      have hL2 := hL2.keep hTx (fun b _ q => .inr (.inr q))
      refine hK.out _ _ (hHeld.trans (hTx.below hHeld.size (fun x e => by omega))) (fun hHeld => ?_)
      clear hK K hg hs hTx
      refine wpAnyH_takeAt (i := 11) (d := 9) (v := ?vq8x) rfl rfl (by kernel_rfl) (by kernel_rfl) (by kernel_rfl) (fun _ _ _ h => h) (Or.inl ⟨by rfl, ?hyq8x⟩) hHeld ?_
      case hyq8x =>
        intro W hSw
        clear hSw
        (go_simp; try with_reducible rfl)
      simp only [List.setIfInBounds_toArray, List.set_cons_zero, List.set_cons_succ]
      refine wpAnyH_done (by kernel_rfl) ?_ _
      have HW2 := Lib.hid hHeld
      rw [HPD.out] at hL2
      have HL2 := Lib.hid hL2
      have HX2 := Lib.hid (And.intro hX hbx)
      have hcn : n2 ≤ c2 ∧ n2 ≤ n + 1 := ⟨hc2, hn2⟩
      clear hHeld hL2 hX hbx hc2 hn2
      generalize V3 = W2 at *
      have HBW2 := Lib.hid (HS.out.blk.below HW2.out HS.out.blk.lt)
      have HV2 := Lib.hid ((HS.out.rv.wide (X' := fun x => S x ∨ x = bw ∨ x = bx) (fun b hb q => q.imp id (fun q => q.elim id (fun q => absurd q (by have := HX2.out.2; omega))))).below HW2.out)
      have HB2 := Lib.hid (HS.out.bb.trans (HW2.out.mono HS.out.bb.size))
      have HSX : Hid (¬ S bx) := Lib.hid (fun q => by have := (HS.out.lt bx q).2; have := HX2.out.2; omega)
      have HXW : Hid (w.heap.size ≤ bx) := Lib.hid (Nat.le_trans HS.out.bb.size HX2.out.2)
      have HBX : Hid (bx ≠ bw) := Lib.hid (fun q => by have := HS.out.blk.lt; have := HX2.out.2; omega)
      obtain ⟨ad', e', hadl, -, s0, s1, s2, s3, s4, s5⟩ := (HR.out.below HB2.out).ent HEJ.out
      injection e' with e'
      subst e'
      clear hadl
      have hpu := push_any (HS.out.rr.below HW2.out) (HE.out e (List.mem_of_getElem? HEJ.out)) (fun x hx => Nat.lt_of_lt_of_le (HS.out.lt x hx).2 HW2.out.size)
      unfold Ent.val Ent.cells at hpu
      have hne : (pushE l e != rpushE l e) = false := eqn HPE.out
      go_wp2_with fail
      refine hpu.mono ?_
      rintro x W3 ⟨rfl, hR3, ht3⟩
      have HL3 := Lib.hid (HL2.out.turned ht3 (fun x hx => hx))
      have HV3 := Lib.hid (HV2.out.turned ht3 (fun x hx => hx))
      have HX3 := Lib.hid (HX2.out.1.keep ht3 HSX.out)
      have HBW3 := Lib.hid (HBW2.out.keep ht3 HS.out.bs)
      have HR3 := Lib.hid hR3
      have HB3 := Lib.hid (show Below w.heap.size w W3 from HB2.out.trans (ht3.below HB2.out.size (fun x hx => (HS.out.lt x hx).1)))
      have HS3 : Hid (∀ x, More S W2 W3 x → w.heap.size ≤ x ∧ x < W3.heap.size) := Lib.hid (fun x hx => by
        have hs := ht3.size
        have h2 := HW2.out.size
        have h3 := HB2.out.size
        rcases hx with q | q
        · have := HS.out.lt x q; exact ⟨this.1, by omega⟩
        · exact ⟨by omega, q.2⟩)
      have HNW : Hid (¬ More S W2 W3 bw ∧ ¬ More S W2 W3 bx) := Lib.hid ⟨fun q => by
        rcases q with q | q
        · exact HS.out.bs q
        · have := HBW2.out.lt; omega, fun q => by
        rcases q with q | q
        · exact HSX.out q
        · have := HX2.out.1.lt; omega⟩
      have hto2 : ToldIs (push1 l e) k V := HS.out.to.push
      have hgd2 : GoodL (push1 l e) := HS.out.gd.push
      have hpl := push1_len l e
      have HGD := Lib.hid (And.intro hgd2 (And.intro hto2 HS.out.bg))
      have HN2 := Lib.hid HL2.out.lenE
      have hn2b : n2 ≤ 61 := by omega
      have hl2b : (push1 l e).length ≤ j + 1 := by have := hpl.2; omega
      clear hpu hR3 ht3 s0 s1 s2 s3 s4 s5 HL2 HV2 HX2 HBW2 hto2 hgd2 HSX HPD HPE
      generalize More S W2 W3 = S3 at *
      generalize push1 l e = l2 at *
      go_wp2_with fail
      refine (num_any _ _).mono ?_
      rintro x w4 ⟨rfl, rfl⟩
      clear HS HSL
      go_wp2_with (with_reducible refine at_load 40 rfl ?_)
      refine Stop.go (wpList_load_blk (by rfl) 40 _ (by rfl) bx (by rfl) 40 _ HX3.out _ und40 (by rfl) (by kernel_rfl) ?_)
      go_wp2_with (with_reducible refine at_store 40 rfl ?_)
      refine Stop.go (wpList_store_blk (by rfl) (by rfl) 40 _ _ (by rfl) bw _ #[.slice A2 n2 c2, .int .i64 (k : Int), .slice B V.length d] (by rfl) (by rfl) 40 HBW3.out (by rfl) (by kernel_rfl) (by simp [Value.oneCell']) ?_)
      intro W4 hB4 hg4 hs4
      have hT4 : Turn (fun x => x = bw) W3 W4 := Turn.of_grown hg4 (fun r e => by injection e with e; exact e.symm)
      have HX4 := Lib.hid (HX3.out.keep hT4 HBX.out)
      have HL4 := Lib.hid (HL3.out.keep hT4 (fun b _ q => .inr (.inl q)))
      have HV4 := Lib.hid (HV3.out.keep hT4 (fun b _ q => .inr (.inl q)))
      have HR4 := Lib.hid (HR3.out.keep hT4 (fun x hx q => HNW.out.1 (q ▸ hx)))
      have HBW4 := Lib.hid hB4
      have HB4 := Lib.hid (HB3.out.trans (hT4.below HB3.out.size (fun x q => by rw [q]; exact HGD.out.2.2)))
      have HS4 : Hid (∀ x, S3 x → w.heap.size ≤ x ∧ x < W4.heap.size) := Lib.hid (fun x hx => by have := HS3.out x hx; have := hT4.size; omega)
      clear hB4 hg4 hs4 hT4 HX3 HL3 HV3 HR3 HBW3 HB3 HS3
      by_cases hj1 : j < len1
      case neg =>
        have hd2 : decide (len1 ≤ j) = true := decide_eq_true (by omega)
        clear hj1
        go_wp2_with fail
        go_round
        case rel => exact ⟨j + 1, by omega, by go_num, S3, l2, k, V, A2, n2, c2, B, d, by omega, HR4.out, HS4.out, HNW.out.1, HGD.out.2.2, HBW4.out, HL4.out.wide (fun b _ q => q.imp id .inl), hcn.1, HV4.out.wide (fun b _ q => q.imp id .inl), HB4.out, HGD.out.1, HGD.out.2.1⟩
        case measure => simp [iOf']; omega
      case pos =>
      have hd2 : decide (len1 ≤ j) = false := decide_eq_false (by omega)
      obtain ⟨al, rfl, hall, hac⟩ := (HI.out.below HB4.out) (by omega)
      have hz0 := hac j hj1
      have HZ4 := Lib.hid hz0
      have HAL : Hid ((al.add j).block < w.heap.size) := Lib.hid (by
        obtain ⟨al', ea, hl', -⟩ := HI.out (by omega)
        injection ea with ea
        subst ea
        rw [block_of_add]; exact hl')
      clear hall hac hz0
      generalize z1 j = zj at *
      have HXG : Hid (w.heap.size ≤ bx) := Lib.hid (HXW.out)
      go_upto_region 13 with fail
      refine wp_region_np ?_
      refine wp_region_held_drew (S := fun W => Blk W bw 40 #[.slice A2 n2 c2, .int .i64 (k : Int), .slice B V.length d] ∧ W.cell? (al.add j) = some (.int .i64 zj)) (by kernel_rfl) (show Blk W4.drew bw 40 #[.slice A2 n2 c2, .int .i64 (k : Int), .slice B V.length d] ∧ W4.drew.cell? (al.add j) = some (.int .i64 zj) from ⟨HBW4.out, HZ4.out⟩) (fun hHeld => ?_)
      generalize hv0 : W4.drew = U0 at *
      have HX5 : Hid (Blk U0 bx 40 #[.slice A2 n2 c2, .int .i64 (k : Int), .slice B V.length d]) := Lib.hid (hv0 ▸ HX4.out)
      have HL5 : Hid (Rd U0 (fun x => S3 x ∨ x = bw ∨ x = bx) 6 A2 n2 (cellsOf l2)) := Lib.hid (hv0 ▸ HL4.out)
      have HV5 : Hid (Rd U0 (fun x => S3 x ∨ x = bw ∨ x = bx) 1 B V.length (intsOf V)) := Lib.hid (hv0 ▸ HV4.out)
      have HR5 : Hid (Rr U0 S3 r l2 k V) := Lib.hid (hv0 ▸ HR4.out.below (Below.refl _ _).drew)
      have HB5 : Hid (Below w.heap.size w U0) := Lib.hid (hv0 ▸ HB4.out.drew)
      have HS5 : Hid (∀ x, S3 x → w.heap.size ≤ x ∧ x < U0.heap.size) := Lib.hid (hv0 ▸ HS4.out)
      clear hv0 HX4 HL4 HV4 HR4 HB4 HS4 HBW4 HZ4
      refine wpAnyH_takeAt (i := 0) (d := 54) (v := ?vq9x) rfl rfl (by kernel_rfl) (by kernel_rfl) (by kernel_rfl) (fun _ _ _ h => h) (Or.inl ⟨by rfl, ?hyq9x⟩) hHeld ?_
      case hyq9x =>
        intro W hSw
        have hr := Blk.three hSw.1; obtain ⟨r0, r1, r2⟩ := hr; clear hSw
        (go_simp; try with_reducible rfl)
      simp only [List.setIfInBounds_toArray, List.set_cons_zero, List.set_cons_succ]
      refine wpAnyH_takeAt (i := 1) (d := 55) (v := ?vq10x) rfl rfl (by kernel_rfl) (by kernel_rfl) (by kernel_rfl) (fun _ _ _ h => h) (Or.inl ⟨by rfl, ?hyq10x⟩) hHeld ?_
      case hyq10x =>
        intro W hSw
        clear hSw
        (go_simp; try with_reducible rfl)
      simp only [List.setIfInBounds_toArray, List.set_cons_zero, List.set_cons_succ]
      refine wpAnyH_takeAt (i := 2) (d := 56) (v := ?vq11x) rfl rfl (by kernel_rfl) (by kernel_rfl) (by kernel_rfl) (fun _ _ _ h => h) (Or.inl ⟨by rfl, ?hyq11x⟩) hHeld ?_
      case hyq11x =>
        intro W hSw
        clear hSw
        (go_simp; try with_reducible rfl)
      simp only [List.setIfInBounds_toArray, List.set_cons_zero, List.set_cons_succ]
      refine wpAnyH_takeAt (i := 3) (d := 57) (v := ?vq12x) rfl rfl (by kernel_rfl) (by kernel_rfl) (by kernel_rfl) (fun _ _ _ h => h) (Or.inl ⟨by rfl, ?hyq12x⟩) hHeld ?_
      case hyq12x =>
        intro W hSw
        clear hSw
        (go_simp; try with_reducible rfl)
      simp only [List.setIfInBounds_toArray, List.set_cons_zero, List.set_cons_succ]
      refine wpAnyH_takeAt (i := 4) (d := 58) (v := ?vq13x) rfl rfl (by kernel_rfl) (by kernel_rfl) (by kernel_rfl) (fun _ _ _ h => h) (Or.inl ⟨by rfl, ?hyq13x⟩) hHeld ?_
      case hyq13x =>
        intro W hSw
        have hz := hSw.2; clear hSw
        (go_simp; try with_reducible rfl)
      simp only [List.setIfInBounds_toArray, List.set_cons_zero, List.set_cons_succ]
      refine wpAnyH_ready (rs := [5]) (by kernel_rfl) (by simp) (AllReadyH.cons rfl (fun K hK => ?_) AllReadyH.nil)
      go_simp
      refine (refTo_any (X := fun x => S3 x ∨ x = bw ∨ x = bx) (c := c2) (k := k) (d := d) HL5.out (by omega) hcn.1 HGD.out.1.allE HV5.out (by omega) (fun x hx => by
        rcases hx with q | q | q
        · exact (HS5.out x q).2
        · rw [q]; exact hHeld.1.lt
        · rw [q]; exact HX5.out.lt) zj).mono ?_
      rintro x U1 hq
      obtain ⟨k2, V2, B2, d2, At, ct, F, er, rfl, hF1, hV1, hO, hb1⟩ := hq.out HN2.out HV5.out (fun x hx => by
        rcases hx with q | q | q
        · exact (HS5.out x q).2
        · rw [q]; exact hHeld.1.lt
        · rw [q]; exact HX5.out.lt)
      dsimp only
      have hX1 := HX5.out.below hb1 HX5.out.lt
      have hL1 := HL5.out.below hb1
      have hR1 := HR5.out.below hb1
      have hBB := HB5.out.trans (hb1.mono HB5.out.size)
      have hHeld2 : Blk U1 bw 40 #[.slice A2 n2 c2, .int .i64 (k : Int), .slice B V.length d] ∧ U1.cell? (al.add j) = some (.int .i64 zj) := ⟨hHeld.1.below hb1 hHeld.1.lt, (World.cell?_of_block (hb1.block _ (Nat.lt_of_lt_of_le HAL.out HB5.out.size))).trans hHeld.2⟩
      have HS6 : Hid (∀ x, S3 x → w.heap.size ≤ x ∧ x < U1.heap.size) := Lib.hid (fun x hx => by have := HS5.out x hx; have := hb1.size; omega)
      refine hK.out _ _ hHeld2 (fun hHeld => ?_)
      clear hK K hHeld2 hq hb1 HX5 HL5 HV5 HR5 HB5 HS5
      try simp only [List.setIfInBounds_toArray, List.set_cons_zero, List.set_cons_succ]
      refine wpAnyH_takeAt (i := 6) (d := 53) (v := ?vq14x) rfl rfl (by kernel_rfl) (by kernel_rfl) (by kernel_rfl) (fun _ _ _ h => h) (Or.inl ⟨by rfl, ?hyq14x⟩) hHeld ?_
      case hyq14x =>
        intro W hSw
        clear hSw
        (go_simp; try with_reducible rfl)
      simp only [List.setIfInBounds_toArray, List.set_cons_zero, List.set_cons_succ]
      refine wpAnyH_takeAt (i := 7) (d := 60) (v := ?vq15x) rfl rfl (by kernel_rfl) (by kernel_rfl) (by kernel_rfl) (fun _ _ _ h => h) (Or.inl ⟨by rfl, ?hyq15x⟩) hHeld ?_
      case hyq15x =>
        intro W hSw
        clear hSw
        (go_simp; try with_reducible rfl)
      simp only [List.setIfInBounds_toArray, List.set_cons_zero, List.set_cons_succ]
      refine wpAnyH_takeAt (i := 8) (d := 61) (v := ?vq16x) rfl rfl (by kernel_rfl) (by kernel_rfl) (by kernel_rfl) (fun _ _ _ h => h) (Or.inl ⟨by rfl, ?hyq16x⟩) hHeld ?_
      case hyq16x =>
        intro W hSw
        clear hSw
        (go_simp; try with_reducible rfl)
      simp only [List.setIfInBounds_toArray, List.set_cons_zero, List.set_cons_succ]
      refine wpAnyH_takeAt (i := 9) (d := 62) (v := ?vq17x) rfl rfl (by kernel_rfl) (by kernel_rfl) (by kernel_rfl) (fun _ _ _ h => h) (Or.inl ⟨by rfl, ?hyq17x⟩) hHeld ?_
      case hyq17x =>
        intro W hSw
        clear hSw
        (go_simp; try with_reducible rfl)
      simp only [List.setIfInBounds_toArray, List.set_cons_zero, List.set_cons_succ]
      refine wpAnyH_ready (rs := [10]) (by kernel_rfl) (by simp) (AllReadyH.cons rfl (fun K hK => ?_) AllReadyH.nil)
      refine step_store_blk (by rfl) (by rfl) 40 _ _ (by rfl) bx _ #[.slice A2 n2 c2, .int .i64 (k2 : Int), .slice B2 V2.length d2] (by rfl) (by rfl) 40 hX1 (by rfl) (by kernel_rfl) (by simp [Value.oneCell']) ?_
      intro U2 hX hg hs
      have hTx : Turn (fun x => x = bx) U1 U2 := Turn.of_grown hg (fun r e => by injection e with e; exact e.symm)
      have HL6 := Lib.hid (hL1.keep hTx (fun b _ q => .inr (.inr q)))
      have HV6 := Lib.hid (hV1.keep hTx (fun b _ q => .inr (.inr q)))
      have HF6 := Lib.hid (hF1.keep hTx (fun b _ q => .inr (.inr q)))
      have HR6 := Lib.hid (hR1.keep hTx (fun x hx q => HNW.out.2 (q ▸ hx)))
      have HX6 := Lib.hid hX
      have hbxw : w.heap.size ≤ bx := by have := hBB.size; exact HXG.out
      have HB6 := Lib.hid (hBB.trans (hTx.below hBB.size (fun x q => by rw [q]; exact HXG.out)))
      have HS7 : Hid (∀ x, S3 x → w.heap.size ≤ x ∧ x < U2.heap.size) := Lib.hid (fun x hx => by have := HS6.out x hx; have := hTx.size; omega)
      have HO := Lib.hid hO
      have hHeld2 : Blk U2 bw 40 #[.slice A2 n2 c2, .int .i64 (k : Int), .slice B V.length d] ∧ U2.cell? (al.add j) = some (.int .i64 zj) := ⟨hHeld.1.keep hTx HBX.out.symm, (hTx.cell (p := al.add j) (Nat.lt_of_lt_of_le HAL.out hBB.size) (fun q => by have := HAL.out; have := HXG.out; omega)).trans hHeld.2⟩
      refine hK.out _ _ hHeld2 (fun hHeld => ?_)
      clear hK K hHeld2 hX hg hs hTx hX1 hL1 hV1 hF1 hR1 hBB HS6 hO hbxw
      refine wpAnyH_takeAt (i := 11) (d := 10) (v := ?vq18x) rfl rfl (by kernel_rfl) (by kernel_rfl) (by kernel_rfl) (fun _ _ _ h => h) (Or.inl ⟨by rfl, ?hyq18x⟩) hHeld ?_
      case hyq18x =>
        intro W hSw
        clear hSw
        (go_simp; try with_reducible rfl)
      simp only [List.setIfInBounds_toArray, List.set_cons_zero, List.set_cons_succ]
      refine wpAnyH_takeAt (i := 12) (d := 11) (v := ?vq19x) rfl rfl (by kernel_rfl) (by kernel_rfl) (by kernel_rfl) (fun _ _ _ h => h) (Or.inl ⟨by rfl, ?hyq19x⟩) hHeld ?_
      case hyq19x =>
        intro W hSw
        clear hSw
        (go_simp; try with_reducible rfl)
      simp only [List.setIfInBounds_toArray, List.set_cons_zero, List.set_cons_succ]
      refine wpAnyH_done (by kernel_rfl) ?_ _
      have HBW6 := Lib.hid hHeld.1
      have hz6 := hHeld.2
      clear hHeld
      have hFl : F.length ≤ 61 := by have := HO.out.len; omega
      have hto6 := to_any HR6.out (fun x hx => (HS7.out x hx).2) (fun q => by have := (HS7.out 0 q).1; have := H0.out; omega) (HNG.out _ HB6.out) HGD.out.2.1.1 HGD.out.2.1.lt (by have := HGD.out.2.1.len; omega) zj
      go_wp2_with fail
      refine hto6.mono ?_
      rintro x U3 hP
      obtain ⟨T, gv, rfl, hg7, hgo7, hr7, hT7, ht7, hto7⟩ := to_both hP HO.out HGD.out.2.1 HGD.out.1.fine
      obtain ⟨Ag, cg, rfl, -⟩ := ints_form hg7
      have HL7 := Lib.hid ((HL6.out.wide (X' := fun x => S3 x ∨ (x = bw ∨ x = bx ∨ U2.heap.size ≤ x)) (fun b hb q => q.imp id (fun q => q.elim .inl (fun q => q.elim .inr (fun q => absurd q (by omega)))))).turned ht7 hT7)
      have HV7 := Lib.hid ((HV6.out.wide (X' := fun x => S3 x ∨ (x = bw ∨ x = bx ∨ U2.heap.size ≤ x)) (fun b hb q => q.imp id (fun q => q.elim .inl (fun q => q.elim .inr (fun q => absurd q (by omega)))))).turned ht7 hT7)
      have HF7 := Lib.hid ((HF6.out.wide (X' := fun x => S3 x ∨ (x = bw ∨ x = bx ∨ U2.heap.size ≤ x)) (fun b hb q => q.imp id (fun q => q.elim .inl (fun q => q.elim .inr (fun q => absurd q (by omega)))))).turned ht7 hT7)
      have HX7 := Lib.hid (HX6.out.keep ht7 HNW.out.2)
      have HBW7 := Lib.hid (HBW6.out.keep ht7 HNW.out.1)
      have HB7 := Lib.hid (HB6.out.trans (ht7.below HB6.out.size (fun x hx => (HS7.out x hx).1)))
      have HS8 : Hid (∀ x, T x → w.heap.size ≤ x ∧ x < U3.heap.size) := Lib.hid (fun x hx => by
        have hs := ht7.size
        have h3 := HB6.out.size
        rcases hT7 x hx with q | q
        · have := HS7.out x q; exact ⟨this.1, by omega⟩
        · exact ⟨by omega, q.2⟩)
      have HNT : Hid (¬ T bw ∧ ¬ T bx) := Lib.hid ⟨fun q => by
        rcases hT7 _ q with q | q
        · exact HNW.out.1 q
        · have := HBW6.out.lt; omega, fun q => by
        rcases hT7 _ q with q | q
        · exact HNW.out.2 q
        · have := HX6.out.lt; omega⟩
      have HGO := Lib.hid (And.intro hg7 hgo7)
      have HR7 := Lib.hid hr7
      have HTO7 := Lib.hid hto7
      have HU2 : Hid (bw < U2.heap.size ∧ bx < U2.heap.size) := Lib.hid ⟨HBW6.out.lt, HX6.out.lt⟩
      have hV2l : V2.length ≤ 61 := by have := hto7.len; omega
      clear hto6 hP hg7 hgo7 hr7 hT7 ht7 hto7 hz6 HL6 HV6 HF6 HX6 HBW6 HB6 HS7 HR6
      go_wp2_with (with_reducible refine at_load 40 rfl ?_)
      refine Stop.go (wpList_load_blk (by rfl) 40 _ (by rfl) bx (by rfl) 40 _ HX7.out _ und40 (by rfl) (by kernel_rfl) ?_)
      go_wp2_with (with_reducible refine at_store 40 rfl ?_)
      refine Stop.go (wpList_store_blk (by rfl) (by rfl) 40 _ _ (by rfl) bw _ #[.slice A2 n2 c2, .int .i64 (k2 : Int), .slice B2 V2.length d2] (by rfl) (by rfl) 40 HBW7.out (by rfl) (by kernel_rfl) (by simp [Value.oneCell']) ?_)
      intro U4 hB8 hg8 hs8
      have hT8 : Turn (fun x => x = bw) U3 U4 := Turn.of_grown hg8 (fun r e => by injection e with e; exact e.symm)
      have HL8 := Lib.hid (HL7.out.keep hT8 (fun b _ q => .inr (.inl q)))
      have HV8 := Lib.hid (HV7.out.keep hT8 (fun b _ q => .inr (.inl q)))
      have HF8 := Lib.hid (HF7.out.keep hT8 (fun b _ q => .inr (.inl q)))
      have HR8 := Lib.hid (HR7.out.keep hT8 (fun x hx q => HNT.out.1 (q ▸ hx)))
      have HG8 := Lib.hid (And.intro (HGO.out.1.keep hT8 (fun g hg q => by have := HGO.out.2 g hg; have := HU2.out.1; omega)) HGO.out.2)
      have HB8 := Lib.hid (HB7.out.trans (hT8.below HB7.out.size (fun x q => by rw [q]; exact HGD.out.2.2)))
      have HS9 : Hid (∀ x, T x → w.heap.size ≤ x ∧ x < U4.heap.size) := Lib.hid (fun x hx => by have := HS8.out x hx; have := hT8.size; omega)
      have HBW8 := Lib.hid hB8
      clear hB8 hg8 hs8 hT8 HL7 HV7 HF7 HR7 HGO HB7 HS8 HX7 HBW7
      have hsa := sameI_any (c := cg) (d := ct) (HG8.out.1.rd (X := No) (fun _ _ h => h)) HF8.out (by omega) (by omega)
      rw [decide_eq_true rfl] at hsa
      have hee : (er != er) = false := by simp
      go_wp2_with fail
      refine hsa.mono ?_
      rintro x U5 ⟨rfl, q5, rfl⟩
      have hdr := below_drewN (Below.refl U4.heap.size U4) q5
      have HS10 : Hid (RS w (U4.drewN q5) T r l2 k2 V2 bw A2 n2 c2 B2 d2 ∧ Rd (U4.drewN q5) (fun x => T x ∨ x = bw ∨ x = bx ∨ U2.heap.size ≤ x) 6 A2 n2 (cellsOf l2) ∧ Rd (U4.drewN q5) (fun x => T x ∨ x = bw ∨ x = bx ∨ U2.heap.size ≤ x) 1 B2 V2.length (intsOf V2)) := Lib.hid
        ⟨RS.low ⟨HR8.out, HS9.out, HNT.out.1, HGD.out.2.2, HBW8.out, HL8.out.wide (fun b _ q => q.imp id .inl), hcn.1, HV8.out.wide (fun b _ q => q.imp id .inl), HB8.out, HGD.out.1, HTO7.out⟩ hdr, HL8.out.below hdr, HV8.out.below hdr⟩
      have HG9 := Lib.hid (And.intro (HG8.out.1.below hdr) HG8.out.2)
      clear hsa hdr HL8 HV8 HF8 HR8 HG8 HB8 HS9 HBW8
      generalize U4.drewN q5 = U5 at *
      go_wp2_with fail
      refine (num_any _ _).mono ?_
      rintro x w4 ⟨rfl, rfl⟩
      have his := HS10.out.1.is (by omega)
      obtain ⟨r0, r1, r2⟩ := HS10.out.1.blk.three
      go_wp2_with fail
      refine his.mono ?_
      rintro x U6 ⟨rfl, hb6⟩
      have HS11 : Hid (RS w U6 T r l2 k2 V2 bw A2 n2 c2 B2 d2 ∧ Rd U6 (fun x => T x ∨ x = bw ∨ x = bx ∨ U2.heap.size ≤ x) 6 A2 n2 (cellsOf l2) ∧ Rd U6 (fun x => T x ∨ x = bw ∨ x = bx ∨ U2.heap.size ≤ x) 1 B2 V2.length (intsOf V2)) := Lib.hid ⟨HS10.out.1.low hb6, HS10.out.2.1.below hb6, HS10.out.2.2.below hb6⟩
      have HG11 := Lib.hid (And.intro (HG9.out.1.below hb6) HG9.out.2)
      have HTH : Hid (0 < F.length → ∃ g, Ag = some ⟨g, 0, none⟩ ∧ Value.ownBlock (.slice Ag F.length cg) = some g ∧ U6.there g 0 F.length) := Lib.hid (fun h => by
        obtain ⟨g, h1, h2, -, h3⟩ := HG11.out.1.thereI h
        exact ⟨g, h1, h2, h3⟩)
      have HGB : Hid (∀ b, Value.ownBlock (.slice Ag F.length cg) = some b → U2.heap.size ≤ b ∧ ¬ T b) := Lib.hid HG11.out.2
      clear his hb6 r0 r1 r2 HS10 HG9 HG11
      generalize F.length = nf at *
      go_wp2_with fail
      go_loopw [14] (fun i wv => ∃ p : Nat, p ≤ nf ∧ i = .int .i64 p ∧ Turn (fun x => Value.ownBlock (.slice Ag nf cg) = some x) U6 wv ∧ (0 < nf → ∃ g, Ag = some ⟨g, 0, none⟩ ∧ Value.ownBlock (.slice Ag nf cg) = some g ∧ wv.there g 0 nf)) (fun i _ => nf - (iOf' i).toNat)
      case atStart => exact ⟨0, by omega, rfl, Turn.refl _ _, HTH.out⟩
      case round =>
        clear HTH
        obtain ⟨p, hp, rfl, htp, hth⟩ := hrel
        have HTP := Lib.hid htp
        have HTH := Lib.hid hth
        clear htp hth
        by_cases hpn : p < nf
        case neg =>
          have hd3 : decide (p < nf) = false := by simpa using hpn
          have HF : Hid (RS w wr T r l2 k2 V2 bw A2 n2 c2 B2 d2) := Lib.hid (by
            have h := HS11.out.1
            have hbg : ∀ b, Value.ownBlock (.slice Ag nf cg) = some b → U2.heap.size ≤ b ∧ ¬ T b := HGB.out
            have hsz := HTP.out.size
            have hw : w.heap.size ≤ U2.heap.size := by have := HU2.out.1; have := h.bg; omega
            exact ⟨h.rr.keep HTP.out (fun x hx q => (hbg x q).2 hx), fun x hx => ⟨(h.lt x hx).1, Nat.lt_of_lt_of_le (h.lt x hx).2 hsz⟩, h.bs, h.bg, h.blk.keep HTP.out (fun q => by have := (hbg _ q).1; have := HU2.out.1; omega),
              (HS11.out.2.1.keep HTP.out (fun b _ q => .inr (.inr (.inr (hbg b q).1)))).wide (fun b _ q => q.imp id .inl), h.nc, (HS11.out.2.2.keep HTP.out (fun b _ q => .inr (.inr (.inr (hbg b q).1)))).wide (fun b _ q => q.imp id .inl),
              h.bb.trans (HTP.out.below h.bb.size (fun x q => by have := (hbg x q).1; omega)), h.gd, h.to⟩)
          clear hpn
          go_wp2_with fail
          go_round
          case rel => exact ⟨j + 1, by omega, by go_num, T, l2, k2, V2, A2, n2, c2, B2, d2, by omega, HF.out⟩
          case measure => simp [iOf']; omega
        case pos =>
          have hd3 : decide (p < nf) = true := by simpa using hpn
          obtain ⟨g, rfl, hog, hth⟩ := HTH.out (by omega)
          obtain ⟨hs1, hs2⟩ := hth p hpn
          rw [Nat.zero_add] at hs1 hs2
          obtain ⟨u, hu⟩ := Option.isSome_iff_exists.1 hs1
          have hT2 : Turn (fun x => Value.ownBlock (.slice (some ⟨g, 0, none⟩) nf cg) = some x) U6 (wr.setCell ⟨g, p, none⟩ (.int .i64 (-9))) := HTP.out.setCell (p := ⟨g, p, none⟩) (fun _ => hog) _
          have HT2 := Lib.hid hT2
          have HTH2 : Hid ((wr.setCell ⟨g, p, none⟩ (.int .i64 (-9))).there g 0 nf) := Lib.hid (there_set hth)
          have HOG := Lib.hid hog
          clear hs1 hth hog hT2
          go_wp2_with fail
          go_round
          case rel => exact ⟨p + 1, by omega, by go_num, HT2.out, fun _ => ⟨g, rfl, HOG.out, HTH2.out⟩⟩
          case measure => simp [iOf']; omega
    · go_simp
      have hX : Blk (V0.alloc (.cells #[.slice none 0 0, .int .i64 0, .slice none 0 0] 40)) V0.heap.size 40 #[.slice none 0 0, .int .i64 0, .slice none 0 0] := Blk.new V0 40 _
      have hbx : wr.heap.size ≤ V0.heap.size := hHeld.size
      refine hK.out _ _ (hHeld.alloc hHeld.size _) (fun hHeld => ?_)
      clear hK K
      generalize hv1 : V0.alloc (.cells #[.slice none 0 0, .int .i64 0, .slice none 0 0] 40) = V1 at *
      clear hv1
      generalize hbxe : V0.heap.size = bx at *
      clear hbxe
      refine wpAnyH_ready (rs := [5]) (by kernel_rfl) (by simp) (AllReadyH.cons rfl (fun K hK => ?_) AllReadyH.nil)
      go_simp
      refine (refPush_any (X := fun x => S x ∨ x = bw ∨ x = bx) (c := c) ((HS.out.rl.wide (X' := fun x => S x ∨ x = bw ∨ x = bx) (fun b hb q => q.imp id (fun q => q.elim id (fun q => absurd q (by omega))))).below hHeld) (by omega) HS.out.nc (fun x hx => by
        rcases hx with q | q | q
        · exact Nat.lt_of_lt_of_le (HSL.out x (.inl q)) hHeld.size
        · exact Nat.lt_of_lt_of_le (HSL.out x (.inr q)) hHeld.size
        · rw [q]; exact hX.lt) (k : Int) e).mono ?_
      rintro x V2 ⟨A2, n2, c2, rfl, hL2, hc2, hn2, hb2⟩
      dsimp only
      have hHeld2 : Below wr.heap.size wr V2 := hHeld.trans (hb2.mono hHeld.size)
      have hX := hX.below hb2 hX.lt
      refine hK.out _ _ hHeld2 (fun hHeld => ?_)
      clear hK K hHeld2 hb2
      try simp only [List.setIfInBounds_toArray, List.set_cons_zero, List.set_cons_succ]
      refine wpAnyH_takeAt (i := 6) (d := 30) (v := ?vq20x) rfl rfl (by kernel_rfl) (by kernel_rfl) (by kernel_rfl) (fun _ _ _ h => h) (Or.inl ⟨by rfl, ?hyq20x⟩) hHeld ?_
      case hyq20x =>
        intro W hSw
        clear hSw
        (go_simp; try with_reducible rfl)
      simp only [List.setIfInBounds_toArray, List.set_cons_zero, List.set_cons_succ]
      refine wpAnyH_takeAt (i := 7) (d := 37) (v := ?vq21x) rfl rfl (by kernel_rfl) (by kernel_rfl) (by kernel_rfl) (fun _ _ _ h => h) (Or.inl ⟨by rfl, ?hyq21x⟩) hHeld ?_
      case hyq21x =>
        intro W hSw
        clear hSw
        (go_simp; try with_reducible rfl)
      simp only [List.setIfInBounds_toArray, List.set_cons_zero, List.set_cons_succ]
      refine wpAnyH_takeAt (i := 8) (d := 38) (v := ?vq22x) rfl rfl (by kernel_rfl) (by kernel_rfl) (by kernel_rfl) (fun _ _ _ h => h) (Or.inl ⟨by rfl, ?hyq22x⟩) hHeld ?_
      case hyq22x =>
        intro W hSw
        clear hSw
        (go_simp; try with_reducible rfl)
      simp only [List.setIfInBounds_toArray, List.set_cons_zero, List.set_cons_succ]
      refine wpAnyH_ready (rs := [10]) (by kernel_rfl) (by simp) (AllReadyH.cons rfl (fun K hK => ?_) AllReadyH.nil)
      refine step_store_blk (by rfl) (by rfl) 40 _ _ (by rfl) bx _ #[.slice A2 n2 c2, .int .i64 (k : Int), .slice B V.length d] (by rfl) (by rfl) 40 hX (by rfl) (by kernel_rfl) (by simp [Value.oneCell']) ?_
      intro V3 hX hg hs
      have hTx : Turn (fun x => x = bx) V2 V3 := Turn.of_grown hg (fun r e => by injection e with e; exact e.symm)
      have hL2 := hL2.keep hTx (fun b _ q => .inr (.inr q))
      refine hK.out _ _ (hHeld.trans (hTx.below hHeld.size (fun x e => by omega))) (fun hHeld => ?_)
      clear hK K hg hs hTx
      refine wpAnyH_takeAt (i := 11) (d := 9) (v := ?vq23x) rfl rfl (by kernel_rfl) (by kernel_rfl) (by kernel_rfl) (fun _ _ _ h => h) (Or.inl ⟨by rfl, ?hyq23x⟩) hHeld ?_
      case hyq23x =>
        intro W hSw
        clear hSw
        (go_simp; try with_reducible rfl)
      simp only [List.setIfInBounds_toArray, List.set_cons_zero, List.set_cons_succ]
      refine wpAnyH_done (by kernel_rfl) ?_ _
      have HW2 := Lib.hid hHeld
      rw [HPD.out] at hL2
      have HL2 := Lib.hid hL2
      have HX2 := Lib.hid (And.intro hX hbx)
      have hcn : n2 ≤ c2 ∧ n2 ≤ n + 1 := ⟨hc2, hn2⟩
      clear hHeld hL2 hX hbx hc2 hn2
      generalize V3 = W2 at *
      have HBW2 := Lib.hid (HS.out.blk.below HW2.out HS.out.blk.lt)
      have HV2 := Lib.hid ((HS.out.rv.wide (X' := fun x => S x ∨ x = bw ∨ x = bx) (fun b hb q => q.imp id (fun q => q.elim id (fun q => absurd q (by have := HX2.out.2; omega))))).below HW2.out)
      have HB2 := Lib.hid (HS.out.bb.trans (HW2.out.mono HS.out.bb.size))
      have HSX : Hid (¬ S bx) := Lib.hid (fun q => by have := (HS.out.lt bx q).2; have := HX2.out.2; omega)
      have HXW : Hid (w.heap.size ≤ bx) := Lib.hid (Nat.le_trans HS.out.bb.size HX2.out.2)
      have HBX : Hid (bx ≠ bw) := Lib.hid (fun q => by have := HS.out.blk.lt; have := HX2.out.2; omega)
      obtain ⟨ad', e', hadl, -, s0, s1, s2, s3, s4, s5⟩ := (HR.out.below HB2.out).ent HEJ.out
      injection e' with e'
      subst e'
      clear hadl
      have hpu := push_any (HS.out.rr.below HW2.out) (HE.out e (List.mem_of_getElem? HEJ.out)) (fun x hx => Nat.lt_of_lt_of_le (HS.out.lt x hx).2 HW2.out.size)
      unfold Ent.val Ent.cells at hpu
      have hne : (pushE l e != rpushE l e) = false := eqn HPE.out
      go_wp2_with fail
      refine hpu.mono ?_
      rintro x W3 ⟨rfl, hR3, ht3⟩
      have HL3 := Lib.hid (HL2.out.turned ht3 (fun x hx => hx))
      have HV3 := Lib.hid (HV2.out.turned ht3 (fun x hx => hx))
      have HX3 := Lib.hid (HX2.out.1.keep ht3 HSX.out)
      have HBW3 := Lib.hid (HBW2.out.keep ht3 HS.out.bs)
      have HR3 := Lib.hid hR3
      have HB3 := Lib.hid (show Below w.heap.size w W3 from HB2.out.trans (ht3.below HB2.out.size (fun x hx => (HS.out.lt x hx).1)))
      have HS3 : Hid (∀ x, More S W2 W3 x → w.heap.size ≤ x ∧ x < W3.heap.size) := Lib.hid (fun x hx => by
        have hs := ht3.size
        have h2 := HW2.out.size
        have h3 := HB2.out.size
        rcases hx with q | q
        · have := HS.out.lt x q; exact ⟨this.1, by omega⟩
        · exact ⟨by omega, q.2⟩)
      have HNW : Hid (¬ More S W2 W3 bw ∧ ¬ More S W2 W3 bx) := Lib.hid ⟨fun q => by
        rcases q with q | q
        · exact HS.out.bs q
        · have := HBW2.out.lt; omega, fun q => by
        rcases q with q | q
        · exact HSX.out q
        · have := HX2.out.1.lt; omega⟩
      have hto2 : ToldIs (push1 l e) k V := HS.out.to.push
      have hgd2 : GoodL (push1 l e) := HS.out.gd.push
      have hpl := push1_len l e
      have HGD := Lib.hid (And.intro hgd2 (And.intro hto2 HS.out.bg))
      have HN2 := Lib.hid HL2.out.lenE
      have hn2b : n2 ≤ 61 := by omega
      have hl2b : (push1 l e).length ≤ j + 1 := by have := hpl.2; omega
      clear hpu hR3 ht3 s0 s1 s2 s3 s4 s5 HL2 HV2 HX2 HBW2 hto2 hgd2 HSX HPD HPE
      generalize More S W2 W3 = S3 at *
      generalize push1 l e = l2 at *
      go_wp2_with fail
      refine (num_any _ _).mono ?_
      rintro x w4 ⟨rfl, rfl⟩
      clear HS HSL
      go_wp2_with (with_reducible refine at_load 40 rfl ?_)
      refine Stop.go (wpList_load_blk (by rfl) 40 _ (by rfl) bx (by rfl) 40 _ HX3.out _ und40 (by rfl) (by kernel_rfl) ?_)
      go_wp2_with (with_reducible refine at_store 40 rfl ?_)
      refine Stop.go (wpList_store_blk (by rfl) (by rfl) 40 _ _ (by rfl) bw _ #[.slice A2 n2 c2, .int .i64 (k : Int), .slice B V.length d] (by rfl) (by rfl) 40 HBW3.out (by rfl) (by kernel_rfl) (by simp [Value.oneCell']) ?_)
      intro W4 hB4 hg4 hs4
      have hT4 : Turn (fun x => x = bw) W3 W4 := Turn.of_grown hg4 (fun r e => by injection e with e; exact e.symm)
      have HX4 := Lib.hid (HX3.out.keep hT4 HBX.out)
      have HL4 := Lib.hid (HL3.out.keep hT4 (fun b _ q => .inr (.inl q)))
      have HV4 := Lib.hid (HV3.out.keep hT4 (fun b _ q => .inr (.inl q)))
      have HR4 := Lib.hid (HR3.out.keep hT4 (fun x hx q => HNW.out.1 (q ▸ hx)))
      have HBW4 := Lib.hid hB4
      have HB4 := Lib.hid (HB3.out.trans (hT4.below HB3.out.size (fun x q => by rw [q]; exact HGD.out.2.2)))
      have HS4 : Hid (∀ x, S3 x → w.heap.size ≤ x ∧ x < W4.heap.size) := Lib.hid (fun x hx => by have := HS3.out x hx; have := hT4.size; omega)
      clear hB4 hg4 hs4 hT4 HX3 HL3 HV3 HR3 HBW3 HB3 HS3
      by_cases hj1 : j < len1
      case neg =>
        have hd2 : decide (len1 ≤ j) = true := decide_eq_true (by omega)
        clear hj1
        go_wp2_with fail
        go_round
        case rel => exact ⟨j + 1, by omega, by go_num, S3, l2, k, V, A2, n2, c2, B, d, by omega, HR4.out, HS4.out, HNW.out.1, HGD.out.2.2, HBW4.out, HL4.out.wide (fun b _ q => q.imp id .inl), hcn.1, HV4.out.wide (fun b _ q => q.imp id .inl), HB4.out, HGD.out.1, HGD.out.2.1⟩
        case measure => simp [iOf']; omega
      case pos =>
      have hd2 : decide (len1 ≤ j) = false := decide_eq_false (by omega)
      obtain ⟨al, rfl, hall, hac⟩ := (HI.out.below HB4.out) (by omega)
      have hz0 := hac j hj1
      have HZ4 := Lib.hid hz0
      have HAL : Hid ((al.add j).block < w.heap.size) := Lib.hid (by
        obtain ⟨al', ea, hl', -⟩ := HI.out (by omega)
        injection ea with ea
        subst ea
        rw [block_of_add]; exact hl')
      clear hall hac hz0
      generalize z1 j = zj at *
      have HXG : Hid (w.heap.size ≤ bx) := Lib.hid (HXW.out)
      go_upto_region 13 with fail
      refine wp_region_np ?_
      refine wp_region_held_drew (S := fun W => Blk W bw 40 #[.slice A2 n2 c2, .int .i64 (k : Int), .slice B V.length d] ∧ W.cell? (al.add j) = some (.int .i64 zj)) (by kernel_rfl) (show Blk W4.drew bw 40 #[.slice A2 n2 c2, .int .i64 (k : Int), .slice B V.length d] ∧ W4.drew.cell? (al.add j) = some (.int .i64 zj) from ⟨HBW4.out, HZ4.out⟩) (fun hHeld => ?_)
      generalize hv0 : W4.drew = U0 at *
      have HX5 : Hid (Blk U0 bx 40 #[.slice A2 n2 c2, .int .i64 (k : Int), .slice B V.length d]) := Lib.hid (hv0 ▸ HX4.out)
      have HL5 : Hid (Rd U0 (fun x => S3 x ∨ x = bw ∨ x = bx) 6 A2 n2 (cellsOf l2)) := Lib.hid (hv0 ▸ HL4.out)
      have HV5 : Hid (Rd U0 (fun x => S3 x ∨ x = bw ∨ x = bx) 1 B V.length (intsOf V)) := Lib.hid (hv0 ▸ HV4.out)
      have HR5 : Hid (Rr U0 S3 r l2 k V) := Lib.hid (hv0 ▸ HR4.out.below (Below.refl _ _).drew)
      have HB5 : Hid (Below w.heap.size w U0) := Lib.hid (hv0 ▸ HB4.out.drew)
      have HS5 : Hid (∀ x, S3 x → w.heap.size ≤ x ∧ x < U0.heap.size) := Lib.hid (hv0 ▸ HS4.out)
      clear hv0 HX4 HL4 HV4 HR4 HB4 HS4 HBW4 HZ4
      refine wpAnyH_takeAt (i := 0) (d := 54) (v := ?vq24x) rfl rfl (by kernel_rfl) (by kernel_rfl) (by kernel_rfl) (fun _ _ _ h => h) (Or.inl ⟨by rfl, ?hyq24x⟩) hHeld ?_
      case hyq24x =>
        intro W hSw
        have hr := Blk.three hSw.1; obtain ⟨r0, r1, r2⟩ := hr; clear hSw
        (go_simp; try with_reducible rfl)
      simp only [List.setIfInBounds_toArray, List.set_cons_zero, List.set_cons_succ]
      refine wpAnyH_takeAt (i := 1) (d := 55) (v := ?vq25x) rfl rfl (by kernel_rfl) (by kernel_rfl) (by kernel_rfl) (fun _ _ _ h => h) (Or.inl ⟨by rfl, ?hyq25x⟩) hHeld ?_
      case hyq25x =>
        intro W hSw
        clear hSw
        (go_simp; try with_reducible rfl)
      simp only [List.setIfInBounds_toArray, List.set_cons_zero, List.set_cons_succ]
      refine wpAnyH_takeAt (i := 2) (d := 56) (v := ?vq26x) rfl rfl (by kernel_rfl) (by kernel_rfl) (by kernel_rfl) (fun _ _ _ h => h) (Or.inl ⟨by rfl, ?hyq26x⟩) hHeld ?_
      case hyq26x =>
        intro W hSw
        clear hSw
        (go_simp; try with_reducible rfl)
      simp only [List.setIfInBounds_toArray, List.set_cons_zero, List.set_cons_succ]
      refine wpAnyH_takeAt (i := 3) (d := 57) (v := ?vq27x) rfl rfl (by kernel_rfl) (by kernel_rfl) (by kernel_rfl) (fun _ _ _ h => h) (Or.inl ⟨by rfl, ?hyq27x⟩) hHeld ?_
      case hyq27x =>
        intro W hSw
        clear hSw
        (go_simp; try with_reducible rfl)
      simp only [List.setIfInBounds_toArray, List.set_cons_zero, List.set_cons_succ]
      refine wpAnyH_takeAt (i := 4) (d := 58) (v := ?vq28x) rfl rfl (by kernel_rfl) (by kernel_rfl) (by kernel_rfl) (fun _ _ _ h => h) (Or.inl ⟨by rfl, ?hyq28x⟩) hHeld ?_
      case hyq28x =>
        intro W hSw
        have hz := hSw.2; clear hSw
        (go_simp; try with_reducible rfl)
      simp only [List.setIfInBounds_toArray, List.set_cons_zero, List.set_cons_succ]
      refine wpAnyH_ready (rs := [5]) (by kernel_rfl) (by simp) (AllReadyH.cons rfl (fun K hK => ?_) AllReadyH.nil)
      go_simp
      refine (refTo_any (X := fun x => S3 x ∨ x = bw ∨ x = bx) (c := c2) (k := k) (d := d) HL5.out (by omega) hcn.1 HGD.out.1.allE HV5.out (by omega) (fun x hx => by
        rcases hx with q | q | q
        · exact (HS5.out x q).2
        · rw [q]; exact hHeld.1.lt
        · rw [q]; exact HX5.out.lt) zj).mono ?_
      rintro x U1 hq
      obtain ⟨k2, V2, B2, d2, At, ct, F, er, rfl, hF1, hV1, hO, hb1⟩ := hq.out HN2.out HV5.out (fun x hx => by
        rcases hx with q | q | q
        · exact (HS5.out x q).2
        · rw [q]; exact hHeld.1.lt
        · rw [q]; exact HX5.out.lt)
      dsimp only
      have hX1 := HX5.out.below hb1 HX5.out.lt
      have hL1 := HL5.out.below hb1
      have hR1 := HR5.out.below hb1
      have hBB := HB5.out.trans (hb1.mono HB5.out.size)
      have hHeld2 : Blk U1 bw 40 #[.slice A2 n2 c2, .int .i64 (k : Int), .slice B V.length d] ∧ U1.cell? (al.add j) = some (.int .i64 zj) := ⟨hHeld.1.below hb1 hHeld.1.lt, (World.cell?_of_block (hb1.block _ (Nat.lt_of_lt_of_le HAL.out HB5.out.size))).trans hHeld.2⟩
      have HS6 : Hid (∀ x, S3 x → w.heap.size ≤ x ∧ x < U1.heap.size) := Lib.hid (fun x hx => by have := HS5.out x hx; have := hb1.size; omega)
      refine hK.out _ _ hHeld2 (fun hHeld => ?_)
      clear hK K hHeld2 hq hb1 HX5 HL5 HV5 HR5 HB5 HS5
      try simp only [List.setIfInBounds_toArray, List.set_cons_zero, List.set_cons_succ]
      refine wpAnyH_takeAt (i := 6) (d := 53) (v := ?vq29x) rfl rfl (by kernel_rfl) (by kernel_rfl) (by kernel_rfl) (fun _ _ _ h => h) (Or.inl ⟨by rfl, ?hyq29x⟩) hHeld ?_
      case hyq29x =>
        intro W hSw
        clear hSw
        (go_simp; try with_reducible rfl)
      simp only [List.setIfInBounds_toArray, List.set_cons_zero, List.set_cons_succ]
      refine wpAnyH_takeAt (i := 7) (d := 60) (v := ?vq30x) rfl rfl (by kernel_rfl) (by kernel_rfl) (by kernel_rfl) (fun _ _ _ h => h) (Or.inl ⟨by rfl, ?hyq30x⟩) hHeld ?_
      case hyq30x =>
        intro W hSw
        clear hSw
        (go_simp; try with_reducible rfl)
      simp only [List.setIfInBounds_toArray, List.set_cons_zero, List.set_cons_succ]
      refine wpAnyH_takeAt (i := 8) (d := 61) (v := ?vq31x) rfl rfl (by kernel_rfl) (by kernel_rfl) (by kernel_rfl) (fun _ _ _ h => h) (Or.inl ⟨by rfl, ?hyq31x⟩) hHeld ?_
      case hyq31x =>
        intro W hSw
        clear hSw
        (go_simp; try with_reducible rfl)
      simp only [List.setIfInBounds_toArray, List.set_cons_zero, List.set_cons_succ]
      refine wpAnyH_takeAt (i := 9) (d := 62) (v := ?vq32x) rfl rfl (by kernel_rfl) (by kernel_rfl) (by kernel_rfl) (fun _ _ _ h => h) (Or.inl ⟨by rfl, ?hyq32x⟩) hHeld ?_
      case hyq32x =>
        intro W hSw
        clear hSw
        (go_simp; try with_reducible rfl)
      simp only [List.setIfInBounds_toArray, List.set_cons_zero, List.set_cons_succ]
      refine wpAnyH_ready (rs := [10]) (by kernel_rfl) (by simp) (AllReadyH.cons rfl (fun K hK => ?_) AllReadyH.nil)
      refine step_store_blk (by rfl) (by rfl) 40 _ _ (by rfl) bx _ #[.slice A2 n2 c2, .int .i64 (k2 : Int), .slice B2 V2.length d2] (by rfl) (by rfl) 40 hX1 (by rfl) (by kernel_rfl) (by simp [Value.oneCell']) ?_
      intro U2 hX hg hs
      have hTx : Turn (fun x => x = bx) U1 U2 := Turn.of_grown hg (fun r e => by injection e with e; exact e.symm)
      have HL6 := Lib.hid (hL1.keep hTx (fun b _ q => .inr (.inr q)))
      have HV6 := Lib.hid (hV1.keep hTx (fun b _ q => .inr (.inr q)))
      have HF6 := Lib.hid (hF1.keep hTx (fun b _ q => .inr (.inr q)))
      have HR6 := Lib.hid (hR1.keep hTx (fun x hx q => HNW.out.2 (q ▸ hx)))
      have HX6 := Lib.hid hX
      have hbxw : w.heap.size ≤ bx := by have := hBB.size; exact HXG.out
      have HB6 := Lib.hid (hBB.trans (hTx.below hBB.size (fun x q => by rw [q]; exact HXG.out)))
      have HS7 : Hid (∀ x, S3 x → w.heap.size ≤ x ∧ x < U2.heap.size) := Lib.hid (fun x hx => by have := HS6.out x hx; have := hTx.size; omega)
      have HO := Lib.hid hO
      have hHeld2 : Blk U2 bw 40 #[.slice A2 n2 c2, .int .i64 (k : Int), .slice B V.length d] ∧ U2.cell? (al.add j) = some (.int .i64 zj) := ⟨hHeld.1.keep hTx HBX.out.symm, (hTx.cell (p := al.add j) (Nat.lt_of_lt_of_le HAL.out hBB.size) (fun q => by have := HAL.out; have := HXG.out; omega)).trans hHeld.2⟩
      refine hK.out _ _ hHeld2 (fun hHeld => ?_)
      clear hK K hHeld2 hX hg hs hTx hX1 hL1 hV1 hF1 hR1 hBB HS6 hO hbxw
      refine wpAnyH_takeAt (i := 11) (d := 10) (v := ?vq33x) rfl rfl (by kernel_rfl) (by kernel_rfl) (by kernel_rfl) (fun _ _ _ h => h) (Or.inl ⟨by rfl, ?hyq33x⟩) hHeld ?_
      case hyq33x =>
        intro W hSw
        clear hSw
        (go_simp; try with_reducible rfl)
      simp only [List.setIfInBounds_toArray, List.set_cons_zero, List.set_cons_succ]
      refine wpAnyH_takeAt (i := 12) (d := 11) (v := ?vq34x) rfl rfl (by kernel_rfl) (by kernel_rfl) (by kernel_rfl) (fun _ _ _ h => h) (Or.inl ⟨by rfl, ?hyq34x⟩) hHeld ?_
      case hyq34x =>
        intro W hSw
        clear hSw
        (go_simp; try with_reducible rfl)
      simp only [List.setIfInBounds_toArray, List.set_cons_zero, List.set_cons_succ]
      refine wpAnyH_done (by kernel_rfl) ?_ _
      have HBW6 := Lib.hid hHeld.1
      have hz6 := hHeld.2
      clear hHeld
      have hFl : F.length ≤ 61 := by have := HO.out.len; omega
      have hto6 := to_any HR6.out (fun x hx => (HS7.out x hx).2) (fun q => by have := (HS7.out 0 q).1; have := H0.out; omega) (HNG.out _ HB6.out) HGD.out.2.1.1 HGD.out.2.1.lt (by have := HGD.out.2.1.len; omega) zj
      go_wp2_with fail
      refine hto6.mono ?_
      rintro x U3 hP
      obtain ⟨T, gv, rfl, hg7, hgo7, hr7, hT7, ht7, hto7⟩ := to_both hP HO.out HGD.out.2.1 HGD.out.1.fine
      obtain ⟨Ag, cg, rfl, -⟩ := ints_form hg7
      have HL7 := Lib.hid ((HL6.out.wide (X' := fun x => S3 x ∨ (x = bw ∨ x = bx ∨ U2.heap.size ≤ x)) (fun b hb q => q.imp id (fun q => q.elim .inl (fun q => q.elim .inr (fun q => absurd q (by omega)))))).turned ht7 hT7)
      have HV7 := Lib.hid ((HV6.out.wide (X' := fun x => S3 x ∨ (x = bw ∨ x = bx ∨ U2.heap.size ≤ x)) (fun b hb q => q.imp id (fun q => q.elim .inl (fun q => q.elim .inr (fun q => absurd q (by omega)))))).turned ht7 hT7)
      have HF7 := Lib.hid ((HF6.out.wide (X' := fun x => S3 x ∨ (x = bw ∨ x = bx ∨ U2.heap.size ≤ x)) (fun b hb q => q.imp id (fun q => q.elim .inl (fun q => q.elim .inr (fun q => absurd q (by omega)))))).turned ht7 hT7)
      have HX7 := Lib.hid (HX6.out.keep ht7 HNW.out.2)
      have HBW7 := Lib.hid (HBW6.out.keep ht7 HNW.out.1)
      have HB7 := Lib.hid (HB6.out.trans (ht7.below HB6.out.size (fun x hx => (HS7.out x hx).1)))
      have HS8 : Hid (∀ x, T x → w.heap.size ≤ x ∧ x < U3.heap.size) := Lib.hid (fun x hx => by
        have hs := ht7.size
        have h3 := HB6.out.size
        rcases hT7 x hx with q | q
        · have := HS7.out x q; exact ⟨this.1, by omega⟩
        · exact ⟨by omega, q.2⟩)
      have HNT : Hid (¬ T bw ∧ ¬ T bx) := Lib.hid ⟨fun q => by
        rcases hT7 _ q with q | q
        · exact HNW.out.1 q
        · have := HBW6.out.lt; omega, fun q => by
        rcases hT7 _ q with q | q
        · exact HNW.out.2 q
        · have := HX6.out.lt; omega⟩
      have HGO := Lib.hid (And.intro hg7 hgo7)
      have HR7 := Lib.hid hr7
      have HTO7 := Lib.hid hto7
      have HU2 : Hid (bw < U2.heap.size ∧ bx < U2.heap.size) := Lib.hid ⟨HBW6.out.lt, HX6.out.lt⟩
      have hV2l : V2.length ≤ 61 := by have := hto7.len; omega
      clear hto6 hP hg7 hgo7 hr7 hT7 ht7 hto7 hz6 HL6 HV6 HF6 HX6 HBW6 HB6 HS7 HR6
      go_wp2_with (with_reducible refine at_load 40 rfl ?_)
      refine Stop.go (wpList_load_blk (by rfl) 40 _ (by rfl) bx (by rfl) 40 _ HX7.out _ und40 (by rfl) (by kernel_rfl) ?_)
      go_wp2_with (with_reducible refine at_store 40 rfl ?_)
      refine Stop.go (wpList_store_blk (by rfl) (by rfl) 40 _ _ (by rfl) bw _ #[.slice A2 n2 c2, .int .i64 (k2 : Int), .slice B2 V2.length d2] (by rfl) (by rfl) 40 HBW7.out (by rfl) (by kernel_rfl) (by simp [Value.oneCell']) ?_)
      intro U4 hB8 hg8 hs8
      have hT8 : Turn (fun x => x = bw) U3 U4 := Turn.of_grown hg8 (fun r e => by injection e with e; exact e.symm)
      have HL8 := Lib.hid (HL7.out.keep hT8 (fun b _ q => .inr (.inl q)))
      have HV8 := Lib.hid (HV7.out.keep hT8 (fun b _ q => .inr (.inl q)))
      have HF8 := Lib.hid (HF7.out.keep hT8 (fun b _ q => .inr (.inl q)))
      have HR8 := Lib.hid (HR7.out.keep hT8 (fun x hx q => HNT.out.1 (q ▸ hx)))
      have HG8 := Lib.hid (And.intro (HGO.out.1.keep hT8 (fun g hg q => by have := HGO.out.2 g hg; have := HU2.out.1; omega)) HGO.out.2)
      have HB8 := Lib.hid (HB7.out.trans (hT8.below HB7.out.size (fun x q => by rw [q]; exact HGD.out.2.2)))
      have HS9 : Hid (∀ x, T x → w.heap.size ≤ x ∧ x < U4.heap.size) := Lib.hid (fun x hx => by have := HS8.out x hx; have := hT8.size; omega)
      have HBW8 := Lib.hid hB8
      clear hB8 hg8 hs8 hT8 HL7 HV7 HF7 HR7 HGO HB7 HS8 HX7 HBW7
      have hsa := sameI_any (c := cg) (d := ct) (HG8.out.1.rd (X := No) (fun _ _ h => h)) HF8.out (by omega) (by omega)
      rw [decide_eq_true rfl] at hsa
      have hee : (er != er) = false := by simp
      go_wp2_with fail
      refine hsa.mono ?_
      rintro x U5 ⟨rfl, q5, rfl⟩
      have hdr := below_drewN (Below.refl U4.heap.size U4) q5
      have HS10 : Hid (RS w (U4.drewN q5) T r l2 k2 V2 bw A2 n2 c2 B2 d2 ∧ Rd (U4.drewN q5) (fun x => T x ∨ x = bw ∨ x = bx ∨ U2.heap.size ≤ x) 6 A2 n2 (cellsOf l2) ∧ Rd (U4.drewN q5) (fun x => T x ∨ x = bw ∨ x = bx ∨ U2.heap.size ≤ x) 1 B2 V2.length (intsOf V2)) := Lib.hid
        ⟨RS.low ⟨HR8.out, HS9.out, HNT.out.1, HGD.out.2.2, HBW8.out, HL8.out.wide (fun b _ q => q.imp id .inl), hcn.1, HV8.out.wide (fun b _ q => q.imp id .inl), HB8.out, HGD.out.1, HTO7.out⟩ hdr, HL8.out.below hdr, HV8.out.below hdr⟩
      have HG9 := Lib.hid (And.intro (HG8.out.1.below hdr) HG8.out.2)
      clear hsa hdr HL8 HV8 HF8 HR8 HG8 HB8 HS9 HBW8
      generalize U4.drewN q5 = U5 at *
      go_wp2_with fail
      refine (num_any _ _).mono ?_
      rintro x w4 ⟨rfl, rfl⟩
      have his := HS10.out.1.is (by omega)
      obtain ⟨r0, r1, r2⟩ := HS10.out.1.blk.three
      go_wp2_with fail
      refine his.mono ?_
      rintro x U6 ⟨rfl, hb6⟩
      have HS11 : Hid (RS w U6 T r l2 k2 V2 bw A2 n2 c2 B2 d2 ∧ Rd U6 (fun x => T x ∨ x = bw ∨ x = bx ∨ U2.heap.size ≤ x) 6 A2 n2 (cellsOf l2) ∧ Rd U6 (fun x => T x ∨ x = bw ∨ x = bx ∨ U2.heap.size ≤ x) 1 B2 V2.length (intsOf V2)) := Lib.hid ⟨HS10.out.1.low hb6, HS10.out.2.1.below hb6, HS10.out.2.2.below hb6⟩
      have HG11 := Lib.hid (And.intro (HG9.out.1.below hb6) HG9.out.2)
      have HTH : Hid (0 < F.length → ∃ g, Ag = some ⟨g, 0, none⟩ ∧ Value.ownBlock (.slice Ag F.length cg) = some g ∧ U6.there g 0 F.length) := Lib.hid (fun h => by
        obtain ⟨g, h1, h2, -, h3⟩ := HG11.out.1.thereI h
        exact ⟨g, h1, h2, h3⟩)
      have HGB : Hid (∀ b, Value.ownBlock (.slice Ag F.length cg) = some b → U2.heap.size ≤ b ∧ ¬ T b) := Lib.hid HG11.out.2
      clear his hb6 r0 r1 r2 HS10 HG9 HG11
      generalize F.length = nf at *
      go_wp2_with fail
      go_loopw [14] (fun i wv => ∃ p : Nat, p ≤ nf ∧ i = .int .i64 p ∧ Turn (fun x => Value.ownBlock (.slice Ag nf cg) = some x) U6 wv ∧ (0 < nf → ∃ g, Ag = some ⟨g, 0, none⟩ ∧ Value.ownBlock (.slice Ag nf cg) = some g ∧ wv.there g 0 nf)) (fun i _ => nf - (iOf' i).toNat)
      case atStart => exact ⟨0, by omega, rfl, Turn.refl _ _, HTH.out⟩
      case round =>
        clear HTH
        obtain ⟨p, hp, rfl, htp, hth⟩ := hrel
        have HTP := Lib.hid htp
        have HTH := Lib.hid hth
        clear htp hth
        by_cases hpn : p < nf
        case neg =>
          have hd3 : decide (p < nf) = false := by simpa using hpn
          have HF : Hid (RS w wr T r l2 k2 V2 bw A2 n2 c2 B2 d2) := Lib.hid (by
            have h := HS11.out.1
            have hbg : ∀ b, Value.ownBlock (.slice Ag nf cg) = some b → U2.heap.size ≤ b ∧ ¬ T b := HGB.out
            have hsz := HTP.out.size
            have hw : w.heap.size ≤ U2.heap.size := by have := HU2.out.1; have := h.bg; omega
            exact ⟨h.rr.keep HTP.out (fun x hx q => (hbg x q).2 hx), fun x hx => ⟨(h.lt x hx).1, Nat.lt_of_lt_of_le (h.lt x hx).2 hsz⟩, h.bs, h.bg, h.blk.keep HTP.out (fun q => by have := (hbg _ q).1; have := HU2.out.1; omega),
              (HS11.out.2.1.keep HTP.out (fun b _ q => .inr (.inr (.inr (hbg b q).1)))).wide (fun b _ q => q.imp id .inl), h.nc, (HS11.out.2.2.keep HTP.out (fun b _ q => .inr (.inr (.inr (hbg b q).1)))).wide (fun b _ q => q.imp id .inl),
              h.bb.trans (HTP.out.below h.bb.size (fun x q => by have := (hbg x q).1; omega)), h.gd, h.to⟩)
          clear hpn
          go_wp2_with fail
          go_round
          case rel => exact ⟨j + 1, by omega, by go_num, T, l2, k2, V2, A2, n2, c2, B2, d2, by omega, HF.out⟩
          case measure => simp [iOf']; omega
        case pos =>
          have hd3 : decide (p < nf) = true := by simpa using hpn
          obtain ⟨g, rfl, hog, hth⟩ := HTH.out (by omega)
          obtain ⟨hs1, hs2⟩ := hth p hpn
          rw [Nat.zero_add] at hs1 hs2
          obtain ⟨u, hu⟩ := Option.isSome_iff_exists.1 hs1
          have hT2 : Turn (fun x => Value.ownBlock (.slice (some ⟨g, 0, none⟩) nf cg) = some x) U6 (wr.setCell ⟨g, p, none⟩ (.int .i64 (-9))) := HTP.out.setCell (p := ⟨g, p, none⟩) (fun _ => hog) _
          have HT2 := Lib.hid hT2
          have HTH2 : Hid ((wr.setCell ⟨g, p, none⟩ (.int .i64 (-9))).there g 0 nf) := Lib.hid (there_set hth)
          have HOG := Lib.hid hog
          clear hs1 hth hog hT2
          go_wp2_with fail
          go_round
          case rel => exact ⟨p + 1, by omega, by go_num, HT2.out, fun _ => ⟨g, rfl, HOG.out, HTH2.out⟩⟩
          case measure => simp [iOf']; omega
set_option maxRecDepth 100000 in
theorem lifted (os : Os) (started : os.Started) (H : Type) (enc : TypeId × Value → H) :
    ReturnsInHanded {} Tryd.checked os 5 .any (fun w args => (Rows.visibleReadsSpec.pre enc Tryd.prog Tryd.f5 [] false w args ∧ laidMetH Tryd.prog [("waystation/visible.nobodys", Rows.laid_waystation_visible_nobodys)] w) ∧ sizedMet enc Tryd.prog Tryd.f5 (OpenSpec.ofChange Rows.visibleReadsSpec) false w args)
      (Rows.visibleReadsSpec.post enc Tryd.prog Tryd.f5 false true false false) := by
  refine returnsInHanded_of_change_and (C := Tryd.checked) (X := fun w _ => laidMetH Tryd.prog [("waystation/visible.nobodys", Rows.laid_waystation_visible_nobodys)] w) (fun _ _ _ hh h => h.of_heap hh) own started (by kernel_rfl) Tryd.func5
    (ChangeSpec.witness_shaped (enc := enc) (C := Tryd.checked) (os := os) (X := fun w _ => laidMetH Tryd.prog [("waystation/visible.nobodys", Rows.laid_waystation_visible_nobodys)] w) false (World.doorLaid Tryd.prog 400 os) #[.slice none 0 0, .slice none 0 0] 8 rfl (World.shaped_of_RefB (by kernel_rfl) (by kernel_rfl)) (by kernel_rfl) (by kernel_rfl) (by kernel_rfl) (door_met os _)) ?_
  intro W base args ds gs before hval0 hW _ _ hL _
  have hval : ∀ (j : Nat) t v, Tryd.f5.params[j]? = some t → args[j]? = some v → Value.okWide Tryd.prog W .any base t v := hval0
  have hW' := hW
  obtain ⟨p, q, hA0, hV, rfl, hfz, hnd⟩ := hW
  have hA : DataW.TrodAll enc Tryd.prog W 0 (fun _ => true) true Tryd.f5.params.toList args.toList ds p := hA0
  rw [Tryd.params5] at hA hval
  obtain ⟨v0, vs0, d0, ds0, p0, q0, hargs, rfl, rfl, h0, r0⟩ := trodAll_cons hA
  obtain ⟨v1, vs1, d1, ds1, p1, q1, rfl, rfl, rfl, h1, r1⟩ := trodAll_cons r0
  obtain ⟨rfl, rfl, rfl⟩ := trodAll_nil r1
  obtain rfl : args = #[v0, v1] := by cases args; simp_all
  obtain ⟨rfl, rfl⟩ := trodVars_none hV
  have k0 := h0
  have lt0 : ∀ x ∈ p0, x.block < W.heap.size := by obtain ⟨m, hm⟩ := k0; exact DataW.trod_lt m _ _ _ hm
  obtain ⟨a0, len0, cap0, rfl⟩ := okWide_slice Tryd.underlying22 (hval 0 22 v0 rfl rfl)
  obtain ⟨l0, b0, hc0, hm0, he0⟩ := open_ents h0
  have k1 := h1
  have lt1 : ∀ x ∈ p1, x.block < W.heap.size := by obtain ⟨m, hm⟩ := k1; exact DataW.trod_lt m _ _ _ hm
  obtain ⟨a1, len1, cap1, z1, rfl, b1, hc1, hm1⟩ := open_24 h1 (slice_one Tryd.underlying24 (hval 1 24 v1 rfl rfl))
  have hN := nob_of_laid hL
  clear hA0 hval0
  refine (walk a0 len0 cap0 l0 a1 len1 cap1 z1 W b0 hc0 hm0 he0 b1 hc1 hm1 hN).mono fun e W' ⟨he, bel⟩ => ?_
  subst he
  exact ⟨_, rfl, _, _, _, [], _, [], hW', trodAll_mk1 (shut_bool Tryd.underlying4 _), (trodAll_cons_mk (Below.trod laidOut (by kernel_rfl) (of_decide_eq_true (by kernel_rfl)) k0 bel lt0) (trodAll_cons_mk (Below.trod laidOut (by kernel_rfl) (of_decide_eq_true (by kernel_rfl)) k1 bel lt1) trodAll_mk0)), rfl, bel.frame _, fun h => by cases h⟩
theorem over : Rows.VisibleReadsSaid :=
  OpenClaim.holds_of_wide 5 Tryd.f5 rfl rfl rfl rfl rfl rfl rfl ⟨rfl, rfl, rfl, rfl, rfl⟩ rfl rfl rfl rfl rfl (by kernel_rfl) Tryd.func5 (by kernel_rfl)
    (of_decide_eq_true (by kernel_rfl)) (by unfold Func.isWrapper; first | (rw [if_pos (by decide +kernel)]; kernel_rfl) | (rw [if_neg (by decide +kernel)]; exact ⟨rfl, rfl⟩))
    (fun os started H enc _ => lifted os started H enc)
theorem proved : Rows.VisibleReadsCardSaid :=
  Claim7.holds_tied_plain_at .later [] [.data] true (true, "e872fbbcbb45a318d4a21952f2d33522ec05cad25393f9b523959ddf34fff248") true
    over (fun _ h => by cases h) (by kernel_rfl) (fun _ h => by cases h) visibleReads_row_tie rfl ⟨rfl, rfl⟩ (by kernel_rfl) rfl
    (fun f fn hf hfn => by
      obtain rfl : f = 5 := Option.some.inj ((show Tryd.prog.funcNamed "waystation/waystationlaw09.VisibleReads" = some 5 by kernel_rfl).symm.trans hf) |>.symm
      obtain rfl : fn = Tryd.f5 := (Option.some.inj (Tryd.func5.symm.trans hfn)).symm
      exact ⟨by kernel_rfl, fun j t ht => by
        rw [Tryd.params5] at ht
        have hm : t ∈ [22, 24] := by simpa using Array.mem_of_getElem? ht
        have hall : ([22, 24].all fun u => !Tryd.prog.wantsStandIn u) = true := by kernel_rfl
        exact (show Tryd.prog.wantsStandIn t = false by simpa using List.all_eq_true.1 hall t hm)⟩)
    (by kernel_rfl)
end Go.Proofs.YthcphoijanebhaaDoor.visibleReads
namespace Go.Proofs.YthcphoijanebhaaDoor
theorem visibleReads_holds : Rows.VisibleReadsCardSaid := visibleReads.proved
#print axioms visibleReads_holds
end Go.Proofs.YthcphoijanebhaaDoor
