/-
  A copy of a reader is of the same and goes on apart, as the document says. For every input.
-/
import Derived.Test.YthcphoijanebhaaDoorCopy9
import Derived.Test.YthcphoijanebhaaDoorWhole9
import Derived.Test.YthcphoijanebhaaDoorOpen
import Derived.Test.YthcphoijanebhaaDoorLaid9
import Derived.Test.YthcphoijanebhaaDoorRows
import Derived.Test.YthcphoijanebhaaDoorTie
import Derived.Test.YthcphoijanebhaaDoorCards
import Derived.WalkKit
import Derived.ProofKit
import Derived.OpenShut
import Derived.ShutString
import Derived.ChangeOld
import Derived.Below
import Derived.SevenTiedAt
namespace Go.Proofs.YthcphoijanebhaaDoor.visibleCopies
open Go.ChangeShapes Go.WideShapes Go.ChangeAt Go.RowKit Go.Maps
set_option linter.unusedVariables false
theorem own : ownKnob Tryd.prog.godebug = none := by kernel_rfl
theorem laidOut : laidOutB Tryd.prog = true := by kernel_rfl
/-- Two readers apart. -/
structure C2 (w W : World) (S T : Nat → Prop) (r : Nat) (l : List Ent) (k : Nat) (V : List Nat) (z : Nat) (l' : List Ent) (k' : Nat) (V' : List Nat) : Prop where
  r1 : Rr W S r l k V
  r2 : Rr W T z l' k' V'
  lt : ∀ x, S x ∨ T x → w.heap.size ≤ x ∧ x < W.heap.size
  dj : ∀ x, S x → ¬ T x
  bb : Below w.heap.size w W
section
variable {w W W' : World} {S T S' T' Y : Nat → Prop} {r k z k' e n q k2 : Nat} {l l' l2 : List Ent} {V V' V2 : List Nat} {A : Option Addr} {css : List (Array Value)}
theorem C2.low (h : C2 w W S T r l k V z l' k' V') (hb : Below W.heap.size W W') : C2 w W' S T r l k V z l' k' V' :=
  ⟨h.r1.below hb, h.r2.below hb, fun x hx => ⟨(h.lt x hx).1, Nat.lt_of_lt_of_le (h.lt x hx).2 hb.size⟩, h.dj, h.bb.trans (hb.mono h.bb.size)⟩
theorem C2.store (h : C2 w W S T r l k V z l' k' V') (ht : Turn (fun x => x = q) W W') (hq : ¬ (S q ∨ T q)) (hw : w.heap.size ≤ q) : C2 w W' S T r l k V z l' k' V' :=
  ⟨h.r1.keep ht (fun x hx e => hq (.inl (e ▸ hx))), h.r2.keep ht (fun x hx e => hq (.inr (e ▸ hx))), fun x hx => ⟨(h.lt x hx).1, Nat.lt_of_lt_of_le (h.lt x hx).2 ht.size⟩, h.dj, h.bb.trans (ht.below h.bb.size (fun x e => by omega))⟩
theorem C2.more1 (h : C2 w W S T r l k V z l' k' V') (ht : Turn S W W') (hS : ∀ x, S' x → More S W W' x) : ∀ x, (S' x ∨ T x) → More (fun x => S x ∨ T x) W W' x := fun x hx => by
  rcases hx with q | q
  · rcases hS x q with q | q
    · exact .inl (.inl q)
    · exact .inr q
  · exact .inl (.inr q)
theorem C2.turn1 (h : C2 w W S T r l k V z l' k' V') (ht : Turn S W W') (hr : Rr W' S' r l2 k2 V2) (hS : ∀ x, S' x → More S W W' x) : C2 w W' S' T r l2 k2 V2 z l' k' V' := by
  have hsz := ht.size
  have hbz := h.bb.size
  refine ⟨hr, h.r2.keep ht (fun x hx q => h.dj x q hx), fun x hx => ?_, fun x hx ht' => ?_, h.bb.trans (ht.below hbz (fun x hx => (h.lt x (.inl hx)).1))⟩
  · rcases hx with q | q
    · rcases hS x q with q | q
      · have := h.lt x (.inl q); exact ⟨this.1, by omega⟩
      · exact ⟨by omega, q.2⟩
    · have := h.lt x (.inr q); exact ⟨this.1, by omega⟩
  · rcases hS x hx with q | q
    · exact h.dj x q ht'
    · have := (h.lt x (.inr ht')).2; omega
theorem C2.swap (h : C2 w W S T r l k V z l' k' V') : C2 w W T S z l' k' V' r l k V :=
  ⟨h.r2, h.r1, fun x hx => h.lt x hx.symm, fun x hx q => h.dj x q hx, h.bb⟩
theorem Rd.swap (h : Rd W (fun x => (S x ∨ T x) ∨ Y x) e A n css) : Rd W (fun x => (T x ∨ S x) ∨ Y x) e A n css := h.wide (fun b _ q => q.imp Or.symm id)
theorem turn_or (ht : Turn S W W') : Turn (fun x => S x ∨ T x) W W' := ht.mono (fun _ _ q => .inl q)
theorem not_more (h : ¬ (S q ∨ T q)) (hq : q < W.heap.size) (hS : ∀ x, S' x → More S W W' x) : ¬ (S' q ∨ T q) := fun p => by
  rcases p with p | p
  · rcases hS _ p with p | p
    · exact h (.inl p)
    · omega
  · exact h (.inr p)
end
set_option maxHeartbeats 16000000 in
set_option maxRecDepth 100000 in
theorem walk (a0 : Option Addr) (len0 cap0 : Nat) (l0 : List Ent) (n1 : Int) (e2 : Ent) (n3 : Int) (w : World) (b0 : Rd w No 6 a0 len0 (cellsOf l0)) (hc0 : len0 ≤ cap0) (hm0 : cap0 ≤ maxLen) (he0 : ∀ e ∈ l0, In64P e.key) (hn1 : -9223372036854775808 ≤ n1 ∧ n1 ≤ 9223372036854775807) (he2 : In64P e2.key) (hn3 : -9223372036854775808 ≤ n3 ∧ n3 ≤ 9223372036854775807) (hN : Nob w) :
    Calls Tryd.prog 6 #[.slice a0 len0 cap0, .int .i64 n1, e2.val, .int .i64 n3] w fun e w' => e = .returned (.bool true) ∧ Below w.heap.size w w' := by
  have hl0 := b0
  have hal := (Below.refl w.heap.size w).alloc (Nat.le_refl _) (.cells #[.int .i64 e2.epoch, .int .i64 e2.id, .int .i64 e2.num, .int .i64 e2.seq, .int .i64 e2.kind, .int .i64 e2.value] 45)
  have HB0 := Lib.hid hal
  have HBX : Hid (Blk (w.alloc (.cells #[.int .i64 e2.epoch, .int .i64 e2.id, .int .i64 e2.num, .int .i64 e2.seq, .int .i64 e2.kind, .int .i64 e2.value] 45)) w.heap.size 45 #[.int .i64 e2.epoch, .int .i64 e2.id, .int .i64 e2.num, .int .i64 e2.seq, .int .i64 e2.kind, .int .i64 e2.value]) := Lib.hid (Blk.new w 45 _)
  have HR := Lib.hid (b0.below hal)
  have HN := Lib.hid (hN.low hal)
  have HE := Lib.hid (And.intro he0 he2)
  have HL := Lib.hid b0.lenE
  have H0 := Lib.hid (show 0 < (w.alloc (.cells #[.int .i64 e2.epoch, .int .i64 e2.id, .int .i64 e2.num, .int .i64 e2.seq, .int .i64 e2.kind, .int .i64 e2.value] 45)).heap.size by have := hN.2.2; simp)
  clear hl0 hN b0 he0 he2 hm0 hc0 hal
  unfold Ent.val
  unfold Ent.cells
  by_cases h60 : 60 < len0
  · have d1 : decide ((60 : Int) < (len0 : Int)) = true := decide_eq_true (by omega)
    clear h60
    go_enter Tryd.func6, Tryd.ntmps6
    go_wp2_with fail
    refine (works_any HN.out).mono ?_
    rintro r w1 ⟨rfl, hb⟩
    have HB := Lib.hid (HB0.out.trans (hb.mono HB0.out.size))
    clear hb
    go_wp2_with fail
    go_ret
    exact ⟨rfl, HB.out⟩
  have d1 : decide ((60 : Int) < (len0 : Int)) = false := decide_eq_false (by omega)
  have hle : len0 ≤ 60 := by omega
  clear h60
  go_enter Tryd.func6, Tryd.ntmps6
  go_upto_region 1 with fail
  have HBB : Hid (∀ W, Below (w.alloc (.cells #[.int .i64 e2.epoch, .int .i64 e2.id, .int .i64 e2.num, .int .i64 e2.seq, .int .i64 e2.kind, .int .i64 e2.value] 45)).heap.size (w.alloc (.cells #[.int .i64 e2.epoch, .int .i64 e2.id, .int .i64 e2.num, .int .i64 e2.seq, .int .i64 e2.kind, .int .i64 e2.value] 45)) W → Below w.heap.size w W) := Lib.hid (fun W hW => HB0.out.trans (hW.mono HB0.out.size))
  have hbe : w.heap.size < (w.alloc (.cells #[.int .i64 e2.epoch, .int .i64 e2.id, .int .i64 e2.num, .int .i64 e2.seq, .int .i64 e2.kind, .int .i64 e2.value] 45)).heap.size := HBX.out.lt
  generalize hw0 : (w.alloc (.cells #[.int .i64 e2.epoch, .int .i64 e2.id, .int .i64 e2.num, .int .i64 e2.seq, .int .i64 e2.kind, .int .i64 e2.value] 45)) = w0 at *
  clear hw0
  generalize hbee : w.heap.size = be at *
  have HBE := Lib.hid hbe
  clear hbe
  have HNG : Hid (∀ W, Below w0.heap.size w0 W → Nob W) := Lib.hid fun W hb => HN.out.low hb
  go_wp2_with fail
  refine (vnew_any w0).mono ?_
  rintro x w1 ⟨r, rfl, hR1, hb1⟩
  have hS1 : ∀ x, NewB w0 w1 x → w0.heap.size ≤ x ∧ x < w1.heap.size := fun x hx => hx
  have hal := (Below.refl w1.heap.size w1).alloc (Nat.le_refl _) (.cells #[.slice none 0 0, .int .i64 0, .slice none 0 0] 40)
  have HS0 : Hid (RS w0 (w1.alloc (.cells #[.slice none 0 0, .int .i64 0, .slice none 0 0] 40)) (NewB w0 w1) r [] 0 [] w1.heap.size none 0 0 none 0) := Lib.hid
    ⟨hR1.below hal, fun x hx => ⟨(hS1 x hx).1, Nat.lt_of_lt_of_le (hS1 x hx).2 hal.size⟩, fun q => by have := (hS1 _ q).2; omega, hb1.size, Blk.new w1 40 _, Rd.none_, Nat.le_refl _, Rd.none_, hb1.trans (hal.mono hb1.size), GoodL.nil, ToldIs.nil_⟩
  clear hR1 hb1 hal hS1
  go_upto_region 5 with fail
  generalize hw2 : w1.alloc (.cells #[.slice none 0 0, .int .i64 0, .slice none 0 0] 40) = w2 at *
  clear hw2
  generalize hbw : w1.heap.size = bw at *
  clear hbw
  go_wp2_with fail
  go_loopw [11] (fun i wv => ∃ j : Nat, j ≤ len0 ∧ i = .int .i64 j ∧ ∃ S l A n c, l.length ≤ j ∧ RS w0 wv S r l 0 [] bw A n c none 0) (fun i _ => len0 - (iOf' i).toNat)
  case atStart => exact ⟨0, by omega, rfl, _, [], none, 0, 0, Nat.le_refl _, HS0.out⟩
  case round =>
    clear HS0
    obtain ⟨j, hj, rfl, S, l, A, n, c, hlj, hS⟩ := hrel
    have HS := Lib.hid hS
    have HNL := Lib.hid hS.rl.lenE
    have hn60 : n ≤ 60 := by have := HNL.out; omega
    clear hS
    by_cases hlt : j < len0
    case pos =>
      have hd1 : decide (j < len0) = true := by simpa using hlt
      obtain ⟨e, he⟩ : ∃ e, l0[j]? = some e := ⟨_, List.getElem?_eq_getElem (by rw [HL.out]; exact hlt)⟩
      have HEJ := Lib.hid he
      obtain ⟨ad, rfl, -⟩ := (HR.out.below HS.out.bb).ent he
      have hjl : j < len0 := hlt
      have HPD := Lib.hid (rpush1_is e HS.out.gd.allR)
      have HSL : Hid (∀ x, S x ∨ x = bw → x < wr.heap.size) := Lib.hid (fun x hx => hx.elim (fun q => (HS.out.lt x q).2) (fun q => q ▸ HS.out.blk.lt))
      clear he hlt
      go_upto_region 8 with fail
      refine wp_region_np ?_
      refine wp_region_held_drew (S := fun W => Below w0.heap.size w0 W) (by kernel_rfl) (show Below w0.heap.size w0 wr.drew from HS.out.bb.drew) (fun hHeld => ?_)
      have hbV : Below wr.heap.size wr wr.drew := (Below.refl _ _).drew
      generalize hv0 : wr.drew = V0 at *
      clear hv0
      refine wpAnyH_takeAt (i := 1) (d := 39) (v := ?vq0x) rfl rfl (by kernel_rfl) (by kernel_rfl) (by kernel_rfl) (fun _ _ _ h => h) (Or.inl ⟨by rfl, ?hyq0x⟩) hHeld ?_
      case hyq0x =>
        intro W hSw
        clear hSw
        (go_simp; try with_reducible rfl)
      simp only [List.setIfInBounds_toArray, List.set_cons_zero, List.set_cons_succ]
      refine wpAnyH_takeAt (i := 2) (d := 40) (v := ?vq1x) rfl rfl (by kernel_rfl) (by kernel_rfl) (by kernel_rfl) (fun _ _ _ h => h) (Or.inl ⟨by rfl, ?hyq1x⟩) hHeld ?_
      case hyq1x =>
        intro W hSw
        clear hSw
        (go_simp; try with_reducible rfl)
      simp only [List.setIfInBounds_toArray, List.set_cons_zero, List.set_cons_succ]
      refine wpAnyH_takeAt (i := 3) (d := 41) (v := ?vq2x) rfl rfl (by kernel_rfl) (by kernel_rfl) (by kernel_rfl) (fun _ _ _ h => h) (Or.inl ⟨by rfl, ?hyq2x⟩) hHeld ?_
      case hyq2x =>
        intro W hSw
        clear hSw
        (go_simp; try with_reducible rfl)
      simp only [List.setIfInBounds_toArray, List.set_cons_zero, List.set_cons_succ]
      refine wpAnyH_takeAt (i := 4) (d := 42) (v := ?vq3x) rfl rfl (by kernel_rfl) (by kernel_rfl) (by kernel_rfl) (fun _ _ _ h => h) (Or.inl ⟨by rfl, ?hyq3x⟩) hHeld ?_
      case hyq3x =>
        intro W hSw
        obtain ⟨ad2, ea, hadl, -, s0, s1, s2, s3, s4, s5⟩ := (HR.out.below hSw).ent HEJ.out; injection ea with ea; subst ea; clear hSw
        (go_simp; try with_reducible rfl)
      simp only [List.setIfInBounds_toArray, List.set_cons_zero, List.set_cons_succ]
      refine wpAnyH_ready (rs := [0]) (by kernel_rfl) (by simp) (AllReadyH.cons rfl (fun K hK => ?_) AllReadyH.nil)
      obtain ⟨r0, r1, r2⟩ := Blk.three (HS.out.blk.below hbV HS.out.blk.lt)
      go_simp
      refine hK.out _ _ hHeld (fun hHeld => ?_)
      clear hK K r0 r1 r2
      try simp only [List.setIfInBounds_toArray, List.set_cons_zero, List.set_cons_succ]
      refine wpAnyH_ready (rs := [5]) (by kernel_rfl) (by simp) (AllReadyH.cons rfl (fun K hK => ?_) AllReadyH.nil)
      go_simp
      have hpp : Calls Tryd.prog 22 #[.agg #[.slice A n c, .int .i64 0, .slice none 0 0], .agg #[.int .i64 e.epoch, .int .i64 e.id, .int .i64 e.num, .int .i64 e.seq, .int .i64 e.kind, .int .i64 e.value]] V0 _ := refPush_any (X := fun x => S x ∨ x = bw) (c := c) (B := none) (m := 0) (d := 0) (HS.out.rl.below hbV) (by omega) HS.out.nc (fun x hx => Nat.lt_of_lt_of_le (HSL.out x hx) hbV.size) 0 e
      refine hpp.mono ?_
      rintro x V1 ⟨A2, n2, c2, rfl, hL2, hc2, hn2, hb2⟩
      dsimp only
      refine hK.out _ _ (hHeld.trans (hb2.mono hHeld.size)) (fun hHeld => ?_)
      clear hK K hpp
      try simp only [List.setIfInBounds_toArray, List.set_cons_zero, List.set_cons_succ]
      refine wpAnyH_takeAt (i := 6) (d := 37) (v := ?vq4x) rfl rfl (by kernel_rfl) (by kernel_rfl) (by kernel_rfl) (fun _ _ _ h => h) (Or.inl ⟨by rfl, ?hyq4x⟩) hHeld ?_
      case hyq4x =>
        intro W hSw
        clear hSw
        (go_simp; try with_reducible rfl)
      simp only [List.setIfInBounds_toArray, List.set_cons_zero, List.set_cons_succ]
      refine wpAnyH_takeAt (i := 7) (d := 44) (v := ?vq5x) rfl rfl (by kernel_rfl) (by kernel_rfl) (by kernel_rfl) (fun _ _ _ h => h) (Or.inl ⟨by rfl, ?hyq5x⟩) hHeld ?_
      case hyq5x =>
        intro W hSw
        clear hSw
        (go_simp; try with_reducible rfl)
      simp only [List.setIfInBounds_toArray, List.set_cons_zero, List.set_cons_succ]
      refine wpAnyH_takeAt (i := 8) (d := 45) (v := ?vq6x) rfl rfl (by kernel_rfl) (by kernel_rfl) (by kernel_rfl) (fun _ _ _ h => h) (Or.inl ⟨by rfl, ?hyq6x⟩) hHeld ?_
      case hyq6x =>
        intro W hSw
        clear hSw
        (go_simp; try with_reducible rfl)
      simp only [List.setIfInBounds_toArray, List.set_cons_zero, List.set_cons_succ]
      refine wpAnyH_ready (rs := [9]) (by kernel_rfl) (by simp) (AllReadyH.cons rfl (fun K hK => ?_) AllReadyH.nil)
      have hX1 := (HS.out.blk.below hbV HS.out.blk.lt).below hb2 (Nat.lt_of_lt_of_le HS.out.blk.lt hbV.size)
      refine step_store_blk (by rfl) (by rfl) 40 _ _ (by rfl) bw _ #[.slice A2 n2 c2, .int .i64 0, .slice none 0 0] (by rfl) (by rfl) 40 hX1 (by rfl) (by kernel_rfl) (by simp [Value.oneCell']) ?_
      intro V2 hX hg hs
      have hTx : Turn (fun x => x = bw) V1 V2 := Turn.of_grown hg (fun r e => by injection e with e; exact e.symm)
      have hL3 := hL2.keep hTx (fun b _ q => .inr q)
      have hbw : w0.heap.size ≤ bw := HS.out.bg
      have hb3 : Below w0.heap.size w0 V2 := hHeld.trans (hTx.below hHeld.size (fun x q => by omega))
      have hr3 := (HS.out.rr.below (hbV.trans (hb2.mono hbV.size))).keep hTx (fun x hx q => HS.out.bs (q ▸ hx))
      have hs3 := hTx.size
      have HM : Hid (Rd V2 (fun x => S x ∨ x = bw) 6 A2 n2 (cellsOf (rpush1 l e)) ∧ Blk V2 bw 40 #[.slice A2 n2 c2, .int .i64 0, .slice none 0 0] ∧ Below w0.heap.size w0 V2 ∧ Rr V2 S r l 0 [] ∧ ∀ x, S x → x < V2.heap.size) := Lib.hid ⟨hL3, hX, hb3, hr3, fun x hx => by have := (HS.out.lt x hx).2; have := hbV.size; have := hb2.size; omega⟩
      refine hK.out _ _ hb3 (fun hHeld => ?_)
      clear hK K hX hX1 hg hs hTx hL3 hr3 hs3 hbw
      refine wpAnyH_done (by kernel_rfl) ?_ _
      rw [HPD.out] at HM
      have hcn : n2 ≤ c2 ∧ n2 ≤ n + 1 := ⟨hc2, hn2⟩
      clear hHeld hL2 hc2 hn2 hb2 hbV hb3
      obtain ⟨ad', e', hadl, -, s0, s1, s2, s3, s4, s5⟩ := (HR.out.below HM.out.2.2.1).ent HEJ.out
      injection e' with e'
      subst e'
      clear hadl
      have hpu := push_any HM.out.2.2.2.1 (HE.out.1 e (List.mem_of_getElem? HEJ.out)) HM.out.2.2.2.2
      unfold Ent.val Ent.cells at hpu
      go_wp2_with fail
      refine hpu.mono ?_
      rintro x W3 ⟨rfl, hR3, ht3⟩
      have HF : Hid (RS w0 W3 (More S V2 W3) r (push1 l e) 0 [] bw A2 n2 c2 none 0) := Lib.hid (by
        have hs := ht3.size
        have hz := HM.out.2.2.1.size
        refine ⟨hR3, fun x hx => ?_, fun q => ?_, HS.out.bg, HM.out.2.1.keep ht3 HS.out.bs, HM.out.1.turned ht3 (fun x hx => hx), hcn.1, Rd.none_, HM.out.2.2.1.trans (ht3.below hz (fun x hx => (HS.out.lt x hx).1)), HS.out.gd.push, HS.out.to.push⟩
        · rcases hx with q | q
          · have h1 := (HS.out.lt x q).1; have h2 := HM.out.2.2.2.2 x q; exact ⟨h1, by omega⟩
          · exact ⟨by omega, q.2⟩
        · rcases q with q | q
          · exact HS.out.bs q
          · have := HM.out.2.1.lt; omega)
      have hpl : (push1 l e).length ≤ j + 1 := by have := (push1_len l e).2; omega
      clear hpu hR3 ht3 s0 s1 s2 s3 s4 s5 HM
      generalize push1 l e = l2 at *
      generalize More S V2 W3 = S3 at *
      go_wp2_with fail
      go_round
      case rel => exact ⟨j + 1, by omega, by go_num, S3, l2, A2, n2, c2, hpl, HF.out⟩
      case measure => simp [iOf']; omega
    case neg =>
    have hd1 : decide (j < len0) = false := by simpa using hlt
    clear hlt hlj hj
    have hl60 : l.length ≤ 60 := by have := HNL.out; omega
    have hto1 := refTo_any (X := fun x => S x ∨ x = bw) (c := c) (k := 0) (B := none) (V := []) (d := 0) HS.out.rl (by omega) HS.out.nc HS.out.gd.allE Rd.none_ (by simp) (fun x hx => hx.elim (fun q => (HS.out.lt x q).2) (fun q => q ▸ HS.out.blk.lt)) n1
    go_wp2_with (with_reducible refine at_load 40 rfl ?_)
    refine Stop.go (wpList_load_blk (by rfl) 40 _ (by rfl) bw (by rfl) 40 _ HS.out.blk _ und40 (by rfl) (by kernel_rfl) ?_)
    go_wp2_with fail
    refine hto1.mono ?_
    rintro x W1 hq
    obtain ⟨k1, V1, B1, d1, At, ct, F, er, rfl, hF1, hV1, hO, hb1⟩ := hq.out HNL.out Rd.none_ (fun x hx => hx.elim (fun q => (HS.out.lt x q).2) (fun q => q ▸ HS.out.blk.lt))
    have hS1 := HS.out.low hb1
    have HO := Lib.hid hO
    clear hto1 hq hF1 hO hb1
    go_wp2_with (with_reducible refine at_store 40 rfl ?_)
    refine Stop.go (wpList_store_blk (by rfl) (by rfl) 40 _ _ (by rfl) bw _ #[.slice A n c, .int .i64 (k1 : Int), .slice B1 V1.length d1] (by rfl) (by rfl) 40 hS1.blk (by rfl) (by kernel_rfl) (by simp [Value.oneCell']) ?_)
    intro W2 hB2 hg2 hs2
    have hT2 : Turn (fun x => x = bw) W1 W2 := Turn.of_grown hg2 (fun r e => by injection e with e; exact e.symm)
    clear hg2 hs2
    have HM2 : Hid (Rr W2 S r l 0 [] ∧ (∀ x, S x → w0.heap.size ≤ x ∧ x < W2.heap.size) ∧ Blk W2 bw 40 #[.slice A n c, .int .i64 (k1 : Int), .slice B1 V1.length d1] ∧ Rd W2 (fun x => S x ∨ x = bw) 6 A n (cellsOf l) ∧ Rd W2 (fun x => S x ∨ x = bw) 1 B1 V1.length (intsOf V1) ∧ Below w0.heap.size w0 W2) := Lib.hid
      ⟨hS1.rr.keep hT2 (fun x hx q => HS.out.bs (q ▸ hx)), fun x hx => ⟨(hS1.lt x hx).1, Nat.lt_of_lt_of_le (hS1.lt x hx).2 hT2.size⟩, hB2, hS1.rl.keep hT2 (fun b _ q => .inr q), hV1.keep hT2 (fun b _ q => .inr q), hS1.bb.trans (hT2.below hS1.bb.size (fun x q => by rw [q]; exact HS.out.bg))⟩
    have HGD := Lib.hid (And.intro HS.out.gd (And.intro HS.out.to (And.intro HS.out.bg (And.intro HS.out.bs HS.out.nc))))
    clear hS1 hV1 hB2 hT2 HS
    have hto2 := to_any HM2.out.1 (fun x hx => (HM2.out.2.1 x hx).2) (fun q => by have := (HM2.out.2.1 0 q).1; have := H0.out; omega) (HNG.out _ HM2.out.2.2.2.2.2) HGD.out.2.1.1 HGD.out.2.1.lt (by simp) n1
    go_wp2_with fail
    refine hto2.mono ?_
    rintro x W3 hP
    obtain ⟨S3, gv, rfl, -, -, hr3, hS3, ht3, hto3⟩ := to_both hP HO.out HGD.out.2.1 HGD.out.1.fine
    have HM3 : Hid (Rr W3 S3 r l k1 V1 ∧ (∀ x, S3 x → w0.heap.size ≤ x ∧ x < W3.heap.size) ∧ Blk W3 bw 40 #[.slice A n c, .int .i64 (k1 : Int), .slice B1 V1.length d1] ∧ Rd W3 (fun x => S3 x ∨ x = bw) 6 A n (cellsOf l) ∧ Rd W3 (fun x => S3 x ∨ x = bw) 1 B1 V1.length (intsOf V1) ∧ Below w0.heap.size w0 W3 ∧ ¬ S3 bw) := Lib.hid (by
      have hs := ht3.size
      have hz := HM2.out.2.2.2.2.2.size
      refine ⟨hr3, fun x hx => ?_, HM2.out.2.2.1.keep ht3 HGD.out.2.2.2.1, HM2.out.2.2.2.1.turned ht3 hS3, HM2.out.2.2.2.2.1.turned ht3 hS3, HM2.out.2.2.2.2.2.trans (ht3.below hz (fun x hx => (HM2.out.2.1 x hx).1)), fun q => ?_⟩
      · rcases hS3 x hx with q | q
        · have := HM2.out.2.1 x q; exact ⟨this.1, by omega⟩
        · exact ⟨by omega, q.2⟩
      · rcases hS3 _ q with q | q
        · exact HGD.out.2.2.2.1 q
        · have := HM2.out.2.2.1.lt; omega)
    have HTO := Lib.hid hto3
    have hV1l : V1.length ≤ 60 := by have := hto3.len; omega
    clear hto2 hP hr3 hS3 ht3 hto3 HM2
    have hcp := rcopy_any HM3.out.1 (by omega)
    go_wp2_with fail
    refine hcp.mono ?_
    rintro x W4 ⟨z, rfl, hz4, hb4⟩
    have HC : Hid (C2 w0 W4 S3 (NewB W3 W4) r l k1 V1 z l k1 V1) := Lib.hid
      ⟨HM3.out.1.below hb4, hz4, fun x hx => by
        have hs := hb4.size
        have hz := HM3.out.2.2.2.2.2.1.size
        rcases hx with q | q
        · have := HM3.out.2.1 x q; exact ⟨this.1, by omega⟩
        · have h1 := q.1; have h2 := q.2; exact ⟨by omega, h2⟩, fun x hx q => by have h1 := (HM3.out.2.1 x hx).2; have h2 := q.1; omega, HM3.out.2.2.2.2.2.1.trans (hb4.mono HM3.out.2.2.2.2.2.1.size)⟩
    have HBW : Hid (Blk W4 bw 40 #[.slice A n c, .int .i64 (k1 : Int), .slice B1 V1.length d1] ∧ ¬ (S3 bw ∨ NewB W3 W4 bw)) := Lib.hid ⟨HM3.out.2.2.1.below hb4 HM3.out.2.2.1.lt, fun q => by
      rcases q with q | q
      · exact HM3.out.2.2.2.2.2.2 q
      · have h1 := q.1; have h2 := HM3.out.2.2.1.lt; omega⟩
    have HA : Hid (Rd W4 (fun x => (S3 x ∨ NewB W3 W4 x) ∨ x = bw) 6 A n (cellsOf l)) := Lib.hid ((HM3.out.2.2.2.1.wide (X' := fun x => (S3 x ∨ NewB W3 W4 x) ∨ x = bw) (fun b hb q => by
      rcases q with (q | q) | q
      · exact .inl q
      · have h1 := q.1; omega
      · exact .inr q)).below hb4)
    have HV : Hid (Rd W4 (fun x => (S3 x ∨ NewB W3 W4 x) ∨ x = bw) 1 B1 V1.length (intsOf V1)) := Lib.hid ((HM3.out.2.2.2.2.1.wide (X' := fun x => (S3 x ∨ NewB W3 W4 x) ∨ x = bw) (fun b hb q => by
      rcases q with (q | q) | q
      · exact .inl q
      · have h1 := q.1; omega
      · exact .inr q)).below hb4)
    clear hcp hz4 hb4 HM3
    generalize NewB W3 W4 = T3 at *
    have HPD := Lib.hid (rpush1_is e2 HGD.out.1.allR)
    have HPE := Lib.hid (push_doc (e := e2) HGD.out.1.allR)
    have HXL : Hid (∀ x, (S3 x ∨ T3 x) ∨ x = bw → x < W4.heap.size) := Lib.hid (fun x hx => hx.elim (fun q => (HC.out.lt x q).2) (fun q => q ▸ HBW.out.1.lt))
    have hbx4 := HBX.out.below HC.out.bb HBE.out
    obtain ⟨s0, s1, s2, s3, s4, s5⟩ := hbx4.six9
    have hpp : Calls Tryd.prog 22 #[.agg #[.slice A n c, .int .i64 (k1 : Int), .slice B1 V1.length d1], .agg #[.int .i64 e2.epoch, .int .i64 e2.id, .int .i64 e2.num, .int .i64 e2.seq, .int .i64 e2.kind, .int .i64 e2.value]] W4 _ := refPush_any (X := fun x => (S3 x ∨ T3 x) ∨ x = bw) (c := c) (B := B1) (m := V1.length) (d := d1) HA.out (by omega) HGD.out.2.2.2.2 HXL.out (k1 : Int) e2
    go_wp2_with (with_reducible refine at_load 40 rfl ?_)
    refine Stop.go (wpList_load_blk (by rfl) 40 _ (by rfl) bw (by rfl) 40 _ HBW.out.1 _ und40 (by rfl) (by kernel_rfl) ?_)
    go_wp2_with fail
    refine hpp.mono ?_
    rintro x W5 ⟨A2, n2, c2, rfl, hL5, hc5, hn5, hb5⟩
    rw [HPD.out] at hL5
    have hal := (Below.refl W5.heap.size W5).alloc (Nat.le_refl _) (.cells #[.slice A2 n2 c2, .int .i64 (k1 : Int), .slice B1 V1.length d1] 40)
    have hbx := (Below.refl W4.heap.size W4).trans (hb5.trans (hal.mono hb5.size))
    have HX6 : Hid (Blk (W5.alloc (.cells #[.slice A2 n2 c2, .int .i64 (k1 : Int), .slice B1 V1.length d1] 40)) W5.heap.size 40 #[.slice A2 n2 c2, .int .i64 (k1 : Int), .slice B1 V1.length d1] ∧ ¬ (S3 W5.heap.size ∨ T3 W5.heap.size) ∧ W5.heap.size ≠ bw ∧ w0.heap.size ≤ W5.heap.size) := Lib.hid ⟨Blk.new W5 40 _, fun q => by have := HXL.out _ (.inl q); have := hb5.size; omega, fun q => by have := HXL.out _ (.inr q); have := hb5.size; omega, by have := HC.out.bb.size; have := hb5.size; omega⟩
    have wd : ∀ (b : Nat), b < W5.heap.size → ((S3 b ∨ T3 b) ∨ b = bw ∨ b = W5.heap.size) → ((S3 b ∨ T3 b) ∨ b = bw) := fun b hb q => q.imp id (fun q => q.elim id (fun q => absurd q (by omega)))
    have HA6 := Lib.hid (((HA.out.below hb5).wide (X' := fun x => (S3 x ∨ T3 x) ∨ x = bw ∨ x = W5.heap.size) wd).below hal)
    have HV6 := Lib.hid (((HV.out.below hb5).wide (X' := fun x => (S3 x ∨ T3 x) ∨ x = bw ∨ x = W5.heap.size) wd).below hal)
    have HL6 := Lib.hid ((hL5.wide (X' := fun x => (S3 x ∨ T3 x) ∨ x = bw ∨ x = W5.heap.size) wd).below hal)
    have HC6 := Lib.hid ((HC.out.low hb5).low hal)
    have HBW6 := Lib.hid (And.intro ((HBW.out.1.below hb5 HBW.out.1.lt).below hal (Nat.lt_of_lt_of_le HBW.out.1.lt hb5.size)) HBW.out.2)
    have hcn : n2 ≤ c2 ∧ n2 ≤ n + 1 := ⟨hc5, hn5⟩
    clear hpp hL5 hc5 hn5 hb5 hal hbx wd HC HA HV HXL HBW s0 s1 s2 s3 s4 s5 hbx4 HPD
    go_upto_region 14 with fail
    generalize hw6 : W5.alloc (.cells #[.slice A2 n2 c2, .int .i64 (k1 : Int), .slice B1 V1.length d1] 40) = W6 at *
    clear hw6
    generalize hbxx : W5.heap.size = bx at *
    clear hbxx
    have hbx6 := HBX.out.below HC6.out.bb HBE.out
    obtain ⟨s0, s1, s2, s3, s4, s5⟩ := hbx6.six9
    have hpu := push_any HC6.out.r1 HE.out.2 (fun x hx => (HC6.out.lt x (.inl hx)).2)
    unfold Ent.val Ent.cells at hpu
    go_wp2_with fail
    refine hpu.mono ?_
    rintro x W7 ⟨rfl, hR7, ht7⟩
    have hS7 : ∀ x, More S3 W6 W7 x → More S3 W6 W7 x := fun x hx => hx
    have HC7 := Lib.hid (HC6.out.turn1 ht7 hR7 hS7)
    have HA7 := Lib.hid (HA6.out.turned (turn_or ht7) (HC6.out.more1 ht7 hS7))
    have HV7 := Lib.hid (HV6.out.turned (turn_or ht7) (HC6.out.more1 ht7 hS7))
    have HL7 := Lib.hid (HL6.out.turned (turn_or ht7) (HC6.out.more1 ht7 hS7))
    have HBW7 := Lib.hid (And.intro (HBW6.out.1.keep ht7 (fun q => HBW6.out.2 (.inl q))) (not_more HBW6.out.2 HBW6.out.1.lt hS7))
    have HX7 := Lib.hid (And.intro (HX6.out.1.keep ht7 (fun q => HX6.out.2.1 (.inl q))) (And.intro (not_more HX6.out.2.1 HX6.out.1.lt hS7) HX6.out.2.2))
    have hto7 : ToldIs (push1 l e2) k1 V1 := HTO.out.push
    have hgd7 : GoodL (push1 l e2) := HGD.out.1.push
    have hpl := push1_len l e2
    have HG2 := Lib.hid (And.intro hgd7 hto7)
    have HN2 := Lib.hid HL7.out.lenE
    have hl2b : (push1 l e2).length ≤ 61 := by have := hpl.2; omega
    clear hpu hR7 ht7 hS7 s0 s1 s2 s3 s4 s5 hbx6 HC6 HA6 HV6 HL6 HBW6 HX6 hto7 hgd7 hpl
    generalize More S3 W6 W7 = S7 at *
    generalize push1 l e2 = l2 at *
    have hXL : ∀ x, (S7 x ∨ T3 x) ∨ x = bw ∨ x = bx → x < W7.heap.size := fun x hx => by
      rcases hx with q | q | q
      · exact (HC7.out.lt x q).2
      · rw [q]; exact HBW7.out.1.lt
      · rw [q]; exact HX7.out.1.lt
    have hto8 := refTo_any (X := fun x => (S7 x ∨ T3 x) ∨ x = bw ∨ x = bx) (c := c2) (k := k1) (B := B1) (V := V1) (d := d1) HL7.out (by omega) hcn.1 HG2.out.1.allE HV7.out (by omega) hXL n3
    go_wp2_with (with_reducible refine at_load 40 rfl ?_)
    refine Stop.go (wpList_load_blk (by rfl) 40 _ (by rfl) bx (by rfl) 40 _ HX7.out.1 _ und40 (by rfl) (by kernel_rfl) ?_)
    go_wp2_with fail
    refine hto8.mono ?_
    rintro x W8 hq
    obtain ⟨k3, V3, B3, d3, At, ct, F, er, rfl, hF8, hV8, hO, hb8⟩ := hq.out HN2.out HV7.out hXL
    have hc8 := HC7.out.low hb8
    have hx8 := HX7.out.1.below hb8 HX7.out.1.lt
    have hw8 := HBW7.out.1.below hb8 HBW7.out.1.lt
    have hA8 := HA7.out.below hb8
    have hV18 := HV7.out.below hb8
    have hL8 := HL7.out.below hb8
    have HO2 := Lib.hid hO
    clear hto8 hq hO hb8 hXL
    go_wp2_with (with_reducible refine at_store 40 rfl ?_)
    refine Stop.go (wpList_store_blk (by rfl) (by rfl) 40 _ _ (by rfl) bx _ #[.slice A2 n2 c2, .int .i64 (k3 : Int), .slice B3 V3.length d3] (by rfl) (by rfl) 40 hx8 (by rfl) (by kernel_rfl) (by simp [Value.oneCell']) ?_)
    intro W9 hB9 hg9 hs9
    have hT9 : Turn (fun x => x = bx) W8 W9 := Turn.of_grown hg9 (fun r e => by injection e with e; exact e.symm)
    clear hg9 hs9
    have HC9 := Lib.hid (hc8.store hT9 HX7.out.2.1 HX7.out.2.2.2)
    have HX9 := Lib.hid (And.intro hB9 HX7.out.2)
    have HBW9 := Lib.hid (And.intro (hw8.keep hT9 HX7.out.2.2.1.symm) HBW7.out.2)
    have HA9 := Lib.hid (hA8.keep hT9 (fun b _ q => .inr (.inr q)))
    have HV19 := Lib.hid (hV18.keep hT9 (fun b _ q => .inr (.inr q)))
    have HL9 := Lib.hid (hL8.keep hT9 (fun b _ q => .inr (.inr q)))
    have HV9 := Lib.hid (hV8.keep hT9 (fun b _ q => .inr (.inr q)))
    have HF9 := Lib.hid (hF8.keep hT9 (fun b _ q => .inr (.inr q)))
    have hFl : F.length ≤ 61 := by have := HO2.out.len; omega
    clear hc8 hx8 hw8 hA8 hV18 hL8 hV8 hF8 hB9 hT9 HC7 HA7 HV7 HL7 HBW7 HX7
    have hto9 := to_any HC9.out.r1 (fun x hx => (HC9.out.lt x (.inl hx)).2) (fun q => by have := (HC9.out.lt 0 (.inl q)).1; have := H0.out; omega) (HNG.out _ HC9.out.bb) HG2.out.2.1 HG2.out.2.lt (by omega) n3
    go_wp2_with fail
    refine hto9.mono ?_
    rintro x W10 hP
    obtain ⟨S10, gv, rfl, hg10, hgo10, hr10, hS10, ht10, hto10⟩ := to_both hP HO2.out HG2.out.2 HG2.out.1.fine
    obtain ⟨Ag, cg, rfl, -⟩ := ints_form hg10
    have HC10 := Lib.hid (HC9.out.turn1 ht10 hr10 hS10)
    have HX10 := Lib.hid (And.intro (HX9.out.1.keep ht10 (fun q => HX9.out.2.1 (.inl q))) (And.intro (not_more HX9.out.2.1 HX9.out.1.lt hS10) HX9.out.2.2))
    have HBW10 := Lib.hid (And.intro (HBW9.out.1.keep ht10 (fun q => HBW9.out.2 (.inl q))) (not_more HBW9.out.2 HBW9.out.1.lt hS10))
    have HA10 := Lib.hid (HA9.out.turned (turn_or ht10) (HC9.out.more1 ht10 hS10))
    have HV110 := Lib.hid (HV19.out.turned (turn_or ht10) (HC9.out.more1 ht10 hS10))
    have HL10 := Lib.hid (HL9.out.turned (turn_or ht10) (HC9.out.more1 ht10 hS10))
    have HV10 := Lib.hid (HV9.out.turned (turn_or ht10) (HC9.out.more1 ht10 hS10))
    have HF10 := Lib.hid (HF9.out.turned (turn_or ht10) (HC9.out.more1 ht10 hS10))
    have HGv : Hid (Rd W10 (fun x => (S10 x ∨ T3 x) ∨ x = bw ∨ x = bx) 1 Ag F.length (intsOf F)) := Lib.hid (hg10.rd (fun g hg q => by
      have h1 := hgo10 g hg
      rcases q with (q | q) | q | q
      · exact h1.2 q
      · have := (HC9.out.lt g (.inr q)).2; omega
      · have := HBW9.out.1.lt; omega
      · have := HX9.out.1.lt; omega))
    have HTO10 := Lib.hid hto10
    have hV3l : V3.length ≤ 61 := by have := hto10.len; omega
    clear hto9 hP hg10 hgo10 hr10 hS10 ht10 hto10 HC9 HX9 HBW9 HA9 HV19 HL9 HV9 HF9
    have hXL : ∀ x, (S10 x ∨ T3 x) ∨ x = bw ∨ x = bx → x < W10.heap.size := fun x hx => by
      rcases hx with q | q | q
      · exact (HC10.out.lt x q).2
      · rw [q]; exact HBW10.out.1.lt
      · rw [q]; exact HX10.out.1.lt
    have hto11 := refTo_any (X := fun x => (S10 x ∨ T3 x) ∨ x = bw ∨ x = bx) (c := c) (k := k1) (B := B1) (V := V1) (d := d1) HA10.out (by omega) HGD.out.2.2.2.2 HGD.out.1.allE HV110.out (by omega) hXL (n : Int)
    have r0 := HBW10.out.1.cell 0
    go_wp2_with (with_reducible refine at_load 40 rfl ?_)
    refine Stop.go (wpList_load_blk (by rfl) 40 _ (by rfl) bw (by rfl) 40 _ HBW10.out.1 _ und40 (by rfl) (by kernel_rfl) ?_)
    go_wp2_with fail
    refine hto11.mono ?_
    rintro x W11 hq
    obtain ⟨k4, V4, B4, d4, Ax, cx, F4, er4, rfl, hF11, hV11, hO, hb11⟩ := hq.out HNL.out HV110.out hXL
    have HO4 := Lib.hid hO
    have hal := (Below.refl W11.heap.size W11).alloc (Nat.le_refl _) (.cells #[.slice A n c, .int .i64 (k4 : Int), .slice B4 V4.length d4] 40)
    have HX12 : Hid (Blk (W11.alloc (.cells #[.slice A n c, .int .i64 (k4 : Int), .slice B4 V4.length d4] 40)) W11.heap.size 40 #[.slice A n c, .int .i64 (k4 : Int), .slice B4 V4.length d4] ∧ ¬ (S10 W11.heap.size ∨ T3 W11.heap.size)) := Lib.hid ⟨Blk.new W11 40 _, fun q => by have := hXL _ (.inl q); have := hb11.size; omega⟩
    have HC12 := Lib.hid ((HC10.out.low hb11).low hal)
    have HXN12 := Lib.hid (And.intro ((HX10.out.1.below hb11 HX10.out.1.lt).below hal (Nat.lt_of_lt_of_le HX10.out.1.lt hb11.size)) HX10.out.2)
    have HBW12 := Lib.hid (And.intro ((HBW10.out.1.below hb11 HBW10.out.1.lt).below hal (Nat.lt_of_lt_of_le HBW10.out.1.lt hb11.size)) HBW10.out.2)
    have HA12 := Lib.hid ((HA10.out.below hb11).below hal)
    have HL12 := Lib.hid ((HL10.out.below hb11).below hal)
    have HV12 := Lib.hid ((HV10.out.below hb11).below hal)
    have HF12 := Lib.hid ((HF10.out.below hb11).below hal)
    have HG12 := Lib.hid ((HGv.out.below hb11).below hal)
    have HVV12 := Lib.hid (hV11.below hal)
    have HFF12 := Lib.hid (hF11.below hal)
    have hF4l : F4.length ≤ 61 := by have := HO4.out.len; omega
    clear hto11 hq hO hb11 hal hXL hF11 hV11 HC10 HX10 HBW10 HA10 HV110 HL10 HV10 HF10 HGv r0
    go_upto_region 18 with fail
    generalize hw12 : W11.alloc (.cells #[.slice A n c, .int .i64 (k4 : Int), .slice B4 V4.length d4] 40) = W12 at *
    clear hw12
    generalize hblx : W11.heap.size = bl at *
    clear hblx
    have hto12 := to_any HC12.out.r2 (fun x hx => (HC12.out.lt x (.inr hx)).2) (fun q => by have := (HC12.out.lt 0 (.inr q)).1; have := H0.out; omega) (HNG.out _ HC12.out.bb) HTO.out.1 HTO.out.lt (by omega) (n : Int)
    have r0 := HBW12.out.1.cell 0
    go_wp2_with fail
    refine hto12.mono ?_
    rintro x W13 hP
    obtain ⟨T13, yv, rfl, hy13, hyo13, hr13, hT13, ht13, hto13⟩ := to_both hP HO4.out HTO.out HGD.out.1.fine
    obtain ⟨Ay, cy, rfl, -⟩ := ints_form hy13
    have hcs := HC12.out.swap
    have HC13 := Lib.hid (hcs.turn1 ht13 hr13 hT13).swap
    have HM13 : Hid (∀ x, (T13 x ∨ S10 x) → More (fun x => T3 x ∨ S10 x) W12 W13 x) := Lib.hid (hcs.more1 ht13 hT13)
    have HX13 := Lib.hid (HX12.out.1.keep ht13 (fun q => HX12.out.2 (.inr q)))
    have HXN13 := Lib.hid (HXN12.out.1.keep ht13 (fun q => HXN12.out.2.1 (.inr q)))
    have HA13 := Lib.hid ((Rd.swap HA12.out).turned (turn_or ht13) HM13.out)
    have HL13 := Lib.hid ((Rd.swap HL12.out).turned (turn_or ht13) HM13.out)
    have HV13 := Lib.hid ((Rd.swap HV12.out).turned (turn_or ht13) HM13.out)
    have HF13 := Lib.hid ((Rd.swap HF12.out).turned (turn_or ht13) HM13.out)
    have HG13 := Lib.hid ((Rd.swap HG12.out).turned (turn_or ht13) HM13.out)
    have HVV13 := Lib.hid ((Rd.swap HVV12.out).turned (turn_or ht13) HM13.out)
    have HFF13 := Lib.hid ((Rd.swap HFF12.out).turned (turn_or ht13) HM13.out)
    have HY13 := Lib.hid (hy13.rd (X := No) (fun _ _ h => h))
    have hV4l : V4.length ≤ 61 := by have := hto13.len; omega
    clear hto12 hP hy13 hyo13 hr13 hT13 ht13 hto13 hcs r0 HC12 HX12 HXN12 HA12 HL12 HV12 HF12 HG12 HVV12 HFF12 HM13 HBW12
    have he1 : (pushE l e2 == rpushE l e2) = true := eqb HPE.out
    have he3 : (er == er) = true := by simp
    have he4 : (er4 == er4) = true := by simp
    go_wp2_with fail
    refine (num_any _ _).mono ?_
    rintro x w4 ⟨rfl, rfl⟩
    go_wp2_with fail
    refine (num_any _ _).mono ?_
    rintro x w4 ⟨rfl, rfl⟩
    go_wp2_with fail
    refine (num_any _ _).mono ?_
    rintro x w4 ⟨rfl, rfl⟩
    have hsa := sameI_any (c := ct) (d := cg) HF13.out HG13.out (by omega) (by omega)
    rw [decide_eq_true rfl] at hsa
    go_wp2_with fail
    refine hsa.mono ?_
    rintro x W14 ⟨rfl, q5, rfl⟩
    have hdr := below_drewN (Below.refl W13.heap.size W13) q5
    have hsb := sameI_any (c := cx) (d := cy) (HFF13.out.below hdr) (HY13.out.below hdr) (by omega) (by omega)
    rw [decide_eq_true rfl] at hsb
    have HC14 := Lib.hid (HC13.out.low hdr)
    have HX14 := Lib.hid (HX13.out.below hdr HX13.out.lt)
    have HXN14 := Lib.hid (HXN13.out.below hdr HXN13.out.lt)
    have HA14 := Lib.hid (HA13.out.below hdr)
    have HL14 := Lib.hid (HL13.out.below hdr)
    have HV14 := Lib.hid (HV13.out.below hdr)
    have HVV14 := Lib.hid (HVV13.out.below hdr)
    clear hsa hdr HC13 HX13 HXN13 HA13 HL13 HV13 HF13 HG13 HVV13 HFF13 HY13
    generalize W13.drewN q5 = W14 at *
    go_wp2_with fail
    refine hsb.mono ?_
    rintro x W15 ⟨rfl, q5, rfl⟩
    have hdr := below_drewN (Below.refl W14.heap.size W14) q5
    have HC15 := Lib.hid (HC14.out.low hdr)
    have HX15 := Lib.hid (HX14.out.below hdr HX14.out.lt)
    have HXN15 := Lib.hid (HXN14.out.below hdr HXN14.out.lt)
    have HA15 := Lib.hid (HA14.out.below hdr)
    have HL15 := Lib.hid (HL14.out.below hdr)
    have HV15 := Lib.hid (HV14.out.below hdr)
    have HVV15 := Lib.hid (HVV14.out.below hdr)
    clear hsb hdr HC14 HX14 HXN14 HA14 HL14 HV14 HVV14
    generalize W14.drewN q5 = W15 at *
    have his := is_any (c := c2) (d := d3) HC15.out.r1 HL15.out HV15.out (by omega) (by omega)
    obtain ⟨r0, r1, r2⟩ := HXN15.out.three
    go_wp2_with fail
    refine his.mono ?_
    rintro x W16 ⟨rfl, hb16⟩
    have HC16 := Lib.hid (HC15.out.low hb16)
    have HX16 := Lib.hid (HX15.out.below hb16 HX15.out.lt)
    have hit := is_any (c := c) (d := d4) HC16.out.r2 (HA15.out.below hb16) (HVV15.out.below hb16) (by omega) (by omega)
    clear his hb16 r0 r1 r2 HC15 HX15 HXN15 HA15 HL15 HV15 HVV15
    obtain ⟨r0, r1, r2⟩ := HX16.out.three
    go_wp2_with fail
    refine hit.mono ?_
    rintro x W17 ⟨rfl, hb17⟩
    have HC17 := Lib.hid (HC16.out.low hb17)
    clear hit hb17 r0 r1 r2 HC16 HX16
    go_wp2_with fail
    refine (works_any (HNG.out _ HC17.out.bb)).mono ?_
    rintro x W18 ⟨rfl, hb⟩
    have HB18 := Lib.hid (HBB.out _ (HC17.out.bb.trans (hb.mono HC17.out.bb.size)))
    clear hb
    go_wp2_with fail
    go_ret
    exact ⟨rfl, by rw [hbee]; exact HB18.out⟩
set_option maxRecDepth 100000 in
theorem lifted (os : Os) (started : os.Started) (H : Type) (enc : TypeId × Value → H) :
    ReturnsInHanded {} Tryd.checked os 6 .any (fun w args => (Rows.visibleCopiesSpec.pre enc Tryd.prog Tryd.f6 [] false w args ∧ laidMetH Tryd.prog [("waystation/visible.nobodys", Rows.laid_waystation_visible_nobodys)] w) ∧ sizedMet enc Tryd.prog Tryd.f6 (OpenSpec.ofChange Rows.visibleCopiesSpec) false w args)
      (Rows.visibleCopiesSpec.post enc Tryd.prog Tryd.f6 false true false false) := by
  refine returnsInHanded_of_change_and (C := Tryd.checked) (X := fun w _ => laidMetH Tryd.prog [("waystation/visible.nobodys", Rows.laid_waystation_visible_nobodys)] w) (fun _ _ _ hh h => h.of_heap hh) own started (by kernel_rfl) Tryd.func6
    (ChangeSpec.witness_shaped (enc := enc) (C := Tryd.checked) (os := os) (X := fun w _ => laidMetH Tryd.prog [("waystation/visible.nobodys", Rows.laid_waystation_visible_nobodys)] w) false (World.doorLaid Tryd.prog 400 os) #[.slice none 0 0, .int .i64 0, .agg #[.int .i64 0, .int .i64 0, .int .i64 0, .int .i64 0, .int .i64 0, .int .i64 0], .int .i64 0] 8 rfl (World.shaped_of_RefB (by kernel_rfl) (by kernel_rfl)) (by kernel_rfl) (by kernel_rfl) (by kernel_rfl) (door_met os _)) ?_
  intro W base args ds gs before hval0 hW _ _ hL _
  have hval : ∀ (j : Nat) t v, Tryd.f6.params[j]? = some t → args[j]? = some v → Value.okWide Tryd.prog W .any base t v := hval0
  have hW' := hW
  obtain ⟨p, q, hA0, hV, rfl, hfz, hnd⟩ := hW
  have hA : DataW.TrodAll enc Tryd.prog W 0 (fun _ => true) true Tryd.f6.params.toList args.toList ds p := hA0
  rw [Tryd.params6] at hA hval
  obtain ⟨v0, vs0, d0, ds0, p0, q0, hargs, rfl, rfl, h0, r0⟩ := trodAll_cons hA
  obtain ⟨v1, vs1, d1, ds1, p1, q1, rfl, rfl, rfl, h1, r1⟩ := trodAll_cons r0
  obtain ⟨v2, vs2, d2, ds2, p2, q2, rfl, rfl, rfl, h2, r2⟩ := trodAll_cons r1
  obtain ⟨v3, vs3, d3, ds3, p3, q3, rfl, rfl, rfl, h3, r3⟩ := trodAll_cons r2
  obtain ⟨rfl, rfl, rfl⟩ := trodAll_nil r3
  obtain rfl : args = #[v0, v1, v2, v3] := by cases args; simp_all
  obtain ⟨rfl, rfl⟩ := trodVars_none hV
  have k0 := h0
  have lt0 : ∀ x ∈ p0, x.block < W.heap.size := by obtain ⟨m, hm⟩ := k0; exact DataW.trod_lt m _ _ _ hm
  obtain ⟨a0, len0, cap0, rfl⟩ := okWide_slice Tryd.underlying22 (hval 0 22 v0 rfl rfl)
  obtain ⟨l0, b0, hc0, hm0, he0⟩ := open_ents h0
  have k1 := h1
  have lt1 : ∀ x ∈ p1, x.block < W.heap.size := by obtain ⟨m, hm⟩ := k1; exact DataW.trod_lt m _ _ _ hm
  obtain ⟨n1, rfl, rfl, rfl, wf1⟩ := open_int Tryd.underlying3 (hval 1 3 v1 rfl rfl) h1
  have k2 := h2
  have lt2 : ∀ x ∈ p2, x.block < W.heap.size := by obtain ⟨m, hm⟩ := k2; exact DataW.trod_lt m _ _ _ hm
  obtain ⟨e2, rfl, he2⟩ := open_ent (hval 2 45 v2 rfl rfl) h2
  have k3 := h3
  have lt3 : ∀ x ∈ p3, x.block < W.heap.size := by obtain ⟨m, hm⟩ := k3; exact DataW.trod_lt m _ _ _ hm
  obtain ⟨n3, rfl, rfl, rfl, wf3⟩ := open_int Tryd.underlying3 (hval 3 3 v3 rfl rfl) h3
  have hN := nob_of_laid hL
  clear hA0 hval0
  refine (walk a0 len0 cap0 l0 n1 e2 n3 W b0 hc0 hm0 he0 (i64_bounds wf1) he2 (i64_bounds wf3) hN).mono fun e W' ⟨he, bel⟩ => ?_
  subst he
  exact ⟨_, rfl, _, _, _, [], _, [], hW', trodAll_mk1 (shut_bool Tryd.underlying4 _), (trodAll_cons_mk (Below.trod laidOut (by kernel_rfl) (of_decide_eq_true (by kernel_rfl)) k0 bel lt0) (trodAll_cons_mk (Below.trod laidOut (by kernel_rfl) (of_decide_eq_true (by kernel_rfl)) k1 bel lt1) (trodAll_cons_mk (Below.trod laidOut (by kernel_rfl) (of_decide_eq_true (by kernel_rfl)) k2 bel lt2) (trodAll_cons_mk (Below.trod laidOut (by kernel_rfl) (of_decide_eq_true (by kernel_rfl)) k3 bel lt3) trodAll_mk0)))), rfl, bel.frame _, fun h => by cases h⟩
theorem over : Rows.VisibleCopiesSaid :=
  OpenClaim.holds_of_wide 6 Tryd.f6 rfl rfl rfl rfl rfl rfl rfl ⟨rfl, rfl, rfl, rfl, rfl⟩ rfl rfl rfl rfl rfl (by kernel_rfl) Tryd.func6 (by kernel_rfl)
    (of_decide_eq_true (by kernel_rfl)) (by unfold Func.isWrapper; first | (rw [if_pos (by decide +kernel)]; kernel_rfl) | (rw [if_neg (by decide +kernel)]; exact ⟨rfl, rfl⟩))
    (fun os started H enc _ => lifted os started H enc)
theorem proved : Rows.VisibleCopiesCardSaid :=
  Claim7.holds_tied_plain_at .later [] [.data] true (true, "e872fbbcbb45a318d4a21952f2d33522ec05cad25393f9b523959ddf34fff248") true
    over (fun _ h => by cases h) (by kernel_rfl) (fun _ h => by cases h) visibleCopies_row_tie rfl ⟨rfl, rfl⟩ (by kernel_rfl) rfl
    (fun f fn hf hfn => by
      obtain rfl : f = 6 := Option.some.inj ((show Tryd.prog.funcNamed "waystation/waystationlaw09.VisibleCopies" = some 6 by kernel_rfl).symm.trans hf) |>.symm
      obtain rfl : fn = Tryd.f6 := (Option.some.inj (Tryd.func6.symm.trans hfn)).symm
      exact ⟨by kernel_rfl, fun j t ht => by
        rw [Tryd.params6] at ht
        have hm : t ∈ [22, 3, 45, 3] := by simpa using Array.mem_of_getElem? ht
        have hall : ([22, 3, 45, 3].all fun u => !Tryd.prog.wantsStandIn u) = true := by kernel_rfl
        exact (show Tryd.prog.wantsStandIn t = false by simpa using List.all_eq_true.1 hall t hm)⟩)
    (by kernel_rfl)
end Go.Proofs.YthcphoijanebhaaDoor.visibleCopies
namespace Go.Proofs.YthcphoijanebhaaDoor
theorem visibleCopies_holds : Rows.VisibleCopiesCardSaid := visibleCopies.proved
#print axioms visibleCopies_holds
end Go.Proofs.YthcphoijanebhaaDoor
