/-
  For every bound that may be and all messages waystationlaw05.NetPuts returns true: it is told which messages are taken. Conditions: none.
-/
import Derived.Test.YticabfmjdjcfnaaRows
import Derived.Test.YticabfmjdjcfnaaPl
import Derived.WalkKit
import Derived.ProofKit
import Derived.OpenShut
import Derived.ShutString
import Derived.ChangeOld
import Derived.Below
namespace Go.Proofs.Yticabfmjdjcfnaa.netPuts
open Go.ChangeShapes Go.WideShapes Go.ChangeAt Go.RowKit
set_option linter.unusedVariables false
theorem own : ownKnob Try.prog.godebug = none := by kernel_rfl
theorem laidOut : laidOutB Try.prog = true := by kernel_rfl
set_option maxHeartbeats 4000000 in
set_option maxRecDepth 100000 in
theorem walk (n0 : Int) (a1 : Option Addr) (len1 cap1 : Nat) (ms1 : List Msg) (w : World) (hn0 : -9223372036854775808 ≤ n0 ∧ n0 ≤ 9223372036854775807) (b1 : Ms w No a1 len1 ms1) (hc1 : len1 ≤ cap1) (hm1 : cap1 ≤ maxLen) :
    Calls Try.prog 6 #[.int .i64 n0, .slice a1 len1 cap1] w fun e w' => e = .returned (.bool true) ∧ Below w.heap.size w w' := by
  have hlen := b1.len
  have HA := Lib.hid (b1.wide (X' := fun b => w.heap.size ≤ b) (fun b hb e => absurd e (by omega)))
  clear b1
  have hm1' := hm1
  unfold maxLen at hm1'
  go_enter Try.func6, Try.ntmps6
  go_wp2_with fail
  go_loop [5, 6] (fun u i => ∃ k : Nat, k ≤ len1 ∧ i = .int .i64 k ∧ u = .int .i64 (fewM (ms1.take k) : Int) ∧ fewM (ms1.take k) ≤ 100000) (fun _ i => len1 - (intOf i).toNat)
  case atStart => exact ⟨0, by omega, rfl, rfl, by simp [fewM]⟩
  case round =>
    obtain ⟨k, hk, rfl, rfl, hm⟩ := hrel
    by_cases hin : k < len1 ∧ fewM (ms1.take k) ≤ 9000
    case pos =>
      obtain ⟨hlt, hle⟩ := hin
      have hkl : k < ms1.length := by omega
      obtain ⟨ad, cs, rfl, hadl, -, ⟨Ab, qb, cb, hcse, hby, hqb, hcb, -⟩, hc0, hcell⟩ := HA.out.at_ hkl
      rw [hcse] at hcell
      have h2 : w.cell? ⟨(ad.add (k * 3)).block, (ad.add (k * 3)).off + 2, none⟩ = some (.slice Ab qb cb) := hcell 1 _ rfl
      unfold maxLen at hcb
      have hbl := hby.1
      have HC : Hid (fewM (ms1.take (k + 1)) = fewM (ms1.take k) + (20 + min qb 9001)) := Lib.hid (by rw [fewM_take ms1 hkl]; unfold costM; rw [hbl])
      clear hcell hc0 hcse hby hlen hbl
      go_wp2_with fail
      refine ⟨⟨k + 1, by omega, by go_num, ?_, by have := HC.out; omega⟩, by simp [intOf]; omega⟩
      congr 1
      have := HC.out
      omega
    case neg =>
      by_cases hok : (1 ≤ n0 ∧ n0 ≤ 4096) ∧ fewM (ms1.take k) ≤ 9000 ∧ len1 ≤ 40
      case neg =>
        have hbad : (n0 < 1 ∨ 4096 < n0) ∨ 9000 < (fewM (ms1.take k) : Int) ∨ 40 < (len1 : Int) := by omega
        have hin' : len1 ≤ k ∨ 9000 < fewM (ms1.take k) := by omega
        clear hin hok
        generalize fewM (ms1.take k) = fm at *
        go_wp2_with (go_at_call 10; refine (works_any w).mono ?_; rintro e w' ⟨rfl, hb⟩)
        all_goals first
          | (go_ret; exact ⟨rfl, hb⟩)
          | (exfalso; omega)
      case pos =>
      obtain ⟨⟨hg1, hg2⟩, hf9, hl40⟩ := hok
      have hkk : k = len1 := by omega
      obtain ⟨r, rfl⟩ : ∃ r : Nat, n0 = (r : Int) := ⟨n0.toNat, by omega⟩
      have HSH : Hid (∀ t ∈ ms1, t.b.length ≤ 9000) := Lib.hid (fun t ht => by
        have h1 := fewM_mem ms1 ht
        have h2 : ms1.take k = ms1 := List.take_of_length_le (by omega)
        rw [h2] at hf9
        unfold costM at h1
        omega)
      have hkd : decide (k < len1) = false := by simp; omega
      generalize fewM (ms1.take k) = fm at *
      clear hin
      subst hkk
      go_wp2_with fail
      all_goals first
        | (exfalso; omega)
        | skip
      refine (new_yes r w (by omega) (by omega)).mono ?_
      rintro e w1 ⟨g, S0, rfl, hN0, hS0, hb1⟩
      go_wp2_with fail
      refine (refNew_yes (w := w1) S0 (r := r) (by omega) (by omega)).mono ?_
      rintro e w2 ⟨cs0, rfl, hR0, hb2⟩
      obtain ⟨hcz, hca⟩ := hR0.size
      have hz1 := hb1.size
      have hz2 := hb2.size
      go_wp2_with (with_reducible refine at_store 28 rfl ?_)
      refine Stop.go (wpList_store_blk (by rfl) (by rfl) 28 _ _ (by rfl) w2.heap.size _ cs0 (by rfl) (by rfl) 28 (Blk.new w2 28 #[.int .i64 0, .slice none 0 0, .int .i64 0]) (by rw [hcz]; rfl) (info28 _ hcz) hca ?_)
      intro w3 f3 g3 s3
      clear s3
      have hb3 : Below w2.heap.size w2 w3 := below_grown ((Below.refl _ _).alloc (Nat.le_refl _) _) g3 (Nat.le_refl _) (Nat.le_refl _)
      have hbw : Below w.heap.size w w3 := (hb1.trans (hb2.mono hz1)).trans (hb3.mono (by omega))
      have hP : Pl w.heap.size g w2.heap.size 0 S0 ⟨r, [], 0⟩ cs0 w3 := ⟨(hN0.below hb2).below hb3, (hR0.wide (fun b hb e => e.elim id (fun e => absurd e (by omega)))).below hb3, f3, fun b e => ⟨hS0 b e, by have := hN0.lt e; omega⟩, by omega, Nat.le_refl _⟩
      have HP := Lib.hid hP
      have HBW := Lib.hid hbw
      have HGE := Lib.hid (hS0 g hN0.g_in)
      generalize hzv : w2.heap.size = zv at *
      clear hP hbw hb1 hb2 hb3 g3 f3 hR0 hN0 hS0 hz1 hz2 hzv hcz hca hf9 hm
      go_wp2_with fail
      go_loopw [11] (fun i wr => ∃ (j : Nat) (S : Nat → Prop) (s : St) (cs : Array Value), j ≤ k ∧ i = .int .i64 j ∧ Pl w.heap.size g zv j S s cs wr ∧ Below w.heap.size w wr) (fun i _ => k - (intOf i).toNat)
      case atStart => exact ⟨0, S0, _, cs0, by omega, rfl, HP.out, HBW.out⟩
      case round =>
        obtain ⟨j, S, s, cs, hj, rfl, hP, hb⟩ := hrel
        clear HP HBW
        by_cases hlt : j < k
        case neg =>
          have hd1 : decide (j < k) = false := by simpa using hlt
          go_wp2_with (first
            | (go_at_call 18; refine (num_any _ _).mono ?_; rintro e w' ⟨rfl, rfl⟩)
            | (go_at_call 10; refine (works_any wr).mono ?_; rintro e w' ⟨rfl, hbk⟩))
          go_ret
          exact ⟨rfl, hb.trans (hbk.mono hb.size)⟩
        case pos =>
          have hjl : j < ms1.length := by omega
          obtain ⟨ad, ccs, rfl, hadl, hadx, hmt, hc0, hcell⟩ := (HA.out.keep (S := No) (Turn.of_below hb No) (fun _ _ h => h.elim)).at_ hjl
          have hbx := HSH.out _ (List.getElem_mem hjl)
          generalize ms1[j] = m at hmt hbx
          obtain ⟨Ab, qb, cb, rfl, hby, hqb, hcb, i3, i4⟩ := hmt
          have e0 := hc0 _ rfl
          have e1 := hcell 0 _ rfl
          have e2 := hcell 1 _ rfl
          have hadz : (ad.add (j * 3)).block < wr.heap.size := by rw [block_of_add]; exact hadl
          have hada : (ad.add (j * 3)).block < w.heap.size := by rw [block_of_add]; have := hadx; omega
          obtain ⟨A, n, c, hcse⟩ := hP.ref.three
          subst hcse
          have hvl := hP.var.lt
          have hact : AcAt wr S ⟨0, 0, m⟩ #[.int .i64 0, .int .i64 0, .int .i64 m.fr, .int .i64 m.to, .slice Ab qb cb] := ⟨Ab, qb, cb, rfl, hby.wide (fun b _ e => (hP.low b e).1), hqb, hcb, by show In64 0; unfold In64; omega, by show In64 0; unfold In64; omega, i3, i4⟩
          have hrun : ∀ (w' : World) (Y : Nat → Prop), Below wr.heap.size wr w' → (∀ b, Y b → wr.heap.size ≤ b ∧ b < w'.heap.size) → Calls Try.prog 16 #[.pointer (some ⟨g, 0, none⟩), .agg #[.int .i64 (s.most : Int), .slice A n c, .int .i64 (s.came : Int)], .agg #[.int .i64 0, .int .i64 0, .int .i64 m.fr, .int .i64 m.to, .slice Ab qb cb]] w' (ActP w' S (fun b => b = zv ∨ Y b) g (s.putA m)) := fun w' Y hb' hY =>
            act_put (x := ⟨0, 0, m⟩) (hP.net.below hb') ((hP.ref.wide (fun b hb e => e.elim .inl (fun e => e.elim .inr (fun e => absurd (hY b e).1 (by omega))))).below hb') (fun b e => by have := hb'.size; rcases e with e | e; (rw [e]; omega); exact (hY b e).2) (hact.keep (S := No) (Turn.of_below hb' No) (fun _ _ h => h.elim)) rfl (by show m.b.length ≤ 1000000; omega) (by have := hP.came; omega)
          have HRUN := Lib.hid hrun
          have HPP := Lib.hid hP
          have HBB := Lib.hid hb
          have v0 := hP.var
          have hzB := hP.zlow
          have hqi : ((j : Nat) : Int) < ((k : Nat) : Int) := by omega
          clear hc0 hcell hadl hby hact hrun hP hb HA
          go_wp2_with fail
          refine wp_region_np ?_
          refine wp_region_held_drew (S := fun W => Blk W zv 28 #[.int .i64 (s.most : Int), .slice A n c, .int .i64 (s.came : Int)] ∧ W.cell? (ad.add (j * 3)) = some (.int .i64 m.fr) ∧ W.cell? ⟨(ad.add (j * 3)).block, (ad.add (j * 3)).off + 1, none⟩ = some (.int .i64 m.to) ∧ W.cell? ⟨(ad.add (j * 3)).block, (ad.add (j * 3)).off + 2, none⟩ = some (.slice Ab qb cb)) (by kernel_rfl) ⟨v0.drew, e0, e1, e2⟩ (fun hHeld => ?_)
          have hbd : Below wr.heap.size wr wr.drew := (Below.refl _ _).drew
          generalize wr.drew = wd at *
          refine wpAnyH_takeAt (i := 0) (d := 67) (v := ?vq0x) rfl rfl (by kernel_rfl) (by kernel_rfl) (by kernel_rfl) (fun _ _ _ h => h) (Or.inl ⟨by rfl, ?hyq0x⟩) hHeld ?_
          case hyq0x =>
            intro W hSw
            clear hSw
            (go_simp; try with_reducible rfl)
          simp only [List.setIfInBounds_toArray, List.set_cons_zero, List.set_cons_succ]
          refine wpAnyH_takeAt (i := 1) (d := 68) (v := ?vq1x) rfl rfl (by kernel_rfl) (by kernel_rfl) (by kernel_rfl) (fun _ _ _ h => h) (Or.inl ⟨by rfl, ?hyq1x⟩) hHeld ?_
          case hyq1x =>
            intro W hSw
            obtain ⟨sv, sa, sb, sc⟩ := hSw; obtain ⟨s0, s1, s2⟩ := sv.three; clear sv
            (go_simp; try with_reducible rfl)
          simp only [List.setIfInBounds_toArray, List.set_cons_zero, List.set_cons_succ]
          refine wpAnyH_takeAt (i := 2) (d := 69) (v := ?vq2x) rfl rfl (by kernel_rfl) (by kernel_rfl) (by kernel_rfl) (fun _ _ _ h => h) (Or.inl ⟨by rfl, ?hyq2x⟩) hHeld ?_
          case hyq2x =>
            intro W hSw
            clear hSw
            (go_simp; try with_reducible rfl)
          simp only [List.setIfInBounds_toArray, List.set_cons_zero, List.set_cons_succ]
          refine wpAnyH_takeAt (i := 3) (d := 70) (v := ?vq3x) rfl rfl (by kernel_rfl) (by kernel_rfl) (by kernel_rfl) (fun _ _ _ h => h) (Or.inl ⟨by rfl, ?hyq3x⟩) hHeld ?_
          case hyq3x =>
            intro W hSw
            clear hSw
            (go_simp; try with_reducible rfl)
          simp only [List.setIfInBounds_toArray, List.set_cons_zero, List.set_cons_succ]
          refine wpAnyH_takeAt (i := 4) (d := 71) (v := ?vq4x) rfl rfl (by kernel_rfl) (by kernel_rfl) (by kernel_rfl) (fun _ _ _ h => h) (Or.inl ⟨by rfl, ?hyq4x⟩) hHeld ?_
          case hyq4x =>
            intro W hSw
            clear hSw
            (go_simp; try with_reducible rfl)
          simp only [List.setIfInBounds_toArray, List.set_cons_zero, List.set_cons_succ]
          refine wpAnyH_takeAt (i := 5) (d := 72) (v := ?vq5x) rfl rfl (by kernel_rfl) (by kernel_rfl) (by kernel_rfl) (fun _ _ _ h => h) (Or.inl ⟨by rfl, ?hyq5x⟩) hHeld ?_
          case hyq5x =>
            intro W hSw
            obtain ⟨sv, sa, sb, sc⟩ := hSw; obtain ⟨s0, s1, s2⟩ := sv.three; clear sv
            (go_simp; try with_reducible rfl)
          simp only [List.setIfInBounds_toArray, List.set_cons_zero, List.set_cons_succ]
          refine wpAnyH_takeAt (i := 6) (d := 73) (v := ?vq6x) rfl rfl (by kernel_rfl) (by kernel_rfl) (by kernel_rfl) (fun _ _ _ h => h) (Or.inl ⟨by rfl, ?hyq6x⟩) hHeld ?_
          case hyq6x =>
            intro W hSw
            clear hSw
            (go_simp; try with_reducible rfl)
          simp only [List.setIfInBounds_toArray, List.set_cons_zero, List.set_cons_succ]
          refine wpAnyH_ready (rs := [7, 11]) (by kernel_rfl) (by simp) (AllReadyH.cons rfl (fun K hK => ?_) (AllReadyH.cons rfl (fun K hK => ?_) AllReadyH.nil))
          · go_simp
            refine (HRUN.out wd No hbd (fun _ h => h.elim)).mono ?_
            rintro e w5 ⟨cs5, rfl, S', hS1, hS2, hT5, hN5, hRY⟩
            have hR5 := hRY.wide (X' := fun b => S' b ∨ b = zv) (fun b _ e => e.elim .inl (fun e => .inr (.inl e)))
            obtain ⟨A5, n5, c5, rfl⟩ := hR5.three
            dsimp only
            have hT5' : Turn S wr w5 := (Turn.of_below hbd S).trans hT5 (fun _ _ e => e)
            have hS2' : ∀ b, S' b → S b ∨ wr.heap.size ≤ b := fun b e => (hS2 b e).elim .inl (fun e => .inr (by have := hbd.size; omega))
            have hnS : ∀ b, b < w.heap.size → ¬ S b := fun b hb e => by have := (HPP.out.low b e).1; omega
            have hv5 := v0.keep hT5' (fun e => (HPP.out.low _ e).2 rfl)
            refine hK.out _ _ ⟨hv5, (hT5'.cell (p := (ad.add (j * 3))) hadz (hnS _ hada)).trans e0, (hT5'.cell (p := ⟨(ad.add (j * 3)).block, (ad.add (j * 3)).off + 1, none⟩) hadz (hnS _ hada)).trans e1, (hT5'.cell (p := ⟨(ad.add (j * 3)).block, (ad.add (j * 3)).off + 2, none⟩) hadz (hnS _ hada)).trans e2⟩ (fun hHeld => ?_)
            clear hK K
            try simp only [List.setIfInBounds_toArray, List.set_cons_zero, List.set_cons_succ]
            refine wpAnyH_takeAt (i := 8) (d := 66) (v := ?vq7x) rfl rfl (by kernel_rfl) (by kernel_rfl) (by kernel_rfl) (fun _ _ _ h => h) (Or.inl ⟨by rfl, ?hyq7x⟩) hHeld ?_
            case hyq7x =>
              intro W hSw
              clear hSw
              (go_simp; try with_reducible rfl)
            simp only [List.setIfInBounds_toArray, List.set_cons_zero, List.set_cons_succ]
            refine wpAnyH_takeAt (i := 9) (d := 75) (v := ?vq8x) rfl rfl (by kernel_rfl) (by kernel_rfl) (by kernel_rfl) (fun _ _ _ h => h) (Or.inl ⟨by rfl, ?hyq8x⟩) hHeld ?_
            case hyq8x =>
              intro W hSw
              clear hSw
              (go_simp; try with_reducible rfl)
            simp only [List.setIfInBounds_toArray, List.set_cons_zero, List.set_cons_succ]
            refine wpAnyH_takeAt (i := 10) (d := 76) (v := ?vq9x) rfl rfl (by kernel_rfl) (by kernel_rfl) (by kernel_rfl) (fun _ _ _ h => h) (Or.inl ⟨by rfl, ?hyq9x⟩) hHeld ?_
            case hyq9x =>
              intro W hSw
              clear hSw
              (go_simp; try with_reducible rfl)
            simp only [List.setIfInBounds_toArray, List.set_cons_zero, List.set_cons_succ]
            refine wpAnyH_ready (rs := [11]) (by kernel_rfl) (by simp) (AllReadyH.cons rfl (fun K hK => ?_) AllReadyH.nil)
            go_simp
            have hbA : Below w5.heap.size w5 (w5.alloc (.cells #[.int .i64 0, .slice none 0 0, .int .i64 0] 28)) := (Below.refl _ _).alloc (Nat.le_refl _) _
            refine hK.out _ _ ⟨hHeld.1.alloc _, (hbA.cell (p := (ad.add (j * 3))) (block_lt_of_cell hHeld.2.1)).trans hHeld.2.1, (hbA.cell (p := ⟨(ad.add (j * 3)).block, (ad.add (j * 3)).off + 1, none⟩) (block_lt_of_cell hHeld.2.2.1)).trans hHeld.2.2.1, (hbA.cell (p := ⟨(ad.add (j * 3)).block, (ad.add (j * 3)).off + 2, none⟩) (block_lt_of_cell hHeld.2.2.2)).trans hHeld.2.2.2⟩ (fun hHeld => ?_)
            clear hK K
            try simp only [List.setIfInBounds_toArray, List.set_cons_zero, List.set_cons_succ]
            have kbb : Blk (w5.alloc (.cells #[.int .i64 0, .slice none 0 0, .int .i64 0] 28)) w5.heap.size 28 #[.int .i64 0, .slice none 0 0, .int .i64 0] := Blk.new _ _ _
            have hNz := hN5.below hbA
            have hRz := hR5.below hbA
            have hTz := hT5'.trans (Turn.of_below hbA S) (fun _ _ e => e)
            have hbbl : wr.heap.size ≤ w5.heap.size := hT5'.size
            have hbbS : ¬ S' w5.heap.size := fun e => by have := hN5.lt e; omega
            have hbbR : RAt (w5.alloc (.cells #[.int .i64 0, .slice none 0 0, .int .i64 0] 28)) (fun b => (S' b ∨ b = zv) ∨ b = w5.heap.size) (s.putA m) #[.int .i64 ((s.putA m).most : Int), .slice A5 n5 c5, .int .i64 ((s.putA m).came : Int)] := (hR5.wide (fun b hb e => e.elim id (fun e => absurd e (by omega)))).below hbA
            obtain ⟨bb, hbb⟩ : ∃ x, x = w5.heap.size := ⟨_, rfl⟩
            rw [← hbb] at kbb hbbl hbbS hbbR ⊢
            clear hbb
            generalize w5.alloc (.cells #[.int .i64 0, .slice none 0 0, .int .i64 0] 28) = wy at *
            refine wpAnyH_ready (rs := [12]) (by kernel_rfl) (by simp) (AllReadyH.cons rfl (fun K hK => ?_) AllReadyH.nil)
            refine step_store_blk (by rfl) rfl 28 _ _ rfl bb _ #[.int .i64 ((s.putA m).most : Int), .slice A5 n5 c5, .int .i64 ((s.putA m).came : Int)] rfl rfl 28 kbb rfl (info28 _ rfl) (by simp [Value.oneCell']) ?_
            intro wz fz gz sz
            have hTg : Turn (fun b => b = bb) wy wz := Turn.of_grown gz (fun r e => by injection e with e; exact e.symm)
            have hNe := hNz.keep hTg (fun b _ e e' => hbbS (e ▸ e'))
            have hRe := (hbbR.keep hTg (fun b _ e => .inr e)).wide (X' := fun b => S' b ∨ b = zv) (fun b _ e => .inl e)
            have hTe := hTz.trans hTg (fun b hb e => by omega)
            have hve : Blk wz zv 28 #[.int .i64 (s.most : Int), .slice A n c, .int .i64 (s.came : Int)] := hHeld.1.keep hTg (by omega)
            have hnb : ∀ p : Addr, p.block < wr.heap.size → ¬ p.block = bb := fun p hp e => by omega
            refine hK.out _ _ ⟨hve, (hTg.cell (p := (ad.add (j * 3))) (block_lt_of_cell hHeld.2.1) (hnb _ hadz)).trans hHeld.2.1, (hTg.cell (p := ⟨(ad.add (j * 3)).block, (ad.add (j * 3)).off + 1, none⟩) (block_lt_of_cell hHeld.2.2.1) (hnb ⟨(ad.add (j * 3)).block, (ad.add (j * 3)).off + 1, none⟩ hadz)).trans hHeld.2.2.1, (hTg.cell (p := ⟨(ad.add (j * 3)).block, (ad.add (j * 3)).off + 2, none⟩) (block_lt_of_cell hHeld.2.2.2) (hnb ⟨(ad.add (j * 3)).block, (ad.add (j * 3)).off + 2, none⟩ hadz)).trans hHeld.2.2.2⟩ (fun hHeld => ?_)
            clear hK K
            try simp only [List.setIfInBounds_toArray, List.set_cons_zero, List.set_cons_succ]
            refine wpAnyH_takeAt (i := 13) (d := 13) (v := ?vq10x) rfl rfl (by kernel_rfl) (by kernel_rfl) (by kernel_rfl) (fun _ _ _ h => h) (Or.inl ⟨by rfl, ?hyq10x⟩) hHeld ?_
            case hyq10x =>
              intro W hSw
              clear hSw
              (go_simp; try with_reducible rfl)
            simp only [List.setIfInBounds_toArray, List.set_cons_zero, List.set_cons_succ]
            refine wpAnyH_done (by kernel_rfl) ?_ _
            obtain ⟨z0, z1, z2⟩ := fz.three
            have hne : bb ≠ zv := by omega
            clear hHeld e0 e1 e2
            go_wp2_with (with_reducible refine at_store 28 rfl ?_)
            refine Stop.go (wpList_store_blk (by rfl) (by rfl) 28 _ _ (by rfl) zv _ #[.int .i64 ((s.putA m).most : Int), .slice A5 n5 c5, .int .i64 ((s.putA m).came : Int)] (by rfl) (by rfl) 28 hve (by rfl) (info28 _ rfl) (by simp [Value.oneCell']) ?_)
            intro wv fv gv sv
            clear sv
            have hTv : Turn (fun b => b = zv) wz wv := Turn.of_grown gv (fun r e => by injection e with e; exact e.symm)
            have hPv := HPP.out.acted HBB.out.size hS2' hNe hRe (by have := came_putA s m; have := HPP.out.came; omega) fv hTv
            have hBv : Below w.heap.size w wv := (HBB.out.trans (hTe.below HBB.out.size (fun b e => (HPP.out.low b e).1))).trans (hTv.below (by have := HBB.out.size; have := hTe.size; omega) (fun b e => by omega))
            obtain ⟨y0, y1, y2⟩ := fv.three
            have his := is_any hPv.net hPv.ref
            go_wp2_with (go_at_call 17; refine his.mono ?_; rintro e w9 ⟨rfl, hb9⟩)
            exact ⟨⟨j + 1, S', s.putA m, #[.int .i64 ((s.putA m).most : Int), .slice A5 n5 c5, .int .i64 ((s.putA m).came : Int)], by omega, by go_num, hPv.below hb9, hBv.trans (hb9.mono hBv.size)⟩, by simp [intOf]; omega⟩
          · go_simp
            have hbA : Below wr.heap.size wr (wd.alloc (.cells #[.int .i64 0, .slice none 0 0, .int .i64 0] 28)) := hbd.alloc hbd.size _
            refine hK.out _ _ ⟨hHeld.1.alloc _, (hbA.cell (p := (ad.add (j * 3))) hadz).trans e0, (hbA.cell (p := ⟨(ad.add (j * 3)).block, (ad.add (j * 3)).off + 1, none⟩) hadz).trans e1, (hbA.cell (p := ⟨(ad.add (j * 3)).block, (ad.add (j * 3)).off + 2, none⟩) hadz).trans e2⟩ (fun hHeld => ?_)
            clear hK K
            try simp only [List.setIfInBounds_toArray, List.set_cons_zero, List.set_cons_succ]
            have kb0 : Blk (wd.alloc (.cells #[.int .i64 0, .slice none 0 0, .int .i64 0] 28)) wd.heap.size 28 #[.int .i64 0, .slice none 0 0, .int .i64 0] := Blk.new _ _ _
            have hbb0 : wr.heap.size ≤ wd.heap.size := hbd.size
            have hbl0 : wd.heap.size < (wd.alloc (.cells #[.int .i64 0, .slice none 0 0, .int .i64 0] 28)).heap.size := by simp
            obtain ⟨bb, hbb⟩ : ∃ x, x = wd.heap.size := ⟨_, rfl⟩
            rw [← hbb] at kb0 hbb0 hbl0 ⊢
            clear hbb
            generalize wd.alloc (.cells #[.int .i64 0, .slice none 0 0, .int .i64 0] 28) = wy at *
            refine wpAnyH_ready (rs := [7]) (by kernel_rfl) (by simp) (AllReadyH.cons rfl (fun K hK => ?_) AllReadyH.nil)
            go_simp
            refine (HRUN.out wy (fun b => b = bb) hbA (fun b e => by rw [e]; exact ⟨hbb0, hbl0⟩)).mono ?_
            rintro e w5 ⟨cs5, rfl, S', hS1, hS2, hT5, hN5, hRY⟩
            have hR5 := hRY.wide (X' := fun b => S' b ∨ b = zv) (fun b _ e => e.elim .inl (fun e => .inr (.inl e)))
            obtain ⟨A5, n5, c5, rfl⟩ := hR5.three
            dsimp only
            have hT5' : Turn S wr w5 := (Turn.of_below hbA S).trans hT5 (fun _ _ e => e)
            have hS2' : ∀ b, S' b → S b ∨ wr.heap.size ≤ b := fun b e => (hS2 b e).elim .inl (fun e => .inr (by have := hbA.size; omega))
            have hnS : ∀ b, b < w.heap.size → ¬ S b := fun b hb e => by have := (HPP.out.low b e).1; omega
            have hv5 := v0.keep hT5' (fun e => (HPP.out.low _ e).2 rfl)
            refine hK.out _ _ ⟨hv5, (hT5'.cell (p := (ad.add (j * 3))) hadz (hnS _ hada)).trans e0, (hT5'.cell (p := ⟨(ad.add (j * 3)).block, (ad.add (j * 3)).off + 1, none⟩) hadz (hnS _ hada)).trans e1, (hT5'.cell (p := ⟨(ad.add (j * 3)).block, (ad.add (j * 3)).off + 2, none⟩) hadz (hnS _ hada)).trans e2⟩ (fun hHeld => ?_)
            clear hK K
            try simp only [List.setIfInBounds_toArray, List.set_cons_zero, List.set_cons_succ]
            have hbbS' : ¬ S bb := fun e => by have := HPP.out.net.lt e; omega
            have kbb := kb0.keep hT5 hbbS'
            have hbbl := hbb0
            have hbbS : ¬ S' bb := fun e => (hS2 bb e).elim hbbS' (fun e => by omega)
            have hNz := hN5
            have hTz := hT5'
            have hbbR : RAt w5 (fun b => (S' b ∨ b = zv) ∨ b = bb) (s.putA m) #[.int .i64 ((s.putA m).most : Int), .slice A5 n5 c5, .int .i64 ((s.putA m).came : Int)] := hRY.wide (fun b _ e => e.elim (fun e => e.elim .inl (fun e => .inr (.inl e))) (fun e => .inr (.inr e)))
            refine wpAnyH_takeAt (i := 8) (d := 66) (v := ?vq11x) rfl rfl (by kernel_rfl) (by kernel_rfl) (by kernel_rfl) (fun _ _ _ h => h) (Or.inl ⟨by rfl, ?hyq11x⟩) hHeld ?_
            case hyq11x =>
              intro W hSw
              clear hSw
              (go_simp; try with_reducible rfl)
            simp only [List.setIfInBounds_toArray, List.set_cons_zero, List.set_cons_succ]
            refine wpAnyH_takeAt (i := 9) (d := 75) (v := ?vq12x) rfl rfl (by kernel_rfl) (by kernel_rfl) (by kernel_rfl) (fun _ _ _ h => h) (Or.inl ⟨by rfl, ?hyq12x⟩) hHeld ?_
            case hyq12x =>
              intro W hSw
              clear hSw
              (go_simp; try with_reducible rfl)
            simp only [List.setIfInBounds_toArray, List.set_cons_zero, List.set_cons_succ]
            refine wpAnyH_takeAt (i := 10) (d := 76) (v := ?vq13x) rfl rfl (by kernel_rfl) (by kernel_rfl) (by kernel_rfl) (fun _ _ _ h => h) (Or.inl ⟨by rfl, ?hyq13x⟩) hHeld ?_
            case hyq13x =>
              intro W hSw
              clear hSw
              (go_simp; try with_reducible rfl)
            simp only [List.setIfInBounds_toArray, List.set_cons_zero, List.set_cons_succ]
            refine wpAnyH_ready (rs := [12]) (by kernel_rfl) (by simp) (AllReadyH.cons rfl (fun K hK => ?_) AllReadyH.nil)
            refine step_store_blk (by rfl) rfl 28 _ _ rfl bb _ #[.int .i64 ((s.putA m).most : Int), .slice A5 n5 c5, .int .i64 ((s.putA m).came : Int)] rfl rfl 28 kbb rfl (info28 _ rfl) (by simp [Value.oneCell']) ?_
            intro wz fz gz sz
            have hTg : Turn (fun b => b = bb) w5 wz := Turn.of_grown gz (fun r e => by injection e with e; exact e.symm)
            have hNe := hNz.keep hTg (fun b _ e e' => hbbS (e ▸ e'))
            have hRe := (hbbR.keep hTg (fun b _ e => .inr e)).wide (X' := fun b => S' b ∨ b = zv) (fun b _ e => .inl e)
            have hTe := hTz.trans hTg (fun b hb e => by omega)
            have hve : Blk wz zv 28 #[.int .i64 (s.most : Int), .slice A n c, .int .i64 (s.came : Int)] := hHeld.1.keep hTg (by omega)
            have hnb : ∀ p : Addr, p.block < wr.heap.size → ¬ p.block = bb := fun p hp e => by omega
            refine hK.out _ _ ⟨hve, (hTg.cell (p := (ad.add (j * 3))) (block_lt_of_cell hHeld.2.1) (hnb _ hadz)).trans hHeld.2.1, (hTg.cell (p := ⟨(ad.add (j * 3)).block, (ad.add (j * 3)).off + 1, none⟩) (block_lt_of_cell hHeld.2.2.1) (hnb ⟨(ad.add (j * 3)).block, (ad.add (j * 3)).off + 1, none⟩ hadz)).trans hHeld.2.2.1, (hTg.cell (p := ⟨(ad.add (j * 3)).block, (ad.add (j * 3)).off + 2, none⟩) (block_lt_of_cell hHeld.2.2.2) (hnb ⟨(ad.add (j * 3)).block, (ad.add (j * 3)).off + 2, none⟩ hadz)).trans hHeld.2.2.2⟩ (fun hHeld => ?_)
            clear hK K
            try simp only [List.setIfInBounds_toArray, List.set_cons_zero, List.set_cons_succ]
            refine wpAnyH_takeAt (i := 13) (d := 13) (v := ?vq14x) rfl rfl (by kernel_rfl) (by kernel_rfl) (by kernel_rfl) (fun _ _ _ h => h) (Or.inl ⟨by rfl, ?hyq14x⟩) hHeld ?_
            case hyq14x =>
              intro W hSw
              clear hSw
              (go_simp; try with_reducible rfl)
            simp only [List.setIfInBounds_toArray, List.set_cons_zero, List.set_cons_succ]
            refine wpAnyH_done (by kernel_rfl) ?_ _
            obtain ⟨z0, z1, z2⟩ := fz.three
            have hne : bb ≠ zv := by omega
            clear hHeld e0 e1 e2
            go_wp2_with (with_reducible refine at_store 28 rfl ?_)
            refine Stop.go (wpList_store_blk (by rfl) (by rfl) 28 _ _ (by rfl) zv _ #[.int .i64 ((s.putA m).most : Int), .slice A5 n5 c5, .int .i64 ((s.putA m).came : Int)] (by rfl) (by rfl) 28 hve (by rfl) (info28 _ rfl) (by simp [Value.oneCell']) ?_)
            intro wv fv gv sv
            clear sv
            have hTv : Turn (fun b => b = zv) wz wv := Turn.of_grown gv (fun r e => by injection e with e; exact e.symm)
            have hPv := HPP.out.acted HBB.out.size hS2' hNe hRe (by have := came_putA s m; have := HPP.out.came; omega) fv hTv
            have hBv : Below w.heap.size w wv := (HBB.out.trans (hTe.below HBB.out.size (fun b e => (HPP.out.low b e).1))).trans (hTv.below (by have := HBB.out.size; have := hTe.size; omega) (fun b e => by omega))
            obtain ⟨y0, y1, y2⟩ := fv.three
            have his := is_any hPv.net hPv.ref
            go_wp2_with (go_at_call 17; refine his.mono ?_; rintro e w9 ⟨rfl, hb9⟩)
            exact ⟨⟨j + 1, S', s.putA m, #[.int .i64 ((s.putA m).most : Int), .slice A5 n5 c5, .int .i64 ((s.putA m).came : Int)], by omega, by go_num, hPv.below hb9, hBv.trans (hb9.mono hBv.size)⟩, by simp [intOf]; omega⟩

set_option maxRecDepth 100000 in
theorem lifted (os : Os) (started : os.Started) (H : Type) (enc : TypeId × Value → H) :
    ReturnsInHanded {} Try.checked os 6 .any (Rows.netPutsSpec.pre6 enc Try.prog Try.f6 Rows.netPutsRow.domain false) (Rows.netPutsSpec.post enc Try.prog Try.f6 false true false false) := by
  refine returnsInHanded_of_change (C := Try.checked) own started (by kernel_rfl) Try.func6
    (ChangeSpec.witness6 (enc := enc) (C := Try.checked) false ⟨#[], #[.int .i64 0, .slice none 0 0], []⟩ 8 (by kernel_rfl) (by kernel_rfl) (by kernel_rfl) (by kernel_rfl)) ?_
  intro W base args ds gs before hval0 hW hcnd _
  have hval : ∀ (j : Nat) t v, Try.f6.params[j]? = some t → args[j]? = some v → Value.okWide Try.prog W .any base t v := hval0
  have hW' := hW
  obtain ⟨p, q, hA0, hV, rfl, hfz, hnd⟩ := hW
  have hA : DataW.TrodAll enc Try.prog W 0 (fun _ => true) true Try.f6.params.toList args.toList ds p := hA0
  rw [Try.params6] at hA hval
  obtain ⟨v0, vs0, d0, ds0, p0, q0, hargs, rfl, rfl, h0, r0⟩ := trodAll_cons hA
  obtain ⟨v1, vs1, d1, ds1, p1, q1, rfl, rfl, rfl, h1, r1⟩ := trodAll_cons r0
  obtain ⟨rfl, rfl, rfl⟩ := trodAll_nil r1
  obtain rfl : args = #[v0, v1] := by cases args; simp_all
  obtain ⟨rfl, rfl⟩ := trodVars_none hV
  have k0 := h0
  have lt0 : ∀ x ∈ p0, x.block < W.heap.size := by obtain ⟨m, hm⟩ := k0; exact DataW.trod_lt m _ _ _ hm
  obtain ⟨n0, rfl, rfl, rfl, wf0⟩ := open_int Try.underlying3 (hval 0 3 v0 rfl rfl) h0
  have k1 := h1
  have lt1 : ∀ x ∈ p1, x.block < W.heap.size := by obtain ⟨m, hm⟩ := k1; exact DataW.trod_lt m _ _ _ hm
  obtain ⟨a1, len1, cap1, rfl⟩ := okWide_slice Try.underlying60 (hval 1 60 v1 rfl rfl)
  obtain ⟨⟨ms1, b1⟩, hc1, hm1⟩ := open_msgs h1
  clear hA0 hval0
  refine (walk n0 a1 len1 cap1 ms1 W (i64_bounds wf0) b1 hc1 hm1).mono fun e W' ⟨he, bel⟩ => ?_
  subst he
  exact ⟨_, rfl, _, _, _, [], _, [], hW', trodAll_mk1 (shut_bool Try.underlying4 _), (trodAll_cons_mk (Below.trod laidOut (by kernel_rfl) (of_decide_eq_true (by kernel_rfl)) k0 bel lt0) (trodAll_cons_mk (Below.trod laidOut (by kernel_rfl) (of_decide_eq_true (by kernel_rfl)) k1 bel lt1) trodAll_mk0)), rfl, bel.frame _, fun h => by cases h⟩

theorem over : Rows.netPutsRow.holds Try.pinned (OpenSpec.ofChange Rows.netPutsSpec) :=
  OpenClaim.holds_of_wide 6 Try.f6 rfl rfl rfl rfl rfl rfl rfl ⟨rfl, rfl, rfl, rfl, rfl⟩ rfl rfl rfl rfl rfl (by kernel_rfl) Try.func6 (by kernel_rfl)
    (of_decide_eq_true (by kernel_rfl)) (by unfold Func.isWrapper; first | (rw [if_pos (by decide +kernel)]; kernel_rfl) | (rw [if_neg (by decide +kernel)]; exact ⟨rfl, rfl⟩))
    (fun os started H enc _ => lifted os started H enc)

theorem proved : Rows.NetPutsSaid := over
end Go.Proofs.Yticabfmjdjcfnaa.netPuts
namespace Go.Proofs.Yticabfmjdjcfnaa
theorem netPuts_holds : Rows.NetPutsSaid := netPuts.proved
#print axioms netPuts_holds
end Go.Proofs.Yticabfmjdjcfnaa
