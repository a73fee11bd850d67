/-
  For every bound that may be and all calls waystationlaw05.NetOnce returns true: what is taken was put, or is a double of it; each number is taken or dropped once at most, and numbers rise. Conditions: none.
-/
import Derived.Test.YticabfmjdjcfnaaRows
import Derived.Test.YticabfmjdjcfnaaOnceS
import Derived.WalkKit
import Derived.ProofKit
import Derived.OpenShut
import Derived.ShutString
import Derived.ChangeOld
import Derived.Below
namespace Go.Proofs.Yticabfmjdjcfnaa.netOnce
open Go.ChangeShapes Go.WideShapes Go.ChangeAt Go.RowKit
set_option linter.unusedVariables false
theorem own : ownKnob Try.prog.godebug = none := by kernel_rfl
theorem laidOut : laidOutB Try.prog = true := by kernel_rfl
theorem live_put {r : Nat} {ms : List Msg} {gs : List Bool} {m : Msg} (h : ms.length = gs.length) : (⟨r, live 0 ms gs, ms.length⟩ : St).put m = ⟨r, live 0 (ms ++ [m]) (gs ++ [false]), (ms ++ [m]).length⟩ := by
  unfold St.put
  rw [live_snoc 0 ms gs m h]
  simp
set_option maxHeartbeats 4000000 in
set_option maxRecDepth 100000 in
theorem walk (n0 : Int) (a1 : Option Addr) (len1 cap1 : Nat) (xs1 : List Ac) (w : World) (hn0 : -9223372036854775808 ≤ n0 ∧ n0 ≤ 9223372036854775807) (b1 : Acs w No a1 len1 xs1) (hc1 : len1 ≤ cap1) (hm1 : cap1 ≤ maxLen) :
    Calls Try.prog 8 #[.int .i64 n0, .slice a1 len1 cap1] w fun e w' => e = .returned (.bool true) ∧ Below w.heap.size w w' := by
  have HF := Lib.hid (few_any b1 hm1 hc1)
  have hlen := b1.len
  have HA := Lib.hid (b1.wide (X' := fun b => w.heap.size ≤ b) (fun b hb e => absurd e (by omega)))
  clear b1
  by_cases hg : 1 ≤ n0 ∧ n0 ≤ 4096
  case neg =>
    have hd : n0 < 1 ∨ 4096 < n0 := by omega
    go_enter Try.func8, Try.ntmps8
    go_wp2_with (go_at_call 10; refine (works_any w).mono ?_; rintro e w' ⟨rfl, hb⟩)
    all_goals first
      | (go_ret; exact ⟨rfl, hb⟩)
      | (exfalso; omega)
  case pos =>
  obtain ⟨hg1, hg2⟩ := hg
  obtain ⟨r, rfl⟩ : ∃ r : Nat, n0 = (r : Int) := ⟨n0.toNat, by omega⟩
  cases hfew : decide (fewN xs1 ≤ 10000) with
  | false =>
    have HF' : Hid (Calls Try.prog 9 #[.slice a1 len1 cap1] w fun e w' => e = .returned (.bool false) ∧ w = w') := Lib.hid (by have := HF.out; rw [hfew] at this; exact this)
    clear hlen hfew HF
    go_enter Try.func8, Try.ntmps8
    go_wp2_with (first
      | (go_at_call 9; refine HF'.out.mono ?_; rintro e w' ⟨rfl, rfl⟩)
      | (go_at_call 10; refine (works_any w).mono ?_; rintro e w' ⟨rfl, hb⟩))
    go_ret
    exact ⟨rfl, hb⟩
  | true =>
  have HF' : Hid (Calls Try.prog 9 #[.slice a1 len1 cap1] w fun e w' => e = .returned (.bool true) ∧ w = w') := Lib.hid (by have := HF.out; rw [hfew] at this; exact this)
  obtain ⟨hn100, hshort⟩ := few_ok (of_decide_eq_true hfew)
  have HSH := Lib.hid hshort
  have hl100 : len1 ≤ 100 := by omega
  clear HF hfew hshort
  go_enter Try.func8, Try.ntmps8
  go_wp2_with (go_at_call 9; refine HF'.out.mono ?_; rintro e w' ⟨rfl, rfl⟩)
  refine (new_yes r w (by omega) (by omega)).mono ?_
  rintro e w1 ⟨g, S0, rfl, hN0, hS0, hb1⟩
  go_wp2_with fail
  go_loopw [7, 8, 9] (fun v7 v8 i wr => ∃ (k : Nat) (S : Nat → Prop) (ms : List Msg) (gs : List Bool), k ≤ len1 ∧ i = .int .i64 k ∧ Nt wr S g ⟨r, live 0 ms gs, ms.length⟩ ∧ Rest w.heap.size S ms gs v7 v8 wr ∧ ms.length = gs.length ∧ ms.length ≤ k ∧ Below w.heap.size w wr) (fun _ _ i _ => len1 - (intOf i).toNat)
  case atStart => exact ⟨0, S0, [], [], by omega, rfl, hN0, Rest.begin _ hS0 hb1.size, rfl, by simp, hb1⟩
  case round =>
    obtain ⟨k, S, ms, gs, hk, rfl, hN, hR, heq, hmk, hb⟩ := hrel
    have HN := Lib.hid hN
    have HR := Lib.hid hR
    have HB := Lib.hid hb
    have HEQ := Lib.hid heq
    clear hN hR hb heq hN0 hb1 hS0 HF'
    by_cases hlt : k < len1
    case neg =>
      have hd1 : decide (k < len1) = false := by simpa using hlt
      obtain ⟨A7, c7, rfl, hc7, hm7⟩ := HR.out.form7
      obtain ⟨A8, c8, rfl, hc8, hm8⟩ := HR.out.form8
      have hle := HN.out.ok.len
      have HC : Hid ((live 0 ms gs).length = (gs.filter (fun g => !g)).length) := Lib.hid (live_len 0 ms gs HEQ.out)
      have hlm : gs.length ≤ 100 := by have := HEQ.out; omega
      go_wp2_with fail
      go_loop [23, 24] (fun u i => ∃ j : Nat, j ≤ gs.length ∧ i = .int .i64 j ∧ u = .int .i64 (((gs.take j).filter (fun g => !g)).length : Int) ∧ ((gs.take j).filter (fun g => !g)).length ≤ j) (fun _ i => gs.length - (intOf i).toNat)
      case atStart => exact ⟨0, by omega, rfl, by simp, by simp⟩
      case round =>
        obtain ⟨j, hj, rfl, rfl, hjl⟩ := hrel
        by_cases hjt : j < gs.length
        case pos =>
          have HQ := Lib.hid (filter_take gs hjt)
          obtain ⟨g8, rfl, hcell, -⟩ := HR.out.gone_at (q := j) (List.getElem?_eq_getElem hjt)
          have hcl : wr.cell? ((⟨g8, 0, none⟩ : Addr).add j) = some (.bool gs[j]) := by
            have hadd : (⟨g8, 0, none⟩ : Addr).add j = ⟨g8, j, none⟩ := by unfold Addr.add; split <;> simp_all
            rw [hadd]; exact hcell
          generalize gs[j] = bb at *
          have hm8' := hm8
          unfold maxLen at hm8'
          cases bb with
          | false =>
            have HQ' : Hid (((gs.take (j + 1)).filter (fun g => !g)).length = ((gs.take j).filter (fun g => !g)).length + 1) := Lib.hid (by have := HQ.out; simpa using this)
            clear HQ
            go_wp2_with fail
            refine ⟨⟨j + 1, by omega, by go_num, ?_, by have := HQ'.out; omega⟩, by simp [intOf]; omega⟩
            congr 1
            have := HQ'.out
            omega
          | true =>
            have HQ' : Hid (((gs.take (j + 1)).filter (fun g => !g)).length = ((gs.take j).filter (fun g => !g)).length) := Lib.hid (by have := HQ.out; simpa using this)
            clear HQ
            go_wp2_with fail
            refine ⟨⟨j + 1, by omega, by go_num, ?_, by have := HQ'.out; omega⟩, by simp [intOf]; omega⟩
            congr 1
            have := HQ'.out
            omega
        case neg =>
          have hdj : decide (j < gs.length) = false := by simpa using hjt
          have HE : Hid (gs.take j = gs) := Lib.hid (List.take_of_length_le (by omega))
          rw [HE.out] at hjl ⊢
          obtain ⟨mb, hN⟩ := HN.out
          have hl : Calls Try.prog 29 #[.pointer (some ⟨g, 0, none⟩)] wr fun e w' => e = .returned (.int .i64 ((gs.filter (fun g => !g)).length : Int)) ∧ wr = w' := by have := len_any hN; rw [HC.out] at this; exact this
          have hcm : Calls Try.prog 25 #[.pointer (some ⟨g, 0, none⟩)] wr fun e w' => e = .returned (.int .i64 (ms.length : Int)) ∧ wr = w' := came_any hN
          generalize (gs.filter (fun g => !g)).length = cnt at *
          clear hN
          go_wp2_with (first
            | (go_at_call 18; refine (num_any _ _).mono ?_; rintro e w' ⟨rfl, rfl⟩)
            | (go_at_call 29; refine hl.mono ?_; rintro e w' ⟨rfl, rfl⟩)
            | (go_at_call 25; refine hcm.mono ?_; rintro e w' ⟨rfl, rfl⟩)
            | (go_at_call 10; refine (works_any wr).mono ?_; rintro e w' ⟨rfl, hbw⟩))
          go_ret
          exact ⟨rfl, HB.out.trans (hbw.mono HB.out.size)⟩
    case pos =>
    have hkl : k < xs1.length := by omega
    obtain ⟨ad, cs, rfl, hadl, -, hac, hc0, hcell⟩ := (HA.out.below HB.out).at_ hkl
    have hbx := HSH.out _ (List.getElem_mem hkl)
    generalize xs1[k] = x at hac hbx
    obtain ⟨Ab, qb, cb, rfl, hby, hqb, hcb, i1, i2, i3, i4⟩ := hac
    have e0 := hc0 _ rfl
    have e1 := hcell 0 _ rfl
    have e2 := hcell 1 _ rfl
    have e3 := hcell 2 _ rfl
    have e4 := hcell 3 _ rfl
    clear hc0 hcell hadl
    have HBY := Lib.hid hby
    clear hby
    go_wp2_with (with_reducible refine at_store 47 rfl ?_)
    refine Stop.go (wpList_store_blk (by rfl) (by rfl) 47 _ _ (by rfl) wr.heap.size _ #[.int .i64 x.what, .int .i64 x.pick, .int .i64 x.m.fr, .int .i64 x.m.to, .slice Ab qb cb] (by rfl) (by rfl) 47 (Blk.new wr 47 #[.int .i64 0, .int .i64 0, .int .i64 0, .int .i64 0, .slice none 0 0]) (by rfl) (info47 _ rfl) (by simp [Value.oneCell']) ?_)
    intro w2 f2 g2 s2
    clear s2
    have hb2 : Below wr.heap.size wr w2 := below_grown ((Below.refl _ _).alloc (Nat.le_refl _) _) g2 (Nat.le_refl _) (Nat.le_refl _)
    have HSL := Lib.hid (fun b => HN.out.lt (b := b))
    have hN2 := HN.out.below hb2
    have hR2 := HR.out.below hb2
    have hB2 := HB.out.trans (hb2.mono HB.out.size)
    have hz2 := hb2.size
    have hfl := f2.lt
    have hmv : MsgV w2 (fun b => w.heap.size ≤ b) x.m (.agg #[.int .i64 x.m.fr, .int .i64 x.m.to, .slice Ab qb cb]) := ⟨_, _, _, rfl, HBY.out.below hb2⟩
    clear g2 hb2 e0 e1 e2 e3 e4 HN HR HB HBY HA
    obtain ⟨d0, d1, d2, d3, d4⟩ := f2.five
    obtain ⟨A7, c7, rfl, hc7, hm7⟩ := hR2.form7
    obtain ⟨A8, c8, rfl, hc8, hm8⟩ := hR2.form8
    have hgs : gs.length = ms.length := HEQ.out.symm
    have HM := Lib.hid hmv
    have HR2 := Lib.hid hR2
    have HB2 := Lib.hid hB2
    have HN2 := Lib.hid hN2
    have HGE := Lib.hid (hR2.low g hN2.g_in)
    clear hmv hR2 hB2 hN2
    rw [hgs] at *
    have HGS := Lib.hid hgs
    clear hgs
    have hm7' := hm7
    have hm8' := hm8
    unfold maxLen at hm7' hm8'
    cases hw0 : (x.what == 0) with
    | true =>
      go_wp2_with fail
      refine (put_any HN2.out HM.out HGE.out (by show ms.length ≤ 1000000000; omega)).mono ?_
      rintro e w3 ⟨rfl, hT3, S3, hS1, hS2, hN3⟩
      have hR3 := HR2.out.turn hT3 hS2 hS1
      have hB3 := HB2.out.trans (hT3.below HR2.out.le HR2.out.low)
      by_cases hp : putC (⟨r, live 0 ms gs, ms.length⟩ : St) x.m = 0
      case neg =>
        have hN3' : Nt w3 S3 g (⟨r, live 0 ms gs, ms.length⟩ : St) := by have := hN3; rw [(putA_no hp).1] at this; exact this
        have hpz : (putC (⟨r, live 0 ms gs, ms.length⟩ : St) x.m == 0) = false := by rw [beq_eq_false_iff_ne]; exact hp
        go_wp2_with (go_at_call 18; refine (num_any _ _).mono ?_; rintro e w' ⟨rfl, rfl⟩)
        exact ⟨⟨k + 1, S3, ms, gs, by omega, by go_num, hN3', hR3, HEQ.out, by omega, hB3⟩, by simp [intOf]; omega⟩
      case pos =>
        have hN3' : Nt w3 S3 g ((⟨r, live 0 ms gs, ms.length⟩ : St).put x.m) := by have := hN3; rw [(putA_yes hp).1] at this; exact this
        rw [hp, (putA_yes hp).2]
        have f3 := f2.keep hT3 (fun e => by have := HSL.out _ e; omega)
        have hm3 : MsgV w3 (fun b => w.heap.size ≤ b) x.m (.agg #[.int .i64 x.m.fr, .int .i64 x.m.to, .slice Ab qb cb]) := HM.out.keep hT3 (fun b _ e => HR2.out.low b e)
        have hm3' := hm3.wide (X' := fun b => S3 b ∨ (Value.slice A7 ms.length c7).ownBlock = some b ∨ (Value.slice A8 ms.length c8).ownBlock = some b) (fun b _ e => e.elim (hR3.low b) (fun e => e.elim (fun e => (hR3.low7 b e).1) (fun e => (hR3.low8 b e).1)))
        clear hN3 hp
        obtain ⟨k0, k1, k2, k3, k4⟩ := f3.five
        go_wp2_with (first
          | (go_at_call 18; refine (num_any _ _).mono ?_; rintro e w' ⟨rfl, rfl⟩)
          | (at_builtin; refine stop ?_))
        have hba : Below w3.heap.size w3 (w3.alloc (.cells #[.int .i64 x.m.fr, .int .i64 x.m.to, .slice Ab qb cb] 39)) := (Below.refl _ _).alloc (Nat.le_refl _) _
        have hRa := hR3.below hba
        have hNa := hN3'.below hba
        have hBa := hB3.trans (hba.mono hB3.size)
        have hma := hm3'.below hba
        obtain ⟨css, q1, q2, q3⟩ := hRa.rows
        refine Stop.go (wpList_append_k el60 _ (by rfl) _ _ (by rfl) (.slice A7 ms.length c7) css (by rfl) q1 No _ 1 _ [#[.int .i64 x.m.fr, .int .i64 x.m.to, .slice Ab qb cb]] (by rfl) (rd_one w3 39 #[.int .i64 x.m.fr, .int .i64 x.m.to, .slice Ab qb cb] rfl (by simp [Value.oneCell']) (fun h => h)) (by rw [q2]; omega) (by omega) ?_)
        intro v7 wb ho7 hg7
        have hRb := hRa.snoc7 q2 q3 ho7 hg7 hma (fun b e => hNa.lt e)
        have hT7 : Turn (fun b => (Value.slice A7 ms.length c7).ownBlock = some b) _ wb := hg7.turn (fun g e => e)
        have hNb := hNa.keep hT7 (fun b _ e e' => (hRa.low7 b e).2.1 e')
        have hBb := hBa.trans (hT7.below hRa.le (fun b e => (hRa.low7 b e).1))
        clear hba hRa hNa hBa hma q1 q2 q3 ho7 hg7 hT7
        go_wp2_with (at_builtin; refine stop ?_)
        have hbc : Below wb.heap.size wb (wb.alloc (.cells #[.bool false] 4)) := (Below.refl _ _).alloc (Nat.le_refl _) _
        have hRc := hRb.below hbc
        have hNc := hNb.below hbc
        have hBc := hBb.trans (hbc.mono hBb.size)
        refine Stop.go (wpList_append_k el66 _ (by rfl) _ _ (by rfl) (.slice A8 ms.length c8) (gs.map boolE) (by rfl) hRc.gone No _ 1 _ [boolE false] (by rfl) (rd_one wb 4 (boolE false) rfl (by simp [boolE, Value.oneCell']) (fun h => h)) (by rw [List.length_map, ← HEQ.out]; omega) (by omega) ?_)
        intro v8 wd ho8 hg8
        have hRd := hRc.snoc8 ho8 hg8 (fun b e => hNc.lt e)
        have hT8 : Turn (fun b => (Value.slice A8 ms.length c8).ownBlock = some b) _ wd := hg8.turn (fun g e => e)
        have hNd := hNc.keep hT8 (fun b _ e e' => (hRc.low8 b e).2 e')
        have hBd := hBc.trans (hT8.below hRc.le (fun b e => (hRc.low8 b e).1))
        rw [live_put HEQ.out] at hNd
        go_wp2_with fail
        exact ⟨⟨k + 1, S3, ms ++ [x.m], gs ++ [false], by omega, by go_num, hNd, hRd, by simp [HEQ.out], by simp; omega, hBd⟩, by simp [intOf]; omega⟩
    | false =>
    cases hw2 : (x.what == 2) with
    | true =>
      by_cases hz : (live 0 ms gs).length = 0
      case pos =>
        go_wp2_with fail
        refine (peek_none HN2.out x.pick hz).mono ?_
        rintro e w3 ⟨rfl, hb3⟩
        rw [zMsg_cs]
        have f3 := f2.below hb3 f2.lt
        have hz3 := hb3.size
        go_wp2_with (with_reducible refine at_store 39 rfl ?_)
        refine Stop.go (wpList_store_blk (by rfl) (by rfl) 39 _ _ (by rfl) w3.heap.size _ #[.int .i64 0, .int .i64 0, .slice none 0 0] (by rfl) (by rfl) 39 (Blk.new w3 39 #[.int .i64 0, .int .i64 0, .slice none 0 0]) (by rfl) (info39 _ rfl) (by simp [Value.oneCell']) ?_)
        intro w4 f4 g4 s4
        clear s4
        have hb4 : Below w3.heap.size w3 w4 := below_grown ((Below.refl _ _).alloc (Nat.le_refl _) _) g4 (Nat.le_refl _) (Nat.le_refl _)
        have hb24 := hb3.trans (hb4.mono hb3.size)
        have f4' := f3.below hb4 f3.lt
        have hN4 := HN2.out.below hb24
        have hR4 := HR2.out.below hb24
        have hB4 := HB2.out.trans (hb24.mono HB2.out.size)
        obtain ⟨k0, k1, k2, k3, k4⟩ := f4'.five
        go_wp2_with fail
        refine (dup_none hN4 x.pick hz).mono ?_
        rintro e w5 ⟨rfl, hb5⟩
        have hN5 := hN4.below hb5
        have hR5 := hR4.below hb5
        have hB5 := hB4.trans (hb5.mono hB4.size)
        go_wp2_with (go_at_call 18; refine (num_any _ _).mono ?_; rintro e w' ⟨rfl, rfl⟩)
        exact ⟨⟨k + 1, S, ms, gs, by omega, by go_num, hN5, hR5, HEQ.out, by omega, hB5⟩, by simp [intOf]; omega⟩
      case neg =>
        obtain ⟨⟨num, m⟩, hi⟩ := pick_nth (s := (⟨r, live 0 ms gs, ms.length⟩ : St)) x.pick (by show 1 ≤ (live 0 ms gs).length; omega)
        go_wp2_with fail
        refine (peek_some HN2.out hi).mono ?_
        rintro e w3 ⟨⟨v3, rfl, hn3⟩, hb3⟩
        have hsh := HN2.out.ok.short _ (List.mem_of_getElem? hi)
        have f3 := f2.below hb3 f2.lt
        have hz3 := hb3.size
        obtain ⟨Am, nm, cm, rfl⟩ := hn3.row
        go_wp2_with (with_reducible refine at_store 39 rfl ?_)
        refine Stop.go (wpList_store_blk (by rfl) (by rfl) 39 _ _ (by rfl) w3.heap.size _ #[.int .i64 m.fr, .int .i64 m.to, .slice Am nm cm] (by rfl) (by rfl) 39 (Blk.new w3 39 #[.int .i64 0, .int .i64 0, .slice none 0 0]) (by rfl) (info39 _ rfl) (by simp [Value.oneCell']) ?_)
        intro w4 f4 g4 s4
        clear s4
        have hb4 : Below w3.heap.size w3 w4 := below_grown ((Below.refl _ _).alloc (Nat.le_refl _) _) g4 (Nat.le_refl _) (Nat.le_refl _)
        have hb24 := hb3.trans (hb4.mono hb3.size)
        have hz4 := hb4.size
        have f4' := f3.below hb4 f3.lt
        have hN4 := HN2.out.below hb24
        have hR4 := HR2.out.below hb24
        have hB4 := HB2.out.trans (hb24.mono HB2.out.size)
        have hm4 : MsgV w4 (fun b => b < w2.heap.size) m (.agg #[.int .i64 m.fr, .int .i64 m.to, .slice Am nm cm]) := hn3.msgV.below hb4
        obtain ⟨k0, k1, k2, k3, k4⟩ := f4'.five
        have hf4l := f4.lt
        clear hn3 g4 f3
        go_wp2_with fail
        by_cases hroom : (live 0 ms gs).length < r
        case neg =>
          refine (dup_crowd hN4 hi (by show r ≤ (live 0 ms gs).length; omega)).mono ?_
          rintro e w5 ⟨rfl, hb5⟩
          have hN5 := hN4.below hb5
          have hR5 := hR4.below hb5
          have hB5 := hB4.trans (hb5.mono hB4.size)
          go_wp2_with (go_at_call 18; refine (num_any _ _).mono ?_; rintro e w' ⟨rfl, rfl⟩)
          exact ⟨⟨k + 1, S, ms, gs, by omega, by go_num, hN5, hR5, HEQ.out, by omega, hB5⟩, by simp [intOf]; omega⟩
        case pos =>
          refine (dup_some hN4 hi hroom (by show ms.length ≤ 1000000000; omega)).mono ?_
          rintro e w5 ⟨rfl, hT5, S5, hS1, hS2, hN5⟩
          have hR5 := hR4.turn hT5 hS2 hS1
          have hB5 := hB4.trans (hT5.below hR4.le hR4.low)
          have hm5' : MsgV w5 (fun b => S5 b ∨ (Value.slice A7 ms.length c7).ownBlock = some b ∨ (Value.slice A8 ms.length c8).ownBlock = some b) m (.agg #[.int .i64 m.fr, .int .i64 m.to, .slice Am nm cm]) :=
            (hm4.wide (X' := fun b => S5 b ∨ (Value.slice A7 ms.length c7).ownBlock = some b ∨ (Value.slice A8 ms.length c8).ownBlock = some b) (fun b hb e => e.elim (fun e => (hS2 b e).elim (fun e => HN2.out.lt e) (fun e => by omega)) (fun e => e.elim (fun e => by obtain ⟨css, q1, _⟩ := HR2.out.rows; exact q1.lt e) (fun e => HR2.out.gone.lt e)))).keep hT5 (fun b _ e => .inl (hS1 b e))
          have f5 := f4.keep hT5 (fun e => by have := HSL.out _ e; omega)
          obtain ⟨j0, j1, j2⟩ := f5.three
          dsimp only [] at *
          go_wp2_with (first
            | (go_at_call 18; refine (num_any _ _).mono ?_; rintro e w' ⟨rfl, rfl⟩)
            | (at_builtin; refine stop ?_))
          have hba : Below w5.heap.size w5 (w5.alloc (.cells #[.int .i64 m.fr, .int .i64 m.to, .slice Am nm cm] 39)) := (Below.refl _ _).alloc (Nat.le_refl _) _
          have hRa := hR5.below hba
          have hNa := hN5.below hba
          have hBa := hB5.trans (hba.mono hB5.size)
          have hma := hm5'.below hba
          obtain ⟨css, q1, q2, q3⟩ := hRa.rows
          refine Stop.go (wpList_append_k el60 _ (by rfl) _ _ (by rfl) (.slice A7 ms.length c7) css (by rfl) q1 No _ 1 _ [#[.int .i64 m.fr, .int .i64 m.to, .slice Am nm cm]] (by rfl) (rd_one w5 39 #[.int .i64 m.fr, .int .i64 m.to, .slice Am nm cm] rfl (by simp [Value.oneCell']) (fun h => h)) (by rw [q2]; omega) (by omega) ?_)
          intro v7 wb ho7 hg7
          have hRb := hRa.snoc7 q2 q3 ho7 hg7 hma (fun b e => hNa.lt e)
          have hT7 : Turn (fun b => (Value.slice A7 ms.length c7).ownBlock = some b) _ wb := hg7.turn (fun g e => e)
          have hNb := hNa.keep hT7 (fun b _ e e' => (hRa.low7 b e).2.1 e')
          have hBb := hBa.trans (hT7.below hRa.le (fun b e => (hRa.low7 b e).1))
          clear hba hRa hNa hBa hma q1 q2 q3 ho7 hg7 hT7
          go_wp2_with (at_builtin; refine stop ?_)
          have hbc : Below wb.heap.size wb (wb.alloc (.cells #[.bool false] 4)) := (Below.refl _ _).alloc (Nat.le_refl _) _
          have hRc := hRb.below hbc
          have hNc := hNb.below hbc
          have hBc := hBb.trans (hbc.mono hBb.size)
          refine Stop.go (wpList_append_k el66 _ (by rfl) _ _ (by rfl) (.slice A8 ms.length c8) (gs.map boolE) (by rfl) hRc.gone No _ 1 _ [boolE false] (by rfl) (rd_one wb 4 (boolE false) rfl (by simp [boolE, Value.oneCell']) (fun h => h)) (by rw [List.length_map, ← HEQ.out]; omega) (by omega) ?_)
          intro v8 wd ho8 hg8
          have hRd := hRc.snoc8 ho8 hg8 (fun b e => hNc.lt e)
          have hT8 : Turn (fun b => (Value.slice A8 ms.length c8).ownBlock = some b) _ wd := hg8.turn (fun g e => e)
          have hNd := hNc.keep hT8 (fun b _ e e' => (hRc.low8 b e).2 e')
          have hBd := hBc.trans (hT8.below hRc.le (fun b e => (hRc.low8 b e).1))
          rw [live_put HEQ.out] at hNd
          go_wp2_with fail
          exact ⟨⟨k + 1, S5, ms ++ [m], gs ++ [false], by omega, by go_num, hNd, hRd, by simp [HEQ.out], by simp; omega, hBd⟩, by simp [intOf]; omega⟩
    | false =>
    cases hw3 : (x.what == 3) with
    | true =>
      by_cases hz : (live 0 ms gs).length = 0
      case pos =>
        go_wp2_with fail
        refine (drop_none HN2.out x.pick hz).mono ?_
        rintro e w3 ⟨rfl, hb3⟩
        have hN3 := HN2.out.below hb3
        have hR3 := HR2.out.below hb3
        have hB3 := HB2.out.trans (hb3.mono HB2.out.size)
        go_wp2_with (go_at_call 18; refine (num_any _ _).mono ?_; rintro e w' ⟨rfl, rfl⟩)
        exact ⟨⟨k + 1, S, ms, gs, by omega, by go_num, hN3, hR3, HEQ.out, by omega, hB3⟩, by simp [intOf]; omega⟩
      case neg =>
        obtain ⟨⟨num, m⟩, hi⟩ := pick_nth (s := (⟨r, live 0 ms gs, ms.length⟩ : St)) x.pick (by show 1 ≤ (live 0 ms gs).length; omega)
        obtain ⟨q, hq1, hq2, hq3, hq4⟩ := live_at 0 ms gs _ num m hi
        have hql := (List.getElem?_eq_some_iff.1 hq2).1
        rw [Nat.zero_add] at hq1
        subst hq1
        go_wp2_with fail
        refine (drop_some HN2.out hi).mono ?_
        rintro e w3 ⟨rfl, hT3, hN3⟩
        have hN3' : Nt w3 S g ⟨r, live 0 ms (gs.set q true), ms.length⟩ := by rw [hq4]; exact hN3
        have hR3 := HR2.out.turn hT3 (fun _ e => .inl e) (fun _ e => e)
        have hB3 := HB2.out.trans (hT3.below HR2.out.le HR2.out.low)
        obtain ⟨g8, rfl, hcell, hfz⟩ := hR3.gone_at hq3
        have hcl : w3.cell? ((⟨g8, 0, none⟩ : Addr).add q) = some (.bool false) := by
          have hadd : (⟨g8, 0, none⟩ : Addr).add q = ⟨g8, q, none⟩ := by unfold Addr.add; split <;> simp_all
          rw [hadd]; exact hcell
        have hfl2 : w3.frozen? ((⟨g8, 0, none⟩ : Addr).add q) = false := by
          have hadd : (⟨g8, 0, none⟩ : Addr).add q = ⟨g8, q, none⟩ := by unfold Addr.add; split <;> simp_all
          rw [hadd]; exact hfz
        have hR4 := hR3.set8 (q := q) true
        have hT4 : Turn (fun b => b = g8) w3 (w3.setCell ⟨g8, q, none⟩ (.bool true)) := (Turn.refl (fun b => b = g8) w3).setCell (p := ⟨g8, q, none⟩) (fun _ => rfl) _
        have hN4 := hN3'.keep hT4 (fun b _ e e' => (hR3.low8 g8 rfl).2 (e ▸ e'))
        have hB4 := hB3.trans (hT4.below hR3.le (fun b e => by rw [e]; exact (hR3.low8 g8 rfl).1))
        have HD := Lib.hid (And.intro hN4 (And.intro hR4 hB4))
        clear hN3 hN3' hR3 hB3 hN4 hR4 hB4 hT4 hT3 hq2 hq3 hq4 hi
        go_wp2_with (go_at_call 18; refine (num_any _ _).mono ?_; rintro e w' ⟨rfl, rfl⟩)
        obtain ⟨hN4, hR4, hB4⟩ := HD.out
        exact ⟨⟨k + 1, S, ms, gs.set q true, by omega, by go_num, hN4, hR4, by rw [List.length_set]; exact HEQ.out, by omega, hB4⟩, by simp [intOf]; omega⟩
    | false =>
    cases hw1 : (x.what == 1) with
    | true =>
      by_cases hz : (live 0 ms gs).length = 0
      case pos =>
        go_wp2_with fail
        refine (take_none HN2.out x.pick hz).mono ?_
        rintro e w3 ⟨rfl, hb3⟩
        rw [zMsg_cs]
        go_wp2_with (with_reducible refine at_store 39 rfl ?_)
        refine Stop.go (wpList_store_blk (by rfl) (by rfl) 39 _ _ (by rfl) w3.heap.size _ #[.int .i64 0, .int .i64 0, .slice none 0 0] (by rfl) (by rfl) 39 (Blk.new w3 39 #[.int .i64 0, .int .i64 0, .slice none 0 0]) (by rfl) (info39 _ rfl) (by simp [Value.oneCell']) ?_)
        intro w4 f4 g4 s4
        clear s4
        have hb4 : Below w3.heap.size w3 w4 := below_grown ((Below.refl _ _).alloc (Nat.le_refl _) _) g4 (Nat.le_refl _) (Nat.le_refl _)
        have hb24 := hb3.trans (hb4.mono hb3.size)
        have hN4 := HN2.out.below hb24
        have hR4 := HR2.out.below hb24
        have hB4 := HB2.out.trans (hb24.mono HB2.out.size)
        go_wp2_with (go_at_call 18; refine (num_any _ _).mono ?_; rintro e w' ⟨rfl, rfl⟩)
        exact ⟨⟨k + 1, S, ms, gs, by omega, by go_num, hN4, hR4, HEQ.out, by omega, hB4⟩, by simp [intOf]; omega⟩
      case neg =>
        obtain ⟨⟨num, m⟩, hi⟩ := pick_nth (s := (⟨r, live 0 ms gs, ms.length⟩ : St)) x.pick (by show 1 ≤ (live 0 ms gs).length; omega)
        obtain ⟨q, hq1, hq2, hq3, hq4⟩ := live_at 0 ms gs _ num m hi
        have hql := (List.getElem?_eq_some_iff.1 hq2).1
        rw [Nat.zero_add] at hq1
        subst hq1
        go_wp2_with fail
        refine (take_some HN2.out hi).mono ?_
        rintro e w3 ⟨⟨v3, rfl, hn3⟩, hT3, hN3⟩
        have hN3' : Nt w3 S g ⟨r, live 0 ms (gs.set q true), ms.length⟩ := by rw [hq4]; exact hN3
        have hR3 := HR2.out.turn hT3 (fun _ e => .inl e) (fun _ e => e)
        have hB3 := HB2.out.trans (hT3.below HR2.out.le HR2.out.low)
        obtain ⟨Am, nm, cm, rfl⟩ := hn3.row
        go_wp2_with (with_reducible refine at_store 39 rfl ?_)
        refine Stop.go (wpList_store_blk (by rfl) (by rfl) 39 _ _ (by rfl) w3.heap.size _ #[.int .i64 m.fr, .int .i64 m.to, .slice Am nm cm] (by rfl) (by rfl) 39 (Blk.new w3 39 #[.int .i64 0, .int .i64 0, .slice none 0 0]) (by rfl) (info39 _ rfl) (by simp [Value.oneCell']) ?_)
        intro w4 f4 g4 s4
        clear s4
        have hb4 : Below w3.heap.size w3 w4 := below_grown ((Below.refl _ _).alloc (Nat.le_refl _) _) g4 (Nat.le_refl _) (Nat.le_refl _)
        have hN4 := hN3'.below hb4
        have hR4 := hR3.below hb4
        have hB4 := hB3.trans (hb4.mono hB3.size)
        have hmA : MsgV w4 (fun b => b < w2.heap.size) m (.agg #[.int .i64 m.fr, .int .i64 m.to, .slice Am nm cm]) := hn3.msgV.below hb4
        obtain ⟨g8, rfl, hcell, hfz⟩ := hR4.gone_at hq3
        obtain ⟨g7, Ar, nr, cr, rfl, hg7, hmB, r0, r1, r2⟩ := hR4.row_at hq2
        have hg8l : g8 < w4.heap.size := block_lt_of_cell hcell
        have hg7l : g7 < w4.heap.size := block_lt_of_cell r0
        have hf4l := f4.lt
        obtain ⟨j0, j1, j2⟩ := f4.three
        have HD := Lib.hid (And.intro hN4 (And.intro hR4 hB4))
        clear hN3 hN3' hR3 hB3 hN4 hR4 hB4 hT3 hq2 hq3 hq4 hi g4 hn3 hb4
        have hq0 : ((q : Nat) : Int) < ((ms.length : Nat) : Int) := by omega
        have hqn : decide (((q : Nat) : Int) < 0) = false := by simp
        have hqg : decide (((ms.length : Nat) : Int) ≤ ((q : Nat) : Int)) = false := by simp; omega
        go_wp2_with (go_at_call 18; refine (num_any _ _).mono ?_; rintro e w' ⟨rfl, rfl⟩)
        refine wp_region_np ?_
        refine wp_region_held_drew (S := fun W => Below w4.heap.size w4 W) (by kernel_rfl) (show Below w4.heap.size w4 w4.drew from (Below.refl _ _).drew) (fun hHeld => ?_)
        refine wpAnyH_takeAt (i := 0) (d := 156) (v := ?vq0x) rfl rfl (by kernel_rfl) (by kernel_rfl) (by kernel_rfl) (fun _ _ _ h => h) (Or.inl ⟨by rfl, ?hyq0x⟩) hHeld ?_
        case hyq0x =>
          intro W hSw
          clear hSw
          (go_simp; try with_reducible rfl)
        simp only [List.setIfInBounds_toArray, List.set_cons_zero, List.set_cons_succ]
        refine wpAnyH_takeAt (i := 1) (d := 157) (v := .bool false) rfl rfl (by kernel_rfl) (by kernel_rfl) (by kernel_rfl) (fun _ _ _ h => h) (Or.inl ⟨by rfl, ?hyq1x⟩) hHeld ?_
        case hyq1x =>
          intro W hSw
          clear hSw
          go_simp
          all_goals (first | with_reducible rfl | (simp; done) | (simp; omega))
        simp only [List.setIfInBounds_toArray, List.set_cons_zero, List.set_cons_succ]
        refine wpAnyH_takeAt (i := 2) (d := 158) (v := ?vq2x) rfl rfl (by kernel_rfl) (by kernel_rfl) (by kernel_rfl) (fun _ _ _ h => h) (Or.inl ⟨by rfl, ?hyq2x⟩) hHeld ?_
        case hyq2x =>
          intro W hSw
          clear hSw
          (go_simp; try with_reducible rfl)
        simp only [List.setIfInBounds_toArray, List.set_cons_zero, List.set_cons_succ]
        refine wpAnyH_takeAt (i := 3) (d := 159) (v := ?vq3x) rfl rfl (by kernel_rfl) (by kernel_rfl) (by kernel_rfl) (fun _ _ _ h => h) (Or.inl ⟨by rfl, ?hyq3x⟩) hHeld ?_
        case hyq3x =>
          intro W hSw
          clear hSw
          (go_simp; try with_reducible rfl)
        simp only [List.setIfInBounds_toArray, List.set_cons_zero, List.set_cons_succ]
        refine wpAnyH_takeAt (i := 4) (d := 160) (v := ?vq4x) rfl rfl (by kernel_rfl) (by kernel_rfl) (by kernel_rfl) (fun _ _ _ h => h) (Or.inl ⟨by rfl, ?hyq4x⟩) hHeld ?_
        case hyq4x =>
          intro W hSw
          clear hSw
          (go_simp; try with_reducible rfl)
        simp only [List.setIfInBounds_toArray, List.set_cons_zero, List.set_cons_succ]
        refine wpAnyH_takeAt (i := 5) (d := 161) (v := ?vq5x) rfl rfl (by kernel_rfl) (by kernel_rfl) (by kernel_rfl) (fun _ _ _ h => h) (Or.inl ⟨by rfl, ?hyq5x⟩) hHeld ?_
        case hyq5x =>
          intro W hSw
          clear hSw
          (go_simp; try with_reducible rfl)
        simp only [List.setIfInBounds_toArray, List.set_cons_zero, List.set_cons_succ]
        refine wpAnyH_takeAt (i := 6) (d := 162) (v := .bool false) rfl rfl (by kernel_rfl) (by kernel_rfl) (by kernel_rfl) (fun _ _ _ h => h) (Or.inl ⟨by rfl, ?hyq6x⟩) hHeld ?_
        case hyq6x =>
          intro W hSw
          clear hSw
          go_simp
          all_goals (first | with_reducible rfl | (simp; done) | (simp; omega))
        simp only [List.setIfInBounds_toArray, List.set_cons_zero, List.set_cons_succ]
        refine wpAnyH_takeAt (i := 7) (d := 163) (v := ?vq7x) rfl rfl (by kernel_rfl) (by kernel_rfl) (by kernel_rfl) (fun _ _ _ h => h) (Or.inl ⟨by rfl, ?hyq7x⟩) hHeld ?_
        case hyq7x =>
          intro W hSw
          clear hSw
          (go_simp; try with_reducible rfl)
        simp only [List.setIfInBounds_toArray, List.set_cons_zero, List.set_cons_succ]
        refine wpAnyH_takeAt (i := 8) (d := 164) (v := ?vq8x) rfl rfl (by kernel_rfl) (by kernel_rfl) (by kernel_rfl) (fun _ _ _ h => h) (Or.inl ⟨by rfl, ?hyq8x⟩) hHeld ?_
        case hyq8x =>
          intro W hSw
          clear hSw
          (go_simp; try with_reducible rfl)
        simp only [List.setIfInBounds_toArray, List.set_cons_zero, List.set_cons_succ]
        refine wpAnyH_takeAt (i := 9) (d := 165) (v := ?vq9x) rfl rfl (by kernel_rfl) (by kernel_rfl) (by kernel_rfl) (fun _ _ _ h => h) (Or.inl ⟨by rfl, ?hyq9x⟩) hHeld ?_
        case hyq9x =>
          intro W hSw
          clear hSw
          (go_simp; try with_reducible rfl)
        simp only [List.setIfInBounds_toArray, List.set_cons_zero, List.set_cons_succ]
        refine wpAnyH_takeAt (i := 10) (d := 166) (v := ?vq10x) rfl rfl (by kernel_rfl) (by kernel_rfl) (by kernel_rfl) (fun _ _ _ h => h) (Or.inl ⟨by rfl, ?hyq10x⟩) hHeld ?_
        case hyq10x =>
          intro W hSw
          clear hSw
          (go_simp; try with_reducible rfl)
        simp only [List.setIfInBounds_toArray, List.set_cons_zero, List.set_cons_succ]
        refine wpAnyH_takeAt (i := 11) (d := 167) (v := ?vq11x) rfl rfl (by kernel_rfl) (by kernel_rfl) (by kernel_rfl) (fun _ _ _ h => h) (Or.inl ⟨by rfl, ?hyq11x⟩) hHeld ?_
        case hyq11x =>
          intro W hSw
          clear hSw
          (go_simp; try with_reducible rfl)
        simp only [List.setIfInBounds_toArray, List.set_cons_zero, List.set_cons_succ]
        refine wpAnyH_takeAt (i := 12) (d := 168) (v := ?vq12x) rfl rfl (by kernel_rfl) (by kernel_rfl) (by kernel_rfl) (fun _ _ _ h => h) (Or.inl ⟨by rfl, ?hyq12x⟩) hHeld ?_
        case hyq12x =>
          intro W hSw
          have hSw' : Below w4.heap.size w4 W := hSw; have hcell' := (hSw'.cell (p := ⟨g8, q, none⟩) hg8l).trans hcell; clear hSw hSw'
          (go_simp; try with_reducible rfl)
        simp only [List.setIfInBounds_toArray, List.set_cons_zero, List.set_cons_succ]
        refine wpAnyH_takeAt (i := 13) (d := 169) (v := ?vq13x) rfl rfl (by kernel_rfl) (by kernel_rfl) (by kernel_rfl) (fun _ _ _ h => h) (Or.inl ⟨by rfl, ?hyq13x⟩) hHeld ?_
        case hyq13x =>
          intro W hSw
          clear hSw
          (go_simp; try with_reducible rfl)
        simp only [List.setIfInBounds_toArray, List.set_cons_zero, List.set_cons_succ]
        refine wpAnyH_takeAt (i := 14) (d := 170) (v := ?vq14x) rfl rfl (by kernel_rfl) (by kernel_rfl) (by kernel_rfl) (fun _ _ _ h => h) (Or.inl ⟨by rfl, ?hyq14x⟩) hHeld ?_
        case hyq14x =>
          intro W hSw
          clear hSw
          (go_simp; try with_reducible rfl)
        simp only [List.setIfInBounds_toArray, List.set_cons_zero, List.set_cons_succ]
        refine wpAnyH_takeAt (i := 15) (d := 171) (v := ?vq15x) rfl rfl (by kernel_rfl) (by kernel_rfl) (by kernel_rfl) (fun _ _ _ h => h) (Or.inl ⟨by rfl, ?hyq15x⟩) hHeld ?_
        case hyq15x =>
          intro W hSw
          have hSw' : Below w4.heap.size w4 W := hSw; have j0' := (hSw'.cell (p := ⟨w3.heap.size, 0, none⟩) hf4l).trans j0; have j1' := (hSw'.cell (p := ⟨w3.heap.size, 1, none⟩) hf4l).trans j1; have j2' := (hSw'.cell (p := ⟨w3.heap.size, 2, none⟩) hf4l).trans j2; clear hSw hSw'
          (go_simp; try with_reducible rfl)
        simp only [List.setIfInBounds_toArray, List.set_cons_zero, List.set_cons_succ]
        refine wpAnyH_takeAt (i := 16) (d := 172) (v := ?vq16x) rfl rfl (by kernel_rfl) (by kernel_rfl) (by kernel_rfl) (fun _ _ _ h => h) (Or.inl ⟨by rfl, ?hyq16x⟩) hHeld ?_
        case hyq16x =>
          intro W hSw
          clear hSw
          (go_simp; try with_reducible rfl)
        simp only [List.setIfInBounds_toArray, List.set_cons_zero, List.set_cons_succ]
        refine wpAnyH_takeAt (i := 17) (d := 173) (v := ?vq17x) rfl rfl (by kernel_rfl) (by kernel_rfl) (by kernel_rfl) (fun _ _ _ h => h) (Or.inl ⟨by rfl, ?hyq17x⟩) hHeld ?_
        case hyq17x =>
          intro W hSw
          clear hSw
          (go_simp; try with_reducible rfl)
        simp only [List.setIfInBounds_toArray, List.set_cons_zero, List.set_cons_succ]
        refine wpAnyH_takeAt (i := 18) (d := 174) (v := ?vq18x) rfl rfl (by kernel_rfl) (by kernel_rfl) (by kernel_rfl) (fun _ _ _ h => h) (Or.inl ⟨by rfl, ?hyq18x⟩) hHeld ?_
        case hyq18x =>
          intro W hSw
          clear hSw
          (go_simp; try with_reducible rfl)
        simp only [List.setIfInBounds_toArray, List.set_cons_zero, List.set_cons_succ]
        refine wpAnyH_takeAt (i := 19) (d := 175) (v := ?vq19x) rfl rfl (by kernel_rfl) (by kernel_rfl) (by kernel_rfl) (fun _ _ _ h => h) (Or.inl ⟨by rfl, ?hyq19x⟩) hHeld ?_
        case hyq19x =>
          intro W hSw
          have hSw' : Below w4.heap.size w4 W := hSw; have r0' := (hSw'.cell (p := ⟨g7, q * 3, none⟩) hg7l).trans r0; have r1' := (hSw'.cell (p := ⟨g7, q * 3 + 1, none⟩) hg7l).trans r1; have r2' := (hSw'.cell (p := ⟨g7, q * 3 + 2, none⟩) hg7l).trans r2; clear hSw hSw'
          (go_simp; try with_reducible rfl)
        simp only [List.setIfInBounds_toArray, List.set_cons_zero, List.set_cons_succ]
        refine wpAnyH_ready (rs := [20]) (by kernel_rfl) (by simp) (AllReadyH.cons rfl (fun K hK => ?_) AllReadyH.nil)
        go_simp
        refine (sameMsg_any (w := w4.drew) (hmA.below (Below.refl _ _).drew) (hmB.below (Below.refl _ _).drew)).mono ?_
        rintro e w5 ⟨rfl, hb5⟩
        rw [sameM_refl]
        dsimp only
        have hb5' : Below w4.heap.size w4 w5 := ((Below.refl _ _).drew).trans hb5
        refine hK.out _ _ (show Below w4.heap.size w4 w5 from hb5') (fun hHeld => ?_)
        clear hK K
        try simp only [List.setIfInBounds_toArray, List.set_cons_zero, List.set_cons_succ]
        refine wpAnyH_takeAt (i := 21) (d := 177) (v := ?vq20x) rfl rfl (by kernel_rfl) (by kernel_rfl) (by kernel_rfl) (fun _ _ _ h => h) (Or.inl ⟨by rfl, ?hyq20x⟩) hHeld ?_
        case hyq20x =>
          intro W hSw
          clear hSw
          (go_simp; try with_reducible rfl)
        simp only [List.setIfInBounds_toArray, List.set_cons_zero, List.set_cons_succ]
        refine wpAnyH_takeAt (i := 22) (d := 178) (v := ?vq21x) rfl rfl (by kernel_rfl) (by kernel_rfl) (by kernel_rfl) (fun _ _ _ h => h) (Or.inl ⟨by rfl, ?hyq21x⟩) hHeld ?_
        case hyq21x =>
          intro W hSw
          clear hSw
          (go_simp; try with_reducible rfl)
        simp only [List.setIfInBounds_toArray, List.set_cons_zero, List.set_cons_succ]
        refine wpAnyH_done (by kernel_rfl) ?_ _
        have hcell5 := (hb5'.cell (p := ⟨g8, q, none⟩) hg8l).trans hcell
        have hfz5 : w5.frozen? ⟨g8, q, none⟩ = false := (hb5'.frozen (p := ⟨g8, q, none⟩) hg8l).trans hfz
        clear hcell hfz hHeld
        go_wp2_with fail
        obtain ⟨hN4, hR4, hB4⟩ := HD.out
        have hN5 := hN4.below hb5'
        have hR5 := hR4.below hb5'
        have hB5 := hB4.trans (hb5'.mono hB4.size)
        have hR6 := hR5.set8 (q := q) true
        have hT6 : Turn (fun b => b = g8) w5 (w5.setCell ⟨g8, q, none⟩ (.bool true)) := (Turn.refl (fun b => b = g8) w5).setCell (p := ⟨g8, q, none⟩) (fun _ => rfl) _
        have hN6 := hN5.keep hT6 (fun b _ e e' => (hR5.low8 g8 rfl).2 (e ▸ e'))
        have hB6 := hB5.trans (hT6.below hR5.le (fun b e => by rw [e]; exact (hR5.low8 g8 rfl).1))
        exact ⟨⟨k + 1, S, ms, gs.set q true, by omega, by go_num, hN6, hR6, by rw [List.length_set]; exact HEQ.out, by omega, hB6⟩, by simp [intOf]; omega⟩
    | false =>
      go_wp2_with fail
      exact ⟨⟨k + 1, S, ms, gs, by omega, by go_num, HN2.out, HR2.out, HEQ.out, by omega, HB2.out⟩, by simp [intOf]; omega⟩

set_option maxRecDepth 100000 in
theorem lifted (os : Os) (started : os.Started) (H : Type) (enc : TypeId × Value → H) :
    ReturnsInHanded {} Try.checked os 8 .any (Rows.netOnceSpec.pre6 enc Try.prog Try.f8 Rows.netOnceRow.domain false) (Rows.netOnceSpec.post enc Try.prog Try.f8 false true false false) := by
  refine returnsInHanded_of_change (C := Try.checked) own started (by kernel_rfl) Try.func8
    (ChangeSpec.witness6 (enc := enc) (C := Try.checked) false ⟨#[], #[.int .i64 0, .slice none 0 0], []⟩ 8 (by kernel_rfl) (by kernel_rfl) (by kernel_rfl) (by kernel_rfl)) ?_
  intro W base args ds gs before hval0 hW hcnd _
  have hval : ∀ (j : Nat) t v, Try.f8.params[j]? = some t → args[j]? = some v → Value.okWide Try.prog W .any base t v := hval0
  have hW' := hW
  obtain ⟨p, q, hA0, hV, rfl, hfz, hnd⟩ := hW
  have hA : DataW.TrodAll enc Try.prog W 0 (fun _ => true) true Try.f8.params.toList args.toList ds p := hA0
  rw [Try.params8] at hA hval
  obtain ⟨v0, vs0, d0, ds0, p0, q0, hargs, rfl, rfl, h0, r0⟩ := trodAll_cons hA
  obtain ⟨v1, vs1, d1, ds1, p1, q1, rfl, rfl, rfl, h1, r1⟩ := trodAll_cons r0
  obtain ⟨rfl, rfl, rfl⟩ := trodAll_nil r1
  obtain rfl : args = #[v0, v1] := by cases args; simp_all
  obtain ⟨rfl, rfl⟩ := trodVars_none hV
  have k0 := h0
  have lt0 : ∀ x ∈ p0, x.block < W.heap.size := by obtain ⟨m, hm⟩ := k0; exact DataW.trod_lt m _ _ _ hm
  obtain ⟨n0, rfl, rfl, rfl, wf0⟩ := open_int Try.underlying3 (hval 0 3 v0 rfl rfl) h0
  have k1 := h1
  have lt1 : ∀ x ∈ p1, x.block < W.heap.size := by obtain ⟨m, hm⟩ := k1; exact DataW.trod_lt m _ _ _ hm
  obtain ⟨a1, len1, cap1, rfl⟩ := okWide_slice Try.underlying22 (hval 1 22 v1 rfl rfl)
  obtain ⟨⟨xs1, b1⟩, hc1, hm1⟩ := open_acs h1
  clear hA0 hval0
  refine (walk n0 a1 len1 cap1 xs1 W (i64_bounds wf0) b1 hc1 hm1).mono fun e W' ⟨he, bel⟩ => ?_
  subst he
  exact ⟨_, rfl, _, _, _, [], _, [], hW', trodAll_mk1 (shut_bool Try.underlying4 _), (trodAll_cons_mk (Below.trod laidOut (by kernel_rfl) (of_decide_eq_true (by kernel_rfl)) k0 bel lt0) (trodAll_cons_mk (Below.trod laidOut (by kernel_rfl) (of_decide_eq_true (by kernel_rfl)) k1 bel lt1) trodAll_mk0)), rfl, bel.frame _, fun h => by cases h⟩

theorem over : Rows.netOnceRow.holds Try.pinned (OpenSpec.ofChange Rows.netOnceSpec) :=
  OpenClaim.holds_of_wide 8 Try.f8 rfl rfl rfl rfl rfl rfl rfl ⟨rfl, rfl, rfl, rfl, rfl⟩ rfl rfl rfl rfl rfl (by kernel_rfl) Try.func8 (by kernel_rfl)
    (of_decide_eq_true (by kernel_rfl)) (by unfold Func.isWrapper; first | (rw [if_pos (by decide +kernel)]; kernel_rfl) | (rw [if_neg (by decide +kernel)]; exact ⟨rfl, rfl⟩))
    (fun os started H enc _ => lifted os started H enc)

theorem proved : Rows.NetOnceSaid := over
end Go.Proofs.Yticabfmjdjcfnaa.netOnce
namespace Go.Proofs.Yticabfmjdjcfnaa
theorem netOnce_holds : Rows.NetOnceSaid := netOnce.proved
#print axioms netOnce_holds
end Go.Proofs.Yticabfmjdjcfnaa
