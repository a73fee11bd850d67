/-
  Of a good log the View of fewer entries is a beginning of that of more; what a reader is told is together the View; and a transaction is seen whole, of what is stable, or not at all. For every input.
-/
import Derived.Test.YthcphoijanebhaaDoorTwo9
import Derived.Test.YthcphoijanebhaaDoorAmong9
import Derived.Test.YthcphoijanebhaaDoorWhole9
import Derived.Test.YthcphoijanebhaaDoorOpen
import Derived.Test.YthcphoijanebhaaDoorLaid9
import Derived.Test.YthcphoijanebhaaDoorRows
import Derived.Test.YthcphoijanebhaaDoorTie
import Derived.Test.YthcphoijanebhaaDoorCards
import Derived.Lib.MinMax
import Derived.WalkKit
import Derived.ProofKit
import Derived.OpenShut
import Derived.ShutString
import Derived.ChangeOld
import Derived.Below
import Derived.SevenTiedAt
namespace Go.Proofs.YthcphoijanebhaaDoor.visibleGrows
open Go.ChangeShapes Go.WideShapes Go.ChangeAt Go.RowKit Go.Maps
set_option linter.unusedVariables false
theorem own : ownKnob Tryd.prog.godebug = none := by kernel_rfl
theorem laidOut : laidOutB Tryd.prog = true := by kernel_rfl
set_option maxHeartbeats 4000000 in
set_option maxRecDepth 100000 in
theorem walk (a0 : Option Addr) (len0 cap0 : Nat) (l0 : List Ent) (a1 : Option Addr) (len1 cap1 : Nat) (z1 : Nat → Int) (w : World) (b0 : Rd w No 6 a0 len0 (cellsOf l0)) (hc0 : len0 ≤ cap0) (hm0 : cap0 ≤ maxLen) (he0 : ∀ e ∈ l0, In64P e.key) (b1 : Ints w a1 len1 z1) (hc1 : len1 ≤ cap1) (hm1 : cap1 ≤ maxLen) (hN : Nob w) :
    Calls Tryd.prog 9 #[.slice a0 len0 cap0, .slice a1 len1 cap1] w fun e w' => e = .returned (.bool true) ∧ Below w.heap.size w w' := by
  have HN := Lib.hid hN
  have HR := Lib.hid b0
  have HI := Lib.hid b1
  have HE := Lib.hid he0
  have HL := Lib.hid b0.lenE
  have H0 := Lib.hid hN.2.2
  have hl1 : len1 ≤ 9223372036854775807 := by unfold maxLen at hm1; omega
  clear hN b0 b1 he0 hm0 hm1 hc0 hc1
  by_cases h60 : 60 < len0
  · have d1 : decide ((60 : Int) < (len0 : Int)) = true := decide_eq_true (by omega)
    clear h60
    go_enter Tryd.func9, Tryd.ntmps9
    go_wp2_with fail
    refine (works_any HN.out).mono ?_
    rintro r w1 ⟨rfl, hb⟩
    have HB := Lib.hid hb
    clear hb
    go_wp2_with fail
    go_ret
    exact ⟨rfl, HB.out⟩
  have d1 : decide ((60 : Int) < (len0 : Int)) = false := decide_eq_false (by omega)
  have hle : len0 ≤ 60 := by omega
  clear h60
  go_enter Tryd.func9, Tryd.ntmps9
  go_wp2_with fail
  refine (vnew_any w).mono ?_
  rintro x w1 ⟨r, rfl, hR1, hb1⟩
  have HG0 : Hid (G3 w w1 (NewB w w1) r [] 0 [] (.slice none 0 0) [] (.slice none 0 0) [] none 0 []) := Lib.hid (G3.made hR1 (fun x hx => hx) hb1)
  clear hR1 hb1
  go_wp2_with fail
  go_loopw [6, 7] (fun o i wv => ∃ k : Nat, k ≤ len0 ∧ i = .int .i64 k ∧ ∃ S L, L.length ≤ k ∧ GoodL L ∧ G3 w wv S r L 0 [] o L (.slice none 0 0) [] none 0 []) (fun o i _ => len0 - (iOf' i).toNat)
  case atStart => exact ⟨0, by omega, rfl, _, [], Nat.le_refl _, GoodL.nil, HG0.out⟩
  case round =>
    obtain ⟨k, hk, rfl, S, L, hLk, hgd, hG⟩ := hrel
    have HG := Lib.hid hG
    have HGD := Lib.hid hgd
    obtain ⟨A1, c1, rfl, -⟩ := hG.lg
    clear hgd hG
    by_cases hlt : k < len0
    case pos =>
      have hd1 : decide (k < len0) = true := by simpa using hlt
      obtain ⟨e, he⟩ : ∃ e, l0[k]? = some e := ⟨_, List.getElem?_eq_getElem (by rw [HL.out]; exact hlt)⟩
      have HEK := Lib.hid he
      obtain ⟨ad, rfl, hadl, -, s0, s1, s2, s3, s4, s5⟩ := (HR.out.below HG.out.below).ent he
      clear he hadl
      have hpu := push_any HG.out.rr (HE.out e (List.mem_of_getElem? HEK.out)) (fun x hx => (HG.out.lt x (.inl hx)).2)
      unfold Ent.val Ent.cells at hpu
      go_wp2_with fail
      refine hpu.mono ?_
      rintro x w2 ⟨rfl, hR2, ht2⟩
      have HG2 := Lib.hid (HG.out.turn ht2 hR2 (fun x hx => hx))
      clear hpu hR2 ht2 s0 s1 s2 s3 s4 s5
      generalize More S wr w2 = S2 at *
      have HP := Lib.hid (push1_is L e)
      by_cases hz : pushE L e = 0
      case neg =>
        have hzb := neb hz
        have HG3 : Hid (G3 w w2 S2 r L 0 [] (.slice A1 L.length c1) L (.slice none 0 0) [] none 0 []) := Lib.hid (by
          have h1 := HG2.out
          rwa [HP.out, if_neg hz] at h1)
        clear hz
        go_wp2_with fail
        refine (num_any _ _).mono ?_
        rintro r' w4 ⟨rfl, rfl⟩
        go_wp2_with fail
        go_round
        case rel => exact ⟨k + 1, by omega, by go_num, S2, L, by omega, HGD.out, HG3.out⟩
        case measure => simp [iOf']; omega
      case pos =>
        have hzb := eqb hz
        have HGP : Hid (GoodL (L ++ [e])) := Lib.hid (by
          have h1 := HGD.out.push (e := e)
          rwa [HP.out, if_pos hz] at h1)
        have HG3 : Hid (G3 w w2 S2 r (L ++ [e]) 0 [] (.slice A1 L.length c1) L (.slice none 0 0) [] none 0 []) := Lib.hid (by
          have h1 := HG2.out
          rwa [HP.out, if_pos hz] at h1)
        clear hz
        go_wp2_with fail
        refine (num_any _ _).mono ?_
        rintro r' w4 ⟨rfl, rfl⟩
        obtain ⟨ad', e', hadl, -, s0, s1, s2, s3, s4, s5⟩ := (HR.out.below HG3.out.below).ent HEK.out
        injection e' with e'
        subst e'
        clear hadl
        go_wp2_with (at_builtin; refine stop ?_)
        refine Stop.go (wpList_append_k el22 _ (by rfl) _ _ (by rfl) (.slice A1 L.length c1) (cellsOf L) (by rfl) (HG3.out.lg.own.alloc _) No _ 1 _ [e.cells] (by rfl) (rd_one w2 45 e.cells rfl (by simp [Ent.cells, Value.oneCell']) (fun h => h)) (by simp [cellsOf]; omega) (by omega) ?_)
        intro v9 w9 ho9 hg9
        have HG9 : Hid (G3 w w9 S2 r (L ++ [e]) 0 [] v9 (L ++ [e]) (.slice none 0 0) [] none 0 []) := Lib.hid ((HG3.out.low ((Below.refl _ _).alloc (Nat.le_refl _) (.cells e.cells 45))).log ho9 hg9 rfl)
        clear ho9 hg9 s0 s1 s2 s3 s4 s5
        go_wp2_with fail
        go_round
        case rel => exact ⟨k + 1, by omega, by go_num, S2, L ++ [e], by simp; omega, HGP.out, HG9.out⟩
        case measure => simp [iOf']; omega
    case neg =>
    have hd1 : decide (k < len0) = false := by simpa using hlt
    obtain ⟨q, hq⟩ : ∃ q, L.length = q := ⟨_, rfl⟩
    have hq60 : q ≤ 60 := by omega
    rw [hq] at HG ⊢
    have HQ := Lib.hid hq
    have HRL : Hid (Rd wr No 6 A1 q (cellsOf L)) := Lib.hid HG.out.lg.rd
    have HNG : Hid (∀ W, Below w.heap.size w W → Nob W) := Lib.hid fun W hb => HN.out.low hb
    have hg := good_any (c := c1) HRL.out (by omega) (fun x hx => right_key (HGD.out.allR x hx))
    clear hlt hLk hk hq
    go_wp2_with fail
    refine hg.mono ?_
    rintro r' w2 ⟨b, rfl, hbg, hb⟩
    obtain rfl : b = true := hbg.2 HGD.out
    have HG2 := Lib.hid (HG.out.low hb)
    have HRL2 := Lib.hid (HRL.out.below hb)
    clear hg hbg hb HG HRL
    have hv := View_any (c := c1) HRL2.out (by omega) (HNG.out _ HG2.out.below) (q : Int)
    go_wp2_with fail
    refine hv.mono ?_
    rintro r' w3 ⟨hb3, hP⟩
    have HG3 := Lib.hid (HG2.out.low hb3)
    obtain ⟨Nq, hSN, v, rfl, hov, hvo⟩ : ∃ N, StN L q 0 N ∧ ∃ v, r' = .returned (.tuple #[v, .int .i64 0]) ∧ OwnK w3 3 1 v (intsOf (vl L q 0 N)) ∧ ∀ b, v.ownBlock = some b → w2.heap.size ≤ b := by
      rcases hP with ⟨hz, -⟩ | ⟨-, hbad, -⟩ | ⟨-, m', N, hme, -, hSN, hr⟩
      · exact absurd HGD.out.allE hz
      · have := HQ.out; omega
      · obtain rfl : q = m' := by omega
        exact ⟨N, hSN, hr⟩
    obtain ⟨Aa, ca, rfl, hca⟩ := ints_form hov
    obtain ⟨na, hna⟩ : ∃ na, (vl L q 0 Nq).length = na := ⟨_, rfl⟩
    rw [hna] at hov hvo hca ⊢
    have HG4 : Hid (G3 w w3 S r L 0 [] (.slice A1 q c1) L (.slice none 0 0) [] Aa na (vl L q 0 Nq)) := Lib.hid (HG3.out.beside (hov.rd (X := fun x => S x ∨ (Value.slice none 0 0).ownBlock = some x) (fun g hg hs => by
      rcases hs with hs | hs
      · have := (HG2.out.lt g (.inl hs)).2
        have := hvo g hg
        omega
      · cases hs)))
    have HSQ := Lib.hid hSN
    have HNA := Lib.hid hna
    clear hv hP hb3 hov hvo hSN hna HG2 HRL2 HG3
    go_wp2_with fail
    go_loopw [10, 11] (fun t i wv => ∃ j : Nat, j ≤ len1 ∧ i = .int .i64 j ∧ ∃ S k V, ToldIs L k V ∧ G3 w wv S r L k V (.slice A1 q c1) L t V Aa na (vl L q 0 Nq)) (fun t i _ => len1 - (iOf' i).toNat)
    case atStart => exact ⟨0, by omega, rfl, S, 0, [], ToldIs.begin L, HG4.out⟩
    case round =>
      clear HG4
      obtain ⟨j, hj, rfl, S, k, V, hto, hG⟩ := hrel
      obtain ⟨At, ct, rfl, hct⟩ := ints_form hG.tv
      have HG := Lib.hid hG
      have HTO := Lib.hid hto
      clear hto hG
      by_cases hlt : j < len1
      case neg =>
        have hd1 : decide (j < len1) = false := by simpa using hlt
        have h00 : ((0 : Int) == 0) = true := by simp
        go_wp2_with fail
        refine (num_any _ _).mono ?_
        rintro r' w4 ⟨rfl, rfl⟩
        go_wp2_with fail
        refine (works_any (HNG.out _ HG.out.below)).mono ?_
        rintro r' w4 ⟨rfl, hb⟩
        have HB4 := Lib.hid (HG.out.below.trans (hb.mono HG.out.below.size))
        clear hb
        go_wp2_with fail
        go_ret
        exact ⟨rfl, HB4.out⟩
      case pos =>
      have hd1 : decide (j < len1) = true := by simpa using hlt
      obtain ⟨al, rfl, hall, hac⟩ := (HI.out.below HG.out.below) (by omega)
      have hc0 := hac j hlt
      clear hall hac
      generalize z1 j = zj at *
      go_wp2_with fail
      obtain ⟨m, hm⟩ : ∃ m : Nat, max (0 : Int) (min zj (q : Int)) = (m : Int) := ⟨_, (Int.toNat_of_nonneg (by omega)).symm⟩
      have hmq : m ≤ q := by omega
      rw [hm]
      clear hm hc0
      have HRL : Hid (Rd wr No 6 A1 q (cellsOf L)) := Lib.hid HG.out.lg.rd
      have hv := View_any (c := c1) HRL.out (by omega) (HNG.out _ HG.out.below) (m : Int)
      refine hv.mono ?_
      rintro r' w4 ⟨hb4, hP⟩
      have HG4 := Lib.hid (HG.out.low hb4)
      have HRL4 := Lib.hid (HRL.out.below hb4)
      obtain ⟨N, hSN, v, rfl, hov, hvo⟩ : ∃ N, StN L m 0 N ∧ ∃ v, r' = .returned (.tuple #[v, .int .i64 0]) ∧ OwnK w4 3 1 v (intsOf (vl L m 0 N)) ∧ ∀ b, v.ownBlock = some b → wr.heap.size ≤ b := by
        rcases hP with ⟨hz, -⟩ | ⟨-, hbad, -⟩ | ⟨-, m', N, hme, -, hSN, hr⟩
        · exact absurd HGD.out.allE hz
        · have := HQ.out; omega
        · obtain rfl : m = m' := by omega
          exact ⟨N, hSN, hr⟩
      have HSN := Lib.hid hSN
      have HNm : Hid (N ≤ m) := Lib.hid (by have := hSN.le; omega)
      obtain ⟨U, hU⟩ : ∃ U, vl L m 0 N = U := ⟨_, rfl⟩
      have HU := Lib.hid hU
      rw [hU] at hov
      obtain ⟨Av, cv, rfl, hcv⟩ := ints_form hov
      obtain ⟨nv, hnv⟩ : ∃ nv, U.length = nv := ⟨_, rfl⟩
      have hgr : vl L q 0 Nq = U ++ vl L q N (Nq - N) := by rw [← hU]; exact vl_grows HGD.out.fine hmq hSN HSQ.out
      have hnle : nv ≤ na := by have := HNA.out; rw [hgr, List.length_append] at this; omega
      have htk : (vl L q 0 Nq).take nv = U := by rw [hgr, ← hnv, List.take_left]
      have hnv1 : nv ≤ 60 := by have := vl_len L m 0 N; rw [hU] at this; have := hSN.le; omega
      have hna1 : na ≤ 60 := by have := vl_len L q 0 Nq; have := HSQ.out.le; have := HNA.out; omega
      rw [hnv] at hov hcv hvo ⊢
      have HV4 := Lib.hid (hov.rd (X := fun x => S x ∨ (Value.slice At V.length ct).ownBlock = some x) (fun g hg hs => by
        have := (HG.out.lt g hs).2
        have := hvo g hg
        omega))
      have dg1 : decide ((na : Int) < (nv : Int)) = false := decide_eq_false (by omega)
      have dg2 : decide (na < nv) = false := decide_eq_false (by omega)
      have qs := slice24_to Aa na ca nv (by omega)
      have hsa := sameI_any (c := cv) (d := ca) HV4.out (show Rd w4 _ 1 Aa nv (intsOf U) from (by
        have h1 := HG4.out.al.first hnle
        rwa [show (intsOf (vl L q 0 Nq)).take nv = intsOf U by unfold intsOf; rw [← List.map_take, htk]] at h1)) (by omega) (by omega)
      rw [decide_eq_true rfl] at hsa
      have HNV := Lib.hid hnv
      clear hv hP hb4 hov hvo hSN hU hnv hgr htk HRL HG
      have h00 : ((0 : Int) != 0) = false := by simp
      go_wp2_with fail
      refine (num_any _ _).mono ?_
      rintro r' w5 ⟨rfl, rfl⟩
      go_wp2_with fail
      refine hsa.mono ?_
      rintro r' w5 ⟨rfl, q5, rfl⟩
      have hdr := below_drewN (Below.refl w4.heap.size w4) q5
      have HG5 := Lib.hid (HG4.out.low hdr)
      have HRL5 := Lib.hid (HRL4.out.below hdr)
      have HV5 := Lib.hid (HV4.out.below hdr)
      clear hsa qs dg1 dg2 hdr
      generalize w4.drewN q5 = w5 at *
      have htoo := to_any HG5.out.rr (fun x hx => (HG5.out.lt x (.inl hx)).2) (fun h => by have := (HG5.out.lt 0 (.inl h)).1; have := H0.out; omega) (HNG.out _ HG5.out.below) HTO.out.1 HTO.out.lt (by have := HTO.out.len; have := HQ.out; omega) (m : Int)
      clear HG4 HRL4 HV4
      go_wp2_with fail
      refine htoo.mono ?_
      rintro r' w6 hP
      have hmL : m ≤ L.length := by have := HQ.out; omega
      clear htoo
      rcases hP with ⟨hbad, -⟩ | ⟨-, -, hmk, rfl, hrr, hb6⟩ | ⟨m', M, hme, hkm, -, hSM, v6, T6, rfl, ho6, hv6, hr6, hT6, ht6⟩
      case inl => exact absurd hbad (by omega)
      case inr.inl =>
        have HG7 := Lib.hid (HG5.out.low hb6)
        have HRL7 := Lib.hid (HRL5.out.below hb6)
        have HV7 := Lib.hid (HV5.out.below hb6)
        have HTO7 := Lib.hid HTO.out
        clear hmk hrr hb6 HTO
        have h20 : ((2 : Int) == 0) = false := by simp
        go_wp2_with fail
        refine (num_any _ _).mono ?_
        rintro r' w7 ⟨rfl, rfl⟩
        clear h20
        have hst := Stable_any (c := c1) HRL7.out (by omega) (HNG.out _ HG7.out.below) (m : Int)
        go_wp2_with fail
        refine hst.mono ?_
        rintro r' w9 ⟨hb9, hQ⟩
        obtain rfl : r' = .returned (.tuple #[.int .i64 (N : Int), .int .i64 0]) := by
          rcases hQ with ⟨h, -⟩ | ⟨-, h, -⟩ | ⟨-, m', N', e, hm', hS', hr⟩
          · exact absurd HGD.out.allE h
          · omega
          · obtain rfl : m = m' := by omega
            obtain rfl := stN_one HSN.out hS'
            exact hr
        have HG9 := Lib.hid (HG7.out.low hb9)
        have HRL9 := Lib.hid (HRL7.out.below hb9)
        have HV9 := Lib.hid (HV7.out.below hb9)
        have hN60 : N ≤ 60 := by have := HNm.out; omega
        clear hst hQ hb9 HG7 HRL7 HV7
        go_wp2_with fail
        refine (num_any _ _).mono ?_
        rintro r' w10 ⟨rfl, rfl⟩
        go_wp2_with fail
        go_loopw [19] (fun i wv => ∃ a : Nat, a ≤ N ∧ i = .int .i64 a ∧ Below w9.heap.size w9 wv) (fun i _ => N - (iOf' i).toNat)
        case atStart => exact ⟨0, by omega, rfl, Below.refl _ _⟩
        case round =>
          obtain ⟨a, ha, rfl, hb⟩ := hrel
          have HB := Lib.hid hb
          clear hb
          by_cases hlt : a < N
          case neg =>
            have hd1 : decide (a < N) = false := by simpa using hlt
            go_wp2_with fail
            go_round
            case rel => exact ⟨j + 1, by omega, by go_num, _, k, _, HTO7.out, HG9.out.low HB.out⟩
            case measure => simp [iOf']; omega
          case pos =>
          have hd1 : decide (a < N) = true := by simpa using hlt
          have haN : a < N := hlt
          clear hlt
          go_wp2_with fail
          go_loopw [20] (fun i wv => ∃ b : Nat, b ≤ N ∧ i = .int .i64 b ∧ Below w9.heap.size w9 wv) (fun i _ => N - (iOf' i).toNat)
          case atStart => exact ⟨0, by omega, rfl, HB.out⟩
          case round =>
            clear HB
            obtain ⟨b, hb, rfl, hbb⟩ := hrel
            have HB := Lib.hid hbb
            clear hbb
            by_cases hlt : b < N
            case neg =>
              have hd1 : decide (b < N) = false := by simpa using hlt
              go_wp2_with fail
              go_round
              case rel => exact ⟨a + 1, by omega, by go_num, HB.out⟩
              case measure => simp [iOf']; omega
            case pos =>
            have hd1 : decide (b < N) = true := by simpa using hlt
            have hbN : b < N := hlt
            clear hlt
            have hNm := HNm.out
            have haq : a < q := by omega
            have hbq : b < q := by omega
            obtain ⟨x, hx⟩ : ∃ x, L[a]? = some x := ⟨_, List.getElem?_eq_getElem (by have := HQ.out; omega)⟩
            obtain ⟨y, hy⟩ : ∃ y, L[b]? = some y := ⟨_, List.getElem?_eq_getElem (by have := HQ.out; omega)⟩
            have HX := Lib.hid hx
            have HY := Lib.hid hy
            have HRW := Lib.hid (HRL9.out.below HB.out)
            have HVW := Lib.hid (HV9.out.below HB.out)
            obtain ⟨ad, rfl, -⟩ := HRW.out.ent hx
            clear hx hy
            go_upto_region 35 with fail
            refine wp_region_np ?_
            refine wp_region_held_drew (S := fun V => Below wr.heap.size wr V) (by kernel_rfl) (show Below wr.heap.size wr wr.drew from (Below.refl _ _).drew) (fun hHeld => ?_)
            generalize hv0 : wr.drew = V0 at *
            clear hv0
            refine wpAnyH_takeAt (i := 0) (d := 133) (v := ?vq0x) rfl rfl (by kernel_rfl) (by kernel_rfl) (by kernel_rfl) (fun _ _ _ h => h) (Or.inl ⟨by rfl, ?hyq0x⟩) hHeld ?_
            case hyq0x =>
              intro W hSw
              clear hSw
              (go_simp; try with_reducible rfl)
            simp only [List.setIfInBounds_toArray, List.set_cons_zero, List.set_cons_succ]
            refine wpAnyH_takeAt (i := 1) (d := 134) (v := ?vq1x) rfl rfl (by kernel_rfl) (by kernel_rfl) (by kernel_rfl) (fun _ _ _ h => h) (Or.inl ⟨by rfl, ?hyq1x⟩) hHeld ?_
            case hyq1x =>
              intro W hSw
              clear hSw
              (go_simp; try with_reducible rfl)
            simp only [List.setIfInBounds_toArray, List.set_cons_zero, List.set_cons_succ]
            refine wpAnyH_takeAt (i := 2) (d := 135) (v := ?vq2x) rfl rfl (by kernel_rfl) (by kernel_rfl) (by kernel_rfl) (fun _ _ _ h => h) (Or.inl ⟨by rfl, ?hyq2x⟩) hHeld ?_
            case hyq2x =>
              intro W hSw
              clear hSw
              (go_simp; try with_reducible rfl)
            simp only [List.setIfInBounds_toArray, List.set_cons_zero, List.set_cons_succ]
            refine wpAnyH_takeAt (i := 3) (d := 136) (v := ?vq3x) rfl rfl (by kernel_rfl) (by kernel_rfl) (by kernel_rfl) (fun _ _ _ h => h) (Or.inl ⟨by rfl, ?hyq3x⟩) hHeld ?_
            case hyq3x =>
              intro W hSw
              obtain ⟨ad2, ea, hadl, -, s0, s1, s2, s3, s4, s5⟩ := (HRW.out.below hSw).ent HX.out; injection ea with ea; subst ea; clear hSw
              (go_simp; try with_reducible rfl)
            simp only [List.setIfInBounds_toArray, List.set_cons_zero, List.set_cons_succ]
            refine wpAnyH_takeAt (i := 4) (d := 137) (v := ?vq4x) rfl rfl (by kernel_rfl) (by kernel_rfl) (by kernel_rfl) (fun _ _ _ h => h) (Or.inl ⟨by rfl, ?hyq4x⟩) hHeld ?_
            case hyq4x =>
              intro W hSw
              clear hSw
              (go_simp; try with_reducible rfl)
            simp only [List.setIfInBounds_toArray, List.set_cons_zero, List.set_cons_succ]
            refine wpAnyH_takeAt (i := 5) (d := 138) (v := ?vq5x) rfl rfl (by kernel_rfl) (by kernel_rfl) (by kernel_rfl) (fun _ _ _ h => h) (Or.inl ⟨by rfl, ?hyq5x⟩) hHeld ?_
            case hyq5x =>
              intro W hSw
              clear hSw
              (go_simp; try with_reducible rfl)
            simp only [List.setIfInBounds_toArray, List.set_cons_zero, List.set_cons_succ]
            refine wpAnyH_takeAt (i := 6) (d := 139) (v := ?vq6x) rfl rfl (by kernel_rfl) (by kernel_rfl) (by kernel_rfl) (fun _ _ _ h => h) (Or.inl ⟨by rfl, ?hyq6x⟩) hHeld ?_
            case hyq6x =>
              intro W hSw
              clear hSw
              (go_simp; try with_reducible rfl)
            simp only [List.setIfInBounds_toArray, List.set_cons_zero, List.set_cons_succ]
            refine wpAnyH_takeAt (i := 7) (d := 140) (v := ?vq7x) rfl rfl (by kernel_rfl) (by kernel_rfl) (by kernel_rfl) (fun _ _ _ h => h) (Or.inl ⟨by rfl, ?hyq7x⟩) hHeld ?_
            case hyq7x =>
              intro W hSw
              obtain ⟨ad2, ea, hadl, -, s0, s1, s2, s3, s4, s5⟩ := (HRW.out.below hSw).ent HY.out; injection ea with ea; subst ea; clear hSw
              (go_simp; try with_reducible rfl)
            simp only [List.setIfInBounds_toArray, List.set_cons_zero, List.set_cons_succ]
            refine wpAnyH_ready (rs := [8, 9]) (by kernel_rfl) (by simp) (AllReadyH.cons rfl (fun K hK => ?_) (AllReadyH.cons rfl (fun K hK => ?_) AllReadyH.nil))
            · go_simp
              have h_x : Blk (V0.alloc (.cells #[.int .i64 0, .int .i64 0, .int .i64 0, .int .i64 0, .int .i64 0, .int .i64 0] 45)) V0.heap.size 45 #[.int .i64 0, .int .i64 0, .int .i64 0, .int .i64 0, .int .i64 0, .int .i64 0] := Blk.new V0 45 _
              have hl_x : wr.heap.size ≤ V0.heap.size := hHeld.size
              refine hK.out _ _ (hHeld.alloc hHeld.size _) (fun hHeld => ?_)
              clear hK K
              generalize hv1 : V0.alloc (.cells #[.int .i64 0, .int .i64 0, .int .i64 0, .int .i64 0, .int .i64 0, .int .i64 0] 45) = V1 at *
              clear hv1
              generalize hb_x : V0.heap.size = b_x at *
              clear hb_x
              refine wpAnyH_ready (rs := [9]) (by kernel_rfl) (by simp) (AllReadyH.cons rfl (fun K hK => ?_) AllReadyH.nil)
              go_simp
              have h_y : Blk (V1.alloc (.cells #[.int .i64 0, .int .i64 0, .int .i64 0, .int .i64 0, .int .i64 0, .int .i64 0] 45)) V1.heap.size 45 #[.int .i64 0, .int .i64 0, .int .i64 0, .int .i64 0, .int .i64 0, .int .i64 0] := Blk.new V1 45 _
              have hl_y : wr.heap.size ≤ V1.heap.size := hHeld.size
              have hne : b_x ≠ V1.heap.size := fun e => by have := h_x.lt; omega
              have h_x := h_x.alloc (.cells #[.int .i64 0, .int .i64 0, .int .i64 0, .int .i64 0, .int .i64 0, .int .i64 0] 45)
              refine hK.out _ _ (hHeld.alloc hHeld.size _) (fun hHeld => ?_)
              clear hK K
              generalize hv2 : V1.alloc (.cells #[.int .i64 0, .int .i64 0, .int .i64 0, .int .i64 0, .int .i64 0, .int .i64 0] 45) = V2 at *
              clear hv2
              generalize hb_y : V1.heap.size = b_y at *
              clear hb_y
              refine wpAnyH_ready (rs := [10]) (by kernel_rfl) (by simp) (AllReadyH.cons rfl (fun K hK => ?_) AllReadyH.nil)
              refine step_store_blk (by rfl) (by rfl) 45 _ _ (by rfl) b_x _ #[.int .i64 x.epoch, .int .i64 x.id, .int .i64 x.num, .int .i64 x.seq, .int .i64 x.kind, .int .i64 x.value] (by rfl) (by rfl) 45 h_x (by rfl) (by kernel_rfl) (by simp [Value.oneCell']) ?_
              intro V3 h_x hg_x hs_x
              have h_y := Blk.grown_o h_y hg_x (fun r e => by injection e with e; subst e; exact hne.symm)
              have hT_x : Turn (fun x => x = b_x) V2 V3 := Turn.of_grown hg_x (fun r e => by injection e with e; exact e.symm)
              have hB_x : Below wr.heap.size V2 V3 := hT_x.below hHeld.size (fun x e => by omega)
              refine hK.out _ _ (hHeld.trans hB_x) (fun hHeld => ?_)
              clear hK K hg_x hs_x hT_x hB_x
              refine wpAnyH_ready (rs := [11]) (by kernel_rfl) (by simp) (AllReadyH.cons rfl (fun K hK => ?_) AllReadyH.nil)
              refine step_store_blk (by rfl) (by rfl) 45 _ _ (by rfl) b_y _ #[.int .i64 y.epoch, .int .i64 y.id, .int .i64 y.num, .int .i64 y.seq, .int .i64 y.kind, .int .i64 y.value] (by rfl) (by rfl) 45 h_y (by rfl) (by kernel_rfl) (by simp [Value.oneCell']) ?_
              intro V4 h_y hg_y hs_y
              have h_x := Blk.grown_o h_x hg_y (fun r e => by injection e with e; subst e; exact hne)
              have hT_y : Turn (fun x => x = b_y) V3 V4 := Turn.of_grown hg_y (fun r e => by injection e with e; exact e.symm)
              have hB_y : Below wr.heap.size V3 V4 := hT_y.below hHeld.size (fun x e => by omega)
              refine hK.out _ _ (hHeld.trans hB_y) (fun hHeld => ?_)
              clear hK K hg_y hs_y hT_y hB_y
              refine wpAnyH_done (by kernel_rfl) ?_ _
              have HB2 := Lib.hid (HB.out.trans (hHeld.mono HB.out.size))
              obtain ⟨x0, x1, x2, x3, x4, x5⟩ := Blk.six9 h_x
              obtain ⟨y0, y1, y2, y3, y4, y5⟩ := Blk.six9 h_y
              have HVZ := Lib.hid (HVW.out.below hHeld)
              clear hHeld h_x h_y hl_x hl_y hne HB
              generalize V4 = wz at *
              by_cases z1 : 0 ≤ x.id
              case neg =>
                have e1 : decide (0 ≤ x.id) = false := decide_eq_false z1
                clear z1
                go_wp2_with fail
                go_round
                case rel => exact ⟨b + 1, by omega, by go_num, HB2.out⟩
                case measure => simp [iOf']; omega
              case pos =>
              have e1 : decide (0 ≤ x.id) = true := decide_eq_true z1
              clear z1
              by_cases z2 : x.id = y.id
              case neg =>
                have e2 := neb z2
                clear z2
                go_wp2_with fail
                go_round
                case rel => exact ⟨b + 1, by omega, by go_num, HB2.out⟩
                case measure => simp [iOf']; omega
              case pos =>
              have e2 := eqb z2
              by_cases z3 : x.num = y.num
              case neg =>
                have e3 := neb z3
                clear z2 z3
                go_wp2_with fail
                go_round
                case rel => exact ⟨b + 1, by omega, by go_num, HB2.out⟩
                case measure => simp [iOf']; omega
              case pos =>
              have e3 := eqb z3
              by_cases z4 : x.kind = 1
              case neg =>
                have e4 := neb z4
                clear z2 z3 z4
                go_wp2_with fail
                go_round
                case rel => exact ⟨b + 1, by omega, by go_num, HB2.out⟩
                case measure => simp [iOf']; omega
              case pos =>
              have e4 := eqb z4
              by_cases z5 : y.kind = 1
              case neg =>
                have e5 := neb z5
                clear z2 z3 z4 z5
                go_wp2_with fail
                go_round
                case rel => exact ⟨b + 1, by omega, by go_num, HB2.out⟩
                case measure => simp [iOf']; omega
              case pos =>
              have e5 := eqb z5
              obtain ⟨d, hd1, hd2⟩ : ∃ d, decide (a ∈ U) = d ∧ decide (b ∈ U) = d := ⟨decide (a ∈ U), rfl, by
                rw [← HU.out]
                exact (decide_eq_decide.2 (see_whole haN hbN HX.out HY.out (by unfold Ent.key; rw [z2, z3]) z4 z5)).symm⟩
              have hm1 := among_any (c := cv) HVZ.out (by omega) a
              have hm2 : ∀ W, Below wz.heap.size wz W → Calls Tryd.prog 31 #[.slice Av nv cv, .int .i64 (b : Int)] W fun r w' => r = .returned (.bool d) ∧ Below W.heap.size W w' := fun W hW => by
                have h1 := among_any (c := cv) (HVZ.out.below hW) (by omega) b
                rwa [hd2] at h1
              rw [hd1] at hm1
              have hdd : (d != d) = false := by simp
              clear z2 z3 z4 z5 hd1 hd2
              go_wp2_with fail
              refine hm1.mono ?_
              rintro r' wy ⟨rfl, hby⟩
              have hm2 := hm2 _ hby
              have HB3 := Lib.hid (HB2.out.trans (hby.mono HB2.out.size))
              clear hm1 hby
              go_wp2_with fail
              refine hm2.mono ?_
              rintro r' wu ⟨rfl, hbu⟩
              have HB4 := Lib.hid (HB3.out.trans (hbu.mono HB3.out.size))
              clear hm2 hbu
              go_wp2_with fail
              go_round
              case rel => exact ⟨b + 1, by omega, by go_num, HB4.out⟩
              case measure => simp [iOf']; omega
            · go_simp
              have h_y : Blk (V0.alloc (.cells #[.int .i64 0, .int .i64 0, .int .i64 0, .int .i64 0, .int .i64 0, .int .i64 0] 45)) V0.heap.size 45 #[.int .i64 0, .int .i64 0, .int .i64 0, .int .i64 0, .int .i64 0, .int .i64 0] := Blk.new V0 45 _
              have hl_y : wr.heap.size ≤ V0.heap.size := hHeld.size
              refine hK.out _ _ (hHeld.alloc hHeld.size _) (fun hHeld => ?_)
              clear hK K
              generalize hv1 : V0.alloc (.cells #[.int .i64 0, .int .i64 0, .int .i64 0, .int .i64 0, .int .i64 0, .int .i64 0] 45) = V1 at *
              clear hv1
              generalize hb_y : V0.heap.size = b_y at *
              clear hb_y
              refine wpAnyH_ready (rs := [8]) (by kernel_rfl) (by simp) (AllReadyH.cons rfl (fun K hK => ?_) AllReadyH.nil)
              go_simp
              have h_x : Blk (V1.alloc (.cells #[.int .i64 0, .int .i64 0, .int .i64 0, .int .i64 0, .int .i64 0, .int .i64 0] 45)) V1.heap.size 45 #[.int .i64 0, .int .i64 0, .int .i64 0, .int .i64 0, .int .i64 0, .int .i64 0] := Blk.new V1 45 _
              have hl_x : wr.heap.size ≤ V1.heap.size := hHeld.size
              have hne : b_y ≠ V1.heap.size := fun e => by have := h_y.lt; omega
              have h_y := h_y.alloc (.cells #[.int .i64 0, .int .i64 0, .int .i64 0, .int .i64 0, .int .i64 0, .int .i64 0] 45)
              refine hK.out _ _ (hHeld.alloc hHeld.size _) (fun hHeld => ?_)
              clear hK K
              generalize hv2 : V1.alloc (.cells #[.int .i64 0, .int .i64 0, .int .i64 0, .int .i64 0, .int .i64 0, .int .i64 0] 45) = V2 at *
              clear hv2
              generalize hb_x : V1.heap.size = b_x at *
              clear hb_x
              refine wpAnyH_ready (rs := [10]) (by kernel_rfl) (by simp) (AllReadyH.cons rfl (fun K hK => ?_) AllReadyH.nil)
              refine step_store_blk (by rfl) (by rfl) 45 _ _ (by rfl) b_x _ #[.int .i64 x.epoch, .int .i64 x.id, .int .i64 x.num, .int .i64 x.seq, .int .i64 x.kind, .int .i64 x.value] (by rfl) (by rfl) 45 h_x (by rfl) (by kernel_rfl) (by simp [Value.oneCell']) ?_
              intro V3 h_x hg_x hs_x
              have h_y := Blk.grown_o h_y hg_x (fun r e => by injection e with e; subst e; exact hne)
              have hT_x : Turn (fun x => x = b_x) V2 V3 := Turn.of_grown hg_x (fun r e => by injection e with e; exact e.symm)
              have hB_x : Below wr.heap.size V2 V3 := hT_x.below hHeld.size (fun x e => by omega)
              refine hK.out _ _ (hHeld.trans hB_x) (fun hHeld => ?_)
              clear hK K hg_x hs_x hT_x hB_x
              refine wpAnyH_ready (rs := [11]) (by kernel_rfl) (by simp) (AllReadyH.cons rfl (fun K hK => ?_) AllReadyH.nil)
              refine step_store_blk (by rfl) (by rfl) 45 _ _ (by rfl) b_y _ #[.int .i64 y.epoch, .int .i64 y.id, .int .i64 y.num, .int .i64 y.seq, .int .i64 y.kind, .int .i64 y.value] (by rfl) (by rfl) 45 h_y (by rfl) (by kernel_rfl) (by simp [Value.oneCell']) ?_
              intro V4 h_y hg_y hs_y
              have h_x := Blk.grown_o h_x hg_y (fun r e => by injection e with e; subst e; exact hne.symm)
              have hT_y : Turn (fun x => x = b_y) V3 V4 := Turn.of_grown hg_y (fun r e => by injection e with e; exact e.symm)
              have hB_y : Below wr.heap.size V3 V4 := hT_y.below hHeld.size (fun x e => by omega)
              refine hK.out _ _ (hHeld.trans hB_y) (fun hHeld => ?_)
              clear hK K hg_y hs_y hT_y hB_y
              refine wpAnyH_done (by kernel_rfl) ?_ _
              have HB2 := Lib.hid (HB.out.trans (hHeld.mono HB.out.size))
              obtain ⟨x0, x1, x2, x3, x4, x5⟩ := Blk.six9 h_x
              obtain ⟨y0, y1, y2, y3, y4, y5⟩ := Blk.six9 h_y
              have HVZ := Lib.hid (HVW.out.below hHeld)
              clear hHeld h_x h_y hl_x hl_y hne HB
              generalize V4 = wz at *
              by_cases z1 : 0 ≤ x.id
              case neg =>
                have e1 : decide (0 ≤ x.id) = false := decide_eq_false z1
                clear z1
                go_wp2_with fail
                go_round
                case rel => exact ⟨b + 1, by omega, by go_num, HB2.out⟩
                case measure => simp [iOf']; omega
              case pos =>
              have e1 : decide (0 ≤ x.id) = true := decide_eq_true z1
              clear z1
              by_cases z2 : x.id = y.id
              case neg =>
                have e2 := neb z2
                clear z2
                go_wp2_with fail
                go_round
                case rel => exact ⟨b + 1, by omega, by go_num, HB2.out⟩
                case measure => simp [iOf']; omega
              case pos =>
              have e2 := eqb z2
              by_cases z3 : x.num = y.num
              case neg =>
                have e3 := neb z3
                clear z2 z3
                go_wp2_with fail
                go_round
                case rel => exact ⟨b + 1, by omega, by go_num, HB2.out⟩
                case measure => simp [iOf']; omega
              case pos =>
              have e3 := eqb z3
              by_cases z4 : x.kind = 1
              case neg =>
                have e4 := neb z4
                clear z2 z3 z4
                go_wp2_with fail
                go_round
                case rel => exact ⟨b + 1, by omega, by go_num, HB2.out⟩
                case measure => simp [iOf']; omega
              case pos =>
              have e4 := eqb z4
              by_cases z5 : y.kind = 1
              case neg =>
                have e5 := neb z5
                clear z2 z3 z4 z5
                go_wp2_with fail
                go_round
                case rel => exact ⟨b + 1, by omega, by go_num, HB2.out⟩
                case measure => simp [iOf']; omega
              case pos =>
              have e5 := eqb z5
              obtain ⟨d, hd1, hd2⟩ : ∃ d, decide (a ∈ U) = d ∧ decide (b ∈ U) = d := ⟨decide (a ∈ U), rfl, by
                rw [← HU.out]
                exact (decide_eq_decide.2 (see_whole haN hbN HX.out HY.out (by unfold Ent.key; rw [z2, z3]) z4 z5)).symm⟩
              have hm1 := among_any (c := cv) HVZ.out (by omega) a
              have hm2 : ∀ W, Below wz.heap.size wz W → Calls Tryd.prog 31 #[.slice Av nv cv, .int .i64 (b : Int)] W fun r w' => r = .returned (.bool d) ∧ Below W.heap.size W w' := fun W hW => by
                have h1 := among_any (c := cv) (HVZ.out.below hW) (by omega) b
                rwa [hd2] at h1
              rw [hd1] at hm1
              have hdd : (d != d) = false := by simp
              clear z2 z3 z4 z5 hd1 hd2
              go_wp2_with fail
              refine hm1.mono ?_
              rintro r' wy ⟨rfl, hby⟩
              have hm2 := hm2 _ hby
              have HB3 := Lib.hid (HB2.out.trans (hby.mono HB2.out.size))
              clear hm1 hby
              go_wp2_with fail
              refine hm2.mono ?_
              rintro r' wu ⟨rfl, hbu⟩
              have HB4 := Lib.hid (HB3.out.trans (hbu.mono HB3.out.size))
              clear hm2 hbu
              go_wp2_with fail
              go_round
              case rel => exact ⟨b + 1, by omega, by go_num, HB4.out⟩
              case measure => simp [iOf']; omega
      case inr.inr =>
        obtain rfl : m = m' := by omega
        have HG6 := Lib.hid (HG5.out.turn ht6 hr6 hT6)
        have HRL6 : Hid (Rd w6 No 6 A1 q (cellsOf L)) := Lib.hid HG6.out.lg.rd
        have HV6 := Lib.hid (HV5.out.keep ht6 (fun b _ q => .inl q))
        have hto6 := HTO.out.to HGD.out.fine hkm hmL hSM
        obtain ⟨A6, c6, rfl, hc6⟩ := ints_form ho6
        have h00b : ((0 : Int) == 0) = true := by simp
        have HO6 := Lib.hid (ho6.rd (X := No) (fun _ _ h => h))
        have hVl : V.length ≤ 60 := by have := HTO.out.len; have := HQ.out; omega
        obtain ⟨n6, hn6⟩ : ∃ n6, (vl L m (nextV V) M).length = n6 := ⟨_, rfl⟩
        have hn6' : n6 ≤ 60 := by have := vl_len L m (nextV V) M; have := hSM.le; omega
        clear ht6 hr6 hT6 hv6 ho6 hc6
        generalize hX6 : vl L m (nextV V) M = X6 at *
        rw [hn6] at HO6 ⊢
        go_wp2_with fail
        refine (num_any _ _).mono ?_
        rintro r' w7 ⟨rfl, rfl⟩
        go_wp2_with (at_builtin; refine stop ?_)
        refine Stop.go (wpList_append_k el24 _ (by rfl) _ _ (by rfl) (.slice At V.length ct) (intsOf V) (by rfl) HG6.out.tv No A6 n6 c6 (intsOf X6) (by rfl) HO6.out (by simp [intsOf]; omega) (by omega) ?_)
        intro v7 w7 ho7 hg7
        have HG7 := Lib.hid (HG6.out.told ho7 hg7)
        have HRL7 : Hid (Rd w7 No 6 A1 q (cellsOf L)) := Lib.hid HG7.out.lg.rd
        have HV7 := Lib.hid (HV6.out.keep (hg7.turn (S := fun b => (Value.slice At V.length ct).ownBlock = some b) (fun _ q => q)) (fun b _ q => .inr q))
        have hVU : V ++ X6 = U := by
          obtain ⟨h1, N', h2, h3⟩ := hto6
          obtain rfl := stN_one HSN.out h2
          rw [h3]; exact HU.out
        rw [hVU] at HG7 hto6
        have HTO7 := Lib.hid hto6
        clear ho7 hg7 hto6 hVU HG6 HO6 HTO
        obtain ⟨A7, c7, rfl, -⟩ := ints_form HG7.out.tv
        have hnvU := HNV.out
        rw [hnvU]
        have hsb := sameI_any (c := c7) (d := cv) (show Rd w7 No 1 A7 nv (intsOf U) from (by have h1 := HG7.out.tv.rd (X := No) (fun _ _ h => h); rwa [hnvU] at h1)) HV7.out (by omega) (by omega)
        rw [decide_eq_true rfl] at hsb
        clear hnvU
        go_wp2_with fail
        refine hsb.mono ?_
        rintro r' w8 ⟨rfl, q8, rfl⟩
        have hdr := below_drewN (Below.refl w7.heap.size w7) q8
        have HG8 := Lib.hid (HG7.out.low hdr)
        have HRL8 := Lib.hid (HRL7.out.below hdr)
        have HV8 := Lib.hid (HV7.out.below hdr)
        clear hsb hdr HG7 HRL7 HV7
        generalize w7.drewN q8 = w8 at *
        have hst := Stable_any (c := c1) HRL8.out (by omega) (HNG.out _ HG8.out.below) (m : Int)
        go_wp2_with fail
        refine hst.mono ?_
        rintro r' w9 ⟨hb9, hQ⟩
        obtain rfl : r' = .returned (.tuple #[.int .i64 (N : Int), .int .i64 0]) := by
          rcases hQ with ⟨h, -⟩ | ⟨-, h, -⟩ | ⟨-, m', N', e, hm', hS', hr⟩
          · exact absurd HGD.out.allE h
          · omega
          · obtain rfl : m = m' := by omega
            obtain rfl := stN_one HSN.out hS'
            exact hr
        have HG9 := Lib.hid (HG8.out.low hb9)
        have HRL9 := Lib.hid (HRL8.out.below hb9)
        have HV9 := Lib.hid (HV8.out.below hb9)
        have hN60 : N ≤ 60 := by have := HNm.out; omega
        clear hst hQ hb9 HG8 HRL8 HV8
        go_wp2_with fail
        refine (num_any _ _).mono ?_
        rintro r' w10 ⟨rfl, rfl⟩
        go_wp2_with fail
        go_loopw [19] (fun i wv => ∃ a : Nat, a ≤ N ∧ i = .int .i64 a ∧ Below w9.heap.size w9 wv) (fun i _ => N - (iOf' i).toNat)
        case atStart => exact ⟨0, by omega, rfl, Below.refl _ _⟩
        case round =>
          obtain ⟨a, ha, rfl, hb⟩ := hrel
          have HB := Lib.hid hb
          clear hb
          by_cases hlt : a < N
          case neg =>
            have hd1 : decide (a < N) = false := by simpa using hlt
            go_wp2_with fail
            go_round
            case rel => exact ⟨j + 1, by omega, by go_num, _, m, _, HTO7.out, (by have h1 := HG9.out.low HB.out; rw [HNV.out] at h1; exact h1)⟩
            case measure => simp [iOf']; omega
          case pos =>
          have hd1 : decide (a < N) = true := by simpa using hlt
          have haN : a < N := hlt
          clear hlt
          go_wp2_with fail
          go_loopw [20] (fun i wv => ∃ b : Nat, b ≤ N ∧ i = .int .i64 b ∧ Below w9.heap.size w9 wv) (fun i _ => N - (iOf' i).toNat)
          case atStart => exact ⟨0, by omega, rfl, HB.out⟩
          case round =>
            clear HB
            obtain ⟨b, hb, rfl, hbb⟩ := hrel
            have HB := Lib.hid hbb
            clear hbb
            by_cases hlt : b < N
            case neg =>
              have hd1 : decide (b < N) = false := by simpa using hlt
              go_wp2_with fail
              go_round
              case rel => exact ⟨a + 1, by omega, by go_num, HB.out⟩
              case measure => simp [iOf']; omega
            case pos =>
            have hd1 : decide (b < N) = true := by simpa using hlt
            have hbN : b < N := hlt
            clear hlt
            have hNm := HNm.out
            have haq : a < q := by omega
            have hbq : b < q := by omega
            obtain ⟨x, hx⟩ : ∃ x, L[a]? = some x := ⟨_, List.getElem?_eq_getElem (by have := HQ.out; omega)⟩
            obtain ⟨y, hy⟩ : ∃ y, L[b]? = some y := ⟨_, List.getElem?_eq_getElem (by have := HQ.out; omega)⟩
            have HX := Lib.hid hx
            have HY := Lib.hid hy
            have HRW := Lib.hid (HRL9.out.below HB.out)
            have HVW := Lib.hid (HV9.out.below HB.out)
            obtain ⟨ad, rfl, -⟩ := HRW.out.ent hx
            clear hx hy
            go_upto_region 35 with fail
            refine wp_region_np ?_
            refine wp_region_held_drew (S := fun V => Below wr.heap.size wr V) (by kernel_rfl) (show Below wr.heap.size wr wr.drew from (Below.refl _ _).drew) (fun hHeld => ?_)
            generalize hv0 : wr.drew = V0 at *
            clear hv0
            refine wpAnyH_takeAt (i := 0) (d := 133) (v := ?vq8x) rfl rfl (by kernel_rfl) (by kernel_rfl) (by kernel_rfl) (fun _ _ _ h => h) (Or.inl ⟨by rfl, ?hyq8x⟩) hHeld ?_
            case hyq8x =>
              intro W hSw
              clear hSw
              (go_simp; try with_reducible rfl)
            simp only [List.setIfInBounds_toArray, List.set_cons_zero, List.set_cons_succ]
            refine wpAnyH_takeAt (i := 1) (d := 134) (v := ?vq9x) rfl rfl (by kernel_rfl) (by kernel_rfl) (by kernel_rfl) (fun _ _ _ h => h) (Or.inl ⟨by rfl, ?hyq9x⟩) hHeld ?_
            case hyq9x =>
              intro W hSw
              clear hSw
              (go_simp; try with_reducible rfl)
            simp only [List.setIfInBounds_toArray, List.set_cons_zero, List.set_cons_succ]
            refine wpAnyH_takeAt (i := 2) (d := 135) (v := ?vq10x) rfl rfl (by kernel_rfl) (by kernel_rfl) (by kernel_rfl) (fun _ _ _ h => h) (Or.inl ⟨by rfl, ?hyq10x⟩) hHeld ?_
            case hyq10x =>
              intro W hSw
              clear hSw
              (go_simp; try with_reducible rfl)
            simp only [List.setIfInBounds_toArray, List.set_cons_zero, List.set_cons_succ]
            refine wpAnyH_takeAt (i := 3) (d := 136) (v := ?vq11x) rfl rfl (by kernel_rfl) (by kernel_rfl) (by kernel_rfl) (fun _ _ _ h => h) (Or.inl ⟨by rfl, ?hyq11x⟩) hHeld ?_
            case hyq11x =>
              intro W hSw
              obtain ⟨ad2, ea, hadl, -, s0, s1, s2, s3, s4, s5⟩ := (HRW.out.below hSw).ent HX.out; injection ea with ea; subst ea; clear hSw
              (go_simp; try with_reducible rfl)
            simp only [List.setIfInBounds_toArray, List.set_cons_zero, List.set_cons_succ]
            refine wpAnyH_takeAt (i := 4) (d := 137) (v := ?vq12x) rfl rfl (by kernel_rfl) (by kernel_rfl) (by kernel_rfl) (fun _ _ _ h => h) (Or.inl ⟨by rfl, ?hyq12x⟩) hHeld ?_
            case hyq12x =>
              intro W hSw
              clear hSw
              (go_simp; try with_reducible rfl)
            simp only [List.setIfInBounds_toArray, List.set_cons_zero, List.set_cons_succ]
            refine wpAnyH_takeAt (i := 5) (d := 138) (v := ?vq13x) rfl rfl (by kernel_rfl) (by kernel_rfl) (by kernel_rfl) (fun _ _ _ h => h) (Or.inl ⟨by rfl, ?hyq13x⟩) hHeld ?_
            case hyq13x =>
              intro W hSw
              clear hSw
              (go_simp; try with_reducible rfl)
            simp only [List.setIfInBounds_toArray, List.set_cons_zero, List.set_cons_succ]
            refine wpAnyH_takeAt (i := 6) (d := 139) (v := ?vq14x) rfl rfl (by kernel_rfl) (by kernel_rfl) (by kernel_rfl) (fun _ _ _ h => h) (Or.inl ⟨by rfl, ?hyq14x⟩) hHeld ?_
            case hyq14x =>
              intro W hSw
              clear hSw
              (go_simp; try with_reducible rfl)
            simp only [List.setIfInBounds_toArray, List.set_cons_zero, List.set_cons_succ]
            refine wpAnyH_takeAt (i := 7) (d := 140) (v := ?vq15x) rfl rfl (by kernel_rfl) (by kernel_rfl) (by kernel_rfl) (fun _ _ _ h => h) (Or.inl ⟨by rfl, ?hyq15x⟩) hHeld ?_
            case hyq15x =>
              intro W hSw
              obtain ⟨ad2, ea, hadl, -, s0, s1, s2, s3, s4, s5⟩ := (HRW.out.below hSw).ent HY.out; injection ea with ea; subst ea; clear hSw
              (go_simp; try with_reducible rfl)
            simp only [List.setIfInBounds_toArray, List.set_cons_zero, List.set_cons_succ]
            refine wpAnyH_ready (rs := [8, 9]) (by kernel_rfl) (by simp) (AllReadyH.cons rfl (fun K hK => ?_) (AllReadyH.cons rfl (fun K hK => ?_) AllReadyH.nil))
            · go_simp
              have h_x : Blk (V0.alloc (.cells #[.int .i64 0, .int .i64 0, .int .i64 0, .int .i64 0, .int .i64 0, .int .i64 0] 45)) V0.heap.size 45 #[.int .i64 0, .int .i64 0, .int .i64 0, .int .i64 0, .int .i64 0, .int .i64 0] := Blk.new V0 45 _
              have hl_x : wr.heap.size ≤ V0.heap.size := hHeld.size
              refine hK.out _ _ (hHeld.alloc hHeld.size _) (fun hHeld => ?_)
              clear hK K
              generalize hv1 : V0.alloc (.cells #[.int .i64 0, .int .i64 0, .int .i64 0, .int .i64 0, .int .i64 0, .int .i64 0] 45) = V1 at *
              clear hv1
              generalize hb_x : V0.heap.size = b_x at *
              clear hb_x
              refine wpAnyH_ready (rs := [9]) (by kernel_rfl) (by simp) (AllReadyH.cons rfl (fun K hK => ?_) AllReadyH.nil)
              go_simp
              have h_y : Blk (V1.alloc (.cells #[.int .i64 0, .int .i64 0, .int .i64 0, .int .i64 0, .int .i64 0, .int .i64 0] 45)) V1.heap.size 45 #[.int .i64 0, .int .i64 0, .int .i64 0, .int .i64 0, .int .i64 0, .int .i64 0] := Blk.new V1 45 _
              have hl_y : wr.heap.size ≤ V1.heap.size := hHeld.size
              have hne : b_x ≠ V1.heap.size := fun e => by have := h_x.lt; omega
              have h_x := h_x.alloc (.cells #[.int .i64 0, .int .i64 0, .int .i64 0, .int .i64 0, .int .i64 0, .int .i64 0] 45)
              refine hK.out _ _ (hHeld.alloc hHeld.size _) (fun hHeld => ?_)
              clear hK K
              generalize hv2 : V1.alloc (.cells #[.int .i64 0, .int .i64 0, .int .i64 0, .int .i64 0, .int .i64 0, .int .i64 0] 45) = V2 at *
              clear hv2
              generalize hb_y : V1.heap.size = b_y at *
              clear hb_y
              refine wpAnyH_ready (rs := [10]) (by kernel_rfl) (by simp) (AllReadyH.cons rfl (fun K hK => ?_) AllReadyH.nil)
              refine step_store_blk (by rfl) (by rfl) 45 _ _ (by rfl) b_x _ #[.int .i64 x.epoch, .int .i64 x.id, .int .i64 x.num, .int .i64 x.seq, .int .i64 x.kind, .int .i64 x.value] (by rfl) (by rfl) 45 h_x (by rfl) (by kernel_rfl) (by simp [Value.oneCell']) ?_
              intro V3 h_x hg_x hs_x
              have h_y := Blk.grown_o h_y hg_x (fun r e => by injection e with e; subst e; exact hne.symm)
              have hT_x : Turn (fun x => x = b_x) V2 V3 := Turn.of_grown hg_x (fun r e => by injection e with e; exact e.symm)
              have hB_x : Below wr.heap.size V2 V3 := hT_x.below hHeld.size (fun x e => by omega)
              refine hK.out _ _ (hHeld.trans hB_x) (fun hHeld => ?_)
              clear hK K hg_x hs_x hT_x hB_x
              refine wpAnyH_ready (rs := [11]) (by kernel_rfl) (by simp) (AllReadyH.cons rfl (fun K hK => ?_) AllReadyH.nil)
              refine step_store_blk (by rfl) (by rfl) 45 _ _ (by rfl) b_y _ #[.int .i64 y.epoch, .int .i64 y.id, .int .i64 y.num, .int .i64 y.seq, .int .i64 y.kind, .int .i64 y.value] (by rfl) (by rfl) 45 h_y (by rfl) (by kernel_rfl) (by simp [Value.oneCell']) ?_
              intro V4 h_y hg_y hs_y
              have h_x := Blk.grown_o h_x hg_y (fun r e => by injection e with e; subst e; exact hne)
              have hT_y : Turn (fun x => x = b_y) V3 V4 := Turn.of_grown hg_y (fun r e => by injection e with e; exact e.symm)
              have hB_y : Below wr.heap.size V3 V4 := hT_y.below hHeld.size (fun x e => by omega)
              refine hK.out _ _ (hHeld.trans hB_y) (fun hHeld => ?_)
              clear hK K hg_y hs_y hT_y hB_y
              refine wpAnyH_done (by kernel_rfl) ?_ _
              have HB2 := Lib.hid (HB.out.trans (hHeld.mono HB.out.size))
              obtain ⟨x0, x1, x2, x3, x4, x5⟩ := Blk.six9 h_x
              obtain ⟨y0, y1, y2, y3, y4, y5⟩ := Blk.six9 h_y
              have HVZ := Lib.hid (HVW.out.below hHeld)
              clear hHeld h_x h_y hl_x hl_y hne HB
              generalize V4 = wz at *
              by_cases z1 : 0 ≤ x.id
              case neg =>
                have e1 : decide (0 ≤ x.id) = false := decide_eq_false z1
                clear z1
                go_wp2_with fail
                go_round
                case rel => exact ⟨b + 1, by omega, by go_num, HB2.out⟩
                case measure => simp [iOf']; omega
              case pos =>
              have e1 : decide (0 ≤ x.id) = true := decide_eq_true z1
              clear z1
              by_cases z2 : x.id = y.id
              case neg =>
                have e2 := neb z2
                clear z2
                go_wp2_with fail
                go_round
                case rel => exact ⟨b + 1, by omega, by go_num, HB2.out⟩
                case measure => simp [iOf']; omega
              case pos =>
              have e2 := eqb z2
              by_cases z3 : x.num = y.num
              case neg =>
                have e3 := neb z3
                clear z2 z3
                go_wp2_with fail
                go_round
                case rel => exact ⟨b + 1, by omega, by go_num, HB2.out⟩
                case measure => simp [iOf']; omega
              case pos =>
              have e3 := eqb z3
              by_cases z4 : x.kind = 1
              case neg =>
                have e4 := neb z4
                clear z2 z3 z4
                go_wp2_with fail
                go_round
                case rel => exact ⟨b + 1, by omega, by go_num, HB2.out⟩
                case measure => simp [iOf']; omega
              case pos =>
              have e4 := eqb z4
              by_cases z5 : y.kind = 1
              case neg =>
                have e5 := neb z5
                clear z2 z3 z4 z5
                go_wp2_with fail
                go_round
                case rel => exact ⟨b + 1, by omega, by go_num, HB2.out⟩
                case measure => simp [iOf']; omega
              case pos =>
              have e5 := eqb z5
              obtain ⟨d, hd1, hd2⟩ : ∃ d, decide (a ∈ U) = d ∧ decide (b ∈ U) = d := ⟨decide (a ∈ U), rfl, by
                rw [← HU.out]
                exact (decide_eq_decide.2 (see_whole haN hbN HX.out HY.out (by unfold Ent.key; rw [z2, z3]) z4 z5)).symm⟩
              have hm1 := among_any (c := cv) HVZ.out (by omega) a
              have hm2 : ∀ W, Below wz.heap.size wz W → Calls Tryd.prog 31 #[.slice Av nv cv, .int .i64 (b : Int)] W fun r w' => r = .returned (.bool d) ∧ Below W.heap.size W w' := fun W hW => by
                have h1 := among_any (c := cv) (HVZ.out.below hW) (by omega) b
                rwa [hd2] at h1
              rw [hd1] at hm1
              have hdd : (d != d) = false := by simp
              clear z2 z3 z4 z5 hd1 hd2
              go_wp2_with fail
              refine hm1.mono ?_
              rintro r' wy ⟨rfl, hby⟩
              have hm2 := hm2 _ hby
              have HB3 := Lib.hid (HB2.out.trans (hby.mono HB2.out.size))
              clear hm1 hby
              go_wp2_with fail
              refine hm2.mono ?_
              rintro r' wu ⟨rfl, hbu⟩
              have HB4 := Lib.hid (HB3.out.trans (hbu.mono HB3.out.size))
              clear hm2 hbu
              go_wp2_with fail
              go_round
              case rel => exact ⟨b + 1, by omega, by go_num, HB4.out⟩
              case measure => simp [iOf']; omega
            · go_simp
              have h_y : Blk (V0.alloc (.cells #[.int .i64 0, .int .i64 0, .int .i64 0, .int .i64 0, .int .i64 0, .int .i64 0] 45)) V0.heap.size 45 #[.int .i64 0, .int .i64 0, .int .i64 0, .int .i64 0, .int .i64 0, .int .i64 0] := Blk.new V0 45 _
              have hl_y : wr.heap.size ≤ V0.heap.size := hHeld.size
              refine hK.out _ _ (hHeld.alloc hHeld.size _) (fun hHeld => ?_)
              clear hK K
              generalize hv1 : V0.alloc (.cells #[.int .i64 0, .int .i64 0, .int .i64 0, .int .i64 0, .int .i64 0, .int .i64 0] 45) = V1 at *
              clear hv1
              generalize hb_y : V0.heap.size = b_y at *
              clear hb_y
              refine wpAnyH_ready (rs := [8]) (by kernel_rfl) (by simp) (AllReadyH.cons rfl (fun K hK => ?_) AllReadyH.nil)
              go_simp
              have h_x : Blk (V1.alloc (.cells #[.int .i64 0, .int .i64 0, .int .i64 0, .int .i64 0, .int .i64 0, .int .i64 0] 45)) V1.heap.size 45 #[.int .i64 0, .int .i64 0, .int .i64 0, .int .i64 0, .int .i64 0, .int .i64 0] := Blk.new V1 45 _
              have hl_x : wr.heap.size ≤ V1.heap.size := hHeld.size
              have hne : b_y ≠ V1.heap.size := fun e => by have := h_y.lt; omega
              have h_y := h_y.alloc (.cells #[.int .i64 0, .int .i64 0, .int .i64 0, .int .i64 0, .int .i64 0, .int .i64 0] 45)
              refine hK.out _ _ (hHeld.alloc hHeld.size _) (fun hHeld => ?_)
              clear hK K
              generalize hv2 : V1.alloc (.cells #[.int .i64 0, .int .i64 0, .int .i64 0, .int .i64 0, .int .i64 0, .int .i64 0] 45) = V2 at *
              clear hv2
              generalize hb_x : V1.heap.size = b_x at *
              clear hb_x
              refine wpAnyH_ready (rs := [10]) (by kernel_rfl) (by simp) (AllReadyH.cons rfl (fun K hK => ?_) AllReadyH.nil)
              refine step_store_blk (by rfl) (by rfl) 45 _ _ (by rfl) b_x _ #[.int .i64 x.epoch, .int .i64 x.id, .int .i64 x.num, .int .i64 x.seq, .int .i64 x.kind, .int .i64 x.value] (by rfl) (by rfl) 45 h_x (by rfl) (by kernel_rfl) (by simp [Value.oneCell']) ?_
              intro V3 h_x hg_x hs_x
              have h_y := Blk.grown_o h_y hg_x (fun r e => by injection e with e; subst e; exact hne)
              have hT_x : Turn (fun x => x = b_x) V2 V3 := Turn.of_grown hg_x (fun r e => by injection e with e; exact e.symm)
              have hB_x : Below wr.heap.size V2 V3 := hT_x.below hHeld.size (fun x e => by omega)
              refine hK.out _ _ (hHeld.trans hB_x) (fun hHeld => ?_)
              clear hK K hg_x hs_x hT_x hB_x
              refine wpAnyH_ready (rs := [11]) (by kernel_rfl) (by simp) (AllReadyH.cons rfl (fun K hK => ?_) AllReadyH.nil)
              refine step_store_blk (by rfl) (by rfl) 45 _ _ (by rfl) b_y _ #[.int .i64 y.epoch, .int .i64 y.id, .int .i64 y.num, .int .i64 y.seq, .int .i64 y.kind, .int .i64 y.value] (by rfl) (by rfl) 45 h_y (by rfl) (by kernel_rfl) (by simp [Value.oneCell']) ?_
              intro V4 h_y hg_y hs_y
              have h_x := Blk.grown_o h_x hg_y (fun r e => by injection e with e; subst e; exact hne.symm)
              have hT_y : Turn (fun x => x = b_y) V3 V4 := Turn.of_grown hg_y (fun r e => by injection e with e; exact e.symm)
              have hB_y : Below wr.heap.size V3 V4 := hT_y.below hHeld.size (fun x e => by omega)
              refine hK.out _ _ (hHeld.trans hB_y) (fun hHeld => ?_)
              clear hK K hg_y hs_y hT_y hB_y
              refine wpAnyH_done (by kernel_rfl) ?_ _
              have HB2 := Lib.hid (HB.out.trans (hHeld.mono HB.out.size))
              obtain ⟨x0, x1, x2, x3, x4, x5⟩ := Blk.six9 h_x
              obtain ⟨y0, y1, y2, y3, y4, y5⟩ := Blk.six9 h_y
              have HVZ := Lib.hid (HVW.out.below hHeld)
              clear hHeld h_x h_y hl_x hl_y hne HB
              generalize V4 = wz at *
              by_cases z1 : 0 ≤ x.id
              case neg =>
                have e1 : decide (0 ≤ x.id) = false := decide_eq_false z1
                clear z1
                go_wp2_with fail
                go_round
                case rel => exact ⟨b + 1, by omega, by go_num, HB2.out⟩
                case measure => simp [iOf']; omega
              case pos =>
              have e1 : decide (0 ≤ x.id) = true := decide_eq_true z1
              clear z1
              by_cases z2 : x.id = y.id
              case neg =>
                have e2 := neb z2
                clear z2
                go_wp2_with fail
                go_round
                case rel => exact ⟨b + 1, by omega, by go_num, HB2.out⟩
                case measure => simp [iOf']; omega
              case pos =>
              have e2 := eqb z2
              by_cases z3 : x.num = y.num
              case neg =>
                have e3 := neb z3
                clear z2 z3
                go_wp2_with fail
                go_round
                case rel => exact ⟨b + 1, by omega, by go_num, HB2.out⟩
                case measure => simp [iOf']; omega
              case pos =>
              have e3 := eqb z3
              by_cases z4 : x.kind = 1
              case neg =>
                have e4 := neb z4
                clear z2 z3 z4
                go_wp2_with fail
                go_round
                case rel => exact ⟨b + 1, by omega, by go_num, HB2.out⟩
                case measure => simp [iOf']; omega
              case pos =>
              have e4 := eqb z4
              by_cases z5 : y.kind = 1
              case neg =>
                have e5 := neb z5
                clear z2 z3 z4 z5
                go_wp2_with fail
                go_round
                case rel => exact ⟨b + 1, by omega, by go_num, HB2.out⟩
                case measure => simp [iOf']; omega
              case pos =>
              have e5 := eqb z5
              obtain ⟨d, hd1, hd2⟩ : ∃ d, decide (a ∈ U) = d ∧ decide (b ∈ U) = d := ⟨decide (a ∈ U), rfl, by
                rw [← HU.out]
                exact (decide_eq_decide.2 (see_whole haN hbN HX.out HY.out (by unfold Ent.key; rw [z2, z3]) z4 z5)).symm⟩
              have hm1 := among_any (c := cv) HVZ.out (by omega) a
              have hm2 : ∀ W, Below wz.heap.size wz W → Calls Tryd.prog 31 #[.slice Av nv cv, .int .i64 (b : Int)] W fun r w' => r = .returned (.bool d) ∧ Below W.heap.size W w' := fun W hW => by
                have h1 := among_any (c := cv) (HVZ.out.below hW) (by omega) b
                rwa [hd2] at h1
              rw [hd1] at hm1
              have hdd : (d != d) = false := by simp
              clear z2 z3 z4 z5 hd1 hd2
              go_wp2_with fail
              refine hm1.mono ?_
              rintro r' wy ⟨rfl, hby⟩
              have hm2 := hm2 _ hby
              have HB3 := Lib.hid (HB2.out.trans (hby.mono HB2.out.size))
              clear hm1 hby
              go_wp2_with fail
              refine hm2.mono ?_
              rintro r' wu ⟨rfl, hbu⟩
              have HB4 := Lib.hid (HB3.out.trans (hbu.mono HB3.out.size))
              clear hm2 hbu
              go_wp2_with fail
              go_round
              case rel => exact ⟨b + 1, by omega, by go_num, HB4.out⟩
              case measure => simp [iOf']; omega
set_option maxRecDepth 100000 in
theorem lifted (os : Os) (started : os.Started) (H : Type) (enc : TypeId × Value → H) :
    ReturnsInHanded {} Tryd.checked os 9 .any (fun w args => (Rows.visibleGrowsSpec.pre enc Tryd.prog Tryd.f9 [] false w args ∧ laidMetH Tryd.prog [("waystation/visible.nobodys", Rows.laid_waystation_visible_nobodys)] w) ∧ sizedMet enc Tryd.prog Tryd.f9 (OpenSpec.ofChange Rows.visibleGrowsSpec) false w args)
      (Rows.visibleGrowsSpec.post enc Tryd.prog Tryd.f9 false true false false) := by
  refine returnsInHanded_of_change_and (C := Tryd.checked) (X := fun w _ => laidMetH Tryd.prog [("waystation/visible.nobodys", Rows.laid_waystation_visible_nobodys)] w) (fun _ _ _ hh h => h.of_heap hh) own started (by kernel_rfl) Tryd.func9
    (ChangeSpec.witness_shaped (enc := enc) (C := Tryd.checked) (os := os) (X := fun w _ => laidMetH Tryd.prog [("waystation/visible.nobodys", Rows.laid_waystation_visible_nobodys)] w) false (World.doorLaid Tryd.prog 400 os) #[.slice none 0 0, .slice none 0 0] 8 rfl (World.shaped_of_RefB (by kernel_rfl) (by kernel_rfl)) (by kernel_rfl) (by kernel_rfl) (by kernel_rfl) (door_met os _)) ?_
  intro W base args ds gs before hval0 hW _ _ hL _
  have hval : ∀ (j : Nat) t v, Tryd.f9.params[j]? = some t → args[j]? = some v → Value.okWide Tryd.prog W .any base t v := hval0
  have hW' := hW
  obtain ⟨p, q, hA0, hV, rfl, hfz, hnd⟩ := hW
  have hA : DataW.TrodAll enc Tryd.prog W 0 (fun _ => true) true Tryd.f9.params.toList args.toList ds p := hA0
  rw [Tryd.params9] at hA hval
  obtain ⟨v0, vs0, d0, ds0, p0, q0, hargs, rfl, rfl, h0, r0⟩ := trodAll_cons hA
  obtain ⟨v1, vs1, d1, ds1, p1, q1, rfl, rfl, rfl, h1, r1⟩ := trodAll_cons r0
  obtain ⟨rfl, rfl, rfl⟩ := trodAll_nil r1
  obtain rfl : args = #[v0, v1] := by cases args; simp_all
  obtain ⟨rfl, rfl⟩ := trodVars_none hV
  have k0 := h0
  have lt0 : ∀ x ∈ p0, x.block < W.heap.size := by obtain ⟨m, hm⟩ := k0; exact DataW.trod_lt m _ _ _ hm
  obtain ⟨a0, len0, cap0, rfl⟩ := okWide_slice Tryd.underlying22 (hval 0 22 v0 rfl rfl)
  obtain ⟨l0, b0, hc0, hm0, he0⟩ := open_ents h0
  have k1 := h1
  have lt1 : ∀ x ∈ p1, x.block < W.heap.size := by obtain ⟨m, hm⟩ := k1; exact DataW.trod_lt m _ _ _ hm
  obtain ⟨a1, len1, cap1, z1, rfl, b1, hc1, hm1⟩ := open_24 h1 (slice_one Tryd.underlying24 (hval 1 24 v1 rfl rfl))
  have hN := nob_of_laid hL
  clear hA0 hval0
  refine (walk a0 len0 cap0 l0 a1 len1 cap1 z1 W b0 hc0 hm0 he0 b1 hc1 hm1 hN).mono fun e W' ⟨he, bel⟩ => ?_
  subst he
  exact ⟨_, rfl, _, _, _, [], _, [], hW', trodAll_mk1 (shut_bool Tryd.underlying4 _), (trodAll_cons_mk (Below.trod laidOut (by kernel_rfl) (of_decide_eq_true (by kernel_rfl)) k0 bel lt0) (trodAll_cons_mk (Below.trod laidOut (by kernel_rfl) (of_decide_eq_true (by kernel_rfl)) k1 bel lt1) trodAll_mk0)), rfl, bel.frame _, fun h => by cases h⟩
theorem over : Rows.VisibleGrowsSaid :=
  OpenClaim.holds_of_wide 9 Tryd.f9 rfl rfl rfl rfl rfl rfl rfl ⟨rfl, rfl, rfl, rfl, rfl⟩ rfl rfl rfl rfl rfl (by kernel_rfl) Tryd.func9 (by kernel_rfl)
    (of_decide_eq_true (by kernel_rfl)) (by unfold Func.isWrapper; first | (rw [if_pos (by decide +kernel)]; kernel_rfl) | (rw [if_neg (by decide +kernel)]; exact ⟨rfl, rfl⟩))
    (fun os started H enc _ => lifted os started H enc)
theorem proved : Rows.VisibleGrowsCardSaid :=
  Claim7.holds_tied_plain_at .later [] [.data] true (true, "e872fbbcbb45a318d4a21952f2d33522ec05cad25393f9b523959ddf34fff248") true
    over (fun _ h => by cases h) (by kernel_rfl) (fun _ h => by cases h) visibleGrows_row_tie rfl ⟨rfl, rfl⟩ (by kernel_rfl) rfl
    (fun f fn hf hfn => by
      obtain rfl : f = 9 := Option.some.inj ((show Tryd.prog.funcNamed "waystation/waystationlaw09.VisibleGrows" = some 9 by kernel_rfl).symm.trans hf) |>.symm
      obtain rfl : fn = Tryd.f9 := (Option.some.inj (Tryd.func9.symm.trans hfn)).symm
      exact ⟨by kernel_rfl, fun j t ht => by
        rw [Tryd.params9] at ht
        have hm : t ∈ [22, 24] := by simpa using Array.mem_of_getElem? ht
        have hall : ([22, 24].all fun u => !Tryd.prog.wantsStandIn u) = true := by kernel_rfl
        exact (show Tryd.prog.wantsStandIn t = false by simpa using List.all_eq_true.1 hall t hm)⟩)
    (by kernel_rfl)
end Go.Proofs.YthcphoijanebhaaDoor.visibleGrows
namespace Go.Proofs.YthcphoijanebhaaDoor
theorem visibleGrows_holds : Rows.VisibleGrowsCardSaid := visibleGrows.proved
#print axioms visibleGrows_holds
end Go.Proofs.YthcphoijanebhaaDoor
