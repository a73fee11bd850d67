/-
  EpochsBranches: it answers true, whatever comes in, and leaves its arguments as they were. No condition.
-/
import Derived.Test.YtabbkghnijebpaaLogs
import Derived.WalkKit
import Derived.ProofKit
import Derived.OpenShut
import Derived.ShutString
import Derived.ChangeOld
import Derived.Below
namespace Go.Proofs.Ytabbkghnijebpaa.epochsBranches
open Go.ChangeShapes Go.WideShapes Go.ChangeAt Go.RowKit
set_option linter.unusedVariables false
theorem own : ownKnob Try.prog.godebug = none := by kernel_rfl
theorem laidOut : laidOutB Try.prog = true := by kernel_rfl
set_option maxHeartbeats 4000000 in
set_option maxRecDepth 100000 in
theorem walk (a0 : Option Addr) (len0 cap0 : Nat) (z0 : Nat → Nat × Nat × Nat) (x1 y1 u1 v1 : Nat) (w : World) (b0 : Rows3 w a0 len0 z0) (hc0 : len0 ≤ cap0) (hm0 : cap0 ≤ maxLen) (hx1 : x1 < 256 ∧ y1 < 256 ∧ u1 < 256 ∧ v1 < 256) :
    Calls Try.prog 5 #[.slice a0 len0 cap0, .agg #[.int .u8 (x1 : Int), .int .u8 (y1 : Int), .int .u8 (u1 : Int), .int .u8 (v1 : Int)]] w fun e w' => e = .returned (.bool true) ∧ Below w.heap.size w w' := by
  have hkn := known_any
  have hgd := guard59
  obtain ⟨hx0, hx1, hx2, hx3⟩ := hx1
  by_cases hz : len0 = 0
  · subst hz
    go_enter Try.func5, Try.ntmps5
    go_wp2_with fail
    refine (hkn _).mono ?_
    rintro e wk ⟨rfl, hbk⟩
    go_wp2_with fail
    go_ret
    exact ⟨rfl, ((Below.refl w.heap.size w).alloc (Nat.le_refl _) _).trans (hbk.mono (by simp))⟩
  have hz1 : ((len0 : Int) == 0) = false := by rw [beq_eq_false_iff_ne]; omega
  by_cases h8 : 8 < len0
  · have hd8 : decide (8 < len0) = true := by simpa using h8
    go_enter Try.func5, Try.ntmps5
    go_wp2_with fail
    refine (hkn _).mono ?_
    rintro e wk ⟨rfl, hbk⟩
    go_wp2_with fail
    go_ret
    exact ⟨rfl, ((Below.refl w.heap.size w).alloc (Nat.le_refl _) _).trans (hbk.mono (by simp))⟩
  have hd8 : decide (8 < len0) = false := by simpa using h8
  have hb1 : Below w.heap.size w (w.alloc (.cells #[.int .u8 (x1 : Int), .int .u8 (y1 : Int), .int .u8 (u1 : Int), .int .u8 (v1 : Int)] 54)) := (Below.refl _ _).alloc (Nat.le_refl _) _
  have hk1 : Blk (w.alloc (.cells #[.int .u8 (x1 : Int), .int .u8 (y1 : Int), .int .u8 (u1 : Int), .int .u8 (v1 : Int)] 54)) w.heap.size 54 #[.int .u8 (x1 : Int), .int .u8 (y1 : Int), .int .u8 (u1 : Int), .int .u8 (v1 : Int)] := Blk.new _ _ _
  have HZ1 : Hid ((w.alloc (.cells #[.int .u8 (x1 : Int), .int .u8 (y1 : Int), .int .u8 (u1 : Int), .int .u8 (v1 : Int)] 54)).heap.size = w.heap.size + 1) := Lib.hid (by simp)
  have HZ := Lib.hid (b0.below hb1)
  clear b0
  go_enter Try.func5, Try.ntmps5
  go_wp2_with fail
  generalize w.alloc (.cells #[.int .u8 (x1 : Int), .int .u8 (y1 : Int), .int .u8 (u1 : Int), .int .u8 (v1 : Int)] 54) = w1 at *
  have HB1 := Lib.hid hb1
  have HK1 := Lib.hid hk1
  clear hb1 hk1
  go_loopw [5, 6] (fun v j wr => ∃ lo : List Lo, lo.length ≤ len0 ∧ j = .int .i64 (lo.length : Int) ∧ Hid (Hist lo) ∧ LogsAt wr v lo ∧ (∀ g, v.ownBlock = some g → w1.heap.size ≤ g) ∧ Below w1.heap.size w1 wr) (fun _ j _ => len0 - (intOf j).toNat)
  case atStart => exact ⟨[], by simp, rfl, Lib.hid (fun i g e => by simp at e), LogsAt.nil _, fun g e => (by cases e), Below.refl _ _⟩
  case round =>
    obtain ⟨lo, hle, rfl, hhi, hlo, hvl, hbw⟩ := hrel
    obtain ⟨V, cV, rfl, hv1, hv2⟩ := hlo.form
    generalize hw0 : wr = w0 at *
    clear hw0
    have HHI := Lib.hid hhi.out
    have HLO := Lib.hid hlo
    have HVL := Lib.hid hvl
    have HBW := Lib.hid hbw
    clear hlo hvl hbw
    by_cases hi : lo.length < len0
    case neg =>
      have hdi : decide (lo.length < len0) = false := by simpa using hi
      have hil : lo.length = len0 := by omega
      have hil' : lo.length = len0 := hil
      obtain ⟨pa, hpa⟩ : ∃ p, p = x1 % len0 := ⟨_, rfl⟩
      obtain ⟨pb, hpb⟩ : ∃ p, p = y1 % len0 := ⟨_, rfl⟩
      have hpal : pa < lo.length := by rw [hpa, hil]; exact Nat.mod_lt _ (by omega)
      have hpbl : pb < lo.length := by rw [hpb, hil]; exact Nat.mod_lt _ (by omega)
      have hpai : Int.tmod (x1 : Int) (len0 : Int) = (pa : Int) := by rw [hpa]; exact tmod_nat _ _
      have hpbi : Int.tmod (y1 : Int) (len0 : Int) = (pb : Int) := by rw [hpb]; exact tmod_nat _ _
      obtain ⟨La, hLa⟩ : ∃ G, lo[pa]? = some G := ⟨_, List.getElem?_eq_getElem hpal⟩
      obtain ⟨Lb, hLb⟩ : ∃ G, lo[pb]? = some G := ⟨_, List.getElem?_eq_getElem hpbl⟩
      obtain ⟨va, Aa, ca, hVe, hval, hvca, hla, ha1, ha2⟩ := HLO.out.at_ hLa
      subst hVe
      obtain ⟨vb, Ab, cb, hVe2, -, hvcb, hlb, hb1', hb2⟩ := HLO.out.at_ hLb
      injection hVe2 with hVe2
      subst hVe2
      obtain ⟨na, hna⟩ : ∃ n, n = u1 % (La.n + 1) := ⟨_, rfl⟩
      obtain ⟨nb, hnb⟩ : ∃ n, n = v1 % (Lb.n + 1) := ⟨_, rfl⟩
      have hnal : na ≤ La.n := by have : na < La.n + 1 := by rw [hna]; exact Nat.mod_lt _ (by omega)
                                  omega
      have hnbl : nb ≤ Lb.n := by have : nb < Lb.n + 1 := by rw [hnb]; exact Nat.mod_lt _ (by omega)
                                  omega
      have hnai : Int.tmod (u1 : Int) ((La.n : Int) + 1) = (na : Int) := by rw [hna]; exact tmod_nat _ (La.n + 1)
      have hnbi : Int.tmod (v1 : Int) ((Lb.n : Int) + 1) = (nb : Int) := by rw [hnb]; exact tmod_nat _ (Lb.n + 1)
      have hsa := fun W => slice25_to Aa La.n ca na (na : Int) rfl (by omega) W
      have hsb := fun W => slice25_to Ab Lb.n cb nb (nb : Int) rfl (by omega) W
      have han : La.n ≤ 100 := by have := (HHI.out pa La hLa).1; omega
      have hbn : Lb.n ≤ 100 := by have := (HHI.out pb Lb hLb).1; omega
      have HKIN := Lib.hid (HHI.out.kin hLa hLb hnal hnbl)
      have HMA := Lib.hid (HHI.out.may (by omega) hLa hnal)
      have HMB := Lib.hid (HHI.out.may (by omega) hLb hnbl)
      have HLA := Lib.hid (hla.first hnal)
      have HLB := Lib.hid (hlb.first hnbl)
      have hkb := HK1.out.below HBW.out HK1.out.lt
      have k0 : w0.cell? ⟨w.heap.size, 0, none⟩ = some (.int .u8 (x1 : Int)) := hkb.cell 0
      have k1 : w0.cell? ⟨w.heap.size, 1, none⟩ = some (.int .u8 (y1 : Int)) := hkb.cell 1
      have k2 : w0.cell? ⟨w.heap.size, 2, none⟩ = some (.int .u8 (u1 : Int)) := hkb.cell 2
      have k3 : w0.cell? ⟨w.heap.size, 3, none⟩ = some (.int .u8 (v1 : Int)) := hkb.cell 3
      clear hpa hpb hna hnb hLa hLb hla hlb hil' hkb
      obtain ⟨r, hr⟩ : ∃ r, r = meet (fun i => (La.f i).1) na (fun i => (Lb.f i).1) nb 0 := ⟨_, rfl⟩
      have hM : ∀ W, Below w0.heap.size w0 W → Calls Try.prog 24 #[.slice Aa na ca, .slice Ab nb cb] W fun e w' => e = .returned (.tuple #[.int .i64 (r.1 : Int), .int .i64 (r.2 : Int), .int .i64 0]) ∧ Below W.heap.size W w' := fun W hW => by
        rw [hr]
        exact Meet_yes (HLA.out.below hW) (HLB.out.below hW) (by omega) (by omega) HMA.out HMB.out
      obtain ⟨p, q⟩ := r
      simp only at hM
      have HR := Lib.hid hr.symm
      clear hr
      go_wp2_with fail
      go_quiet (fail)
      go_wp2_with fail
      go_quiet (fail)
      go_wp2_with fail
      refine (hM _ (by first | exact below_drewN (below_drewN (Below.refl _ _) _) _ | exact below_drewN (Below.refl _ _) _)).mono ?_
      rintro e w3 ⟨rfl, hb3⟩
      have HB3 : Hid (Below w0.heap.size w0 w3) := Lib.hid ((below_drewN (Below.refl _ _) 0).trans ⟨hb3.os, hb3.tape, hb3.output, hb3.size, hb3.block⟩)
      have hS := Starts_yes (c := cb) (HLB.out.below HB3.out) HMB.out
      clear hM hb3
      go_wp2_with fail
      refine hS.mono ?_
      rintro e w4 ⟨S, cs, rfl, hst, hsc, hsm, hb4⟩
      have hsl := starts_len (fun i => (Lb.f i).1) nb
      generalize hns : (starts (fun i => (Lb.f i).1) nb).length = ns at *
      have HNS := Lib.hid hns
      have HB4 := Lib.hid (HB3.out.trans (hb4.mono HB3.out.size))
      have HBW4 := Lib.hid ((HB1.out.trans (HBW.out.mono (by have := HZ1.out; omega))).trans (HB4.out.mono (by have := HZ1.out; have := HBW.out.size; omega)))
      clear hS hst hns hb4 k0 k1 k2 k3 hvca hvcb
      go_wp2_with fail
      go_loopw [17] (fun v wr => ∃ s : Nat, v = .int .i64 s ∧ s ≤ na ∧ s ≤ nb ∧ Hid (∀ u, u < s → La.f u = Lb.f u) ∧ Below w4.heap.size w4 wr) (fun v _ => na - (intOf v).toNat)
      case atStart => exact ⟨0, rfl, by omega, by omega, Lib.hid (fun u hu => by omega), Below.refl _ _⟩
      case round =>
        obtain ⟨s, rfl, hsa1, hsb1, hsu, hbr⟩ := hrel
        have HBR := Lib.hid hbr
        clear hbr
        by_cases hs1 : s < na
        case neg =>
          have hsd : decide (s < na) = false := by simpa using hs1
          have hal : Alike La.f na Lb.f nb s := ⟨hsa1, hsb1, hsu.out, fun h => absurd h hs1⟩
          have hme := meet_alike HKIN.out HMA.out.2 HMB.out.2 hal (n := nb) (t := 0) (Nat.le_refl _) hal.2.1
          rw [HR.out, HNS.out] at hme
          obtain ⟨hm1, hm2⟩ := hme
          simp only [Nat.zero_add] at hm1 hm2
          subst hm1
          have HBF : Hid (Below w.heap.size w (wr.drewN 0)) := Lib.hid (HBW4.out.trans (HBR.out.mono HBW4.out.size))
          have HBF' : Hid (∀ m, Below w.heap.size w (wr.drewN m)) := Lib.hid (fun m => below_drewN (HBW4.out.trans (HBR.out.mono HBW4.out.size)) m)
          clear hal HBF
          go_wp2_with fail
          go_quiet (fail)
          have HBF := Lib.hid (HBF'.out nq)
          clear HBF'
          go_wp2_with fail
          refine (hkn _).mono ?_
          rintro e wk ⟨rfl, hbk⟩
          go_wp2_with fail
          go_ret
          exact ⟨rfl, HBF.out.trans (hbk.mono HBF.out.size)⟩
        case pos =>
        have hsd : decide (s < na) = true := by simpa using hs1
        by_cases hs2 : s < nb
        case neg =>
          have hsd2 : decide (s < nb) = false := by simpa using hs2
          have hal : Alike La.f na Lb.f nb s := ⟨hsa1, hsb1, hsu.out, fun _ h => absurd h hs2⟩
          have hme := meet_alike HKIN.out HMA.out.2 HMB.out.2 hal (n := nb) (t := 0) (Nat.le_refl _) hal.2.1
          rw [HR.out, HNS.out] at hme
          obtain ⟨hm1, hm2⟩ := hme
          simp only [Nat.zero_add] at hm1 hm2
          subst hm1
          have HBF : Hid (Below w.heap.size w (wr.drewN 0)) := Lib.hid (HBW4.out.trans (HBR.out.mono HBW4.out.size))
          have HBF' : Hid (∀ m, Below w.heap.size w (wr.drewN m)) := Lib.hid (fun m => below_drewN (HBW4.out.trans (HBR.out.mono HBW4.out.size)) m)
          clear hal HBF
          go_wp2_with fail
          go_quiet (fail)
          have HBF := Lib.hid (HBF'.out nq)
          clear HBF'
          go_wp2_with fail
          refine (hkn _).mono ?_
          rintro e wk ⟨rfl, hbk⟩
          go_wp2_with fail
          go_ret
          exact ⟨rfl, HBF.out.trans (hbk.mono HBF.out.size)⟩
        case pos =>
        have hsd2 : decide (s < nb) = true := by simpa using hs2
        obtain ⟨aa, rfl, haal, -, e0, e1, e2, e3, e4, e5⟩ := ((HLA.out.below HB4.out).below HBR.out).at_ hs1
        obtain ⟨ab, rfl, habl, -, f0, f1, f2, f3, f4, f5⟩ := ((HLB.out.below HB4.out).below HBR.out).at_ hs2
        have hq := eql59 (La.f s) (Lb.f s)
        unfold entA at hq
        by_cases hs3 : La.f s = Lb.f s
        case neg =>
          rw [decide_eq_false hs3] at hq
          have hal : Alike La.f na Lb.f nb s := ⟨hsa1, hsb1, hsu.out, fun _ _ => hs3⟩
          have hme := meet_alike HKIN.out HMA.out.2 HMB.out.2 hal (n := nb) (t := 0) (Nat.le_refl _) hal.2.1
          rw [HR.out, HNS.out] at hme
          obtain ⟨hm1, hm2⟩ := hme
          simp only [Nat.zero_add] at hm1 hm2
          subst hm1
          have HBF : Hid (Below w.heap.size w (wr.drewN 0)) := Lib.hid (HBW4.out.trans (HBR.out.mono HBW4.out.size))
          have HBF' : Hid (∀ m, Below w.heap.size w (wr.drewN m)) := Lib.hid (fun m => below_drewN (HBW4.out.trans (HBR.out.mono HBW4.out.size)) m)
          clear hal HBF
          go_wp2_with fail
          go_quiet (fail)
          have HBF := Lib.hid (HBF'.out nq)
          clear HBF'
          go_wp2_with fail
          refine (hkn _).mono ?_
          rintro e wk ⟨rfl, hbk⟩
          go_wp2_with fail
          go_ret
          exact ⟨rfl, HBF.out.trans (hbk.mono HBF.out.size)⟩
        case pos =>
          rw [decide_eq_true hs3] at hq
          have HSU : Hid (∀ u, u < s + 1 → La.f u = Lb.f u) := Lib.hid (fun u hu => by
            rcases Nat.lt_or_ge u s with h | h
            · exact hsu.out u h
            · obtain rfl : u = s := by omega
              exact hs3)
          clear hs3
          go_wp2_with fail
          go_quiet (fail)
          go_wp2_with fail
          exact ⟨⟨s + 1, by go_num, by omega, by omega, HSU, below_drewN HBR.out _⟩, by simp [intOf]; omega⟩
    case pos =>
    obtain ⟨z1b, z2b, z3b, ad, rfl, hadl, r0, r1, r2⟩ := (HZ.out.below HBW.out).at_ hi
    have HBL : Hid (∀ g, Value.ownBlock (.slice V lo.length cV) = some g → g < w0.heap.size) := Lib.hid (fun g e => by
      obtain ⟨_, p1, _⟩ := HLO.out
      exact p1.lt e)
    obtain ⟨K, hK⟩ : ∃ K, K = (z0 lo.length).2.2 % 6 := ⟨_, rfl⟩
    have hK5 : K ≤ 5 := by omega
    have hKi : Int.tmod ((z0 lo.length).2.2 : Int) 6 = (K : Int) := by rw [hK]; exact tmod_nat _ 6
    clear hK
    rcases Nat.eq_zero_or_pos lo.length with h0 | h0
    · have hp0 : decide (0 < lo.length) = false := by rw [decide_eq_false_iff_not]; omega
      have hp1 : decide ((0 : Int) < (lo.length : Int)) = false := by rw [decide_eq_false_iff_not]; omega
      obtain ⟨c1, hc1⟩ : ∃ c1, c1 = 0 := ⟨_, rfl⟩
      obtain ⟨F, hF⟩ : ∃ F : Nat → Int × Int, F = fun _ => (0, 0) := ⟨_, rfl⟩
      have HG0 : Hid (OwnL w0 (.slice none 0 0) (c1 + 0) (lead lo.length F c1 0).f) := Lib.hid (by subst hc1; exact OwnK.nil _ 59 6)
      have HG1 : Hid (∀ g, Value.ownBlock (.slice none 0 0) = some g → w0.heap.size ≤ g) := Lib.hid (fun g e => by cases e)
      have HG2 : Hid (Below w0.heap.size w0 w0) := Lib.hid (Below.refl _ _)
      have HNEXT : Hid (∀ k, k ≤ 5 → Hist (lo ++ [lead lo.length F c1 k])) := Lib.hid (fun k hk => HHI.out.more (c := c1) (p := 0) (G := ⟨0, F⟩) (.inl hc1) hk)
      have hc40 : c1 ≤ 100 := by omega
      clear hc1 hF
      have H0 := Lib.hid h0
      clear h0
      go_wp2_with fail
      go_loopw [7, 9] (fun vg j wr => ∃ k : Nat, k ≤ K ∧ j = .int .i64 k ∧ OwnL wr vg (c1 + k) (lead lo.length F c1 0).f ∧ (∀ g, vg.ownBlock = some g → w0.heap.size ≤ g) ∧ Below w0.heap.size w0 wr) (fun _ j _ => K - (intOf j).toNat)
      case atStart => exact ⟨0, by omega, rfl, HG0.out, HG1.out, HG2.out⟩
      case round =>
        obtain ⟨k, hk, rfl, hog, hlow, hbr⟩ := hrel
        obtain ⟨Ag, cg, rfl, hg1, hg2⟩ := hog.form
        obtain ⟨-, -, -, ad, had, hadl, r0, r1, r2⟩ := (HZ.out.below (HBW.out.trans (hbr.mono HBW.out.size))).at_ hi
        injection had with had
        subst had
        have HOG := Lib.hid hog
        have HLOW := Lib.hid hlow
        have HBR := Lib.hid hbr
        clear hog hlow hbr
        by_cases hkk : k < K
        case pos =>
          have hkd : decide (k < K) = true := by simpa using hkk
          go_wp2_with (at_builtin; refine stop ?_)
          refine Stop.go (wpList_append_k el25 _ (by rfl) _ _ (by rfl) (.slice Ag (c1 + k) cg) _ (by rfl) (OwnK.alloc HOG.out _) No _ 1 _ [entA ((lead lo.length F c1 0).f (c1 + k))] (by rfl) (by rw [lead_new]; exact rd_one wr 59 _ rfl (by simp [Value.oneCell']) (fun h => h)) (by simp; omega) (by omega) ?_)
          intro v9 w9 ho9 hg9
          have hs := HBR.out.size
          have ho9' := OwnL.snoc ho9
          have hb9 : Below w0.heap.size w0 w9 := (HBR.out.trans (((Below.refl wr.heap.size wr).alloc (Nat.le_refl _) _).mono hs)).trans ((hg9.turn (S := fun b => Value.ownBlock (.slice Ag (c1 + k) cg) = some b) (fun g e => e)).below (le_alloc hs _) (fun b e => HLOW.out b e))
          have hl9 : ∀ g, v9.ownBlock = some g → w0.heap.size ≤ g := fun g e => by
            rcases hg9.2 g e with h | h
            · exact HLOW.out g h
            · exact Nat.le_trans (le_alloc hs _) h
          have HO9 := Lib.hid ho9'
          have HB9 := Lib.hid hb9
          have HL9 := Lib.hid hl9
          clear ho9 ho9' hg9 hb9 hl9
          go_wp2_with fail
          exact ⟨⟨k + 1, by omega, by go_num, HO9.out, HL9.out, HB9.out⟩, by simp [intOf]; omega⟩
        case neg =>
          have hkd : decide (k < K) = false := by simpa using hkk
          obtain rfl : k = K := by omega
          go_wp2_with (at_builtin; refine stop ?_)
          obtain ⟨css, q1, q2, q3⟩ := (HLO.out.below HBR.out)
          have hvb := HBL.out
          have hbA : Below wr.heap.size wr (wr.alloc (.cells #[.slice Ag (c1 + k) cg] 25)) := (Below.refl _ _).alloc (Nat.le_refl _) _
          refine Stop.go (wpList_append_k el55 _ (by rfl) _ _ (by rfl) (.slice V lo.length cV) css (by rfl) (q1.alloc _) No _ 1 _ [#[.slice Ag (c1 + k) cg]] (by rfl) (rd_one wr 25 #[.slice Ag (c1 + k) cg] rfl (by simp [Value.oneCell']) (fun h => h)) (by omega) (by omega) ?_)
          intro v9 w9 ho9 hg9
          have hs := HBR.out.size
          have hnew := logs_snoc (L := lead lo.length F c1 k) (lo := lo) (css := css) (A := Ag) (c := cg) ((OwnL.lg (X := fun b => Value.ownBlock (.slice V lo.length cV) = some b) HOG.out (fun g e hx => by have := HLOW.out g e; have := hvb g hx; omega)).alloc _) hg1 hg2 q2 (fun i L cs e1 e2 => by
            obtain ⟨A', c', p1, p2, p3⟩ := q3 i L cs e1 e2
            exact ⟨A', c', p1, p2.alloc _, p3⟩) ho9 hg9
          have hb9 : Below w1.heap.size w1 w9 := ((HBW.out.trans (HBR.out.mono HBW.out.size)).trans (hbA.mono (by have := HBW.out.size; omega))).trans ((hg9.turn (S := fun b => Value.ownBlock (.slice V lo.length cV) = some b) (fun g e => e)).below (le_alloc (by have := HBW.out.size; omega) _) (fun b e => HVL.out b e))
          have hl9 : ∀ g, v9.ownBlock = some g → w1.heap.size ≤ g := fun g e => by
            rcases hg9.2 g e with h | h
            · exact HVL.out g h
            · exact Nat.le_trans (le_alloc (by have := HBW.out.size; omega) _) h
          have HO9 := Lib.hid hnew
          have HB9 := Lib.hid hb9
          have HL9 := Lib.hid hl9
          have HH9 : Hid (Hist (lo ++ [lead lo.length F c1 k])) := Lib.hid (HNEXT.out k hK5)
          clear ho9 hg9 hnew hb9 hl9 q1 q2 q3 hvb
          go_wp2_with fail
          exact ⟨⟨lo ++ [lead lo.length F c1 k], by simp; omega, by simp, HH9, HO9.out, HL9.out, HB9.out⟩, by simp [intOf]; omega⟩
    · have hp0 : decide (0 < lo.length) = true := by simpa using h0
      have hp1 : decide ((0 : Int) < (lo.length : Int)) = true := by rw [decide_eq_true_iff]; omega
      obtain ⟨p, hp⟩ : ∃ p, p = (z0 lo.length).1 % lo.length := ⟨_, rfl⟩
      have hpl : p < lo.length := by rw [hp]; exact Nat.mod_lt _ h0
      have hpi : Int.tmod ((z0 lo.length).1 : Int) (lo.length : Int) = (p : Int) := by rw [hp]; exact tmod_nat _ _
      obtain ⟨G, hG⟩ : ∃ G, lo[p]? = some G := ⟨_, List.getElem?_eq_getElem hpl⟩
      obtain ⟨va, Af, cf, hVe, hval, hvc, hfl, hf1, hf2⟩ := HLO.out.at_ hG
      subst hVe
      obtain ⟨c1, hc1⟩ : ∃ c1, c1 = (z0 lo.length).2.1 % (G.n + 1) := ⟨_, rfl⟩
      have hc1n : c1 ≤ G.n := by have : c1 < G.n + 1 := by rw [hc1]; exact Nat.mod_lt _ (by omega)
                                 omega
      have hci : Int.tmod ((z0 lo.length).2.1 : Int) ((G.n : Int) + 1) = (c1 : Int) := by rw [hc1]; exact tmod_nat _ (G.n + 1)
      have hGn : G.n ≤ 100 := by have := (HHI.out p G hG).1; omega
      have hc40 : c1 ≤ 100 := by omega
      have hsl := fun W => slice25_to Af G.n cf c1 (c1 : Int) rfl (by omega) W
      have HFL := Lib.hid hfl
      have HNEXT : Hid (∀ k, k ≤ 5 → Hist (lo ++ [lead lo.length G.f c1 k])) := Lib.hid (fun k hk => HHI.out.more (c := c1) (p := p) (G := G) (.inr ⟨hG, hc1n⟩) hk)
      clear hp hc1 hG hfl
      go_wp2_with (at_builtin; refine stop ?_)
      refine Stop.go (wpList_append_k el25 _ (by rfl) _ _ (by rfl) (.slice none 0 0) [] (by rfl) (OwnK.nil _ 59 6) No _ c1 _ ((List.range c1).map fun i => entA (G.f i)) (by rfl) (HFL.out.first hc1n) (by simp) (by omega) ?_)
      intro vg wg hog hgg
      rw [List.nil_append] at hog
      have HG0 : Hid (OwnL wg vg (c1 + 0) (lead lo.length G.f c1 0).f) := Lib.hid (OwnL.congr (f := G.f) (n := c1) hog (fun i hi => (lead_old hi).symm))
      have HG1 : Hid (∀ g, vg.ownBlock = some g → w0.heap.size ≤ g) := Lib.hid (fun g e => by
        rcases hgg.2 g e with h | h
        · cases h
        · exact h)
      have HG2 : Hid (Below w0.heap.size w0 wg) := Lib.hid (hgg.low (fun g e => by cases e))
      obtain ⟨Ag0, cg0, rfl, -, -⟩ := OwnL.form (n := c1) hog
      clear hog hgg
      go_wp2_with fail
      go_loopw [7, 9] (fun vg j wr => ∃ k : Nat, k ≤ K ∧ j = .int .i64 k ∧ OwnL wr vg (c1 + k) (lead lo.length G.f c1 0).f ∧ (∀ g, vg.ownBlock = some g → w0.heap.size ≤ g) ∧ Below w0.heap.size w0 wr) (fun _ j _ => K - (intOf j).toNat)
      case atStart => exact ⟨0, by omega, rfl, HG0.out, HG1.out, HG2.out⟩
      case round =>
        obtain ⟨k, hk, rfl, hog, hlow, hbr⟩ := hrel
        obtain ⟨Ag, cg, rfl, hg1, hg2⟩ := hog.form
        obtain ⟨-, -, -, ad, had, hadl, r0, r1, r2⟩ := (HZ.out.below (HBW.out.trans (hbr.mono HBW.out.size))).at_ hi
        injection had with had
        subst had
        have HOG := Lib.hid hog
        have HLOW := Lib.hid hlow
        have HBR := Lib.hid hbr
        clear hog hlow hbr
        by_cases hkk : k < K
        case pos =>
          have hkd : decide (k < K) = true := by simpa using hkk
          go_wp2_with (at_builtin; refine stop ?_)
          refine Stop.go (wpList_append_k el25 _ (by rfl) _ _ (by rfl) (.slice Ag (c1 + k) cg) _ (by rfl) (OwnK.alloc HOG.out _) No _ 1 _ [entA ((lead lo.length G.f c1 0).f (c1 + k))] (by rfl) (by rw [lead_new]; exact rd_one wr 59 _ rfl (by simp [Value.oneCell']) (fun h => h)) (by simp; omega) (by omega) ?_)
          intro v9 w9 ho9 hg9
          have hs := HBR.out.size
          have ho9' := OwnL.snoc ho9
          have hb9 : Below w0.heap.size w0 w9 := (HBR.out.trans (((Below.refl wr.heap.size wr).alloc (Nat.le_refl _) _).mono hs)).trans ((hg9.turn (S := fun b => Value.ownBlock (.slice Ag (c1 + k) cg) = some b) (fun g e => e)).below (le_alloc hs _) (fun b e => HLOW.out b e))
          have hl9 : ∀ g, v9.ownBlock = some g → w0.heap.size ≤ g := fun g e => by
            rcases hg9.2 g e with h | h
            · exact HLOW.out g h
            · exact Nat.le_trans (le_alloc hs _) h
          have HO9 := Lib.hid ho9'
          have HB9 := Lib.hid hb9
          have HL9 := Lib.hid hl9
          clear ho9 ho9' hg9 hb9 hl9
          go_wp2_with fail
          exact ⟨⟨k + 1, by omega, by go_num, HO9.out, HL9.out, HB9.out⟩, by simp [intOf]; omega⟩
        case neg =>
          have hkd : decide (k < K) = false := by simpa using hkk
          obtain rfl : k = K := by omega
          go_wp2_with (at_builtin; refine stop ?_)
          obtain ⟨css, q1, q2, q3⟩ := (HLO.out.below HBR.out)
          have hvb := HBL.out
          have hbA : Below wr.heap.size wr (wr.alloc (.cells #[.slice Ag (c1 + k) cg] 25)) := (Below.refl _ _).alloc (Nat.le_refl _) _
          refine Stop.go (wpList_append_k el55 _ (by rfl) _ _ (by rfl) (.slice (some va) lo.length cV) css (by rfl) (q1.alloc _) No _ 1 _ [#[.slice Ag (c1 + k) cg]] (by rfl) (rd_one wr 25 #[.slice Ag (c1 + k) cg] rfl (by simp [Value.oneCell']) (fun h => h)) (by omega) (by omega) ?_)
          intro v9 w9 ho9 hg9
          have hs := HBR.out.size
          have hnew := logs_snoc (L := lead lo.length G.f c1 k) (lo := lo) (css := css) (A := Ag) (c := cg) ((OwnL.lg (X := fun b => Value.ownBlock (.slice (some va) lo.length cV) = some b) HOG.out (fun g e hx => by have := HLOW.out g e; have := hvb g hx; omega)).alloc _) hg1 hg2 q2 (fun i L cs e1 e2 => by
            obtain ⟨A', c', p1, p2, p3⟩ := q3 i L cs e1 e2
            exact ⟨A', c', p1, p2.alloc _, p3⟩) ho9 hg9
          have hb9 : Below w1.heap.size w1 w9 := ((HBW.out.trans (HBR.out.mono HBW.out.size)).trans (hbA.mono (by have := HBW.out.size; omega))).trans ((hg9.turn (S := fun b => Value.ownBlock (.slice (some va) lo.length cV) = some b) (fun g e => e)).below (le_alloc (by have := HBW.out.size; omega) _) (fun b e => HVL.out b e))
          have hl9 : ∀ g, v9.ownBlock = some g → w1.heap.size ≤ g := fun g e => by
            rcases hg9.2 g e with h | h
            · exact HVL.out g h
            · exact Nat.le_trans (le_alloc (by have := HBW.out.size; omega) _) h
          have HO9 := Lib.hid hnew
          have HB9 := Lib.hid hb9
          have HL9 := Lib.hid hl9
          have HH9 : Hid (Hist (lo ++ [lead lo.length G.f c1 k])) := Lib.hid (HNEXT.out k hK5)
          clear ho9 hg9 hnew hb9 hl9 q1 q2 q3 hvb
          go_wp2_with fail
          exact ⟨⟨lo ++ [lead lo.length G.f c1 k], by simp; omega, by simp, HH9, HO9.out, HL9.out, HB9.out⟩, by simp [intOf]; omega⟩

set_option maxRecDepth 100000 in
theorem lifted (os : Os) (started : os.Started) (H : Type) (enc : TypeId × Value → H) :
    ReturnsInHanded {} Try.checked os 5 .any (Rows.epochsBranchesSpec.pre6 enc Try.prog Try.f5 Rows.epochsBranchesRow.domain false) (Rows.epochsBranchesSpec.post enc Try.prog Try.f5 false true false false) := by
  refine returnsInHanded_of_change (C := Try.checked) own started (by kernel_rfl) Try.func5
    (ChangeSpec.witness6 (enc := enc) (C := Try.checked) false ⟨#[], #[.slice none 0 0, .agg #[.int .u8 0, .int .u8 0, .int .u8 0, .int .u8 0]], []⟩ 8 (by kernel_rfl) (by kernel_rfl) (by kernel_rfl) (by kernel_rfl)) ?_
  intro W base args ds gs before hval0 hW hcnd _
  have hval : ∀ (j : Nat) t v, Try.f5.params[j]? = some t → args[j]? = some v → Value.okWide Try.prog W .any base t v := hval0
  have hW' := hW
  obtain ⟨p, q, hA0, hV, rfl, hfz, hnd⟩ := hW
  have hA : DataW.TrodAll enc Try.prog W 0 (fun _ => true) true Try.f5.params.toList args.toList ds p := hA0
  rw [Try.params5] at hA hval
  obtain ⟨v0, vs0, d0, ds0, p0, q0, hargs, rfl, rfl, h0, r0⟩ := trodAll_cons hA
  obtain ⟨v1, vs1, d1, ds1, p1, q1, rfl, rfl, rfl, h1, r1⟩ := trodAll_cons r0
  obtain ⟨rfl, rfl, rfl⟩ := trodAll_nil r1
  obtain rfl : args = #[v0, v1] := by cases args; simp_all
  obtain ⟨rfl, rfl⟩ := trodVars_none hV
  have k0 := h0
  have lt0 : ∀ x ∈ p0, x.block < W.heap.size := by obtain ⟨m, hm⟩ := k0; exact DataW.trod_lt m _ _ _ hm
  obtain ⟨a0, len0, cap0, rfl⟩ := okWide_slice Try.underlying53 (hval 0 53 v0 rfl rfl)
  obtain ⟨⟨z0, b0⟩, hc0, hm0⟩ := open_rows3 h0
  have k1 := h1
  have lt1 : ∀ x ∈ p1, x.block < W.heap.size := by obtain ⟨m, hm⟩ := k1; exact DataW.trod_lt m _ _ _ hm
  obtain ⟨x1, y1, u1, v1', rfl, hx1⟩ := open_arr4 (hval 1 54 v1 rfl rfl) h1
  clear hA0 hval0
  refine (walk a0 len0 cap0 z0 x1 y1 u1 v1' W b0 hc0 hm0 hx1).mono fun e W' ⟨he, bel⟩ => ?_
  subst he
  exact ⟨_, rfl, _, _, _, [], _, [], hW', trodAll_mk1 (shut_bool Try.underlying4 _), (trodAll_cons_mk (Below.trod laidOut (by kernel_rfl) (of_decide_eq_true (by kernel_rfl)) k0 bel lt0) (trodAll_cons_mk (Below.trod laidOut (by kernel_rfl) (of_decide_eq_true (by kernel_rfl)) k1 bel lt1) trodAll_mk0)), rfl, bel.frame _, fun h => by cases h⟩

theorem over : Rows.epochsBranchesRow.holds Try.pinned (OpenSpec.ofChange Rows.epochsBranchesSpec) :=
  OpenClaim.holds_of_wide 5 Try.f5 rfl rfl rfl rfl rfl rfl rfl ⟨rfl, rfl, rfl, rfl, rfl⟩ rfl rfl rfl rfl rfl (by kernel_rfl) Try.func5 (by kernel_rfl)
    (of_decide_eq_true (by kernel_rfl)) (by unfold Func.isWrapper; first | (rw [if_pos (by decide +kernel)]; kernel_rfl) | (rw [if_neg (by decide +kernel)]; exact ⟨rfl, rfl⟩))
    (fun os started H enc _ => lifted os started H enc)

theorem proved : Rows.EpochsBranchesSaid := over
end Go.Proofs.Ytabbkghnijebpaa.epochsBranches
namespace Go.Proofs.Ytabbkghnijebpaa
theorem epochsBranches_holds : Rows.EpochsBranchesSaid := epochsBranches.proved
#print axioms epochsBranches_holds
end Go.Proofs.Ytabbkghnijebpaa
