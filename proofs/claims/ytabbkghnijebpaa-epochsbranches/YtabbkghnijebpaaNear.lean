/-
  How a log comes nearer till it fits: the program's answer and the document's. Conditions: logs that may be.
-/
import Derived.Test.YtabbkghnijebpaaOpen
namespace Go.Proofs.Ytabbkghnijebpaa
open Go.RowKit
def lenV : Value → Nat
  | .slice _ n _ => n
  | _ => 0
set_option maxRecDepth 100000 in
set_option maxHeartbeats 8000000 in
theorem meet_any {w : World} {X Y : Nat → Prop} {A B : Option Addr} {n c m d : Nat} {f g : Nat → Int × Int} (hA : Lg w X A n f) (hB : Lg w Y B m g) (hnc : n ≤ c) (hmd : m ≤ d) (hf : May (fun i => (f i).1) n) (hg : May (fun i => (g i).1) m) :
    Calls Try.prog 32 #[.slice A n c, .slice B m d] w fun e w' => e = .returned (.tuple #[.int .i64 ((meet (fun i => (f i).1) n (fun i => (g i).1) m 0).1 : Int), .int .i64 ((meet (fun i => (f i).1) n (fun i => (g i).1) m 0).2 : Int)]) ∧ Below w.heap.size w w' := by
  have hn : n ≤ 4096 := hf.1
  have hm : m ≤ 4096 := hg.1
  have HA := Lib.hid hA
  have HB := Lib.hid hB
  have HF := Lib.hid hf.2
  have HG := Lib.hid hg.2
  clear hA hB hf hg
  go_enter Try.func32, Try.ntmps32
  go_wp2_with fail
  go_step3
  go_wp2_with fail
  go_step3
  go_wp2_with fail
  go_loopw [1, 5] (fun v i wr => ∃ k t : Nat, k + t ≤ m ∧ v = .slice B k d ∧ i = .int .i64 t ∧ Hid (meet (fun i => (f i).1) n (fun i => (g i).1) k t = meet (fun i => (f i).1) n (fun i => (g i).1) m 0) ∧ Below w.heap.size w wr) (fun v _ _ => lenV v)
  case atStart => exact ⟨m, 0, by omega, rfl, rfl, Lib.hid rfl, Below.refl _ _⟩
  case round =>
    obtain ⟨k, t, hkt, rfl, rfl, hme, hb⟩ := hrel
    have hlast := last_any (c := d) ((HB.out.first (k := k) (by omega)).below hb) (by omega)
    have hfit := fits_any (c := c) (HA.out.below hb) (by omega) hnc (k : Int) (by omega) (lastTo (fun i => (g i).1) k)
    have e0 : ((k : Int)).toNat = k := by simp
    rw [e0] at hfit
    by_cases hF : Fits (fun i => (f i).1) n k (lastTo (fun i => (g i).1) k)
    case pos =>
      have hd : decide (Fits (fun i => (f i).1) n k (lastTo (fun i => (g i).1) k)) = true := by simpa using hF
      rw [hd] at hfit
      have HM : Hid (meet (fun i => (f i).1) n (fun i => (g i).1) m 0 = (k, t)) := Lib.hid (by rw [← hme.out, meet_fits hF])
      clear hd hF e0
      generalize lastTo (fun i => (g i).1) k = ep at *
      go_wp2_with fail
      refine hlast.mono ?_
      rintro e w1 ⟨rfl, rfl⟩
      go_wp2_with fail
      refine hfit.mono ?_
      rintro e w1 ⟨rfl, rfl⟩
      go_wp2_with fail
      try rw [Exit.noGoto_ret]
      go_ret2
      exact ⟨by rw [HM.out]; rfl, hb⟩
    case neg =>
      have hd : decide (Fits (fun i => (f i).1) n k (lastTo (fun i => (g i).1) k)) = false := by simpa using hF
      rw [hd] at hfit
      have hk0 : 0 < k := by
        rcases Nat.eq_zero_or_pos k with h | h
        · subst h; exact absurd fits_zero hF
        · exact h
      have HM := Lib.hid (meet_not (t := t) hF)
      have hnl := nearer_lt (L := fun i => (f i).1) (nl := n) (E := fun i => (g i).1) hk0
      have HN : Hid (nearer (fun i => (f i).1) n (fun i => (g i).1) k = min (min (nab (fun i => (g i).1) (lastTo (fun i => (f i).1) (nab (fun i => (f i).1) (lastTo (fun i => (g i).1) k) n)) k) (nab (fun i => (f i).1) (lastTo (fun i => (g i).1) k) n)) (k - 1)) := Lib.hid rfl
      generalize nearer (fun i => (f i).1) n (fun i => (g i).1) k = nx at *
      clear hd hF e0
      generalize lastTo (fun i => (g i).1) k = ep at *
      have hend := end_any (c := c) (HA.out.below hb) (by omega) hnc HF.out ep
      generalize nab (fun i => (f i).1) ep n = at_ at *
      generalize lastTo (fun i => (f i).1) at_ = of_ at *
      go_wp2_with fail
      refine hlast.mono ?_
      rintro e w1 ⟨rfl, rfl⟩
      go_wp2_with fail
      refine hfit.mono ?_
      rintro e w1 ⟨rfl, rfl⟩
      go_wp2_with fail
      refine hend.mono ?_
      rintro e w1 ⟨rfl, hb1⟩
      have hb2 := hb.trans (hb1.mono hb.size)
      have hcut := cut_any (c := d) ((HB.out.first (k := k) (by omega)).below hb2) (by omega) (HG.out.less (by omega)) of_ (at_ : Int) (by omega)
      have e1 : ((at_ : Int)).toNat = at_ := by simp
      rw [e1] at hcut
      clear e1 hlast hfit hend
      generalize min (nab (fun i => (g i).1) of_ k) at_ = cc at *
      have hmin : min (cc : Int) ((k : Int) - 1) = (nx : Int) := by have := HN.out; omega
      have hsl := fun W => slice25_to B k d nx (nx : Int) rfl (by omega) W
      go_wp2_with fail
      refine hcut.mono ?_
      rintro e w2 ⟨rfl, hb3⟩
      have HB3 := Lib.hid (hb2.trans (hb3.mono hb2.size))
      clear hb hb1 hb2 hb3
      go_wp2_with fail
      go_roundw
      case rel => exact ⟨nx, t + 1, by omega, rfl, by go_num, Lib.hid (by rw [← HM.out]; exact hme.out), HB3.out⟩
      case measure => simp [lenV]; omega
set_option maxRecDepth 100000 in
set_option maxHeartbeats 8000000 in
theorem refMeet_any {w : World} {X Y : Nat → Prop} {A B : Option Addr} {n c m d : Nat} {f g : Nat → Int × Int} (hA : Lg w X A n f) (hB : Lg w Y B m g) (hmd : m ≤ d) (hf : May (fun i => (f i).1) n) (hg : May (fun i => (g i).1) m) :
    Calls Try.prog 25 #[.slice A n c, .slice B m d] w fun e w' => e = .returned (.tuple #[.int .i64 ((meet (fun i => (f i).1) n (fun i => (g i).1) m 0).1 : Int), .int .i64 ((meet (fun i => (f i).1) n (fun i => (g i).1) m 0).2 : Int)]) ∧ w = w' := by
  have hn : n ≤ 4096 := hf.1
  have hm : m ≤ 4096 := hg.1
  have HA := Lib.hid hA
  have HB := Lib.hid hB
  have HF := Lib.hid hf.2
  have HG := Lib.hid hg.2
  clear hA hB hf hg
  go_enter Try.func25, Try.ntmps25
  go_wp2_with fail
  go_loopw [6, 7] (fun v i wr => ∃ k t : Nat, k + t ≤ m ∧ v = .int .i64 k ∧ i = .int .i64 t ∧ Hid (meet (fun i => (f i).1) n (fun i => (g i).1) k t = meet (fun i => (f i).1) n (fun i => (g i).1) m 0) ∧ w = wr) (fun v _ _ => (intOf v).toNat)
  case atStart => exact ⟨m, 0, by omega, rfl, rfl, Lib.hid rfl, rfl⟩
  case round =>
    obtain ⟨k, t, hkt, rfl, rfl, hme, rfl⟩ := hrel
    have hlast := refLast_any (c := d) (HB.out.first (k := k) (by omega)) (by omega)
    have hfit := refFits_any (c := c) HA.out (by omega) (k : Int) (by omega) (lastTo (fun i => (g i).1) k)
    have e0 : ((k : Int)).toNat = k := by simp
    rw [e0] at hfit
    have hsl := fun W => slice25_to B m d k (k : Int) rfl (by omega) W
    have ht5 : decide ((t : Int) < 5000) = true := by simp; omega
    by_cases hF : Fits (fun i => (f i).1) n k (lastTo (fun i => (g i).1) k)
    case pos =>
      have hd : decide (Fits (fun i => (f i).1) n k (lastTo (fun i => (g i).1) k)) = true := by simpa using hF
      rw [hd] at hfit
      have HM : Hid (meet (fun i => (f i).1) n (fun i => (g i).1) m 0 = (k, t)) := Lib.hid (by rw [← hme.out, meet_fits hF])
      clear hd hF e0
      generalize lastTo (fun i => (g i).1) k = ep at *
      go_wp2_with fail
      refine hlast.mono ?_
      rintro e w1 ⟨rfl, rfl⟩
      go_wp2_with fail
      refine hfit.mono ?_
      rintro e w1 ⟨rfl, rfl⟩
      go_wp2_with fail
      go_ret2
      exact ⟨by rw [HM.out]; rfl, rfl⟩
    case neg =>
      have hd : decide (Fits (fun i => (f i).1) n k (lastTo (fun i => (g i).1) k)) = false := by simpa using hF
      rw [hd] at hfit
      have hk0 : 0 < k := by
        rcases Nat.eq_zero_or_pos k with h | h
        · subst h; exact absurd fits_zero hF
        · exact h
      have HM := Lib.hid (meet_not (t := t) hF)
      have hnl := nearer_lt (L := fun i => (f i).1) (nl := n) (E := fun i => (g i).1) hk0
      have HN : Hid (nearer (fun i => (f i).1) n (fun i => (g i).1) k = min (min (nab (fun i => (g i).1) (lastTo (fun i => (f i).1) (nab (fun i => (f i).1) (lastTo (fun i => (g i).1) k) n)) k) (nab (fun i => (f i).1) (lastTo (fun i => (g i).1) k) n)) (k - 1)) := Lib.hid rfl
      generalize nearer (fun i => (f i).1) n (fun i => (g i).1) k = nx at *
      clear hd hF e0
      generalize lastTo (fun i => (g i).1) k = ep at *
      have hend := refEnd_any (c := c) HA.out (by omega) ep
      generalize nab (fun i => (f i).1) ep n = at_ at *
      generalize lastTo (fun i => (f i).1) at_ = of_ at *
      have hcut := refCut_any (c := d) (HB.out.first (k := k) (by omega)) (by omega) of_ (at_ : Int) (by omega)
      have e1 : ((at_ : Int)).toNat = at_ := by simp
      rw [e1, nab_min (HG.out.less (by omega))] at hcut
      clear e1
      generalize min (nab (fun i => (g i).1) of_ k) at_ = cc at *
      have hmin : min ((k : Int) - 1) (cc : Int) = (nx : Int) := by have := HN.out; omega
      go_wp2_with fail
      refine hlast.mono ?_
      rintro e w1 ⟨rfl, rfl⟩
      go_wp2_with fail
      refine hfit.mono ?_
      rintro e w1 ⟨rfl, rfl⟩
      go_wp2_with fail
      refine hlast.mono ?_
      rintro e w1 ⟨rfl, rfl⟩
      go_wp2_with fail
      refine hend.mono ?_
      rintro e w1 ⟨rfl, rfl⟩
      go_wp2_with fail
      refine hcut.mono ?_
      rintro e w2 ⟨rfl, rfl⟩
      go_wp2_with fail
      go_roundw
      case rel => exact ⟨nx, t + 1, by omega, rfl, by go_num, Lib.hid (by rw [← HM.out]; exact hme.out), by first | rfl | trivial⟩
      case measure => simp [intOf]; omega
set_option maxRecDepth 100000 in
set_option maxHeartbeats 8000000 in
theorem Meet_yes {w : World} {X Y : Nat → Prop} {A B : Option Addr} {n c m d : Nat} {f g : Nat → Int × Int} (hA : Lg w X A n f) (hB : Lg w Y B m g) (hnc : n ≤ c) (hmd : m ≤ d) (hf : May (fun i => (f i).1) n) (hg : May (fun i => (g i).1) m) :
    Calls Try.prog 24 #[.slice A n c, .slice B m d] w fun e w' => e = .returned (.tuple #[.int .i64 ((meet (fun i => (f i).1) n (fun i => (g i).1) m 0).1 : Int), .int .i64 ((meet (fun i => (f i).1) n (fun i => (g i).1) m 0).2 : Int), .int .i64 0]) ∧ Below w.heap.size w w' := by
  have h1 := may_any (c := c) hA (by have := hf.1; omega)
  rw [decide_eq_true hf] at h1
  have HB := Lib.hid hB
  have HA := Lib.hid hA
  have HF := Lib.hid hf
  have HG := Lib.hid hg
  clear hA hB hf hg
  generalize hr : meet (fun i => (f i).1) n (fun i => (g i).1) m 0 = r
  have HR := Lib.hid hr
  clear hr
  go_enter Try.func24, Try.ntmps24
  go_wp2_with fail
  refine h1.mono ?_
  rintro e w1 ⟨rfl, hb1⟩
  have h2 := may_any (c := d) (HB.out.below hb1) (by have := HG.out.1; omega)
  rw [decide_eq_true HG.out] at h2
  go_wp2_with fail
  refine h2.mono ?_
  rintro e w2 ⟨rfl, hb2⟩
  have hb12 := hb1.trans (hb2.mono hb1.size)
  have h3 := meet_any (c := c) (d := d) (HA.out.below hb12) (HB.out.below hb12) hnc hmd HF.out HG.out
  rw [HR.out] at h3
  go_wp2_with fail
  refine h3.mono ?_
  rintro e w3 ⟨rfl, hb3⟩
  go_wp2_with fail
  go_ret3
  exact ⟨rfl, hb12.trans (hb3.mono hb12.size)⟩
set_option maxRecDepth 100000 in
set_option maxHeartbeats 8000000 in
theorem Meet_no {w : World} {X Y : Nat → Prop} {A B : Option Addr} {n c m d : Nat} {f g : Nat → Int × Int} (hA : Lg w X A n f) (hB : Lg w Y B m g) (hn : n ≤ 1000000000) (hm : m ≤ 1000000000) (hno : ¬ (May (fun i => (f i).1) n ∧ May (fun i => (g i).1) m)) :
    Calls Try.prog 24 #[.slice A n c, .slice B m d] w fun e w' => e = .returned (.tuple #[.int .i64 0, .int .i64 0, .int .i64 2]) ∧ Below w.heap.size w w' := by
  have h1 := may_any (c := c) hA hn
  have HB := Lib.hid hB
  by_cases hf : May (fun i => (f i).1) n
  case neg =>
    rw [decide_eq_false hf] at h1
    clear hA hB hf hno
    go_enter Try.func24, Try.ntmps24
    go_wp2_with fail
    refine h1.mono ?_
    rintro e w1 ⟨rfl, hb1⟩
    go_wp2_with fail
    go_ret3
    exact ⟨rfl, hb1⟩
  case pos =>
    have hg : ¬ May (fun i => (g i).1) m := fun h => hno ⟨hf, h⟩
    rw [decide_eq_true hf] at h1
    have HG := Lib.hid hg
    clear hA hB hf hno hg
    go_enter Try.func24, Try.ntmps24
    go_wp2_with fail
    refine h1.mono ?_
    rintro e w1 ⟨rfl, hb1⟩
    have h2 := may_any (c := d) (HB.out.below hb1) hm
    rw [decide_eq_false HG.out] at h2
    go_wp2_with fail
    refine h2.mono ?_
    rintro e w2 ⟨rfl, hb2⟩
    go_wp2_with fail
    go_ret3
    exact ⟨rfl, hb1.trans (hb2.mono hb1.size)⟩
end Go.Proofs.Ytabbkghnijebpaa
