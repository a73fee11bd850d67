/-
  The document's SameFiles: whether two lists of files are the same. Nothing is assumed but bounds on lengths.
-/
import Derived.Test.YthhiiimmgghhaaaRow2
namespace Go.Proofs.Ythhiiimmgghhaaa
open Go.RowKit
theorem RFs.at_ {w : World} {X : Nat → Prop} {A : Option Addr} {n : Nat} {l : FL} (h : RFs w X A n l) {k : Nat} (hk : k < l.length) : ∃ ad B q c, A = some ad ∧ ad.block < w.heap.size ∧ ¬ X ad.block ∧ w.cell? (ad.add (k * 2)) = some (.string (str l[k].1)) ∧ w.cell? ⟨(ad.add (k * 2)).block, (ad.add (k * 2)).off + 1, none⟩ = some (.slice B q c) ∧ Bys w X B q l[k].2 ∧ q ≤ c ∧ c ≤ maxLen := by
  obtain ⟨css, hrd, hcl, hcs⟩ := h
  have hck := List.getElem?_eq_getElem (show k < css.length by omega)
  obtain ⟨ad, e, h1, h2, h3, h4⟩ := hrd.load hck
  obtain ⟨B, q, c, he, hb, h5⟩ := hcs k l[k] _ (List.getElem?_eq_getElem hk) hck
  rw [he] at h3 h4
  exact ⟨ad, B, q, c, e, h1, h2, h3 _ rfl, h4 0 _ rfl, hb, h5⟩
theorem drop_cons {l : FL} {k : Nat} (h : k < l.length) : l.drop k = l[k] :: l.drop (k + 1) := List.drop_eq_getElem_cons h
theorem str_beq (a b : Bs) : ((str a).toList == (str b).toList) = decide (a = b) := by
  rw [str_toList, str_toList, Bool.eq_iff_iff]; simp
theorem below_drewN {B : Nat} {w w' : World} (h : Below B w w') (n : Nat) : Below B w (w'.drewN n) := ⟨h.os, h.tape, h.output, h.size, h.block⟩
set_option maxRecDepth 100000 in
set_option maxHeartbeats 4000000 in
theorem sameFiles_any {w : World} {X Y : Nat → Prop} {A A' : Option Addr} {n n' c c' : Nat} {l l' : FL} (h : RFs w X A n l) (h' : RFs w Y A' n' l') (hc : n ≤ 1000000000) (hc' : n' ≤ 1000000000) :
    Calls Try.prog 39 #[.slice A n c, .slice A' n' c'] w fun e w' => e = .returned (.bool (decide (l = l'))) ∧ Below w.heap.size w w' := by
  have hl := h.len
  have hl' := h'.len
  have HH := Lib.hid h
  have HH' := Lib.hid h'
  clear h h'
  by_cases hne : n = n'
  case neg =>
    have HE : Hid (decide (l = l') = false) := Lib.hid (by simp; intro e; subst e; omega)
    clear hl hl'
    go_enter Try.func39, Try.ntmps39
    go_wp2_with fail
    go_ret
    exact ⟨ret_bool HE.out.symm, Below.refl _ _⟩
  case pos =>
  subst hne
  have HL := Lib.hid hl
  have HL' := Lib.hid hl'
  clear hl hl'
  go_enter Try.func39, Try.ntmps39
  go_wp2_with fail
  go_loopw [5] (fun i wr => ∃ k : Nat, k ≤ n ∧ i = .int .i64 k ∧ Hid (decide (l = l') = decide (l.drop k = l'.drop k)) ∧ Below w.heap.size w wr) (fun i _ => n - (intOf i).toNat)
  case atStart => exact ⟨0, by omega, rfl, Lib.hid (by simp), Below.refl _ _⟩
  case round =>
    obtain ⟨k, hk, rfl, hd, hb⟩ := hrel
    have HB := Lib.hid hb
    clear hb
    by_cases hlt : k < n
    case neg =>
      have hd1 : decide (k < n) = false := by simpa using hlt
      go_wp2_with fail
      go_ret
      refine ⟨ret_bool ?_, HB.out⟩
      rw [hd.out, List.drop_eq_nil_of_le (by have := HL.out; omega), List.drop_eq_nil_of_le (by have := HL'.out; omega)]
      simp
    case pos =>
    have hk1 : k < l.length := by have := HL.out; omega
    have hk2 : k < l'.length := by have := HL'.out; omega
    have hbw : Below w.heap.size w wr := HB.out
    obtain ⟨ad, B1, q1, c1, rfl, ha1, -, s0, s1, hy1, hq1, hc1⟩ := (HH.out.below hbw).at_ hk1
    obtain ⟨ad', B2, q2, c2, rfl, ha2, -, t0, t1, hy2, hq2, hc2⟩ := (HH'.out.below hbw).at_ hk2
    have cv1 : ∀ m, (convert 32 9 (.slice B1 q1 c1)).run Try.prog (wr.drewN m) = .ok (.string (str l[k].2)) (wr.drewN m) := fun m => conv_str (wr.drewN m) X B1 q1 c1 _ (hy1.drewN m)
    have cv2 : ∀ m, (convert 32 9 (.slice B2 q2 c2)).run Try.prog (wr.drewN m) = .ok (.string (str l'[k].2)) (wr.drewN m) := fun m => conv_str (wr.drewN m) Y B2 q2 c2 _ (hy2.drewN m)
    have HD : Hid (decide (l.drop k = l'.drop k) = (decide (l[k].1 = l'[k].1) && decide (l[k].2 = l'[k].2) && decide (l.drop (k + 1) = l'.drop (k + 1)))) := Lib.hid (by
      rw [Bool.eq_iff_iff]
      simp only [decide_eq_true_eq, Bool.and_eq_true]
      rw [drop_cons hk1, drop_cons hk2, List.cons.injEq, Prod.ext_iff])
    clear hy1 hy2
    generalize l[k].1 = a1 at *
    generalize l'[k].1 = a2 at *
    generalize l[k].2 = d1 at *
    generalize l'[k].2 = d2 at *
    by_cases hn : a1 = a2
    · subst hn
      by_cases hd2 : d1 = d2
      · subst hd2
        go_wp2_with fail
        go_quiet (fail)
        go_wp2_with fail
        refine ⟨⟨k + 1, by omega, by go_num, Lib.hid (by rw [hd.out, HD.out]; simp), below_drewN HB.out nq⟩, by simp [intOf]; omega⟩
      · have hbe : (!(str d1).toList == (str d2).toList) = true := by rw [str_toList, str_toList]; simpa using hd2
        go_wp2_with fail
        go_quiet (fail)
        go_wp2_with fail
        go_ret
        refine ⟨ret_bool ?_, below_drewN HB.out nq⟩
        rw [hd.out, HD.out]
        simp [hd2]
    · have hbe : (!(str a1).toList == (str a2).toList) = true := by rw [str_toList, str_toList]; simpa using hn
      go_wp2_with fail
      go_quiet (fail)
      go_wp2_with fail
      go_ret
      refine ⟨ret_bool ?_, below_drewN HB.out nq⟩
      rw [hd.out, HD.out]
      simp [hn]
end Go.Proofs.Ythhiiimmgghhaaa
