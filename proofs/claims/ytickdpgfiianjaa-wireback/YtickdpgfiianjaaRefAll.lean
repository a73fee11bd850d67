/-
  What waystationref02.All answers, and that waystationref02.Same tells that a list is the same as itself. Conditions: fewer than 100000 bytes, fewer than 1000000 entries.
-/
import Derived.Test.YtickdpgfiianjaaAll
import Derived.Test.YtickdpgfiianjaaRefRead
namespace Go.Proofs.Ytickdpgfiianjaa
open Go.RowKit
/-- What is known behind waystationref02.All. -/
def RefAll (w : World) (l : List UInt8) (r : Ending) (w' : World) : Prop :=
  ∃ v, r = .returned (.tuple #[v, .int .i64 (goodOf (scan l).1 : Int), .int .i64 ((scan l).2 : Int)]) ∧ OwnE w' w.heap.size v ((scan l).1.map (·.1)) ∧ Below w.heap.size w w'
set_option maxRecDepth 100000 in
set_option maxHeartbeats 4000000 in
theorem refAll_any (A : Option Addr) (N C : Nat) (l : List UInt8) (w : World) (hr : Bys w w.heap.size A N l) (hNC : N ≤ C) (hN : N < 100000) :
    Calls Try.prog 36 #[.slice A N C] w (RefAll w l) := by
  go_enter Try.func36, Try.ntmps36
  go_wp2_with fail
  go_loopw [5, 6] (fun b i wr => ∃ (k f : Nat) (pre : List (Ent × Nat)), k ≤ N ∧ N - k ≤ f ∧ pre.length ≤ k ∧ i = .int .i64 k ∧ k = goodOf pre ∧ scan l = (pre ++ (scanF f k (l.drop k)).1, (scanF f k (l.drop k)).2) ∧ OwnE wr w.heap.size b (pre.map (·.1)) ∧ Below w.heap.size w wr) (fun _ i _ => N - (intOf i).toNat)
  case atStart => exact ⟨0, l.length, [], by omega, by have := hr.1; omega, by simp, rfl, rfl, by simp [scan], OwnE.nil _ _, Below.refl _ _⟩
  case round =>
    obtain ⟨k, f, pre, hk, hf, hpl, rfl, hgd, hsc, ho, hb⟩ := hrel
    have HSC := Lib.hid hsc
    have HGD := Lib.hid hgd
    have HL := Lib.hid hr.1
    have HO := Lib.hid ho
    have hz := hb.size
    clear hsc hgd ho
    by_cases hlt : k < N
    · obtain ⟨f', rfl⟩ : ∃ f', f = f' + 1 := ⟨f - 1, by omega⟩
      obtain ⟨ad, u, rfl, hbl, -, -⟩ := hr.at_ hlt
      obtain ⟨A1, hs1, hy1⟩ := slice_rest ad N C k (k : Int) rfl (by omega) hNC
      have HY1 := Lib.hid hy1
      have HNE : Hid (l.drop k ≠ []) := Lib.hid (by rw [ne_eq, List.drop_eq_nil_iff, HL.out]; omega)
      clear hy1
      go_wp2_with fail
      clear hs1
      refine (refRead_any A1 (N - k) (C - k) (l.drop k) wr ((HY1.out _ _ _ (hr.below hb)).more hz) (by omega) (by omega)).mono ?_
      rintro e w1 ⟨rfl, hb1⟩
      have HO1 := Lib.hid (HO.out.below hb1 (Nat.le_refl _))
      have hb1' := hb.trans (hb1.mono hz)
      have hz1 := hb1'.size
      clear hb1 HO
      rcases hrd : rd (l.drop k) with ⟨cc⟩ | ⟨x, m⟩
      · have HS : Hid (scan l = (pre, cc)) := Lib.hid (by rw [HSC.out, scanF_err HNE.out hrd]; simp)
        have hcp := rd_err_pos hrd
        have bne : ((cc : Int) != 0) = true := bne_iff_ne.2 (by omega)
        have HOA := Lib.hid (HO1.out.keep (w' := w1.alloc (.cells #[.int .i64 0, .int .i64 0, .int .i64 0, .int .i64 0, .int .i64 0, .int .i64 0] 38)) fun g e => Below.heap_alloc w1 _ g (HO1.out.lt e).2)
        have hbA := hb1'.alloc hz1 (.cells #[.int .i64 0, .int .i64 0, .int .i64 0, .int .i64 0, .int .i64 0, .int .i64 0] 38)
        simp only [rdEnt, rdLen, rdErr, Ent.val, Ent.none_]
        unfold Ent.cells
        simp only
        clear hcp hrd
        go_wp2_with fail
        go_ret3
        refine ⟨u5, ?_, ?_, hbA⟩
        · rw [HS.out, ← HGD.out]; rfl
        · rw [HS.out]; exact HOA.out
      · have hbd := rd_bound hrd
        rw [List.length_drop, HL.out] at hbd
        have HS : Hid (scan l = (pre ++ [(x, k + m)] ++ (scanF f' (k + m) (l.drop (k + m))).1, (scanF f' (k + m) (l.drop (k + m))).2)) := Lib.hid (by
          rw [HSC.out, scanF_ok HNE.out hrd, List.drop_drop]; simp)
        obtain ⟨Av, qv, cv, rfl, hqv, -, -⟩ := HO1.out.form
        have hx2 : Blk (w1.alloc (.cells #[.int .i64 x.epoch, .int .i64 x.id, .int .i64 x.num, .int .i64 x.seq, .int .i64 x.kind, .int .i64 x.value] 38)) w1.heap.size 38 x.cells := Blk.new w1 38 x.cells
        have HO2 : Hid (OwnE ((w1.alloc (.cells #[.int .i64 x.epoch, .int .i64 x.id, .int .i64 x.num, .int .i64 x.seq, .int .i64 x.kind, .int .i64 x.value] 38)).alloc (.cells #[.int .i64 x.epoch, .int .i64 x.id, .int .i64 x.num, .int .i64 x.seq, .int .i64 x.kind, .int .i64 x.value] 38)) w.heap.size (.slice Av qv cv) (pre.map (·.1))) :=
          Lib.hid (HO1.out.below (ent_low _ _) (Nat.le_refl _))
        have hb2 := (hb1'.alloc hz1 (.cells #[.int .i64 x.epoch, .int .i64 x.id, .int .i64 x.num, .int .i64 x.seq, .int .i64 x.kind, .int .i64 x.value] 38)).alloc (le_alloc hz1 _) (.cells #[.int .i64 x.epoch, .int .i64 x.id, .int .i64 x.num, .int .i64 x.seq, .int .i64 x.kind, .int .i64 x.value] 38)
        have hz2 : w.heap.size ≤ ((w1.alloc (.cells #[.int .i64 x.epoch, .int .i64 x.id, .int .i64 x.num, .int .i64 x.seq, .int .i64 x.kind, .int .i64 x.value] 38)).alloc (.cells #[.int .i64 x.epoch, .int .i64 x.id, .int .i64 x.num, .int .i64 x.seq, .int .i64 x.kind, .int .i64 x.value] 38)).heap.size := hb2.size
        have hx3 : Blk ((w1.alloc (.cells #[.int .i64 x.epoch, .int .i64 x.id, .int .i64 x.num, .int .i64 x.seq, .int .i64 x.kind, .int .i64 x.value] 38)).alloc (.cells #[.int .i64 x.epoch, .int .i64 x.id, .int .i64 x.num, .int .i64 x.seq, .int .i64 x.kind, .int .i64 x.value] 38)) (w1.heap.size + 1) 38 x.cells := blk_new _ 38 _ (by simp)
        simp only [rdEnt, rdLen, rdErr, Ent.val]
        unfold Ent.cells
        clear hrd hqv hx2
        go_wp2_with (at_builtin; refine stop ?_)
        refine Stop.go (wpList_append_ents _ (by rfl) _ _ (by rfl) w.heap.size _ (pre.map (·.1)) (by rfl) HO2.out _ _ 1 _ [x] (by rfl) (ents_one hx3 hx3.lt) (by simp; omega) (by omega) hz2 ?_)
        intro v4 w4 ho4 hg4
        have hb4 := hb2.trans (hg4.low' HO2.out hz2)
        have hcast : ((k + m : Nat) : Int) = (k : Int) + (m : Int) := by omega
        clear hx3 hg4 hb2 hb1' HO2 HO1
        go_wp2_with fail
        go_roundw
        case rel => exact ⟨k + m, f', pre ++ [(x, k + m)], by omega, by omega, by simp; omega, by rw [hcast], by rw [goodOf_snoc], HS.out, by rw [List.map_append]; exact ho4, hb4⟩
        case measure => simp [intOf]; omega
    · have HS : Hid (scan l = (pre, 0)) := Lib.hid (by rw [HSC.out, List.drop_eq_nil_of_le (by rw [HL.out]; omega), scanF_end]; simp)
      go_wp2_with fail
      go_ret3
      refine ⟨u5, ?_, ?_, hb⟩
      · rw [HS.out, ← HGD.out]; rfl
      · rw [HS.out]; exact HO.out
set_option maxRecDepth 100000 in
set_option maxHeartbeats 4000000 in
theorem same_any (A : Option Addr) (n c : Nat) (A' : Option Addr) (c' : Nat) (es : List Ent) (w : World) (hr : Ents w w.heap.size A n es) (hr' : Ents w w.heap.size A' n es) (hn : n < 1000000) :
    Calls Try.prog 31 #[.slice A n c, .slice A' n c'] w fun e w' => e = .returned (.bool true) ∧ Below w.heap.size w w' := by
  have hgd := guard38
  have bn : ((n : Int) != (n : Int)) = false := by simp
  go_enter Try.func31, Try.ntmps31
  go_wp2_with fail
  go_loopw [5] (fun i wr => ∃ k : Nat, k ≤ n ∧ i = .int .i64 k ∧ Below w.heap.size w wr) (fun i _ => n - (intOf i).toNat)
  case atStart => exact ⟨0, by omega, rfl, Below.refl _ _⟩
  case round =>
    obtain ⟨k, hk, rfl, hb⟩ := hrel
    by_cases hlt : k < n
    · obtain ⟨ad, e, rfl, -, he, c0, c1, c2, c3, c4, c5⟩ := (hr.below hb).at_ hlt
      obtain ⟨ad', e', rfl, -, he', d0, d1, d2, d3, d4, d5⟩ := (hr'.below hb).at_ hlt
      rw [he] at he'
      injection he' with he'
      subst he'
      have hq : ∀ W, (binOp .neq 38 (.agg #[.int .i64 e.epoch, .int .i64 e.id, .int .i64 e.num, .int .i64 e.seq, .int .i64 e.kind, .int .i64 e.value]) (.agg #[.int .i64 e.epoch, .int .i64 e.id, .int .i64 e.num, .int .i64 e.seq, .int .i64 e.kind, .int .i64 e.value])).run Try.prog W = .ok (.bool false) W := fun W => by
        have := neq38 e e W
        rwa [same_refl] at this
      clear he
      go_wp2_with fail
      go_quiet (fail)
      go_wp2_with fail
      go_roundw
      case rel => exact ⟨k + 1, by omega, by go_num, below_drewN hb _⟩
      case measure => simp [intOf]; omega
    · go_wp2_with fail
      go_ret
      exact ⟨rfl, hb⟩
end Go.Proofs.Ytickdpgfiianjaa
