/-
  A list without a number, in its own row: the library's DeleteFunc, and without. Conditions: at most 1000000.
-/
import Derived.Test.YtpmdicbhliclcaaGreatDel
namespace Go.Proofs.YtpmdicbhliclcaaGreat
open Go.RowKit Go.Maps
set_option linter.unusedVariables false
/-- The row between two rounds: what is kept stands ahead, what is to come stands where it stood. -/
def DelI (w : World) (g c : Nat) (V : List Int) (x : Int) (j : Nat) (W : World) : Prop :=
  ∃ cur, Blk W g 3 cur ∧ cur.size = c ∧ (∀ (q : Nat) (y : Int), (wout (V.take j) x)[q]? = some y → cur[q]? = some (.int .i64 y)) ∧ (∀ (q : Nat) (y : Int), j ≤ q → V[q]? = some y → cur[q]? = some (.int .i64 y)) ∧ Turn (fun b => b = g) w W
theorem slice41_to (a : Option Addr) (n c k : Nat) (hk : k ≤ c) (W : World) : (Instr.slice 41 (.slice a n c) none (some (.int .i64 (k : Int))) none).run Tryz.prog W = .ok (.slice a k c) W := by
  obtain ⟨j, hj, hz0, hz1, hz2⟩ := info_parts el41.info
  have ha : a.map (fun x : Addr => x.add 0) = a := by cases a <;> simp [Addr.add]
  simp [Instr.slice, run_underlying Tryz.underlying41, Instr.sliceBounds, Instr.sliceBound, asIntOf, hk, sizeOf, typeInfo, hj, ha]
theorem slice41_from (g n c k : Nat) (hk : k ≤ n) (hn : n ≤ c) (hkc : k < c) (W : World) : (Instr.slice 41 (.slice (some ⟨g, 0, none⟩) n c) (some (.int .i64 (k : Int))) none none).run Tryz.prog W = .ok (.slice (some ⟨g, k, none⟩) (n - k) (c - k)) W := by
  obtain ⟨j, hj, hz0, hz1, hz2⟩ := info_parts el41.info
  have ha : ∀ q : Nat, (⟨g, 0, none⟩ : Addr).add q = ⟨g, q, none⟩ := fun q => by unfold Addr.add; split <;> simp_all
  have hz1' : j.size = 1 := by simpa using hz1
  have hne : ¬ c = k := by omega
  simp [Instr.slice, run_underlying Tryz.underlying41, Instr.sliceBounds, Instr.sliceBound, asIntOf, hk, sizeOf, typeInfo, hj, ha, hz1']
  intro h
  exact absurd h hne
section
variable {w w' : World} {V : List Int} {X : Nat → Prop} {A : Option Addr} {n c g bx : Nat} {x : Int}
theorem DelI.keepN {j : Nat} {W : World} {y : Int} (h : DelI w g c V x j W) (hy : V[j]? = some y) (hx : y = x) : DelI w g c V x (j + 1) W := by
  obtain ⟨cur, h1, h2, h3, h4, h5⟩ := h
  exact ⟨cur, h1, h2, by rw [wout_take hy, if_pos hx]; exact h3, fun q z hq => h4 q z (by omega), h5⟩
theorem DelI.keepY {j : Nat} {W : World} {y : Int} (h : DelI w g c V x j W) (hy : V[j]? = some y) (hx : y ≠ x) (hjc : j < c) : DelI w g c V x (j + 1) (W.setCell ⟨g, (wout (V.take j) x).length, none⟩ (.int .i64 y)) := by
  obtain ⟨cur, h1, h2, h3, h4, h5⟩ := h
  have hle : (wout (V.take j) x).length ≤ j := Nat.le_trans (wout_len _ _) (List.length_take_le _ _)
  refine ⟨_, h1.set_ _ _, by simp [h2], fun q z hq => ?_, fun q z hjq hq => ?_, h5.setCell (p := ⟨g, (wout (V.take j) x).length, none⟩) (fun _ => rfl) _⟩
  · rw [wout_take hy, if_neg hx] at hq
    rw [Array.getElem?_setIfInBounds]
    rcases Nat.lt_trichotomy q (wout (V.take j) x).length with r | r | r
    · rw [if_neg (by omega)]
      rw [List.getElem?_append_left r] at hq
      exact h3 q z hq
    · subst r
      rw [List.getElem?_append_right (by omega), Nat.sub_self] at hq
      injection hq with hq
      subst hq
      rw [if_pos rfl, if_pos (by omega)]
    · rw [List.getElem?_eq_none (by simp; omega)] at hq
      cases hq
  · rw [Array.getElem?_setIfInBounds, if_neg (by omega)]
    exact h4 q z (by omega) hq
set_option maxRecDepth 100000 in
set_option maxHeartbeats 8000000 in
theorem deleteFunc_any (h : OwnK w 3 1 (.slice A n c) (intsOf V)) (hn : n ≤ 1000000) (hx : w.cell? ⟨bx, 0, none⟩ = some (.int .i64 x)) (hbx : (Value.slice A n c).ownBlock ≠ some bx) :
    Calls Tryz.prog 116 #[.slice A n c, .func (.func 117) #[] #[.pointer (some ⟨bx, 0, none⟩)]] w fun r w' => r = .returned (.slice A (wout V x).length c) ∧ OwnK w' 3 1 (.slice A (wout V x).length c) (intsOf (wout V x)) ∧ Turn (fun b => (Value.slice A n c).ownBlock = some b) w w' := by
  have hrd := h.rd (X := No) (fun _ _ h => h)
  have hlen := hrd.lenI
  have hif := indexFunc_any (c := c) hrd hn hx
  by_cases hin : x ∈ V
  case neg =>
    rw [idx_no hin] at hif
    have hw := wout_no hin
    have HF : Hid ((wout V x).length = n ∧ OwnK w 3 1 (.slice A n c) (intsOf (wout V x))) := Lib.hid ⟨by rw [hw]; exact hlen, by rw [hw]; exact h⟩
    clear hrd hx hbx h hin hw hlen
    go_enter Tryz.func116, Tryz.ntmps116
    go_wp2_with fail
    refine hif.mono ?_
    rintro r w1 ⟨rfl, rfl⟩
    clear hif
    go_wp2_with fail
    go_ret
    exact ⟨by rw [HF.out.1]; rfl, by rw [HF.out.1]; exact HF.out.2, Turn.refl _ _⟩
  case pos =>
  obtain ⟨k0, hk0, hno0⟩ : ∃ k : Nat, V[k]? = some x ∧ ∀ j : Nat, j < k → V[j]? ≠ some x := by
    have hi := idx_in.2 hin
    unfold idx at hi
    cases hf : V.findIdx? (· == x) with
    | none =>
      rw [hf] at hi
      have hi' : (0 : Int) ≤ -1 := hi
      omega
    | some i =>
      rw [List.findIdx?_eq_some_iff_getElem] at hf
      obtain ⟨h1, h2, h3⟩ := hf
      refine ⟨i, by rw [List.getElem?_eq_getElem h1]; simpa using h2, fun j hj q => ?_⟩
      have := h3 j hj
      rw [List.getElem?_eq_getElem (by omega)] at q
      injection q with q
      simp [q] at this
  rw [idx_at hk0 hno0] at hif
  have hkl := (List.getElem?_eq_some_iff.1 hk0).1
  obtain ⟨g, cap, cur, he, -, hh, h1, h2, h3, h4⟩ : ∃ g cap cur, Value.slice A n c = .slice (some ⟨g, 0, none⟩) (intsOf V).length cap ∧ 0 ≤ g ∧ w.heap[g]? = some (.cells cur 3 (0, 0)) ∧ (intsOf V).length ≤ cap ∧ cap ≤ maxLen ∧ cur.size = cap * 1 ∧ cur.toList.take ((intsOf V).length * 1) = flatA (intsOf V) := by
    rcases h.1.2 with ⟨he, h0⟩ | h
    · simp [intsOf] at h0; subst h0; simp at hkl
    · exact h
  injection he with e1 e2 e3
  subst e1 e3
  have hg : g ≠ bx := fun e => hbx (by rw [← e]; rfl)
  have hz0 : ∀ (q : Nat) (y : Int), V[q]? = some y → cur[q]? = some (.int .i64 y) := fun q y hq => by
    obtain ⟨ad, ea, hc⟩ := hrd.intAt hq
    injection ea with ea
    subst ea
    have := (show Blk w g 3 cur from hh).cell q
    rw [← this]
    have hadd : (⟨g, 0, none⟩ : Addr).add q = ⟨g, q, none⟩ := by unfold Addr.add; split <;> simp_all
    rw [hadd] at hc
    exact hc
  have hF0 : wout (V.take k0) x = V.take k0 := wout_no (fun hm => by
    obtain ⟨j, hj⟩ := List.mem_iff_getElem?.1 hm
    rw [List.getElem?_take] at hj
    split at hj
    · next q => exact hno0 j q hj
    · cases hj)
  have HI0 : Hid (DelI w g c V x (k0 + 1) w) := Lib.hid ⟨cur, hh, by omega, fun q y hq => by
    rw [wout_take hk0, if_pos rfl, hF0, List.getElem?_take] at hq
    split at hq
    · exact hz0 q y hq
    · exact (nomatch hq), fun q y _ hq => hz0 q y hq, Turn.refl _ _⟩
  have HL0 : Hid ((wout (V.take (k0 + 1)) x).length = k0) := Lib.hid (by rw [wout_take hk0, if_pos rfl, hF0, List.length_take]; omega)
  have HLEN := Lib.hid hlen
  have HX := Lib.hid hx
  have hvl : (intsOf V).length = V.length := by simp [intsOf]
  have hnc : n ≤ c := by omega
  have HC : Hid (c ≤ maxLen ∧ n ≤ c ∧ g ≠ bx) := Lib.hid ⟨h2, hnc, hg⟩
  have HK0 := Lib.hid hk0
  have hkn : k0 < n := by omega
  clear hrd hx hbx h hin hz0 hF0 hno0 hk0 hg h1 h2 h3 h4 e2 hh hlen hkl hvl
  go_enter Tryz.func116, Tryz.ntmps116
  go_wp2_with fail
  refine hif.mono ?_
  rintro r w1 ⟨rfl, rfl⟩
  clear hif
  have hne1 : ((k0 : Int) == -1) = false := by simp
  go_wp2_with fail
  go_loopw [5, 6] (fun i jj wv => ∃ j : Nat, k0 < j ∧ j ≤ n ∧ jj = .int .i64 j ∧ i = .int .i64 ((wout (V.take j) x).length : Nat) ∧ DelI w1 g c V x j wv) (fun _ jj _ => n - (iOf jj).toNat)
  case atStart => exact ⟨k0 + 1, by omega, by omega, by go_num, by rw [HL0.out], HI0.out⟩
  case round =>
    clear HI0 HL0
    obtain ⟨j, hkj, hj, rfl, rfl, hI⟩ := hrel
    have HI := Lib.hid hI
    clear hI
    obtain ⟨i0, hi0⟩ : ∃ i0, (wout (V.take j) x).length = i0 := ⟨_, rfl⟩
    have hij : i0 ≤ j := by rw [← hi0]; exact Nat.le_trans (wout_len _ _) (List.length_take_le _ _)
    have hij2 : i0 < j := by
      rw [← hi0]
      have hm : V.take j = V.take k0 ++ x :: (V.take j).drop (k0 + 1) := by
        have h1 := List.take_append_drop k0 (V.take j)
        rw [List.take_take, Nat.min_eq_left (by omega)] at h1
        have h2 : (V.take j).drop k0 = x :: (V.take j).drop (k0 + 1) := by
          rw [List.drop_eq_getElem_cons (by rw [List.length_take]; have := HLEN.out; omega)]
          have := HK0.out
          congr 1
          rw [List.getElem_take]
          exact (List.getElem?_eq_some_iff.1 this).2
        rw [← h2]; exact h1.symm
      have h3 : (wout (V.take j) x).length ≤ (V.take k0).length + ((V.take j).drop (k0 + 1)).length := by
        conv => lhs; rw [hm]
        unfold wout
        rw [List.filter_append, List.length_append]
        have h4 := List.length_filter_le (fun y => y != x) (V.take k0)
        have h5 : ((x :: (V.take j).drop (k0 + 1)).filter (fun y => y != x)).length ≤ ((V.take j).drop (k0 + 1)).length := by
          rw [List.filter_cons, if_neg (by simp)]
          exact List.length_filter_le _ _
        omega
      rw [List.length_drop, List.length_take, List.length_take] at h3
      have := HLEN.out
      omega
    have HI0' := Lib.hid hi0
    rw [hi0]
    clear hi0
    by_cases hlt : j < n
    case neg =>
      have hd1 : decide (j < n) = false := by simpa using hlt
      obtain rfl : j = n := by omega
      have htk : V.take j = V := List.take_of_length_le (by have := HLEN.out; omega)
      obtain ⟨cur, q1, q2, q3, q4, q5⟩ := HI.out
      have hjc : j ≤ c := HC.out.2.1
      have qcl := fun ty => Lib.run_clear_slice (P := Tryz.prog) wr 41 3 ty (.int .i64 0) Tryz.underlying41 Tryz.zeroValue3 rfl rfl g i0 (j - i0) (c - i0) (by omega) (fun q hq => by rw [q1.cell]; rw [Array.getElem?_eq_getElem (by omega)]; rfl) (fun q hq => q1.frozen _)
      obtain ⟨cur2, p1, p2, p3⟩ := Blk.setCells (List.replicate (j - i0) (.int .i64 0)) i0 q1
      have HP : Hid (OwnK (wr.setCells g i0 (List.replicate (j - i0) (.int .i64 0))) 3 1 (.slice (some ⟨g, 0, none⟩) (wout V x).length c) (intsOf (wout V x)) ∧ Turn (fun b => b = g) w1 (wr.setCells g i0 (List.replicate (j - i0) (.int .i64 0)))) := Lib.hid
        ⟨ownK_first p1 HC.out.1 (by omega) (by have := HI0'.out; rw [htk] at this; omega) (fun q y hq => by
          have hqi : q < i0 := by have h1 := (List.getElem?_eq_some_iff.1 hq).1; have := HI0'.out; rw [htk] at this; omega
          rw [p3 q hqi]
          exact q3 q y (by rw [htk]; exact hq)), q5.trans (setCells_turn _ _ _ _) (fun _ _ h => h)⟩
      have HW : Hid ((wout V x).length = i0) := Lib.hid (by have := HI0'.out; rwa [htk] at this)
      have qf := slice41_from g j c i0 (by omega) hjc (by omega)
      have qt := slice41_to (some ⟨g, 0, none⟩) j c i0 (by omega)
      clear p1 p2 p3 q1 q2 q3 q4 q5 htk HI hlt
      go_wp2_with fail
      go_ret
      exact ⟨by rw [HW.out]; rfl, HP.out.1, HP.out.2.mono (fun b _ e => by rw [e]; rfl)⟩
    case pos =>
    have hd1 : decide (j < n) = true := by simpa using hlt
    obtain ⟨y, hy⟩ : ∃ y, V[j]? = some y := ⟨_, List.getElem?_eq_getElem (by have := HLEN.out; omega)⟩
    have hjc : j < c := by have := HC.out.2.1; omega
    obtain ⟨cur, q1, q2, q3, q4, q5⟩ := HI.out
    have c0 : wr.cell? ⟨g, j, none⟩ = some (.int .i64 y) := by rw [q1.cell]; exact q4 j y (Nat.le_refl _) hy
    have hxr : wr.cell? ⟨bx, 0, none⟩ = some (.int .i64 x) := (q5.cell (p := ⟨bx, 0, none⟩) (block_lt_of_cell HX.out) (fun e => HC.out.2.2 e.symm)).trans HX.out
    have hde := del_any hxr y
    have HY := Lib.hid hy
    obtain ⟨u, hu⟩ : ∃ u, wr.cell? ⟨g, i0, none⟩ = some u := ⟨cur[i0]'(by omega), by rw [q1.cell]; exact Array.getElem?_eq_getElem (by omega)⟩
    have hfz := q1.frozen i0
    have hin2 : (i0 : Int) < (n : Int) := by omega
    clear q1 q2 q3 q4 q5 hy hxr
    by_cases hxy : y = x
    · have HN := Lib.hid (HI.out.keepN HY.out hxy)
      have HL2 : Hid ((wout (V.take (j + 1)) x).length = i0) := Lib.hid (by rw [wout_take HY.out, if_pos hxy]; exact HI0'.out)
      rw [decide_eq_true hxy] at hde
      clear hxy hu hfz
      go_wp2_with fail
      refine hde.mono ?_
      rintro r w2 ⟨rfl, rfl⟩
      clear hde c0
      go_wp2_with fail
      go_round
      case rel => exact ⟨j + 1, by omega, by omega, by go_num, by rw [HL2.out], HN.out⟩
      case measure => simp [iOf]; omega
    · have HN : Hid (DelI w1 g c V x (j + 1) (wr.setCell ⟨g, i0, none⟩ (.int .i64 y))) := Lib.hid (by
        have := HI.out.keepY HY.out hxy hjc
        rwa [HI0'.out] at this)
      have HL2 : Hid ((wout (V.take (j + 1)) x).length = i0 + 1) := Lib.hid (by rw [wout_take HY.out, if_neg hxy, List.length_append, HI0'.out]; rfl)
      rw [decide_eq_false hxy] at hde
      clear hxy
      go_wp2_with fail
      refine hde.mono ?_
      rintro r w2 ⟨rfl, rfl⟩
      clear hde
      go_wp2_with fail
      go_round
      case rel => exact ⟨j + 1, by omega, by omega, by go_num, by rw [HL2.out]; go_num, HN.out⟩
      case measure => simp [iOf]; omega
set_option maxRecDepth 100000 in
/-- A list without a number, in its own row. -/
theorem without_any (h : OwnK w 3 1 (.slice A n c) (intsOf V)) (hn : n ≤ 1000000) (x : Int) :
    Calls Tryz.prog 111 #[.slice A n c, .int .i64 x] w fun r w' => r = .returned (.slice A (wout V x).length c) ∧ OwnK w' 3 1 (.slice A (wout V x).length c) (intsOf (wout V x)) ∧ Turn (fun b => (Value.slice A n c).ownBlock = some b) w w' := by
  have hal := (Below.refl w.heap.size w).alloc (Nat.le_refl _) (.cells #[.int .i64 x] 3)
  have hx : (w.alloc (.cells #[.int .i64 x] 3)).cell? ⟨w.heap.size, 0, none⟩ = some (.int .i64 x) := (Blk.new w 3 #[.int .i64 x]).cell 0
  have hbx : (Value.slice A n c).ownBlock ≠ some w.heap.size := fun e => by have := h.lt e; omega
  have hd := deleteFunc_any (h.below hal) hn hx hbx
  have HB := Lib.hid hal
  clear hx hbx hal h
  go_enter Tryz.func111, Tryz.ntmps111
  go_wp2_with fail
  refine hd.mono ?_
  rintro r w1 ⟨rfl, ho, ht⟩
  have HO := Lib.hid ho
  have HT : Hid (Turn (fun b => (Value.slice A n c).ownBlock = some b) w w1) := Lib.hid ((Turn.of_below HB.out _).trans ht (fun _ _ h => h))
  clear hd ho ht
  go_wp2_with fail
  go_ret
  exact ⟨rfl, HO.out, HT.out⟩
end
end Go.Proofs.YtpmdicbhliclcaaGreat
