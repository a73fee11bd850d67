/-
  The document: New, Right. Conditions: a controller as it is between two calls.
-/
import Derived.Test.YtpmdicbhliclcaaGreatRef43
namespace Go.Proofs.YtpmdicbhliclcaaGreat
open Go.RowKit Go.Maps
set_option linter.unusedVariables false
set_option linter.unusedSimpArgs false
def eT (j : Nat) : Nat := if j = 0 then 4 else if j = 1 then 3 else if j = 2 then 47 else 55
def kT (j : Nat) : Nat := if j = 0 then 1 else if j = 1 then 1 else if j = 2 then 4 else 6
/-- While the document's New goes on: its blocks, and four rows of its own. -/
structure NI (w : World) (nb np ni : Nat) (m : Array Value) (r : Nat → Value) (cs : Nat → List (Array Value)) (W : World) : Prop where
  low : Below w.heap.size w W
  bx : Blk W w.heap.size 23 #[.int .i64 (nb : Int), .int .i64 (np : Int), .int .i64 (ni : Int)]
  rx : Blk W (w.heap.size + 1) 36 #[.int .i64 0, .int .i64 0, .int .i64 0, .slice none 0 0, .slice none 0 0, .slice none 0 0]
  mx : Blk W (w.heap.size + 2) 36 m
  own : ∀ j, j < 4 → OwnK W (eT j) (kT j) (r j) (cs j)
  lo : ∀ j, j < 4 → ∀ z, (r j).ownBlock = some z → w.heap.size + 3 ≤ z
  ap : ∀ i j, i < 4 → j < 4 → i ≠ j → ∀ z, (r i).ownBlock = some z → (r j).ownBlock ≠ some z
section
variable {w W W1 W2 : World} {nb np ni : Nat} {m : Array Value} {r : Nat → Value} {cs : Nat → List (Array Value)}
theorem NI.below (h : NI w nb np ni m r cs W) (hb : Below W.heap.size W W1) : NI w nb np ni m r cs W1 :=
  ⟨h.low.trans (hb.mono h.low.size), h.bx.below hb h.bx.lt, h.rx.below hb h.rx.lt, h.mx.below hb h.mx.lt, fun j hj => (h.own j hj).below hb, h.lo, h.ap⟩
theorem NI.grow (h : NI w nb np ni m r cs W) {j : Nat} (hj : j < 4) {v' : Value} {css : List (Array Value)} (hg : Grew (r j) W v' W2) (ho : OwnK W2 (eT j) (kT j) v' css) : NI w nb np ni m (setAt r j v') (setAt cs j css) W2 := by
  have hsz : w.heap.size + 3 ≤ W.heap.size := h.mx.lt
  have ht : Turn (fun z => (r j).ownBlock = some z) W W2 := hg.turn (fun g e => e)
  have hlow : Below w.heap.size w W2 := h.low.trans (ht.below h.low.size (fun z e => by have := h.lo j hj z e; omega))
  have hnew : ∀ z, v'.ownBlock = some z → (r j).ownBlock = some z ∨ W.heap.size ≤ z := hg.2
  have hne : ∀ i, i < 4 → i ≠ j → ∀ z, (r i).ownBlock = some z → v'.ownBlock ≠ some z := fun i hi hij z hz e => by
    rcases hnew z e with q | q
    · exact h.ap i j hi hj hij z hz q
    · have := (h.own i hi).lt hz; omega
  refine ⟨hlow, h.bx.keep ht (fun e => by have := h.lo j hj _ e; omega), h.rx.keep ht (fun e => by have := h.lo j hj _ e; omega), h.mx.keep ht (fun e => by have := h.lo j hj _ e; omega), fun i hi => ?_, fun i hi z hz => ?_, fun i k hi hk hik z hz => ?_⟩
  · by_cases hij : i = j
    · subst hij; rw [setAt_self, setAt_self]; exact ho
    · rw [setAt_ne _ hij, setAt_ne _ hij]
      exact (h.own i hi).keep ht (fun z hz e => h.ap i j hi hj hij z hz e)
  · by_cases hij : i = j
    · subst hij
      rw [setAt_self] at hz
      rcases hnew z hz with q | q
      · exact h.lo i hi z q
      · omega
    · rw [setAt_ne _ hij] at hz; exact h.lo i hi z hz
  · by_cases hij : i = j
    · subst hij
      rw [setAt_self] at hz
      rw [setAt_ne _ (Ne.symm hik)]
      exact fun e => hne k hk (Ne.symm hik) z e hz
    · rw [setAt_ne _ hij] at hz
      by_cases hkj : k = j
      · subst hkj; rw [setAt_self]; exact hne i hi hij z hz
      · rw [setAt_ne _ hkj]; exact h.ap i k hi hk hik z hz
theorem NI.cell (h : NI w nb np ni m r cs W) (k : Nat) (u : Value) : NI w nb np ni (m.setIfInBounds k u) r cs (W.setCell ⟨w.heap.size + 2, k, none⟩ u) := by
  have ht : Turn (fun z => z = w.heap.size + 2) W (W.setCell ⟨w.heap.size + 2, k, none⟩ u) := (Turn.refl (fun z => z = w.heap.size + 2) W).setCell (p := ⟨w.heap.size + 2, k, none⟩) (fun _ => rfl) _
  exact ⟨h.low.trans (ht.below h.low.size (fun z e => by omega)), h.bx.keep ht (by omega), h.rx.keep ht (by omega), h.mx.set_ k u, fun j hj => (h.own j hj).keep ht (fun z hz e => by have := h.lo j hj z hz; omega), h.lo, h.ap⟩
end
theorem Below.app_alloc {w W : World} (o : Obj) (h : Below w.heap.size w W) : Below w.heap.size w (W.alloc o) := h.alloc h.size o
section
variable {w : World} {X : Nat → Prop}
set_option maxRecDepth 100000 in
set_option maxHeartbeats 8000000 in
theorem new16_any (hX : ∀ b, X b → b < w.heap.size) (nb np ni : Nat) (h1 : nb ≤ 4) (h2 : np ≤ 4) (h3 : ni ≤ 4) : Calls Tryz.prog 16 #[frm (nb : Int) (np : Int) (ni : Int)] w fun r w' => ∃ v, r = .returned v ∧ Rf w' X (Mt.fresh nb np ni nb np ni) v ∧ Below w.heap.size w w' := by
  have HXW := Lib.hid hX
  clear hX
  have hbx : Blk (((w.alloc (.cells #[.int .i64 (nb : Int), .int .i64 (np : Int), .int .i64 (ni : Int)] 23)).alloc (.cells #[.int .i64 0, .int .i64 0, .int .i64 0, .slice none 0 0, .slice none 0 0, .slice none 0 0] 36)).alloc (.cells #[.int .i64 0, .int .i64 0, .int .i64 0, .slice none 0 0, .slice none 0 0, .slice none 0 0] 36)) w.heap.size 23 #[.int .i64 (nb : Int), .int .i64 (np : Int), .int .i64 (ni : Int)] := ((Blk.new w 23 _).alloc _).alloc _
  have hrx : Blk (((w.alloc (.cells #[.int .i64 (nb : Int), .int .i64 (np : Int), .int .i64 (ni : Int)] 23)).alloc (.cells #[.int .i64 0, .int .i64 0, .int .i64 0, .slice none 0 0, .slice none 0 0, .slice none 0 0] 36)).alloc (.cells #[.int .i64 0, .int .i64 0, .int .i64 0, .slice none 0 0, .slice none 0 0, .slice none 0 0] 36)) (w.heap.size + 1) 36 #[.int .i64 0, .int .i64 0, .int .i64 0, .slice none 0 0, .slice none 0 0, .slice none 0 0] := (blk_new (w.alloc (.cells #[.int .i64 (nb : Int), .int .i64 (np : Int), .int .i64 (ni : Int)] 23)) 36 _ (by simp)).alloc _
  have hmx : Blk (((w.alloc (.cells #[.int .i64 (nb : Int), .int .i64 (np : Int), .int .i64 (ni : Int)] 23)).alloc (.cells #[.int .i64 0, .int .i64 0, .int .i64 0, .slice none 0 0, .slice none 0 0, .slice none 0 0] 36)).alloc (.cells #[.int .i64 0, .int .i64 0, .int .i64 0, .slice none 0 0, .slice none 0 0, .slice none 0 0] 36)) (w.heap.size + 2) 36 #[.int .i64 0, .int .i64 0, .int .i64 0, .slice none 0 0, .slice none 0 0, .slice none 0 0] := blk_new ((w.alloc (.cells #[.int .i64 (nb : Int), .int .i64 (np : Int), .int .i64 (ni : Int)] 23)).alloc (.cells #[.int .i64 0, .int .i64 0, .int .i64 0, .slice none 0 0, .slice none 0 0, .slice none 0 0] 36)) 36 _ (by simp)
  have hlw : Below w.heap.size w (((w.alloc (.cells #[.int .i64 (nb : Int), .int .i64 (np : Int), .int .i64 (ni : Int)] 23)).alloc (.cells #[.int .i64 0, .int .i64 0, .int .i64 0, .slice none 0 0, .slice none 0 0, .slice none 0 0] 36)).alloc (.cells #[.int .i64 0, .int .i64 0, .int .i64 0, .slice none 0 0, .slice none 0 0, .slice none 0 0] 36)) := (((Below.refl w.heap.size w).alloc (Nat.le_refl _) _).alloc (le_alloc (Nat.le_refl _) _) _).alloc (le_alloc (le_alloc (Nat.le_refl _) _) _) _
  have hf0 : Blk ((w.alloc (.cells #[.int .i64 (nb : Int), .int .i64 (np : Int), .int .i64 (ni : Int)] 23)).alloc (.cells #[.int .i64 0, .int .i64 0, .int .i64 0, .slice none 0 0, .slice none 0 0, .slice none 0 0] 36)) w.heap.size 23 #[.int .i64 (nb : Int), .int .i64 (np : Int), .int .i64 (ni : Int)] := (Blk.new w 23 _).alloc _
  have HB := Lib.hid (And.intro hbx (And.intro hrx (And.intro hmx hlw)))
  have HF0 := Lib.hid hf0
  clear hbx hrx hmx hlw hf0
  unfold frm
  go_enter Tryz.func16, Tryz.ntmps16
  go_wp2_with (with_reducible refine at_load 23 rfl ?_)
  refine Stop.go (wpList_load_blk (by rfl) 23 _ (by rfl) w.heap.size (by rfl) 23 _ HF0.out _ und23 (by rfl) (by kernel_rfl) ?_)
  clear HF0
  go_wp2_with (with_reducible refine at_store 36 rfl ?_)
  refine Stop.go (wpList_store_blk (by rfl) (by rfl) 36 _ _ (by rfl) (w.heap.size + 2) _ #[.int .i64 (nb : Int), .int .i64 (np : Int), .int .i64 (ni : Int), .slice none 0 0, .slice none 0 0, .slice none 0 0] (by rfl) (by rfl) 36 HB.out.2.2.1 (by rfl) (by kernel_rfl) (by simp [Value.oneCell']) ?_)
  intro w3 hB3 hg3 hs3
  have hT3 : Turn (fun z => z = w.heap.size + 2) _ w3 := Turn.of_grown hg3 (fun r e => by injection e with e; exact e.symm)
  have HI0 : Hid (NI w nb np ni #[.int .i64 (nb : Int), .int .i64 (np : Int), .int .i64 (ni : Int), .slice none 0 0, .slice none 0 0, .slice none 0 0] (fun _ => .slice none 0 0) (fun _ => []) w3) := Lib.hid ⟨HB.out.2.2.2.trans (hT3.below HB.out.2.2.2.size (fun z e => by omega)), HB.out.1.keep hT3 (by omega), HB.out.2.1.keep hT3 (by omega), hB3, fun j hj => OwnK.nil _ _ _, fun j hj z e => (nomatch e), fun i j _ _ _ z e => (nomatch e)⟩
  clear hB3 hg3 hs3 hT3 HB
  go_wp2_with fail
  go_loopw [4, 5] (fun al i wv => ∃ (q : Nat) (r : Nat → Value) (cs : Nat → List (Array Value)), q ≤ nb ∧ i = .int .i64 q ∧ al = r 1 ∧ Hid (NI w nb np ni #[.int .i64 (nb : Int), .int .i64 (np : Int), .int .i64 (ni : Int), r 0, r 2, r 3] r cs wv) ∧ Hid (cs 0 = rowsOf q (fun _ => #[.bool true]) ∧ cs 1 = intsOf (upTo q) ∧ cs 2 = [] ∧ cs 3 = [])) (fun _ i _ => nb - (iOf i).toNat)
  case atStart => exact ⟨0, fun _ => .slice none 0 0, fun _ => [], by omega, rfl, rfl, HI0, Lib.hid ⟨rfl, rfl, rfl, rfl⟩⟩
  case round =>
    clear HI0
    obtain ⟨q, r, cs, hq, rfl, rfl, HN, HC⟩ := hrel
    have b0 : wr.cell? ⟨w.heap.size, 0, none⟩ = some (.int .i64 (nb : Int)) := HN.out.bx.cell 0
    have b1 : wr.cell? ⟨w.heap.size, 1, none⟩ = some (.int .i64 (np : Int)) := HN.out.bx.cell 1
    have b2 : wr.cell? ⟨w.heap.size, 2, none⟩ = some (.int .i64 (ni : Int)) := HN.out.bx.cell 2
    have m3 : wr.cell? ⟨w.heap.size + 2, 3, none⟩ = some (r 0) := HN.out.mx.cell 3
    by_cases hlt : q < nb
    case pos =>
      have hd : decide (q < nb) = true := decide_eq_true hlt
      obtain ⟨R0, n0, k0, e0, -, -⟩ := (HN.out.own 0 (by omega)).form
      have HE0 := Lib.hid e0
      clear e0
      have ho0 : OwnK wr 4 1 (r 0) (rowsOf q fun _ => #[.bool true]) := by have := HN.out.own 0 (by omega); rw [HC.out.1] at this; exact this
      have HO0 := Lib.hid ho0
      clear ho0
      go_wp2_with (at_builtin; refine stop ?_)
      refine Stop.go (wpList_append_k el32 _ (by rfl) _ _ (by rfl) (r 0) (rowsOf q fun _ => #[.bool true]) (by rfl) (HO0.out.alloc _) No (some ⟨wr.heap.size, 0, none⟩) 1 1 [#[.bool true]] (by rfl) (rd_one wr 4 #[.bool true] rfl (by simp [Value.oneCell']) (fun h => h)) (by rw [rowsOf_len]; omega) (by omega) ?_)
      intro v9 w9 ho9 hg9
      obtain ⟨A9, n9, k9, rfl, -, -⟩ := ho9.form
      have hni := (HN.out.below ((Below.refl _ _).alloc (Nat.le_refl _) (.cells #[.bool true] 4))).grow (j := 0) (by omega) hg9 ho9
      have HN9 := Lib.hid hni
      have HW9 : Hid (wr.heap.size ≤ w9.heap.size) := Lib.hid (Nat.le_trans (le_alloc (Nat.le_refl _) _) hg9.1.size)
      clear hni ho9 hg9 b0 b1 b2 m3
      have y3 : w9.cell? ⟨w.heap.size + 2, 3, none⟩ = some (r 0) := HN9.out.mx.cell 3
      have f3 := HN9.out.mx.frozen 3
      have hn2 := HN9.out.cell 3 (.slice A9 n9 k9)
      have HN2 := Lib.hid hn2
      clear hn2
      rw [HE0.out] at y3
      go_upto_region 7 with fail
      generalize w9.setCell ⟨w.heap.size + 2, 3, none⟩ (.slice A9 n9 k9) = w10 at *
      clear y3 f3
      have ho1 : OwnK w10 3 1 (r 1) (intsOf (upTo q)) := by
        have := HN2.out.own 1 (by omega)
        rw [setAt_ne _ (by omega), setAt_ne _ (by omega), HC.out.2.1] at this
        exact this
      have HO1 := Lib.hid ho1
      clear ho1
      go_wp2_with (at_builtin; refine stop ?_)
      refine Stop.go (wpList_append_k el41 _ (by rfl) _ _ (by rfl) (r 1) (intsOf (upTo q)) (by rfl) (HO1.out.alloc _) No (some ⟨w10.heap.size, 0, none⟩) 1 1 [#[.int .i64 (q : Int)]] (by rfl) (rd_one w10 3 #[.int .i64 (q : Int)] rfl (by simp [Value.oneCell']) (fun h => h)) (by have := upTo_len q; simp [intsOf]; omega) (by omega) ?_)
      intro v11 w11 ho11 hg11
      have hgg : Grew ((setAt r 0 (.slice A9 n9 k9)) 1) (w10.alloc (.cells #[.int .i64 (q : Int)] 3)) v11 w11 := by rw [setAt_ne _ (by omega)]; exact hg11
      have hni := (HN2.out.below ((Below.refl _ _).alloc (Nat.le_refl _) (.cells #[.int .i64 (q : Int)] 3))).grow (j := 1) (by omega) hgg ho11
      have HNX : Hid (NI w nb np ni #[.int .i64 (nb : Int), .int .i64 (np : Int), .int .i64 (ni : Int), setAt (setAt r 0 (.slice A9 n9 k9)) 1 v11 0, setAt (setAt r 0 (.slice A9 n9 k9)) 1 v11 2, setAt (setAt r 0 (.slice A9 n9 k9)) 1 v11 3] (setAt (setAt r 0 (.slice A9 n9 k9)) 1 v11) (setAt (setAt cs 0 ((rowsOf q fun _ => #[.bool true]) ++ [#[.bool true]])) 1 (intsOf (upTo q) ++ [#[.int .i64 (q : Int)]])) w11) := Lib.hid hni
      have HCX : Hid ((setAt (setAt cs 0 ((rowsOf q fun _ => #[.bool true]) ++ [#[.bool true]])) 1 (intsOf (upTo q) ++ [#[.int .i64 (q : Int)]])) 0 = rowsOf (q + 1) (fun _ => #[.bool true]) ∧ (setAt (setAt cs 0 ((rowsOf q fun _ => #[.bool true]) ++ [#[.bool true]])) 1 (intsOf (upTo q) ++ [#[.int .i64 (q : Int)]])) 1 = intsOf (upTo (q + 1)) ∧ (setAt (setAt cs 0 ((rowsOf q fun _ => #[.bool true]) ++ [#[.bool true]])) 1 (intsOf (upTo q) ++ [#[.int .i64 (q : Int)]])) 2 = [] ∧ (setAt (setAt cs 0 ((rowsOf q fun _ => #[.bool true]) ++ [#[.bool true]])) 1 (intsOf (upTo q) ++ [#[.int .i64 (q : Int)]])) 3 = []) := Lib.hid ⟨by rw [setAt_ne _ (by omega), setAt_self, rowsOf_succ], by rw [setAt_self, upTo_succ]; simp [intsOf], by rw [setAt_ne _ (by omega), setAt_ne _ (by omega)]; exact HC.out.2.2.1, by rw [setAt_ne _ (by omega), setAt_ne _ (by omega)]; exact HC.out.2.2.2⟩
      clear hni hgg ho11 hg11
      go_wp2_with fail
      go_round
      case rel => exact ⟨q + 1, _, _, by omega, by go_num, (setAt_self _ _ _).symm, HNX, HCX⟩
      case measure => simp [iOf]; omega
    case neg =>
    have hd : decide (q < nb) = false := decide_eq_false hlt
    have hqe : q = nb := by omega
    rw [hqe] at HC
    clear hlt hq hqe m3
    obtain ⟨R1, n1, k1, e1, hn1, -⟩ := (HN.out.own 1 (by omega)).form
    obtain ⟨al, hal⟩ : ∃ al, r 1 = al := ⟨_, rfl⟩
    have hn1b : n1 = nb := by rw [hn1, HC.out.2.1]; simp [intsOf, upTo_len]
    subst hn1b
    rw [e1]
    have HE1 := Lib.hid e1
    clear hal e1 hn1
    go_wp2_with fail
    go_loopw [6] (fun i wv => ∃ (z : Nat) (r' : Nat → Value) (cs' : Nat → List (Array Value)), z ≤ np ∧ i = .int .i64 z ∧ Hid (NI w n1 np ni #[.int .i64 (n1 : Int), .int .i64 (np : Int), .int .i64 (ni : Int), r' 0, r' 2, r' 3] r' cs' wv) ∧ Hid (r' 1 = .slice R1 n1 k1 ∧ cs' 0 = rowsOf n1 (fun _ => #[.bool true]) ∧ cs' 1 = intsOf (upTo n1) ∧ cs' 2 = rowsOf z (fun _ => vArr (Vw.new n1) (.slice R1 n1 k1)) ∧ cs' 3 = [])) (fun i _ => np - (iOf i).toNat)
    case atStart => exact ⟨0, r, cs, by omega, rfl, HN, Lib.hid ⟨HE1.out, HC.out.1, HC.out.2.1, HC.out.2.2.1, HC.out.2.2.2⟩⟩
    case round =>
      clear HN HC HE1 b0 b1 b2
      obtain ⟨z, r, cs, hz, rfl, HN, HC⟩ := hrel
      have b1 : wr.cell? ⟨w.heap.size, 1, none⟩ = some (.int .i64 (np : Int)) := HN.out.bx.cell 1
      have b2 : wr.cell? ⟨w.heap.size, 2, none⟩ = some (.int .i64 (ni : Int)) := HN.out.bx.cell 2
      have m4 : wr.cell? ⟨w.heap.size + 2, 4, none⟩ = some (r 2) := HN.out.mx.cell 4
      by_cases hlt : z < np
      case pos =>
        have hd2 : decide (z < np) = true := decide_eq_true hlt
        obtain ⟨R2, n2, k2, e2, -, -⟩ := (HN.out.own 2 (by omega)).form
        have HE2 := Lib.hid e2
        clear e2
        have ho2 : OwnK wr 47 4 (r 2) (rowsOf z fun _ => vArr (Vw.new n1) (.slice R1 n1 k1)) := by have := HN.out.own 2 (by omega); rw [HC.out.2.2.2.1] at this; exact this
        have HO2 := Lib.hid ho2
        clear ho2
        go_wp2_with (at_builtin; refine stop ?_)
        refine Stop.go (wpList_append_k el33 _ (by rfl) _ _ (by rfl) (r 2) (rowsOf z fun _ => vArr (Vw.new n1) (.slice R1 n1 k1)) (by rfl) (HO2.out.alloc _) No (some ⟨wr.heap.size, 0, none⟩) 1 1 [vArr (Vw.new n1) (.slice R1 n1 k1)] (by rfl) (rd_one wr 47 (vArr (Vw.new n1) (.slice R1 n1 k1)) rfl (by simp [vArr, Value.oneCell']) (fun h => h)) (by rw [rowsOf_len]; omega) (by omega) ?_)
        intro v9 w9 ho9 hg9
        obtain ⟨A9, n9, k9, rfl, -, -⟩ := ho9.form
        have hni := (HN.out.below ((Below.refl _ _).alloc (Nat.le_refl _) (.cells (vArr (Vw.new n1) (.slice R1 n1 k1)) 47))).grow (j := 2) (by omega) hg9 ho9
        have HN9 := Lib.hid hni
        clear hni ho9 hg9 b1 b2 m4
        have y4 : w9.cell? ⟨w.heap.size + 2, 4, none⟩ = some (r 2) := HN9.out.mx.cell 4
        have f4 := HN9.out.mx.frozen 4
        have HN2 : Hid (NI w n1 np ni #[.int .i64 (n1 : Int), .int .i64 (np : Int), .int .i64 (ni : Int), setAt r 2 (.slice A9 n9 k9) 0, setAt r 2 (.slice A9 n9 k9) 2, setAt r 2 (.slice A9 n9 k9) 3] (setAt r 2 (.slice A9 n9 k9)) (setAt cs 2 ((rowsOf z fun _ => vArr (Vw.new n1) (.slice R1 n1 k1)) ++ [vArr (Vw.new n1) (.slice R1 n1 k1)])) (w9.setCell ⟨w.heap.size + 2, 4, none⟩ (.slice A9 n9 k9))) := Lib.hid (HN9.out.cell 4 (.slice A9 n9 k9))
        have HCX : Hid ((setAt r 2 (.slice A9 n9 k9)) 1 = .slice R1 n1 k1 ∧ (setAt cs 2 ((rowsOf z fun _ => vArr (Vw.new n1) (.slice R1 n1 k1)) ++ [vArr (Vw.new n1) (.slice R1 n1 k1)])) 0 = rowsOf n1 (fun _ => #[.bool true]) ∧ (setAt cs 2 ((rowsOf z fun _ => vArr (Vw.new n1) (.slice R1 n1 k1)) ++ [vArr (Vw.new n1) (.slice R1 n1 k1)])) 1 = intsOf (upTo n1) ∧ (setAt cs 2 ((rowsOf z fun _ => vArr (Vw.new n1) (.slice R1 n1 k1)) ++ [vArr (Vw.new n1) (.slice R1 n1 k1)])) 2 = rowsOf (z + 1) (fun _ => vArr (Vw.new n1) (.slice R1 n1 k1)) ∧ (setAt cs 2 ((rowsOf z fun _ => vArr (Vw.new n1) (.slice R1 n1 k1)) ++ [vArr (Vw.new n1) (.slice R1 n1 k1)])) 3 = []) := Lib.hid ⟨by rw [setAt_ne _ (by omega)]; exact HC.out.1, by rw [setAt_ne _ (by omega)]; exact HC.out.2.1, by rw [setAt_ne _ (by omega)]; exact HC.out.2.2.1, by rw [setAt_self, rowsOf_succ], by rw [setAt_ne _ (by omega)]; exact HC.out.2.2.2.2⟩
        rw [HE2.out] at y4
        go_wp2_with fail
        go_round
        case rel => exact ⟨z + 1, _, _, by omega, by go_num, HN2, HCX⟩
        case measure => simp [iOf]; omega
      case neg =>
      have hd2 : decide (z < np) = false := decide_eq_false hlt
      have hze : z = np := by omega
      rw [hze] at HC
      clear hlt hz hze m4
      go_wp2_with fail
      go_loopw [7] (fun i wv => ∃ (y : Nat) (r' : Nat → Value) (cs' : Nat → List (Array Value)), y ≤ ni ∧ i = .int .i64 y ∧ Hid (NI w n1 np ni #[.int .i64 (n1 : Int), .int .i64 (np : Int), .int .i64 (ni : Int), r' 0, r' 2, r' 3] r' cs' wv) ∧ Hid (r' 1 = .slice R1 n1 k1 ∧ cs' 0 = rowsOf n1 (fun _ => #[.bool true]) ∧ cs' 1 = intsOf (upTo n1) ∧ cs' 2 = rowsOf np (fun _ => vArr (Vw.new n1) (.slice R1 n1 k1)) ∧ cs' 3 = rowsOf y (fun _ => wArr Wt.new (.slice none 0 0)))) (fun i _ => ni - (iOf i).toNat)
      case atStart => exact ⟨0, r, cs, by omega, rfl, HN, HC⟩
      case round =>
        clear HN HC b1 b2
        obtain ⟨y, r, cs, hy, rfl, HN, HC⟩ := hrel
        have b2 : wr.cell? ⟨w.heap.size, 2, none⟩ = some (.int .i64 (ni : Int)) := HN.out.bx.cell 2
        have m5 : wr.cell? ⟨w.heap.size + 2, 5, none⟩ = some (r 3) := HN.out.mx.cell 5
        by_cases hlt : y < ni
        case pos =>
          have hd3 : decide (y < ni) = true := decide_eq_true hlt
          obtain ⟨R3, n3, k3, e3, -, -⟩ := (HN.out.own 3 (by omega)).form
          have HE3 := Lib.hid e3
          clear e3
          have ho3 : OwnK wr 55 6 (r 3) (rowsOf y fun _ => wArr Wt.new (.slice none 0 0)) := by have := HN.out.own 3 (by omega); rw [HC.out.2.2.2.2] at this; exact this
          have HO3 := Lib.hid ho3
          clear ho3
          go_wp2_with (at_builtin; refine stop ?_)
          refine Stop.go (wpList_append_k el34 _ (by rfl) _ _ (by rfl) (r 3) (rowsOf y fun _ => wArr Wt.new (.slice none 0 0)) (by rfl) (HO3.out.alloc _) No (some ⟨wr.heap.size, 0, none⟩) 1 1 [wArr Wt.new (.slice none 0 0)] (by rfl) (rd_one wr 55 (wArr Wt.new (.slice none 0 0)) rfl (by simp [wArr, Value.oneCell']) (fun h => h)) (by rw [rowsOf_len]; omega) (by omega) ?_)
          intro v9 w9 ho9 hg9
          obtain ⟨A9, n9, k9, rfl, -, -⟩ := ho9.form
          have hni := (HN.out.below ((Below.refl _ _).alloc (Nat.le_refl _) (.cells (wArr Wt.new (.slice none 0 0)) 55))).grow (j := 3) (by omega) hg9 ho9
          have HN9 := Lib.hid hni
          clear hni ho9 hg9 b2 m5
          have y5 : w9.cell? ⟨w.heap.size + 2, 5, none⟩ = some (r 3) := HN9.out.mx.cell 5
          have f5 := HN9.out.mx.frozen 5
          have HN2 : Hid (NI w n1 np ni #[.int .i64 (n1 : Int), .int .i64 (np : Int), .int .i64 (ni : Int), setAt r 3 (.slice A9 n9 k9) 0, setAt r 3 (.slice A9 n9 k9) 2, setAt r 3 (.slice A9 n9 k9) 3] (setAt r 3 (.slice A9 n9 k9)) (setAt cs 3 ((rowsOf y fun _ => wArr Wt.new (.slice none 0 0)) ++ [wArr Wt.new (.slice none 0 0)])) (w9.setCell ⟨w.heap.size + 2, 5, none⟩ (.slice A9 n9 k9))) := Lib.hid (HN9.out.cell 5 (.slice A9 n9 k9))
          have HCX : Hid ((setAt r 3 (.slice A9 n9 k9)) 1 = .slice R1 n1 k1 ∧ (setAt cs 3 ((rowsOf y fun _ => wArr Wt.new (.slice none 0 0)) ++ [wArr Wt.new (.slice none 0 0)])) 0 = rowsOf n1 (fun _ => #[.bool true]) ∧ (setAt cs 3 ((rowsOf y fun _ => wArr Wt.new (.slice none 0 0)) ++ [wArr Wt.new (.slice none 0 0)])) 1 = intsOf (upTo n1) ∧ (setAt cs 3 ((rowsOf y fun _ => wArr Wt.new (.slice none 0 0)) ++ [wArr Wt.new (.slice none 0 0)])) 2 = rowsOf np (fun _ => vArr (Vw.new n1) (.slice R1 n1 k1)) ∧ (setAt cs 3 ((rowsOf y fun _ => wArr Wt.new (.slice none 0 0)) ++ [wArr Wt.new (.slice none 0 0)])) 3 = rowsOf (y + 1) (fun _ => wArr Wt.new (.slice none 0 0))) := Lib.hid ⟨by rw [setAt_ne _ (by omega)]; exact HC.out.1, by rw [setAt_ne _ (by omega)]; exact HC.out.2.1, by rw [setAt_ne _ (by omega)]; exact HC.out.2.2.1, by rw [setAt_ne _ (by omega)]; exact HC.out.2.2.2.1, by rw [setAt_self, rowsOf_succ]⟩
          rw [HE3.out] at y5
          go_wp2_with fail
          go_round
          case rel => exact ⟨y + 1, _, _, by omega, by go_num, HN2, HCX⟩
          case measure => simp [iOf]; omega
        case neg =>
        have hd3 : decide (y < ni) = false := decide_eq_false hlt
        have hye : y = ni := by omega
        rw [hye] at HC
        clear hlt hy hye m5
        obtain ⟨R0, n0, k0, e0, hn0, -⟩ := (HN.out.own 0 (by omega)).form
        obtain ⟨R2, n2, k2, e2, hn2, -⟩ := (HN.out.own 2 (by omega)).form
        obtain ⟨R3, n3, k3, e3, hn3, -⟩ := (HN.out.own 3 (by omega)).form
        rw [HC.out.2.1, rowsOf_len] at hn0
        rw [HC.out.2.2.2.1, rowsOf_len] at hn2
        rw [HC.out.2.2.2.2, rowsOf_len] at hn3
        have HE : Hid (r 0 = .slice R0 n0 k0 ∧ r 2 = .slice R2 n2 k2 ∧ r 3 = .slice R3 n3 k3 ∧ n0 = n1 ∧ n2 = np ∧ n3 = ni) := Lib.hid ⟨e0, e2, e3, hn0, hn2, hn3⟩
        have HMX : Hid (Blk wr (w.heap.size + 2) 36 #[.int .i64 (n1 : Int), .int .i64 (np : Int), .int .i64 (ni : Int), .slice R0 n0 k0, .slice R2 n2 k2, .slice R3 n3 k3]) := Lib.hid (by have := HN.out.mx; rw [e0, e2, e3] at this; exact this)
        clear e0 e2 e3 hn0 hn2 hn3
        go_wp2_with (with_reducible refine at_load 36 rfl ?_)
        refine Stop.go (wpList_load_blk (by rfl) 36 _ (by rfl) (w.heap.size + 2) (by rfl) 36 _ HMX.out _ und36 (by rfl) (by kernel_rfl) ?_)
        go_wp2_with (with_reducible refine at_store 36 rfl ?_)
        refine Stop.go (wpList_store_blk (by rfl) (by rfl) 36 _ _ (by rfl) (w.heap.size + 1) _ #[.int .i64 (n1 : Int), .int .i64 (np : Int), .int .i64 (ni : Int), .slice R0 n0 k0, .slice R2 n2 k2, .slice R3 n3 k3] (by rfl) (by rfl) 36 HN.out.rx (by rfl) (by kernel_rfl) (by simp [Value.oneCell']) ?_)
        intro w8 hB8 hg8 hs8
        have HB8 := Lib.hid hB8
        have hT8 : Turn (fun z => z = w.heap.size + 1) wr w8 := Turn.of_grown hg8 (fun r e => by injection e with e; exact e.symm)
        have hlow8 : Below w.heap.size w w8 := HN.out.low.trans (hT8.below HN.out.low.size (fun z e => by omega))
        have hrd : ∀ j, j < 4 → ∀ A n c, r j = .slice A n c → Rd w8 X (kT j) A n (cs j) := fun j hj A n c e => by
          have ho := (HN.out.own j hj).keep hT8 (fun z hz e => by have := HN.out.lo j hj z hz; omega)
          rw [e] at ho
          exact ho.rd (fun z hz q => by have := HN.out.lo j hj z (by rw [e]; exact hz); have := HXW.out z q; omega)
        have HF : Hid (Rf w8 X (Mt.fresh n1 np ni n1 np ni) (.agg #[.int .i64 (n1 : Int), .int .i64 (np : Int), .int .i64 (ni : Int), .slice R0 n0 k0, .slice R2 n2 k2, .slice R3 n3 k3]) ∧ Below w.heap.size w w8) := Lib.hid ⟨by
          obtain ⟨e0, e2, e3, rfl, rfl, rfl⟩ := HE.out
          refine ⟨R0, R2, R3, k0, k2, k3, fun p => if p < 4 then .slice R1 n0 k1 else .slice none 0 0, rfl, ⟨?_, ?_, ?_, fun p hp => ?_, fun i hi => ?_⟩⟩
          · have h9 := hrd 0 (by omega) _ _ _ e0
            rw [HC.out.2.1] at h9
            have e9 : (rowsOf n0 fun _ => #[Value.bool true]) = rowsOf n0 fun b => #[.bool ((Mt.fresh n0 n2 n3 n0 n2 n3).lives b)] := rowsOf_congr fun b hb => by
              show _ = #[Value.bool (decide (b < n0))]
              rw [decide_eq_true hb]
            rw [e9] at h9
            exact h9
          · have h9 := hrd 2 (by omega) _ _ _ e2
            rw [HC.out.2.2.2.1] at h9
            have e9 : (rowsOf n2 fun _ => vArr (Vw.new n0) (.slice R1 n0 k1)) = rowsOf n2 fun p => vArr ((Mt.fresh n0 n2 n3 n0 n2 n3).views p) ((fun p => if p < 4 then Value.slice R1 n0 k1 else Value.slice none 0 0) p) := rowsOf_congr fun p hp => by
              show _ = vArr (if p < n2 then Vw.new n0 else Vw.zero) (if p < 4 then Value.slice R1 n0 k1 else Value.slice none 0 0)
              rw [if_pos hp, if_pos (by omega)]
            rw [e9] at h9
            exact h9
          · have h9 := hrd 3 (by omega) _ _ _ e3
            rw [HC.out.2.2.2.2] at h9
            have e9 : (rowsOf n3 fun _ => wArr Wt.new (.slice none 0 0)) = rowsOf n3 fun i => wArr ((Mt.fresh n0 n2 n3 n0 n2 n3).wrs i) ((fun p => if p < 4 then Value.slice R1 n0 k1 else Value.slice none 0 0) (4 + i)) := rowsOf_congr fun i hi => by
              show _ = wArr (if i < n3 then Wt.new else Wt.zero) (if 4 + i < 4 then Value.slice R1 n0 k1 else Value.slice none 0 0)
              rw [if_pos hi, if_neg (by omega)]
            rw [e9] at h9
            exact h9
          · have hp2 : p < n2 := hp
            have h9 := hrd 1 (by omega) _ _ _ HC.out.1
            rw [HC.out.2.2.1] at h9
            show IsR w8 X (if p < 4 then _ else _) (if p < n2 then Vw.new n0 else Vw.zero).isr
            rw [if_pos (by omega), if_pos hp2]
            exact ⟨R1, k1, by rw [show (Vw.new n0).isr.length = n0 from upTo_len n0], by rw [show (Vw.new n0).isr.length = n0 from upTo_len n0]; exact h9⟩
          · have hi2 : i < n3 := hi
            show IsR w8 X (if 4 + i < 4 then _ else _) (if i < n3 then Wt.new else Wt.zero).parts
            rw [if_neg (by omega), if_pos hi2]
            exact ⟨none, 0, rfl, Rd.none_⟩, hlow8⟩
        clear hB8 hg8 hs8 hT8 hlow8 hrd
        go_wp2_with fail
        refine bodyPost_ret (results_cell (by rfl) _ _ (w.heap.size + 1) 36 _ (0, 0) _ (by rfl) HB8.out und36 (by rfl) (by kernel_rfl)) rfl ?_
        exact ⟨_, rfl, HF.out.1, HF.out.2⟩
end
end Go.Proofs.YtpmdicbhliclcaaGreat
