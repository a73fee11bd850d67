/-
  The document's done: files behind a thing. Conditions: the thing may be done to these files, within bounds.
-/
import Derived.Test.YthhiiimmgghhaaaDoneS
import Derived.Test.YthhiiimmgghhaaaTorn
import Derived.Sort.Walk0
namespace Go.Proofs.Ythhiiimmgghhaaa
open Go.RowKit
theorem Blk.four {w : World} {g : Nat} {t : TypeId} {a b c d : Value} (h : Blk w g t #[a, b, c, d]) : w.cell? ⟨g, 0, none⟩ = some a ∧ w.cell? ⟨g, 1, none⟩ = some b ∧ w.cell? ⟨g, 2, none⟩ = some c ∧ w.cell? ⟨g, 3, none⟩ = some d :=
  ⟨h.cell 0, h.cell 1, h.cell 2, h.cell 3⟩
theorem lt_str (a b : Bs) : Op.bytesLess (str a).toList (str b).toList = decide (a < b) := by rw [bytesLess_eq, str_toList, str_toList]
theorem gt_str (a b : Bs) : (!Op.bytesLess (str a).toList (str b).toList && !(str a).toList == (str b).toList) = decide (b < a) := by
  rw [bytesLess_eq, str_toList, str_toList, Bool.eq_iff_iff]
  simp only [Bool.and_eq_true, Bool.not_eq_true', decide_eq_false_iff_not, decide_eq_true_eq, beq_eq_false_iff_ne, ne_eq]
  constructor
  · rintro ⟨h1, h2⟩
    rcases lt_tri a b with h | h | h
    · exact absurd h h1
    · exact absurd h h2
    · exact h
  · intro h
    exact ⟨lt_asymm' h, fun e => by subst e; exact lt_irrefl' _ h⟩
theorem find_mem_len (l : FL) {p : Bs × Bs} (h : p ∈ l) : p.2.length ≤ total l := by
  induction l with
  | nil => cases h
  | cons q r ih =>
    rw [total_cons]
    rcases List.mem_cons.1 h with rfl | h
    · omega
    · have := ih h; omega
/-- The row that done makes, and what it looks at. -/
def Run (w : World) (X : Nat → Prop) (cs : Array Value) (o : Value) (L : FL) (W : World) : Prop :=
  FRow X W o L ∧ Below w.heap.size w W ∧ Blk W w.heap.size 65 cs ∧ ∀ g, o.ownBlock = some g → w.heap.size + 1 ≤ g
theorem Run.below {w W W' : World} {X : Nat → Prop} {cs : Array Value} {o : Value} {L : FL} (h : Run w X cs o L W) (hb : Below W.heap.size W W') : Run w X cs o L W' :=
  ⟨h.1.below hb, h.2.1.trans (hb.mono h.2.1.size), h.2.2.1.below hb h.2.2.1.lt, h.2.2.2⟩
theorem Run.grow {w W W1 W' : World} {X : Nat → Prop} {cs : Array Value} {o o' : Value} {L : FL} (h : Run w X cs o L W) (hb : Below W.heap.size W W1) (hX : ∀ b, X b → b < w.heap.size) {p : Bs × Bs} {A : Option Addr} {q c : Nat}
    (hby : Bys W1 (fun b => X b ∨ o.ownBlock = some b) A q p.2) (hq : q ≤ c) (hc : c ≤ maxLen) {css : List (Array Value)} (hcss : OwnK W1 59 2 o css) (ho' : OwnK W' 59 2 o' (css ++ [#[.string (str p.1), .slice A q c]])) (hg : Grew o W1 o' W') : Run w X cs o' (L ++ [p]) W' := by
  have h1 := h.below hb
  have hz := h1.2.1.size
  have hz1 := h1.2.2.1.lt
  refine ⟨h1.1.snoc hby hq hc hcss ho' hg (fun b hb => by have := hX b hb; omega), h1.2.1.trans ⟨hg.1.os, hg.1.tape, hg.1.output, hg.1.size, fun i hi => hg.1.block i (by omega) (fun e => by have := h1.2.2.2 i e.symm; omega)⟩, h1.2.2.1.keep (hg.turn (S := fun r => o.ownBlock = some r) (fun _ e => e)) (fun e => by have := h1.2.2.2 _ e; omega), fun g e => ?_⟩
  rcases hg.2 g e with e | e
  · exact h1.2.2.2 g e
  · omega
/-- Bytes that came in lie apart from the row that is made. -/
theorem Run.old {w W W1 : World} {X : Nat → Prop} {cs : Array Value} {o : Value} {L : FL} (h : Run w X cs o L W) (hb : Below W.heap.size W W1) {A : Option Addr} {q : Nat} {b : Bs} (hy : Bys w X A q b) : Bys W1 (fun b => X b ∨ o.ownBlock = some b) A q b :=
  (hy.wide (X' := fun b => X b ∨ o.ownBlock = some b) (fun b hlt e => e.elim id (fun e => by have := h.2.2.2 b e; omega))).below (h.2.1.trans (hb.mono h.2.1.size))
theorem foldD_len (t : RT) : ∀ (l : FL) (s : FL × Bool), (l.foldl (stepD t) s).1.length ≤ s.1.length + 2 * l.length
  | [], s => by simp
  | p :: l, s => by
    rw [List.foldl_cons]
    have h1 := foldD_len t l (stepD t s p)
    have h2 : (stepD t s p).1.length ≤ s.1.length + 2 := by
      unfold stepD
      simp only
      by_cases a : s.2 = false ∧ t.what = 0 ∧ t.name < p.1
      · rw [if_pos a]
        split
        · split
          · simp
          · split <;> simp
        · simp
      · rw [if_neg a]
        split
        · split
          · simp
          · split <;> simp
        · simp
    simp only [List.length_cons]; omega
theorem stepD_not {t : RT} {s : FL × Bool} {p : Bs × Bs} (h : ¬ (s.2 = false ∧ t.what = 0 ∧ t.name < p.1)) : stepD t s p = if p.1 = t.name then (if t.what = 0 then (s.1 ++ [(p.1, p.2 ++ t.bytes)], true) else if t.what = 1 then (s.1 ++ [(p.1, p.2.take t.n.toNat)], true) else (s.1, true)) else (s.1 ++ [p], s.2) := by
  unfold stepD
  simp only [if_neg h]
set_option maxRecDepth 100000 in
set_option maxHeartbeats 8000000 in
theorem done_any {w : World} {X Y : Nat → Prop} {A : Option Addr} {n c : Nat} {l : FL} (h : RFs w X A n l) (hX : ∀ b, X b → b < w.heap.size) {t : RT} {cs : Array Value} (ht : RTAt w Y t cs) (hw : t.what = 0 ∨ t.what = 1 ∨ t.what = 2)
    (hcut : t.what = 1 → 0 ≤ t.n ∧ ∀ p ∈ l, p.1 = t.name → t.n ≤ (p.2.length : Int)) (hn : n ≤ 1000000) (hb1 : t.bytes.length ≤ 100000000) (hb2 : total l ≤ 100000000) :
    Calls Try.prog 61 #[.slice A n c, .agg cs] w fun e w' => ∃ A' n' c', e = .returned (.slice A' n' c') ∧ RFs w' X A' n' (doneR t l) ∧ n' ≤ c' ∧ c' ≤ maxLen ∧ Below w.heap.size w w' := by
  have hlen := h.len
  obtain ⟨Ab, qb, cb, rfl, hyb, hqb, hcb⟩ := ht
  have HH := Lib.hid h
  have HY := Lib.hid hyb
  have HX := Lib.hid hX
  have HC := Lib.hid hcut
  have HL := Lib.hid hlen
  have HW := Lib.hid hw
  clear h hyb hX hcut hlen hw
  go_enter Try.func61, Try.ntmps61
  go_wp2_with fail
  have hb0 : Below w.heap.size w (w.alloc (.cells #[.int .i64 t.what, .string (str t.name), .slice Ab qb cb, .int .i64 t.n] 65)) := (Below.refl _ _).alloc (Nat.le_refl _) _
  have hg0 : Run w X #[.int .i64 t.what, .string (str t.name), .slice Ab qb cb, .int .i64 t.n] (.slice none 0 0) [] (w.alloc (.cells #[.int .i64 t.what, .string (str t.name), .slice Ab qb cb, .int .i64 t.n] 65)) := ⟨FRow.nil _ _, hb0, Blk.new _ _ _, fun g e => by cases e⟩
  generalize w.alloc (.cells #[.int .i64 t.what, .string (str t.name), .slice Ab qb cb, .int .i64 t.n] 65) = w1 at *
  go_loopw [5, 6, 7] (fun o th i wr => ∃ k : Nat, k ≤ n ∧ i = .int .i64 k ∧ th = .bool (foldD t (l.take k)).2 ∧ Run w X #[.int .i64 t.what, .string (str t.name), .slice Ab qb cb, .int .i64 t.n] o (foldD t (l.take k)).1 wr) (fun _ _ i _ => n - (intOf i).toNat)
  case atStart => exact ⟨0, by omega, rfl, rfl, hg0⟩
  case round =>
    obtain ⟨k, hk, rfl, rfl, hRUN⟩ := hrel
    obtain ⟨Ao, qo, co, rfl, hqo, hqco, hcm⟩ := hRUN.1.form
    have HRUN := Lib.hid hRUN
    have HLEN : Hid ((foldD t (l.take k)).1.length ≤ 2000000) := Lib.hid (by have := foldD_len t (l.take k) ([], false); rw [List.length_take] at this; unfold foldD; simp at this; omega)
    clear hRUN hqo hg0 hb0
    by_cases hlt : k < n
    case neg =>
      have hd1 : decide (k < n) = false := by simpa using hlt
      have htk : l.take k = l := List.take_of_length_le (by have := HL.out; omega)
      rw [htk] at HRUN
      rw [htk] at HLEN
      rw [htk]
      clear htk
      obtain ⟨b0, b1, b2, b3⟩ := HRUN.out.2.2.1.four
      by_cases hth : (foldD t l).2 = false ∧ t.what = 0
      · have HD : Hid (doneR t l = (foldD t l).1 ++ [(t.name, t.bytes)]) := Lib.hid (by unfold doneR; rw [if_pos hth])
        rw [hth.1]
        have hw1 : (t.what == 0) = true := by simpa using hth.2
        clear b1 b2 b3 hth
        go_wp2_with fail
        refine wp_region_np ?_
        refine wp_region_held_drew (S := fun W => Blk W w.heap.size 65 #[.int .i64 t.what, .string (str t.name), .slice Ab qb cb, .int .i64 t.n]) (by kernel_rfl) HRUN.out.2.2.1.drew (fun hHeld => ?_)
        refine wpAnyH_takeAt (i := 0) (d := 84) (v := ?vi0) rfl rfl (by kernel_rfl) (by kernel_rfl) (by kernel_rfl) (fun _ _ _ h => h) (Or.inl ⟨by rfl, ?hyi0⟩) hHeld ?_
        case hyi0 =>
          intro W hSw
          clear hSw
          (go_simp; try with_reducible rfl)
        simp only [List.setIfInBounds_toArray, List.set_cons_zero, List.set_cons_succ]
        refine wpAnyH_takeAt (i := 1) (d := 85) (v := ?vi1) rfl rfl (by kernel_rfl) (by kernel_rfl) (by kernel_rfl) (fun _ _ _ h => h) (Or.inl ⟨by rfl, ?hyi1⟩) hHeld ?_
        case hyi1 =>
          intro W hSw
          clear hSw
          (go_simp; try with_reducible rfl)
        simp only [List.setIfInBounds_toArray, List.set_cons_zero, List.set_cons_succ]
        refine wpAnyH_takeAt (i := 2) (d := 86) (v := ?vi2) rfl rfl (by kernel_rfl) (by kernel_rfl) (by kernel_rfl) (fun _ _ _ h => h) (Or.inl ⟨by rfl, ?hyi2⟩) hHeld ?_
        case hyi2 =>
          intro W hSw
          obtain ⟨c0, c1, c2, c3⟩ := Blk.four (show Blk W w.heap.size 65 #[.int .i64 t.what, .string (str t.name), .slice Ab qb cb, .int .i64 t.n] from hSw)
          (go_simp; try with_reducible rfl)
        simp only [List.setIfInBounds_toArray, List.set_cons_zero, List.set_cons_succ]
        refine wpAnyH_takeAt (i := 4) (d := 88) (v := ?vi4) rfl rfl (by kernel_rfl) (by kernel_rfl) (by kernel_rfl) (fun _ _ _ h => h) (Or.inl ⟨by rfl, ?hyi4⟩) hHeld ?_
        case hyi4 =>
          intro W hSw
          clear hSw
          (go_simp; try with_reducible rfl)
        simp only [List.setIfInBounds_toArray, List.set_cons_zero, List.set_cons_succ]
        refine wpAnyH_takeAt (i := 5) (d := 89) (v := ?vi5) rfl rfl (by kernel_rfl) (by kernel_rfl) (by kernel_rfl) (fun _ _ _ h => h) (Or.inl ⟨by rfl, ?hyi5⟩) hHeld ?_
        case hyi5 =>
          intro W hSw
          obtain ⟨c0, c1, c2, c3⟩ := Blk.four (show Blk W w.heap.size 65 #[.int .i64 t.what, .string (str t.name), .slice Ab qb cb, .int .i64 t.n] from hSw)
          (go_simp; try with_reducible rfl)
        simp only [List.setIfInBounds_toArray, List.set_cons_zero, List.set_cons_succ]
        refine wpAnyH_ready (rs := [3]) (by kernel_rfl) (by simp) (AllReadyH.cons rfl (fun K hK => ?_) AllReadyH.nil)
        go_simp
        refine hK.out _ _ (hHeld.alloc _) (fun hHeld => ?_)
        clear hK K
        try simp only [List.setIfInBounds_toArray, List.set_cons_zero, List.set_cons_succ]
        refine wpAnyH_ready (rs := [6]) (by kernel_rfl) (by simp) (AllReadyH.cons rfl (fun K hK => ?_) AllReadyH.nil)
        have hbw2 : Below w.heap.size w (wr.alloc (.cells #[] 5)).drew := (HRUN.out.2.1.alloc HRUN.out.2.1.size _).drew
        refine step_append_bytes (d := 90) (by rfl) rfl _ _ (by rfl) _ [] (by rfl) (own_empty wr) Y Ab qb cb t.bytes (by rfl) (HY.out.below hbw2) (by simp) (by have := HY.out.1; omega) ?_
        intro v3 w3 ho3 hg3
        rw [List.nil_append] at ho3
        have hg3' := (Grew.alloc (v := .slice (some ⟨wr.heap.size, 0, none⟩) 0 0) (w := wr) (.cells #[] 5)).trans hg3.of_drew
        have hbl3 : Below wr.heap.size wr w3 := hg3'.low (fun g e => (by cases e; exact Nat.le_refl _))
        have hv3 : ∀ g, v3.ownBlock = some g → wr.heap.size ≤ g := fun g e => (hg3'.2 g e).elim (fun q => (by cases q; exact Nat.le_refl _)) id
        obtain ⟨A3, q3, c3, rfl, -, hqc3, hcm3⟩ := ho3.form
        have hB3 := HRUN.out.2.2.1.below hbl3 HRUN.out.2.2.1.lt
        refine hK.out _ _ hB3 (fun hHeld => ?_)
        clear hK K
        try simp only [List.setIfInBounds_toArray, List.set_cons_zero, List.set_cons_succ]
        refine wpAnyH_takeAt (i := 7) (d := 91) (v := ?vi7) rfl rfl (by kernel_rfl) (by kernel_rfl) (by kernel_rfl) (fun _ _ _ h => h) (Or.inl ⟨by rfl, ?hyi7⟩) hHeld ?_
        case hyi7 =>
          intro W hSw
          clear hSw
          (go_simp; try with_reducible rfl)
        simp only [List.setIfInBounds_toArray, List.set_cons_zero, List.set_cons_succ]
        refine wpAnyH_ready (rs := [8]) (by kernel_rfl) (by simp) (AllReadyH.cons rfl (fun K hK => ?_) AllReadyH.nil)
        go_simp
        refine hK.out _ _ (hHeld.alloc _) (fun hHeld => ?_)
        clear hK K
        try simp only [List.setIfInBounds_toArray, List.set_cons_zero, List.set_cons_succ]
        refine wpAnyH_ready (rs := [9]) (by kernel_rfl) (by simp) (AllReadyH.cons rfl (fun K hK => ?_) AllReadyH.nil)
        have hbl4 : Below wr.heap.size wr (w3.alloc (.cells #[.string (str t.name), .slice A3 q3 c3] 59)) := hbl3.alloc hbl3.size _
        obtain ⟨css, hcss, hcl, -⟩ := HRUN.out.1.below hbl4
        refine step_append_k (d := 93) el26 (by rfl) rfl _ _ (by rfl) _ css (by rfl) hcss No _ 1 1 [#[.string (str t.name), .slice A3 q3 c3]] (by rfl) (rd_one w3 59 _ rfl (fun u hu => by simp at hu; rcases hu with rfl | rfl <;> rfl) (fun h => h)) (by rw [hcl]; have := HLEN.out; omega) (by omega) ?_
        intro v5 w5 ho5 hg5
        have HRUN5 := Lib.hid (HRUN.out.grow hbl4 HX.out (p := (t.name, t.bytes)) ((ho3.alloc _).bys (fun g e hx => by
          have h1 := hv3 g e
          have h2 := HRUN.out.2.1.size
          rcases hx with hx | hx
          · have := HX.out g hx; omega
          · have := HRUN.out.1.lt hx; omega)) hqc3 hcm3 hcss ho5 hg5)
        obtain ⟨A5, q5, c5, rfl, -, hqc5, hcm5⟩ := HRUN5.out.1.form
        refine hK.out _ _ HRUN5.out.2.2.1 (fun hHeld => ?_)
        clear hK K
        try simp only [List.setIfInBounds_toArray, List.set_cons_zero, List.set_cons_succ]
        refine wpAnyH_takeAt (i := 10) (d := 5) (v := ?vi10) rfl rfl (by kernel_rfl) (by kernel_rfl) (by kernel_rfl) (fun _ _ _ h => h) (Or.inl ⟨by rfl, ?hyi10⟩) hHeld ?_
        case hyi10 =>
          intro W hSw
          clear hSw
          (go_simp; try with_reducible rfl)
        simp only [List.setIfInBounds_toArray, List.set_cons_zero, List.set_cons_succ]
        refine wpAnyH_done (by kernel_rfl) ?_ _
        clear hHeld ho3 hg3 hg3' hbl3 hv3 hB3 hbl4 hcss hcl ho5 hg5 hbw2
        go_wp2_with fail
        go_ret
        exact ⟨A5, q5, c5, rfl, by rw [HD.out]; exact HRUN5.out.1.rfs, hqc5, hcm5, HRUN5.out.2.1⟩
      · have HD : Hid (doneR t l = (foldD t l).1) := Lib.hid (by unfold doneR; rw [if_neg hth])
        clear b1 b2 b3
        by_cases hth2 : (foldD t l).2 = true
        · rw [hth2]
          clear hth hth2
          go_wp2_with fail
          go_ret
          exact ⟨Ao, qo, co, rfl, by rw [HD.out]; exact HRUN.out.1.rfs, hqco, hcm, HRUN.out.2.1⟩
        · rw [Bool.not_eq_true] at hth2
          rw [hth2]
          have hw1 : (t.what == 0) = false := by
            have hw0 : t.what ≠ 0 := fun e => hth ⟨hth2, e⟩
            simpa using hw0
          clear hth hth2
          go_wp2_with fail
          go_ret
          exact ⟨Ao, qo, co, rfl, by rw [HD.out]; exact HRUN.out.1.rfs, hqco, hcm, HRUN.out.2.1⟩
    case pos =>
    have hkl : k < l.length := by have := HL.out; omega
    have HFS := Lib.hid (foldD_snoc t l hkl)
    have HMEM := Lib.hid (List.getElem_mem hkl)
    obtain ⟨ad, B1, q1, c1, rfl, ha1, hxa, s0, s1, hy1, hq1, hc1⟩ := HH.out.at_ hkl
    have HY1 := Lib.hid hy1
    clear hy1
    have x0 : wr.cell? (ad.add (k * 2)) = some (.string (str l[k].1)) := (HRUN.out.2.1.cell (p := ad.add (k * 2)) (by rw [block_of_add]; exact ha1)).trans s0
    have x1 : wr.cell? ⟨(ad.add (k * 2)).block, (ad.add (k * 2)).off + 1, none⟩ = some (.slice B1 q1 c1) := (HRUN.out.2.1.cell (p := ⟨(ad.add (k * 2)).block, (ad.add (k * 2)).off + 1, none⟩) (by show (ad.add (k * 2)).block < _; rw [block_of_add]; exact ha1)).trans s1
    obtain ⟨b0, b1, b2, b3⟩ := HRUN.out.2.2.1.four
    have hgs := gt_str l[k].1 t.name
    by_cases hins : (foldD t (l.take k)).2 = false ∧ t.what = 0 ∧ t.name < l[k].1
    case pos =>
      have HST : Hid (foldD t (l.take (k + 1)) = ((foldD t (l.take k)).1 ++ [(t.name, t.bytes)] ++ [l[k]], true)) := Lib.hid (by
        rw [HFS.out]
        unfold stepD
        simp only [hins, and_self, if_true]
        rw [if_neg (fun e => by have := hins.2.2; rw [e] at this; exact lt_irrefl' _ this)])
      rw [hins.1]
      have hw1 : (t.what == 0) = true := by simpa using hins.2.1
      have hne : ((str l[k].1).toList == (str t.name).toList) = false := by rw [str_toList, str_toList]; have := hins.2.2; simp; intro e; rw [e] at this; exact lt_irrefl' _ this
      have hbl := lt_str l[k].1 t.name
      rw [show decide (l[k].1 < t.name) = false from by simpa using lt_asymm' hins.2.2] at hbl
      clear hins hgs
      go_wp2_with fail
      go_quiet (fail)
      have HRUNq := Lib.hid (HRUN.out.below (W' := wr.drewN nq) ⟨rfl, rfl, rfl, Nat.le_refl _, fun _ _ => rfl⟩)
      generalize wr.drewN nq = wq at *
      clear b0 b1 b2 b3 x0 x1
      go_wp2_with fail
      refine wp_region_np ?_
      refine wp_region_held_drew (S := fun W => Blk W w.heap.size 65 #[.int .i64 t.what, .string (str t.name), .slice Ab qb cb, .int .i64 t.n]) (by kernel_rfl) HRUNq.out.2.2.1.drew (fun hHeld => ?_)
      refine wpAnyH_takeAt (i := 0) (d := 32) (v := ?vj0) rfl rfl (by kernel_rfl) (by kernel_rfl) (by kernel_rfl) (fun _ _ _ h => h) (Or.inl ⟨by rfl, ?hyj0⟩) hHeld ?_
      case hyj0 =>
        intro W hSw
        clear hSw
        (go_simp; try with_reducible rfl)
      simp only [List.setIfInBounds_toArray, List.set_cons_zero, List.set_cons_succ]
      refine wpAnyH_takeAt (i := 1) (d := 33) (v := ?vj1) rfl rfl (by kernel_rfl) (by kernel_rfl) (by kernel_rfl) (fun _ _ _ h => h) (Or.inl ⟨by rfl, ?hyj1⟩) hHeld ?_
      case hyj1 =>
        intro W hSw
        clear hSw
        (go_simp; try with_reducible rfl)
      simp only [List.setIfInBounds_toArray, List.set_cons_zero, List.set_cons_succ]
      refine wpAnyH_takeAt (i := 2) (d := 34) (v := ?vj2) rfl rfl (by kernel_rfl) (by kernel_rfl) (by kernel_rfl) (fun _ _ _ h => h) (Or.inl ⟨by rfl, ?hyj2⟩) hHeld ?_
      case hyj2 =>
        intro W hSw
        obtain ⟨c0, c1, c2, c3⟩ := Blk.four (show Blk W w.heap.size 65 #[.int .i64 t.what, .string (str t.name), .slice Ab qb cb, .int .i64 t.n] from hSw)
        (go_simp; try with_reducible rfl)
      simp only [List.setIfInBounds_toArray, List.set_cons_zero, List.set_cons_succ]
      refine wpAnyH_takeAt (i := 4) (d := 36) (v := ?vj4) rfl rfl (by kernel_rfl) (by kernel_rfl) (by kernel_rfl) (fun _ _ _ h => h) (Or.inl ⟨by rfl, ?hyj4⟩) hHeld ?_
      case hyj4 =>
        intro W hSw
        clear hSw
        (go_simp; try with_reducible rfl)
      simp only [List.setIfInBounds_toArray, List.set_cons_zero, List.set_cons_succ]
      refine wpAnyH_takeAt (i := 5) (d := 37) (v := ?vj5) rfl rfl (by kernel_rfl) (by kernel_rfl) (by kernel_rfl) (fun _ _ _ h => h) (Or.inl ⟨by rfl, ?hyj5⟩) hHeld ?_
      case hyj5 =>
        intro W hSw
        obtain ⟨c0, c1, c2, c3⟩ := Blk.four (show Blk W w.heap.size 65 #[.int .i64 t.what, .string (str t.name), .slice Ab qb cb, .int .i64 t.n] from hSw)
        (go_simp; try with_reducible rfl)
      simp only [List.setIfInBounds_toArray, List.set_cons_zero, List.set_cons_succ]
      refine wpAnyH_ready (rs := [3]) (by kernel_rfl) (by simp) (AllReadyH.cons rfl (fun K hK => ?_) AllReadyH.nil)
      go_simp
      refine hK.out _ _ (hHeld.alloc _) (fun hHeld => ?_)
      clear hK K
      try simp only [List.setIfInBounds_toArray, List.set_cons_zero, List.set_cons_succ]
      refine wpAnyH_ready (rs := [6]) (by kernel_rfl) (by simp) (AllReadyH.cons rfl (fun K hK => ?_) AllReadyH.nil)
      have hbw2 : Below w.heap.size w (wq.alloc (.cells #[] 5)).drew := (HRUNq.out.2.1.alloc HRUNq.out.2.1.size _).drew
      refine step_append_bytes (d := 38) (by rfl) rfl _ _ (by rfl) _ [] (by rfl) (own_empty wq) Y Ab qb cb t.bytes (by rfl) (HY.out.below hbw2) (by simp) (by have := HY.out.1; omega) ?_
      intro v3 w3 ho3 hg3
      rw [List.nil_append] at ho3
      have hg3' := (Grew.alloc (v := .slice (some ⟨wq.heap.size, 0, none⟩) 0 0) (w := wq) (.cells #[] 5)).trans hg3.of_drew
      have hbl3 : Below wq.heap.size wq w3 := hg3'.low (fun g e => (by cases e; exact Nat.le_refl _))
      have hv3 : ∀ g, v3.ownBlock = some g → wq.heap.size ≤ g := fun g e => (hg3'.2 g e).elim (fun q => (by cases q; exact Nat.le_refl _)) id
      obtain ⟨A3, q3, c3, rfl, -, hqc3, hcm3⟩ := ho3.form
      have hB3 := HRUNq.out.2.2.1.below hbl3 HRUNq.out.2.2.1.lt
      refine hK.out _ _ hB3 (fun hHeld => ?_)
      clear hK K
      try simp only [List.setIfInBounds_toArray, List.set_cons_zero, List.set_cons_succ]
      refine wpAnyH_takeAt (i := 7) (d := 39) (v := ?vj7) rfl rfl (by kernel_rfl) (by kernel_rfl) (by kernel_rfl) (fun _ _ _ h => h) (Or.inl ⟨by rfl, ?hyj7⟩) hHeld ?_
      case hyj7 =>
        intro W hSw
        clear hSw
        (go_simp; try with_reducible rfl)
      simp only [List.setIfInBounds_toArray, List.set_cons_zero, List.set_cons_succ]
      refine wpAnyH_ready (rs := [8]) (by kernel_rfl) (by simp) (AllReadyH.cons rfl (fun K hK => ?_) AllReadyH.nil)
      go_simp
      refine hK.out _ _ (hHeld.alloc _) (fun hHeld => ?_)
      clear hK K
      try simp only [List.setIfInBounds_toArray, List.set_cons_zero, List.set_cons_succ]
      refine wpAnyH_ready (rs := [9]) (by kernel_rfl) (by simp) (AllReadyH.cons rfl (fun K hK => ?_) AllReadyH.nil)
      have hbl4 : Below wq.heap.size wq (w3.alloc (.cells #[.string (str t.name), .slice A3 q3 c3] 59)) := hbl3.alloc hbl3.size _
      obtain ⟨css, hcss, hcl, -⟩ := HRUNq.out.1.below hbl4
      refine step_append_k (d := 41) el26 (by rfl) rfl _ _ (by rfl) _ css (by rfl) hcss No _ 1 1 [#[.string (str t.name), .slice A3 q3 c3]] (by rfl) (rd_one w3 59 _ rfl (fun u hu => by simp at hu; rcases hu with rfl | rfl <;> rfl) (fun h => h)) (by rw [hcl]; have := HLEN.out; omega) (by omega) ?_
      intro v5 w5 ho5 hg5
      have HRUN5 := Lib.hid (HRUNq.out.grow hbl4 HX.out (p := (t.name, t.bytes)) ((ho3.alloc _).bys (fun g e hx => by
        have h1 := hv3 g e
        have h2 := HRUNq.out.2.1.size
        rcases hx with hx | hx
        · have := HX.out g hx; omega
        · have := HRUNq.out.1.lt hx; omega)) hqc3 hcm3 hcss ho5 hg5)
      obtain ⟨A5, q5, c5, rfl, -, hqc5, hcm5⟩ := HRUN5.out.1.form
      refine hK.out _ _ HRUN5.out.2.2.1 (fun hHeld => ?_)
      clear hK K
      try simp only [List.setIfInBounds_toArray, List.set_cons_zero, List.set_cons_succ]
      refine wpAnyH_takeAt (i := 10) (d := 5) (v := ?vj10) rfl rfl (by kernel_rfl) (by kernel_rfl) (by kernel_rfl) (fun _ _ _ h => h) (Or.inl ⟨by rfl, ?hyj10⟩) hHeld ?_
      case hyj10 =>
        intro W hSw
        clear hSw
        (go_simp; try with_reducible rfl)
      simp only [List.setIfInBounds_toArray, List.set_cons_zero, List.set_cons_succ]
      refine wpAnyH_done (by kernel_rfl) ?_ _
      clear hHeld ho3 hg3 hg3' hbl3 hv3 hB3 hbl4 hcss hcl ho5 hg5 hbw2
      have x0 : w5.cell? (ad.add (k * 2)) = some (.string (str l[k].1)) := (HRUN5.out.2.1.cell (p := ad.add (k * 2)) (by rw [block_of_add]; exact ha1)).trans s0
      have x1 : w5.cell? ⟨(ad.add (k * 2)).block, (ad.add (k * 2)).off + 1, none⟩ = some (.slice B1 q1 c1) := (HRUN5.out.2.1.cell (p := ⟨(ad.add (k * 2)).block, (ad.add (k * 2)).off + 1, none⟩) (by show (ad.add (k * 2)).block < _; rw [block_of_add]; exact ha1)).trans s1
      obtain ⟨b0, b1, b2, b3⟩ := HRUN5.out.2.2.1.four
      obtain ⟨d0, d1, d2, d3⟩ := (HRUN5.out.2.2.1.alloc (.cells #[.string (str l[k].1), .slice B1 q1 c1] 59)).four
      have hbf : Below w5.heap.size w5 (w5.alloc (.cells #[.string (str l[k].1), .slice B1 q1 c1] 59)) := (Below.refl _ _).alloc (Nat.le_refl _) _
      go_wp2_with (at_builtin; refine stop ?_)
      have hbl6 : Below w5.heap.size w5 ((w5.alloc (.cells #[.string (str l[k].1), .slice B1 q1 c1] 59)).alloc (.cells #[.string (str l[k].1), .slice B1 q1 c1] 59)) := hbf.alloc hbf.size _
      obtain ⟨css6, hcss6, hcl6, -⟩ := HRUN5.out.1.below hbl6
      have hrd6 : Rd ((w5.alloc (.cells #[.string (str l[k].1), .slice B1 q1 c1] 59)).alloc (.cells #[.string (str l[k].1), .slice B1 q1 c1] 59)) No 2 (some ⟨w5.heap.size + 1, 0, none⟩) 1 [#[.string (str l[k].1), .slice B1 q1 c1]] := by
        have := rd_one (X := No) (k := 2) (w5.alloc (.cells #[.string (str l[k].1), .slice B1 q1 c1] 59)) 59 #[.string (str l[k].1), .slice B1 q1 c1] rfl (fun u hu => by simp at hu; rcases hu with rfl | rfl <;> rfl) (fun h => h)
        first
          | exact this
          | (rw [World.size_alloc] at this; exact this)
      refine Stop.go (wpList_append_k el26 _ (by rfl) _ _ (by rfl) _ css6 (by rfl) hcss6 No _ 1 1 [#[.string (str l[k].1), .slice B1 q1 c1]] (by rfl) hrd6 (by rw [hcl6]; have := HLEN.out; simp; omega) (by omega) ?_)
      intro v7 w7 ho7 hg7
      have HRUN7 := Lib.hid (HRUN5.out.grow hbl6 HX.out (p := l[k]) (HRUN5.out.old hbl6 HY1.out) hq1 hc1 hcss6 ho7 hg7)
      clear ho7 hg7 hcss6 hcl6 hbl6
      go_wp2_with fail
      go_roundw
      case rel => exact ⟨k + 1, by omega, by go_num, by rw [HST.out], by rw [HST.out]; exact HRUN7.out⟩
      case measure => simp [intOf]; omega
    case neg =>
    have HSN := Lib.hid (HFS.out.trans (stepD_not hins))
    rcases HW.out with hw0 | hw0 | hw0
    · have hk0 : (t.what == 0) = true := by simp [hw0]
      have hk1 : (t.what == 1) = false := by simp [hw0]
      have hk2 : (t.what == 2) = false := by simp [hw0]
      have hgq : (foldD t (l.take k)).2 = true ∨ ((foldD t (l.take k)).2 = false ∧ (!Op.bytesLess (str l[k].1).toList (str t.name).toList && !(str l[k].1).toList == (str t.name).toList) = false) := by
        by_cases h : (foldD t (l.take k)).2 = true
        · exact .inl h
        · rw [Bool.not_eq_true] at h
          refine .inr ⟨h, ?_⟩
          rw [hgs]; simp only [decide_eq_false_iff_not]; exact fun h2 => hins ⟨h, hw0, h2⟩
      by_cases hnm : l[k].1 = t.name
      · have HST : Hid (foldD t (l.take (k + 1)) = ((foldD t (l.take k)).1 ++ [(l[k].1, l[k].2 ++ t.bytes)], true)) := Lib.hid (by rw [HSN.out, if_pos hnm]; rw [if_pos hw0])
        have heq : ((str l[k].1).toList == (str t.name).toList) = true := by rw [hnm]; simp
        have HNM := Lib.hid hnm
        have HW0 := Lib.hid hw0
        clear hnm hw0 hins hgs
        rcases hgq with hgq | ⟨hgq, hgt⟩
        next =>
          rw [hgq]
          clear hgq
          go_wp2_with fail
          go_quiet (fail)
          have HRUNq := Lib.hid (HRUN.out.below (W' := wr.drewN nq) ⟨rfl, rfl, rfl, Nat.le_refl _, fun _ _ => rfl⟩)
          generalize wr.drewN nq = wq at *
          clear b0 b1 b2 b3 x0 x1
          have x0 : wq.cell? (ad.add (k * 2)) = some (.string (str l[k].1)) := (HRUNq.out.2.1.cell (p := ad.add (k * 2)) (by rw [block_of_add]; exact ha1)).trans s0
          have x1 : wq.cell? ⟨(ad.add (k * 2)).block, (ad.add (k * 2)).off + 1, none⟩ = some (.slice B1 q1 c1) := (HRUNq.out.2.1.cell (p := ⟨(ad.add (k * 2)).block, (ad.add (k * 2)).off + 1, none⟩) (by show (ad.add (k * 2)).block < _; rw [block_of_add]; exact ha1)).trans s1
          obtain ⟨b0, b1, b2, b3⟩ := HRUNq.out.2.2.1.four
          obtain ⟨d0, d1, d2, d3⟩ := (HRUNq.out.2.2.1.alloc (.cells #[.string (str l[k].1), .slice B1 q1 c1] 59)).four
          go_wp2_with fail
          have hbw : Below wq.heap.size wq (wq.alloc (.cells #[.string (str l[k].1), .slice B1 q1 c1] 59)) := (Below.refl _ _).alloc (Nat.le_refl _) _
          have HRf := Lib.hid (HRUNq.out.below hbw)
          have hfb : Blk (wq.alloc (.cells #[.string (str l[k].1), .slice B1 q1 c1] 59)) wq.heap.size 59 #[.string (str l[k].1), .slice B1 q1 c1] := Blk.new _ _ _
          have HFB : Hid (wq.heap.size ≤ wq.heap.size) := Lib.hid (Nat.le_refl _)
          have hzf : wq.heap.size < (wq.alloc (.cells #[.string (str l[k].1), .slice B1 q1 c1] 59)).heap.size := by simp
          generalize wq.alloc (.cells #[.string (str l[k].1), .slice B1 q1 c1] 59) = wf at *
          generalize hfe : wq.heap.size = fb at hfb ⊢
          have HFE := Lib.hid hfe
          clear hfe d0 d1 d2 d3 x0 x1 b0 b1 b2 b3
          refine wp_region_np ?_
          refine wp_region_held_drew (S := fun W => Blk W w.heap.size 65 #[.int .i64 t.what, .string (str t.name), .slice Ab qb cb, .int .i64 t.n]) (by kernel_rfl) HRf.out.2.2.1.drew (fun hHeld => ?_)
          refine wpAnyH_takeAt (i := 1) (d := 56) (v := ?vm1) rfl rfl (by kernel_rfl) (by kernel_rfl) (by kernel_rfl) (fun _ _ _ h => h) (Or.inl ⟨by rfl, ?hym1⟩) hHeld ?_
          case hym1 =>
            intro W hSw
            clear hSw
            (go_simp; try with_reducible rfl)
          simp only [List.setIfInBounds_toArray, List.set_cons_zero, List.set_cons_succ]
          refine wpAnyH_takeAt (i := 4) (d := 59) (v := ?vm4) rfl rfl (by kernel_rfl) (by kernel_rfl) (by kernel_rfl) (fun _ _ _ h => h) (Or.inl ⟨by rfl, ?hym4⟩) hHeld ?_
          case hym4 =>
            intro W hSw
            clear hSw
            (go_simp; try with_reducible rfl)
          simp only [List.setIfInBounds_toArray, List.set_cons_zero, List.set_cons_succ]
          refine wpAnyH_takeAt (i := 5) (d := 60) (v := ?vm5) rfl rfl (by kernel_rfl) (by kernel_rfl) (by kernel_rfl) (fun _ _ _ h => h) (Or.inl ⟨by rfl, ?hym5⟩) hHeld ?_
          case hym5 =>
            intro W hSw
            obtain ⟨c0, c1, c2, c3⟩ := Blk.four (show Blk W w.heap.size 65 #[.int .i64 t.what, .string (str t.name), .slice Ab qb cb, .int .i64 t.n] from hSw)
            (go_simp; try with_reducible rfl)
          simp only [List.setIfInBounds_toArray, List.set_cons_zero, List.set_cons_succ]
          refine wpAnyH_ready (rs := [0, 2]) (by kernel_rfl) (by simp) (AllReadyH.cons rfl (fun K hK => ?_) (AllReadyH.cons rfl (fun K hK => ?_) AllReadyH.nil))
          · go_simp
            refine hK.out _ _ (hHeld.alloc _) (fun hHeld => ?_)
            clear hK K
            try simp only [List.setIfInBounds_toArray, List.set_cons_zero, List.set_cons_succ]
            refine wpAnyH_ready (rs := [2]) (by kernel_rfl) (by simp) (AllReadyH.cons rfl (fun K hK => ?_) AllReadyH.nil)
            have f1 : ((wf.alloc (.cells #[] 5)).drew).cell? ⟨fb, 1, none⟩ = some (.slice B1 q1 c1) := (hfb.alloc _).drew.cell 1
            go_simp
            refine hK.out _ _ hHeld (fun hHeld => ?_)
            clear hK K f1
            try simp only [List.setIfInBounds_toArray, List.set_cons_zero, List.set_cons_succ]
            refine wpAnyH_ready (rs := [3]) (by kernel_rfl) (by simp) (AllReadyH.cons rfl (fun K hK => ?_) AllReadyH.nil)
            have hbw2 : Below w.heap.size w (wf.alloc (.cells #[] 5)).drew := (HRf.out.2.1.alloc HRf.out.2.1.size _).drew
            have hql : q1 ≤ 100000000 := by have h1 := HY1.out.1; have h2 := find_mem_len l HMEM.out; omega
            refine step_append_bytes (d := 58) (by rfl) rfl _ _ (by rfl) _ [] (by rfl) (own_empty wf) X B1 q1 c1 l[k].2 (by rfl) (HY1.out.below hbw2) (by simp) (by omega) ?_
            intro v3 w3 ho3 hg3
            rw [List.nil_append] at ho3
            have hg3' := (Grew.alloc (v := .slice (some ⟨wf.heap.size, 0, none⟩) 0 0) (w := wf) (.cells #[] 5)).trans hg3.of_drew
            have hbl3 : Below wf.heap.size wf w3 := hg3'.low (fun g e => (by cases e; exact Nat.le_refl _))
            refine hK.out _ _ (HRf.out.2.2.1.below hbl3 HRf.out.2.2.1.lt) (fun hHeld => ?_)
            clear hK K
            try simp only [List.setIfInBounds_toArray, List.set_cons_zero, List.set_cons_succ]
            refine wpAnyH_ready (rs := [6]) (by kernel_rfl) (by simp) (AllReadyH.cons rfl (fun K hK => ?_) AllReadyH.nil)
            refine step_append_bytes (d := 61) (by rfl) rfl _ _ (by rfl) v3 l[k].2 (by rfl) ho3 Y Ab qb cb t.bytes (by rfl) (HY.out.below (HRf.out.2.1.trans (hbl3.mono HRf.out.2.1.size))) (by have h1 := HY1.out.1; omega) (by have := HY.out.1; omega) ?_
            intro v4 w4 ho4 hg4
            have hg4' := hg3'.trans hg4
            have hbl4 : Below wf.heap.size wf w4 := hg4'.low (fun g e => (by cases e; exact Nat.le_refl _))
            have hv4 : ∀ g, v4.ownBlock = some g → wf.heap.size ≤ g := fun g e => (hg4'.2 g e).elim (fun q => (by cases q; exact Nat.le_refl _)) id
            obtain ⟨A4, q4, c4, rfl, -, hqc4, hcm4⟩ := ho4.form
            have hfb4 := hfb.below hbl4 hfb.lt
            refine hK.out _ _ (HRf.out.2.2.1.below hbl4 HRf.out.2.2.1.lt) (fun hHeld => ?_)
            clear hK K
            try simp only [List.setIfInBounds_toArray, List.set_cons_zero, List.set_cons_succ]
            refine wpAnyH_takeAt (i := 7) (d := 62) (v := ?vma7) rfl rfl (by kernel_rfl) (by kernel_rfl) (by kernel_rfl) (fun _ _ _ h => h) (Or.inl ⟨by rfl, ?hyma7⟩) hHeld ?_
            case hyma7 =>
              intro W hSw
              clear hSw
              (go_simp; try with_reducible rfl)
            simp only [List.setIfInBounds_toArray, List.set_cons_zero, List.set_cons_succ]
            refine wpAnyH_ready (rs := [8]) (by kernel_rfl) (by simp) (AllReadyH.cons rfl (fun K hK => ?_) AllReadyH.nil)
            have g1 : w4.cell? ⟨fb, 1, none⟩ = some (.slice B1 q1 c1) := hfb4.cell 1
            have g2 := hfb4.frozen 1
            go_simp
            have hfb8 : Blk (w4.setCell ⟨fb, 1, none⟩ (.slice A4 q4 c4)) fb 59 #[.string (str l[k].1), .slice A4 q4 c4] := hfb4.set_ 1 (.slice A4 q4 c4)
            have hbf : Below wq.heap.size wq (w4.setCell ⟨fb, 1, none⟩ (.slice A4 q4 c4)) := (hbw.trans (hbl4.mono (Nat.le_of_lt hzf))).setCell (p := ⟨fb, 1, none⟩) (by show wq.heap.size ≤ fb; have := HFE.out; omega) _
            refine hK.out _ _ (HRUNq.out.2.2.1.below hbf HRUNq.out.2.2.1.lt) (fun hHeld => ?_)
            clear hK K
            refine wpAnyH_done (by kernel_rfl) ?_ _
            have ho8 : Own (w4.setCell ⟨fb, 1, none⟩ (.slice A4 q4 c4)) (.slice A4 q4 c4) (l[k].2 ++ t.bytes) := ho4.keepB (fun g e => Below.heap_setCell w4 ⟨fb, 1, none⟩ _ g (by show g ≠ fb; have h1 := hv4 g e; have := HFE.out; omega))
            have f0 : (w4.setCell ⟨fb, 1, none⟩ (.slice A4 q4 c4)).cell? ⟨fb, 0, none⟩ = some (.string (str l[k].1)) := hfb8.cell 0
            have f1 : (w4.setCell ⟨fb, 1, none⟩ (.slice A4 q4 c4)).cell? ⟨fb, 1, none⟩ = some (.slice A4 q4 c4) := hfb8.cell 1
            clear hHeld g1 g2 ho3 hg3 hg3' hg4' hbl3 ho4 hg4 hfb4 hfb8 hfb
            generalize w4.setCell ⟨fb, 1, none⟩ (.slice A4 q4 c4) = w8 at *
            go_wp2_with (at_builtin; refine stop ?_)
            have hbl6 : Below wq.heap.size wq (w8.alloc (.cells #[.string (str l[k].1), .slice A4 q4 c4] 59)) := hbf.alloc hbf.size _
            obtain ⟨css6, hcss6, hcl6, -⟩ := HRUNq.out.1.below hbl6
            have hrd6 : Rd (w8.alloc (.cells #[.string (str l[k].1), .slice A4 q4 c4] 59)) No 2 (some ⟨w8.heap.size, 0, none⟩) 1 [#[.string (str l[k].1), .slice A4 q4 c4]] := by
              have := rd_one (X := No) (k := 2) w8 59 #[.string (str l[k].1), .slice A4 q4 c4] rfl (fun u hu => by simp at hu; rcases hu with rfl | rfl <;> rfl) (fun h => h)
              first
                | exact this
                | (rw [World.size_alloc] at this; exact this)
            refine Stop.go (wpList_append_k el26 _ (by rfl) _ _ (by rfl) _ css6 (by rfl) hcss6 No _ 1 1 [#[.string (str l[k].1), .slice A4 q4 c4]] (by rfl) hrd6 (by rw [hcl6]; have := HLEN.out; simp; omega) (by omega) ?_)
            intro v7 w7 ho7 hg7
            have HRUN7 := Lib.hid (HRUNq.out.grow hbl6 HX.out (p := (l[k].1, l[k].2 ++ t.bytes)) ((ho8.alloc _).bys (fun g e hx => by
              have h1 := hv4 g e
              have h2 := HRUNq.out.2.1.size
              rcases hx with hx | hx
              · have := HX.out g hx; omega
              · have := HRUNq.out.1.lt hx; omega)) hqc4 hcm4 hcss6 ho7 hg7)
            clear ho7 hg7 hcss6 hcl6 hbl6
            go_wp2_with fail
            go_roundw
            case rel => exact ⟨k + 1, by omega, by go_num, by rw [HST.out], by rw [HST.out]; exact HRUN7.out⟩
            case measure => simp [intOf]; omega
          · have f1 : wf.drew.cell? ⟨fb, 1, none⟩ = some (.slice B1 q1 c1) := hfb.drew.cell 1
            go_simp
            refine hK.out _ _ hHeld (fun hHeld => ?_)
            clear hK K f1
            try simp only [List.setIfInBounds_toArray, List.set_cons_zero, List.set_cons_succ]
            refine wpAnyH_ready (rs := [0]) (by kernel_rfl) (by simp) (AllReadyH.cons rfl (fun K hK => ?_) AllReadyH.nil)
            go_simp
            refine hK.out _ _ (hHeld.alloc _) (fun hHeld => ?_)
            clear hK K
            try simp only [List.setIfInBounds_toArray, List.set_cons_zero, List.set_cons_succ]
            refine wpAnyH_ready (rs := [3]) (by kernel_rfl) (by simp) (AllReadyH.cons rfl (fun K hK => ?_) AllReadyH.nil)
            have hbw2 : Below w.heap.size w (wf.alloc (.cells #[] 5)).drew := (HRf.out.2.1.alloc HRf.out.2.1.size _).drew
            have hql : q1 ≤ 100000000 := by have h1 := HY1.out.1; have h2 := find_mem_len l HMEM.out; omega
            refine step_append_bytes (d := 58) (by rfl) rfl _ _ (by rfl) _ [] (by rfl) (own_empty wf) X B1 q1 c1 l[k].2 (by rfl) (HY1.out.below hbw2) (by simp) (by omega) ?_
            intro v3 w3 ho3 hg3
            rw [List.nil_append] at ho3
            have hg3' := (Grew.alloc (v := .slice (some ⟨wf.heap.size, 0, none⟩) 0 0) (w := wf) (.cells #[] 5)).trans hg3.of_drew
            have hbl3 : Below wf.heap.size wf w3 := hg3'.low (fun g e => (by cases e; exact Nat.le_refl _))
            refine hK.out _ _ (HRf.out.2.2.1.below hbl3 HRf.out.2.2.1.lt) (fun hHeld => ?_)
            clear hK K
            try simp only [List.setIfInBounds_toArray, List.set_cons_zero, List.set_cons_succ]
            refine wpAnyH_ready (rs := [6]) (by kernel_rfl) (by simp) (AllReadyH.cons rfl (fun K hK => ?_) AllReadyH.nil)
            refine step_append_bytes (d := 61) (by rfl) rfl _ _ (by rfl) v3 l[k].2 (by rfl) ho3 Y Ab qb cb t.bytes (by rfl) (HY.out.below (HRf.out.2.1.trans (hbl3.mono HRf.out.2.1.size))) (by have h1 := HY1.out.1; omega) (by have := HY.out.1; omega) ?_
            intro v4 w4 ho4 hg4
            have hg4' := hg3'.trans hg4
            have hbl4 : Below wf.heap.size wf w4 := hg4'.low (fun g e => (by cases e; exact Nat.le_refl _))
            have hv4 : ∀ g, v4.ownBlock = some g → wf.heap.size ≤ g := fun g e => (hg4'.2 g e).elim (fun q => (by cases q; exact Nat.le_refl _)) id
            obtain ⟨A4, q4, c4, rfl, -, hqc4, hcm4⟩ := ho4.form
            have hfb4 := hfb.below hbl4 hfb.lt
            refine hK.out _ _ (HRf.out.2.2.1.below hbl4 HRf.out.2.2.1.lt) (fun hHeld => ?_)
            clear hK K
            try simp only [List.setIfInBounds_toArray, List.set_cons_zero, List.set_cons_succ]
            refine wpAnyH_takeAt (i := 7) (d := 62) (v := ?vmb7) rfl rfl (by kernel_rfl) (by kernel_rfl) (by kernel_rfl) (fun _ _ _ h => h) (Or.inl ⟨by rfl, ?hymb7⟩) hHeld ?_
            case hymb7 =>
              intro W hSw
              clear hSw
              (go_simp; try with_reducible rfl)
            simp only [List.setIfInBounds_toArray, List.set_cons_zero, List.set_cons_succ]
            refine wpAnyH_ready (rs := [8]) (by kernel_rfl) (by simp) (AllReadyH.cons rfl (fun K hK => ?_) AllReadyH.nil)
            have g1 : w4.cell? ⟨fb, 1, none⟩ = some (.slice B1 q1 c1) := hfb4.cell 1
            have g2 := hfb4.frozen 1
            go_simp
            have hfb8 : Blk (w4.setCell ⟨fb, 1, none⟩ (.slice A4 q4 c4)) fb 59 #[.string (str l[k].1), .slice A4 q4 c4] := hfb4.set_ 1 (.slice A4 q4 c4)
            have hbf : Below wq.heap.size wq (w4.setCell ⟨fb, 1, none⟩ (.slice A4 q4 c4)) := (hbw.trans (hbl4.mono (Nat.le_of_lt hzf))).setCell (p := ⟨fb, 1, none⟩) (by show wq.heap.size ≤ fb; have := HFE.out; omega) _
            refine hK.out _ _ (HRUNq.out.2.2.1.below hbf HRUNq.out.2.2.1.lt) (fun hHeld => ?_)
            clear hK K
            refine wpAnyH_done (by kernel_rfl) ?_ _
            have ho8 : Own (w4.setCell ⟨fb, 1, none⟩ (.slice A4 q4 c4)) (.slice A4 q4 c4) (l[k].2 ++ t.bytes) := ho4.keepB (fun g e => Below.heap_setCell w4 ⟨fb, 1, none⟩ _ g (by show g ≠ fb; have h1 := hv4 g e; have := HFE.out; omega))
            have f0 : (w4.setCell ⟨fb, 1, none⟩ (.slice A4 q4 c4)).cell? ⟨fb, 0, none⟩ = some (.string (str l[k].1)) := hfb8.cell 0
            have f1 : (w4.setCell ⟨fb, 1, none⟩ (.slice A4 q4 c4)).cell? ⟨fb, 1, none⟩ = some (.slice A4 q4 c4) := hfb8.cell 1
            clear hHeld g1 g2 ho3 hg3 hg3' hg4' hbl3 ho4 hg4 hfb4 hfb8 hfb
            generalize w4.setCell ⟨fb, 1, none⟩ (.slice A4 q4 c4) = w8 at *
            go_wp2_with (at_builtin; refine stop ?_)
            have hbl6 : Below wq.heap.size wq (w8.alloc (.cells #[.string (str l[k].1), .slice A4 q4 c4] 59)) := hbf.alloc hbf.size _
            obtain ⟨css6, hcss6, hcl6, -⟩ := HRUNq.out.1.below hbl6
            have hrd6 : Rd (w8.alloc (.cells #[.string (str l[k].1), .slice A4 q4 c4] 59)) No 2 (some ⟨w8.heap.size, 0, none⟩) 1 [#[.string (str l[k].1), .slice A4 q4 c4]] := by
              have := rd_one (X := No) (k := 2) w8 59 #[.string (str l[k].1), .slice A4 q4 c4] rfl (fun u hu => by simp at hu; rcases hu with rfl | rfl <;> rfl) (fun h => h)
              first
                | exact this
                | (rw [World.size_alloc] at this; exact this)
            refine Stop.go (wpList_append_k el26 _ (by rfl) _ _ (by rfl) _ css6 (by rfl) hcss6 No _ 1 1 [#[.string (str l[k].1), .slice A4 q4 c4]] (by rfl) hrd6 (by rw [hcl6]; have := HLEN.out; simp; omega) (by omega) ?_)
            intro v7 w7 ho7 hg7
            have HRUN7 := Lib.hid (HRUNq.out.grow hbl6 HX.out (p := (l[k].1, l[k].2 ++ t.bytes)) ((ho8.alloc _).bys (fun g e hx => by
              have h1 := hv4 g e
              have h2 := HRUNq.out.2.1.size
              rcases hx with hx | hx
              · have := HX.out g hx; omega
              · have := HRUNq.out.1.lt hx; omega)) hqc4 hcm4 hcss6 ho7 hg7)
            clear ho7 hg7 hcss6 hcl6 hbl6
            go_wp2_with fail
            go_roundw
            case rel => exact ⟨k + 1, by omega, by go_num, by rw [HST.out], by rw [HST.out]; exact HRUN7.out⟩
            case measure => simp [intOf]; omega
        next =>
          rw [hgq]
          clear hgq
          go_wp2_with fail
          go_quiet (fail)
          have HRUNq := Lib.hid (HRUN.out.below (W' := wr.drewN nq) ⟨rfl, rfl, rfl, Nat.le_refl _, fun _ _ => rfl⟩)
          generalize wr.drewN nq = wq at *
          clear b0 b1 b2 b3 x0 x1
          have x0 : wq.cell? (ad.add (k * 2)) = some (.string (str l[k].1)) := (HRUNq.out.2.1.cell (p := ad.add (k * 2)) (by rw [block_of_add]; exact ha1)).trans s0
          have x1 : wq.cell? ⟨(ad.add (k * 2)).block, (ad.add (k * 2)).off + 1, none⟩ = some (.slice B1 q1 c1) := (HRUNq.out.2.1.cell (p := ⟨(ad.add (k * 2)).block, (ad.add (k * 2)).off + 1, none⟩) (by show (ad.add (k * 2)).block < _; rw [block_of_add]; exact ha1)).trans s1
          obtain ⟨b0, b1, b2, b3⟩ := HRUNq.out.2.2.1.four
          obtain ⟨d0, d1, d2, d3⟩ := (HRUNq.out.2.2.1.alloc (.cells #[.string (str l[k].1), .slice B1 q1 c1] 59)).four
          go_wp2_with fail
          have hbw : Below wq.heap.size wq (wq.alloc (.cells #[.string (str l[k].1), .slice B1 q1 c1] 59)) := (Below.refl _ _).alloc (Nat.le_refl _) _
          have HRf := Lib.hid (HRUNq.out.below hbw)
          have hfb : Blk (wq.alloc (.cells #[.string (str l[k].1), .slice B1 q1 c1] 59)) wq.heap.size 59 #[.string (str l[k].1), .slice B1 q1 c1] := Blk.new _ _ _
          have HFB : Hid (wq.heap.size ≤ wq.heap.size) := Lib.hid (Nat.le_refl _)
          have hzf : wq.heap.size < (wq.alloc (.cells #[.string (str l[k].1), .slice B1 q1 c1] 59)).heap.size := by simp
          generalize wq.alloc (.cells #[.string (str l[k].1), .slice B1 q1 c1] 59) = wf at *
          generalize hfe : wq.heap.size = fb at hfb ⊢
          have HFE := Lib.hid hfe
          clear hfe d0 d1 d2 d3 x0 x1 b0 b1 b2 b3
          refine wp_region_np ?_
          refine wp_region_held_drew (S := fun W => Blk W w.heap.size 65 #[.int .i64 t.what, .string (str t.name), .slice Ab qb cb, .int .i64 t.n]) (by kernel_rfl) HRf.out.2.2.1.drew (fun hHeld => ?_)
          refine wpAnyH_takeAt (i := 1) (d := 56) (v := ?vp1) rfl rfl (by kernel_rfl) (by kernel_rfl) (by kernel_rfl) (fun _ _ _ h => h) (Or.inl ⟨by rfl, ?hyp1⟩) hHeld ?_
          case hyp1 =>
            intro W hSw
            clear hSw
            (go_simp; try with_reducible rfl)
          simp only [List.setIfInBounds_toArray, List.set_cons_zero, List.set_cons_succ]
          refine wpAnyH_takeAt (i := 4) (d := 59) (v := ?vp4) rfl rfl (by kernel_rfl) (by kernel_rfl) (by kernel_rfl) (fun _ _ _ h => h) (Or.inl ⟨by rfl, ?hyp4⟩) hHeld ?_
          case hyp4 =>
            intro W hSw
            clear hSw
            (go_simp; try with_reducible rfl)
          simp only [List.setIfInBounds_toArray, List.set_cons_zero, List.set_cons_succ]
          refine wpAnyH_takeAt (i := 5) (d := 60) (v := ?vp5) rfl rfl (by kernel_rfl) (by kernel_rfl) (by kernel_rfl) (fun _ _ _ h => h) (Or.inl ⟨by rfl, ?hyp5⟩) hHeld ?_
          case hyp5 =>
            intro W hSw
            obtain ⟨c0, c1, c2, c3⟩ := Blk.four (show Blk W w.heap.size 65 #[.int .i64 t.what, .string (str t.name), .slice Ab qb cb, .int .i64 t.n] from hSw)
            (go_simp; try with_reducible rfl)
          simp only [List.setIfInBounds_toArray, List.set_cons_zero, List.set_cons_succ]
          refine wpAnyH_ready (rs := [0, 2]) (by kernel_rfl) (by simp) (AllReadyH.cons rfl (fun K hK => ?_) (AllReadyH.cons rfl (fun K hK => ?_) AllReadyH.nil))
          · go_simp
            refine hK.out _ _ (hHeld.alloc _) (fun hHeld => ?_)
            clear hK K
            try simp only [List.setIfInBounds_toArray, List.set_cons_zero, List.set_cons_succ]
            refine wpAnyH_ready (rs := [2]) (by kernel_rfl) (by simp) (AllReadyH.cons rfl (fun K hK => ?_) AllReadyH.nil)
            have f1 : ((wf.alloc (.cells #[] 5)).drew).cell? ⟨fb, 1, none⟩ = some (.slice B1 q1 c1) := (hfb.alloc _).drew.cell 1
            go_simp
            refine hK.out _ _ hHeld (fun hHeld => ?_)
            clear hK K f1
            try simp only [List.setIfInBounds_toArray, List.set_cons_zero, List.set_cons_succ]
            refine wpAnyH_ready (rs := [3]) (by kernel_rfl) (by simp) (AllReadyH.cons rfl (fun K hK => ?_) AllReadyH.nil)
            have hbw2 : Below w.heap.size w (wf.alloc (.cells #[] 5)).drew := (HRf.out.2.1.alloc HRf.out.2.1.size _).drew
            have hql : q1 ≤ 100000000 := by have h1 := HY1.out.1; have h2 := find_mem_len l HMEM.out; omega
            refine step_append_bytes (d := 58) (by rfl) rfl _ _ (by rfl) _ [] (by rfl) (own_empty wf) X B1 q1 c1 l[k].2 (by rfl) (HY1.out.below hbw2) (by simp) (by omega) ?_
            intro v3 w3 ho3 hg3
            rw [List.nil_append] at ho3
            have hg3' := (Grew.alloc (v := .slice (some ⟨wf.heap.size, 0, none⟩) 0 0) (w := wf) (.cells #[] 5)).trans hg3.of_drew
            have hbl3 : Below wf.heap.size wf w3 := hg3'.low (fun g e => (by cases e; exact Nat.le_refl _))
            refine hK.out _ _ (HRf.out.2.2.1.below hbl3 HRf.out.2.2.1.lt) (fun hHeld => ?_)
            clear hK K
            try simp only [List.setIfInBounds_toArray, List.set_cons_zero, List.set_cons_succ]
            refine wpAnyH_ready (rs := [6]) (by kernel_rfl) (by simp) (AllReadyH.cons rfl (fun K hK => ?_) AllReadyH.nil)
            refine step_append_bytes (d := 61) (by rfl) rfl _ _ (by rfl) v3 l[k].2 (by rfl) ho3 Y Ab qb cb t.bytes (by rfl) (HY.out.below (HRf.out.2.1.trans (hbl3.mono HRf.out.2.1.size))) (by have h1 := HY1.out.1; omega) (by have := HY.out.1; omega) ?_
            intro v4 w4 ho4 hg4
            have hg4' := hg3'.trans hg4
            have hbl4 : Below wf.heap.size wf w4 := hg4'.low (fun g e => (by cases e; exact Nat.le_refl _))
            have hv4 : ∀ g, v4.ownBlock = some g → wf.heap.size ≤ g := fun g e => (hg4'.2 g e).elim (fun q => (by cases q; exact Nat.le_refl _)) id
            obtain ⟨A4, q4, c4, rfl, -, hqc4, hcm4⟩ := ho4.form
            have hfb4 := hfb.below hbl4 hfb.lt
            refine hK.out _ _ (HRf.out.2.2.1.below hbl4 HRf.out.2.2.1.lt) (fun hHeld => ?_)
            clear hK K
            try simp only [List.setIfInBounds_toArray, List.set_cons_zero, List.set_cons_succ]
            refine wpAnyH_takeAt (i := 7) (d := 62) (v := ?vpa7) rfl rfl (by kernel_rfl) (by kernel_rfl) (by kernel_rfl) (fun _ _ _ h => h) (Or.inl ⟨by rfl, ?hypa7⟩) hHeld ?_
            case hypa7 =>
              intro W hSw
              clear hSw
              (go_simp; try with_reducible rfl)
            simp only [List.setIfInBounds_toArray, List.set_cons_zero, List.set_cons_succ]
            refine wpAnyH_ready (rs := [8]) (by kernel_rfl) (by simp) (AllReadyH.cons rfl (fun K hK => ?_) AllReadyH.nil)
            have g1 : w4.cell? ⟨fb, 1, none⟩ = some (.slice B1 q1 c1) := hfb4.cell 1
            have g2 := hfb4.frozen 1
            go_simp
            have hfb8 : Blk (w4.setCell ⟨fb, 1, none⟩ (.slice A4 q4 c4)) fb 59 #[.string (str l[k].1), .slice A4 q4 c4] := hfb4.set_ 1 (.slice A4 q4 c4)
            have hbf : Below wq.heap.size wq (w4.setCell ⟨fb, 1, none⟩ (.slice A4 q4 c4)) := (hbw.trans (hbl4.mono (Nat.le_of_lt hzf))).setCell (p := ⟨fb, 1, none⟩) (by show wq.heap.size ≤ fb; have := HFE.out; omega) _
            refine hK.out _ _ (HRUNq.out.2.2.1.below hbf HRUNq.out.2.2.1.lt) (fun hHeld => ?_)
            clear hK K
            refine wpAnyH_done (by kernel_rfl) ?_ _
            have ho8 : Own (w4.setCell ⟨fb, 1, none⟩ (.slice A4 q4 c4)) (.slice A4 q4 c4) (l[k].2 ++ t.bytes) := ho4.keepB (fun g e => Below.heap_setCell w4 ⟨fb, 1, none⟩ _ g (by show g ≠ fb; have h1 := hv4 g e; have := HFE.out; omega))
            have f0 : (w4.setCell ⟨fb, 1, none⟩ (.slice A4 q4 c4)).cell? ⟨fb, 0, none⟩ = some (.string (str l[k].1)) := hfb8.cell 0
            have f1 : (w4.setCell ⟨fb, 1, none⟩ (.slice A4 q4 c4)).cell? ⟨fb, 1, none⟩ = some (.slice A4 q4 c4) := hfb8.cell 1
            clear hHeld g1 g2 ho3 hg3 hg3' hg4' hbl3 ho4 hg4 hfb4 hfb8 hfb
            generalize w4.setCell ⟨fb, 1, none⟩ (.slice A4 q4 c4) = w8 at *
            go_wp2_with (at_builtin; refine stop ?_)
            have hbl6 : Below wq.heap.size wq (w8.alloc (.cells #[.string (str l[k].1), .slice A4 q4 c4] 59)) := hbf.alloc hbf.size _
            obtain ⟨css6, hcss6, hcl6, -⟩ := HRUNq.out.1.below hbl6
            have hrd6 : Rd (w8.alloc (.cells #[.string (str l[k].1), .slice A4 q4 c4] 59)) No 2 (some ⟨w8.heap.size, 0, none⟩) 1 [#[.string (str l[k].1), .slice A4 q4 c4]] := by
              have := rd_one (X := No) (k := 2) w8 59 #[.string (str l[k].1), .slice A4 q4 c4] rfl (fun u hu => by simp at hu; rcases hu with rfl | rfl <;> rfl) (fun h => h)
              first
                | exact this
                | (rw [World.size_alloc] at this; exact this)
            refine Stop.go (wpList_append_k el26 _ (by rfl) _ _ (by rfl) _ css6 (by rfl) hcss6 No _ 1 1 [#[.string (str l[k].1), .slice A4 q4 c4]] (by rfl) hrd6 (by rw [hcl6]; have := HLEN.out; simp; omega) (by omega) ?_)
            intro v7 w7 ho7 hg7
            have HRUN7 := Lib.hid (HRUNq.out.grow hbl6 HX.out (p := (l[k].1, l[k].2 ++ t.bytes)) ((ho8.alloc _).bys (fun g e hx => by
              have h1 := hv4 g e
              have h2 := HRUNq.out.2.1.size
              rcases hx with hx | hx
              · have := HX.out g hx; omega
              · have := HRUNq.out.1.lt hx; omega)) hqc4 hcm4 hcss6 ho7 hg7)
            clear ho7 hg7 hcss6 hcl6 hbl6
            go_wp2_with fail
            go_roundw
            case rel => exact ⟨k + 1, by omega, by go_num, by rw [HST.out], by rw [HST.out]; exact HRUN7.out⟩
            case measure => simp [intOf]; omega
          · have f1 : wf.drew.cell? ⟨fb, 1, none⟩ = some (.slice B1 q1 c1) := hfb.drew.cell 1
            go_simp
            refine hK.out _ _ hHeld (fun hHeld => ?_)
            clear hK K f1
            try simp only [List.setIfInBounds_toArray, List.set_cons_zero, List.set_cons_succ]
            refine wpAnyH_ready (rs := [0]) (by kernel_rfl) (by simp) (AllReadyH.cons rfl (fun K hK => ?_) AllReadyH.nil)
            go_simp
            refine hK.out _ _ (hHeld.alloc _) (fun hHeld => ?_)
            clear hK K
            try simp only [List.setIfInBounds_toArray, List.set_cons_zero, List.set_cons_succ]
            refine wpAnyH_ready (rs := [3]) (by kernel_rfl) (by simp) (AllReadyH.cons rfl (fun K hK => ?_) AllReadyH.nil)
            have hbw2 : Below w.heap.size w (wf.alloc (.cells #[] 5)).drew := (HRf.out.2.1.alloc HRf.out.2.1.size _).drew
            have hql : q1 ≤ 100000000 := by have h1 := HY1.out.1; have h2 := find_mem_len l HMEM.out; omega
            refine step_append_bytes (d := 58) (by rfl) rfl _ _ (by rfl) _ [] (by rfl) (own_empty wf) X B1 q1 c1 l[k].2 (by rfl) (HY1.out.below hbw2) (by simp) (by omega) ?_
            intro v3 w3 ho3 hg3
            rw [List.nil_append] at ho3
            have hg3' := (Grew.alloc (v := .slice (some ⟨wf.heap.size, 0, none⟩) 0 0) (w := wf) (.cells #[] 5)).trans hg3.of_drew
            have hbl3 : Below wf.heap.size wf w3 := hg3'.low (fun g e => (by cases e; exact Nat.le_refl _))
            refine hK.out _ _ (HRf.out.2.2.1.below hbl3 HRf.out.2.2.1.lt) (fun hHeld => ?_)
            clear hK K
            try simp only [List.setIfInBounds_toArray, List.set_cons_zero, List.set_cons_succ]
            refine wpAnyH_ready (rs := [6]) (by kernel_rfl) (by simp) (AllReadyH.cons rfl (fun K hK => ?_) AllReadyH.nil)
            refine step_append_bytes (d := 61) (by rfl) rfl _ _ (by rfl) v3 l[k].2 (by rfl) ho3 Y Ab qb cb t.bytes (by rfl) (HY.out.below (HRf.out.2.1.trans (hbl3.mono HRf.out.2.1.size))) (by have h1 := HY1.out.1; omega) (by have := HY.out.1; omega) ?_
            intro v4 w4 ho4 hg4
            have hg4' := hg3'.trans hg4
            have hbl4 : Below wf.heap.size wf w4 := hg4'.low (fun g e => (by cases e; exact Nat.le_refl _))
            have hv4 : ∀ g, v4.ownBlock = some g → wf.heap.size ≤ g := fun g e => (hg4'.2 g e).elim (fun q => (by cases q; exact Nat.le_refl _)) id
            obtain ⟨A4, q4, c4, rfl, -, hqc4, hcm4⟩ := ho4.form
            have hfb4 := hfb.below hbl4 hfb.lt
            refine hK.out _ _ (HRf.out.2.2.1.below hbl4 HRf.out.2.2.1.lt) (fun hHeld => ?_)
            clear hK K
            try simp only [List.setIfInBounds_toArray, List.set_cons_zero, List.set_cons_succ]
            refine wpAnyH_takeAt (i := 7) (d := 62) (v := ?vpb7) rfl rfl (by kernel_rfl) (by kernel_rfl) (by kernel_rfl) (fun _ _ _ h => h) (Or.inl ⟨by rfl, ?hypb7⟩) hHeld ?_
            case hypb7 =>
              intro W hSw
              clear hSw
              (go_simp; try with_reducible rfl)
            simp only [List.setIfInBounds_toArray, List.set_cons_zero, List.set_cons_succ]
            refine wpAnyH_ready (rs := [8]) (by kernel_rfl) (by simp) (AllReadyH.cons rfl (fun K hK => ?_) AllReadyH.nil)
            have g1 : w4.cell? ⟨fb, 1, none⟩ = some (.slice B1 q1 c1) := hfb4.cell 1
            have g2 := hfb4.frozen 1
            go_simp
            have hfb8 : Blk (w4.setCell ⟨fb, 1, none⟩ (.slice A4 q4 c4)) fb 59 #[.string (str l[k].1), .slice A4 q4 c4] := hfb4.set_ 1 (.slice A4 q4 c4)
            have hbf : Below wq.heap.size wq (w4.setCell ⟨fb, 1, none⟩ (.slice A4 q4 c4)) := (hbw.trans (hbl4.mono (Nat.le_of_lt hzf))).setCell (p := ⟨fb, 1, none⟩) (by show wq.heap.size ≤ fb; have := HFE.out; omega) _
            refine hK.out _ _ (HRUNq.out.2.2.1.below hbf HRUNq.out.2.2.1.lt) (fun hHeld => ?_)
            clear hK K
            refine wpAnyH_done (by kernel_rfl) ?_ _
            have ho8 : Own (w4.setCell ⟨fb, 1, none⟩ (.slice A4 q4 c4)) (.slice A4 q4 c4) (l[k].2 ++ t.bytes) := ho4.keepB (fun g e => Below.heap_setCell w4 ⟨fb, 1, none⟩ _ g (by show g ≠ fb; have h1 := hv4 g e; have := HFE.out; omega))
            have f0 : (w4.setCell ⟨fb, 1, none⟩ (.slice A4 q4 c4)).cell? ⟨fb, 0, none⟩ = some (.string (str l[k].1)) := hfb8.cell 0
            have f1 : (w4.setCell ⟨fb, 1, none⟩ (.slice A4 q4 c4)).cell? ⟨fb, 1, none⟩ = some (.slice A4 q4 c4) := hfb8.cell 1
            clear hHeld g1 g2 ho3 hg3 hg3' hg4' hbl3 ho4 hg4 hfb4 hfb8 hfb
            generalize w4.setCell ⟨fb, 1, none⟩ (.slice A4 q4 c4) = w8 at *
            go_wp2_with (at_builtin; refine stop ?_)
            have hbl6 : Below wq.heap.size wq (w8.alloc (.cells #[.string (str l[k].1), .slice A4 q4 c4] 59)) := hbf.alloc hbf.size _
            obtain ⟨css6, hcss6, hcl6, -⟩ := HRUNq.out.1.below hbl6
            have hrd6 : Rd (w8.alloc (.cells #[.string (str l[k].1), .slice A4 q4 c4] 59)) No 2 (some ⟨w8.heap.size, 0, none⟩) 1 [#[.string (str l[k].1), .slice A4 q4 c4]] := by
              have := rd_one (X := No) (k := 2) w8 59 #[.string (str l[k].1), .slice A4 q4 c4] rfl (fun u hu => by simp at hu; rcases hu with rfl | rfl <;> rfl) (fun h => h)
              first
                | exact this
                | (rw [World.size_alloc] at this; exact this)
            refine Stop.go (wpList_append_k el26 _ (by rfl) _ _ (by rfl) _ css6 (by rfl) hcss6 No _ 1 1 [#[.string (str l[k].1), .slice A4 q4 c4]] (by rfl) hrd6 (by rw [hcl6]; have := HLEN.out; simp; omega) (by omega) ?_)
            intro v7 w7 ho7 hg7
            have HRUN7 := Lib.hid (HRUNq.out.grow hbl6 HX.out (p := (l[k].1, l[k].2 ++ t.bytes)) ((ho8.alloc _).bys (fun g e hx => by
              have h1 := hv4 g e
              have h2 := HRUNq.out.2.1.size
              rcases hx with hx | hx
              · have := HX.out g hx; omega
              · have := HRUNq.out.1.lt hx; omega)) hqc4 hcm4 hcss6 ho7 hg7)
            clear ho7 hg7 hcss6 hcl6 hbl6
            go_wp2_with fail
            go_roundw
            case rel => exact ⟨k + 1, by omega, by go_num, by rw [HST.out], by rw [HST.out]; exact HRUN7.out⟩
            case measure => simp [intOf]; omega
      · have HST : Hid (foldD t (l.take (k + 1)) = ((foldD t (l.take k)).1 ++ [l[k]], (foldD t (l.take k)).2)) := Lib.hid (by rw [HSN.out, if_neg hnm])
        have heq : ((str l[k].1).toList == (str t.name).toList) = false := by rw [str_toList, str_toList]; simpa using hnm
        have hgq2 : (foldD t (l.take k)).2 = true ∨ ((foldD t (l.take k)).2 = false ∧ Op.bytesLess (str l[k].1).toList (str t.name).toList = true) := by
          rcases hgq with h | ⟨h, h2⟩
          · exact .inl h
          · refine .inr ⟨h, ?_⟩
            rw [lt_str]; rw [hgs] at h2; have h3 : ¬ t.name < l[k].1 := by simpa using h2
            rcases lt_tri l[k].1 t.name with g | g | g
            · simpa using g
            · exact absurd g hnm
            · exact absurd g h3
        clear hnm hw0 hins hgs hgq
        rcases hgq2 with hgq | ⟨hgq, hgt⟩
        all_goals
          rw [hgq] at HST
          rw [hgq]
          clear hgq
          go_wp2_with fail
          go_quiet (fail)
          have HRUNq := Lib.hid (HRUN.out.below (W' := wr.drewN nq) ⟨rfl, rfl, rfl, Nat.le_refl _, fun _ _ => rfl⟩)
          generalize wr.drewN nq = wq at *
          clear b0 b1 b2 b3 x0 x1
          have x0 : wq.cell? (ad.add (k * 2)) = some (.string (str l[k].1)) := (HRUNq.out.2.1.cell (p := ad.add (k * 2)) (by rw [block_of_add]; exact ha1)).trans s0
          have x1 : wq.cell? ⟨(ad.add (k * 2)).block, (ad.add (k * 2)).off + 1, none⟩ = some (.slice B1 q1 c1) := (HRUNq.out.2.1.cell (p := ⟨(ad.add (k * 2)).block, (ad.add (k * 2)).off + 1, none⟩) (by show (ad.add (k * 2)).block < _; rw [block_of_add]; exact ha1)).trans s1
          obtain ⟨b0, b1, b2, b3⟩ := HRUNq.out.2.2.1.four
          obtain ⟨d0, d1, d2, d3⟩ := (HRUNq.out.2.2.1.alloc (.cells #[.string (str l[k].1), .slice B1 q1 c1] 59)).four
          have hbf : Below wq.heap.size wq (wq.alloc (.cells #[.string (str l[k].1), .slice B1 q1 c1] 59)) := (Below.refl _ _).alloc (Nat.le_refl _) _
          go_wp2_with (at_builtin; refine stop ?_)
          have hbl6 : Below wq.heap.size wq ((wq.alloc (.cells #[.string (str l[k].1), .slice B1 q1 c1] 59)).alloc (.cells #[.string (str l[k].1), .slice B1 q1 c1] 59)) := hbf.alloc hbf.size _
          obtain ⟨css6, hcss6, hcl6, -⟩ := HRUNq.out.1.below hbl6
          have hrd6 : Rd ((wq.alloc (.cells #[.string (str l[k].1), .slice B1 q1 c1] 59)).alloc (.cells #[.string (str l[k].1), .slice B1 q1 c1] 59)) No 2 (some ⟨wq.heap.size + 1, 0, none⟩) 1 [#[.string (str l[k].1), .slice B1 q1 c1]] := by
            have := rd_one (X := No) (k := 2) (wq.alloc (.cells #[.string (str l[k].1), .slice B1 q1 c1] 59)) 59 #[.string (str l[k].1), .slice B1 q1 c1] rfl (fun u hu => by simp at hu; rcases hu with rfl | rfl <;> rfl) (fun h => h)
            first
              | exact this
              | (rw [World.size_alloc] at this; exact this)
          refine Stop.go (wpList_append_k el26 _ (by rfl) _ _ (by rfl) _ css6 (by rfl) hcss6 No _ 1 1 [#[.string (str l[k].1), .slice B1 q1 c1]] (by rfl) hrd6 (by rw [hcl6]; have := HLEN.out; simp; omega) (by omega) ?_)
          intro v7 w7 ho7 hg7
          have HRUN7 := Lib.hid (HRUNq.out.grow hbl6 HX.out (p := l[k]) (HRUNq.out.old hbl6 HY1.out) hq1 hc1 hcss6 ho7 hg7)
          clear ho7 hg7 hcss6 hcl6 hbl6
          go_wp2_with fail
          go_roundw
          case rel => exact ⟨k + 1, by omega, by go_num, by rw [HST.out], by rw [HST.out]; exact HRUN7.out⟩
          case measure => simp [intOf]; omega
    · have hk0 : (t.what == 0) = false := by simp [hw0]
      have hk1 : (t.what == 1) = true := by simp [hw0]
      have hk2 : (t.what == 2) = false := by simp [hw0]
      have hgq : (foldD t (l.take k)).2 = true ∨ ((foldD t (l.take k)).2 = false ∧ True) := by
        by_cases h : (foldD t (l.take k)).2 = true
        · exact .inl h
        · rw [Bool.not_eq_true] at h
          refine .inr ⟨h, ?_⟩
          trivial
      by_cases hnm : l[k].1 = t.name
      · have HST : Hid (foldD t (l.take (k + 1)) = ((foldD t (l.take k)).1 ++ [(l[k].1, l[k].2.take t.n.toNat)], true)) := Lib.hid (by rw [HSN.out, if_pos hnm]; rw [if_neg (by omega), if_pos hw0])
        have heq : ((str l[k].1).toList == (str t.name).toList) = true := by rw [hnm]; simp
        have HNM := Lib.hid hnm
        have HW0 := Lib.hid hw0
        clear hnm hw0 hins hgs
        rcases hgq with hgq | ⟨hgq, hgt⟩
        all_goals
          rw [hgq]
          clear hgq
          go_wp2_with fail
          go_quiet (fail)
          have HRUNq := Lib.hid (HRUN.out.below (W' := wr.drewN nq) ⟨rfl, rfl, rfl, Nat.le_refl _, fun _ _ => rfl⟩)
          generalize wr.drewN nq = wq at *
          clear b0 b1 b2 b3 x0 x1
          have x0 : wq.cell? (ad.add (k * 2)) = some (.string (str l[k].1)) := (HRUNq.out.2.1.cell (p := ad.add (k * 2)) (by rw [block_of_add]; exact ha1)).trans s0
          have x1 : wq.cell? ⟨(ad.add (k * 2)).block, (ad.add (k * 2)).off + 1, none⟩ = some (.slice B1 q1 c1) := (HRUNq.out.2.1.cell (p := ⟨(ad.add (k * 2)).block, (ad.add (k * 2)).off + 1, none⟩) (by show (ad.add (k * 2)).block < _; rw [block_of_add]; exact ha1)).trans s1
          obtain ⟨b0, b1, b2, b3⟩ := HRUNq.out.2.2.1.four
          obtain ⟨d0, d1, d2, d3⟩ := (HRUNq.out.2.2.1.alloc (.cells #[.string (str l[k].1), .slice B1 q1 c1] 59)).four
          obtain ⟨hn0, hn1⟩ := HC.out HW0.out
          have hn2 := hn1 l[k] HMEM.out HNM.out
          have hyl := HY1.out.1
          have hsl := slice_to B1 q1 c1 t.n.toNat t.n (by omega) (by omega)
          have hnq : t.n.toNat ≤ q1 := by omega
          have hbf : Below wq.heap.size wq (wq.alloc (.cells #[.string (str l[k].1), .slice B1 t.n.toNat c1] 59)) := (Below.refl _ _).alloc (Nat.le_refl _) _
          clear hn1 hyl
          go_wp2_with (at_builtin; refine stop ?_)
          have hbl6 : Below wq.heap.size wq ((wq.alloc (.cells #[.string (str l[k].1), .slice B1 t.n.toNat c1] 59)).alloc (.cells #[.string (str l[k].1), .slice B1 t.n.toNat c1] 59)) := hbf.alloc hbf.size _
          obtain ⟨css6, hcss6, hcl6, -⟩ := HRUNq.out.1.below hbl6
          have hrd6 : Rd ((wq.alloc (.cells #[.string (str l[k].1), .slice B1 t.n.toNat c1] 59)).alloc (.cells #[.string (str l[k].1), .slice B1 t.n.toNat c1] 59)) No 2 (some ⟨wq.heap.size + 1, 0, none⟩) 1 [#[.string (str l[k].1), .slice B1 t.n.toNat c1]] := by
            have := rd_one (X := No) (k := 2) (wq.alloc (.cells #[.string (str l[k].1), .slice B1 t.n.toNat c1] 59)) 59 #[.string (str l[k].1), .slice B1 t.n.toNat c1] rfl (fun u hu => by simp at hu; rcases hu with rfl | rfl <;> rfl) (fun h => h)
            first
              | exact this
              | (rw [World.size_alloc] at this; exact this)
          refine Stop.go (wpList_append_k el26 _ (by rfl) _ _ (by rfl) _ css6 (by rfl) hcss6 No _ 1 1 [#[.string (str l[k].1), .slice B1 t.n.toNat c1]] (by rfl) hrd6 (by rw [hcl6]; have := HLEN.out; simp; omega) (by omega) ?_)
          intro v7 w7 ho7 hg7
          have HRUN7 := Lib.hid (HRUNq.out.grow hbl6 HX.out (p := (l[k].1, l[k].2.take t.n.toNat)) (HRUNq.out.old hbl6 (HY1.out.first hnq)) (Nat.le_trans hnq hq1) hc1 hcss6 ho7 hg7)
          clear ho7 hg7 hcss6 hcl6 hbl6
          go_wp2_with fail
          go_roundw
          case rel => exact ⟨k + 1, by omega, by go_num, by rw [HST.out], by rw [HST.out]; exact HRUN7.out⟩
          case measure => simp [intOf]; omega
      · have HST : Hid (foldD t (l.take (k + 1)) = ((foldD t (l.take k)).1 ++ [l[k]], (foldD t (l.take k)).2)) := Lib.hid (by rw [HSN.out, if_neg hnm])
        have heq : ((str l[k].1).toList == (str t.name).toList) = false := by rw [str_toList, str_toList]; simpa using hnm
        have hgq2 : (foldD t (l.take k)).2 = true ∨ ((foldD t (l.take k)).2 = false ∧ True) := by
          rcases hgq with h | ⟨h, h2⟩
          · exact .inl h
          · refine .inr ⟨h, ?_⟩
            trivial
        clear hnm hw0 hins hgs hgq
        rcases hgq2 with hgq | ⟨hgq, hgt⟩
        all_goals
          rw [hgq] at HST
          rw [hgq]
          clear hgq
          go_wp2_with fail
          go_quiet (fail)
          have HRUNq := Lib.hid (HRUN.out.below (W' := wr.drewN nq) ⟨rfl, rfl, rfl, Nat.le_refl _, fun _ _ => rfl⟩)
          generalize wr.drewN nq = wq at *
          clear b0 b1 b2 b3 x0 x1
          have x0 : wq.cell? (ad.add (k * 2)) = some (.string (str l[k].1)) := (HRUNq.out.2.1.cell (p := ad.add (k * 2)) (by rw [block_of_add]; exact ha1)).trans s0
          have x1 : wq.cell? ⟨(ad.add (k * 2)).block, (ad.add (k * 2)).off + 1, none⟩ = some (.slice B1 q1 c1) := (HRUNq.out.2.1.cell (p := ⟨(ad.add (k * 2)).block, (ad.add (k * 2)).off + 1, none⟩) (by show (ad.add (k * 2)).block < _; rw [block_of_add]; exact ha1)).trans s1
          obtain ⟨b0, b1, b2, b3⟩ := HRUNq.out.2.2.1.four
          obtain ⟨d0, d1, d2, d3⟩ := (HRUNq.out.2.2.1.alloc (.cells #[.string (str l[k].1), .slice B1 q1 c1] 59)).four
          have hbf : Below wq.heap.size wq (wq.alloc (.cells #[.string (str l[k].1), .slice B1 q1 c1] 59)) := (Below.refl _ _).alloc (Nat.le_refl _) _
          go_wp2_with (at_builtin; refine stop ?_)
          have hbl6 : Below wq.heap.size wq ((wq.alloc (.cells #[.string (str l[k].1), .slice B1 q1 c1] 59)).alloc (.cells #[.string (str l[k].1), .slice B1 q1 c1] 59)) := hbf.alloc hbf.size _
          obtain ⟨css6, hcss6, hcl6, -⟩ := HRUNq.out.1.below hbl6
          have hrd6 : Rd ((wq.alloc (.cells #[.string (str l[k].1), .slice B1 q1 c1] 59)).alloc (.cells #[.string (str l[k].1), .slice B1 q1 c1] 59)) No 2 (some ⟨wq.heap.size + 1, 0, none⟩) 1 [#[.string (str l[k].1), .slice B1 q1 c1]] := by
            have := rd_one (X := No) (k := 2) (wq.alloc (.cells #[.string (str l[k].1), .slice B1 q1 c1] 59)) 59 #[.string (str l[k].1), .slice B1 q1 c1] rfl (fun u hu => by simp at hu; rcases hu with rfl | rfl <;> rfl) (fun h => h)
            first
              | exact this
              | (rw [World.size_alloc] at this; exact this)
          refine Stop.go (wpList_append_k el26 _ (by rfl) _ _ (by rfl) _ css6 (by rfl) hcss6 No _ 1 1 [#[.string (str l[k].1), .slice B1 q1 c1]] (by rfl) hrd6 (by rw [hcl6]; have := HLEN.out; simp; omega) (by omega) ?_)
          intro v7 w7 ho7 hg7
          have HRUN7 := Lib.hid (HRUNq.out.grow hbl6 HX.out (p := l[k]) (HRUNq.out.old hbl6 HY1.out) hq1 hc1 hcss6 ho7 hg7)
          clear ho7 hg7 hcss6 hcl6 hbl6
          go_wp2_with fail
          go_roundw
          case rel => exact ⟨k + 1, by omega, by go_num, by rw [HST.out], by rw [HST.out]; exact HRUN7.out⟩
          case measure => simp [intOf]; omega
    · have hk0 : (t.what == 0) = false := by simp [hw0]
      have hk1 : (t.what == 1) = false := by simp [hw0]
      have hk2 : (t.what == 2) = true := by simp [hw0]
      have hgq : (foldD t (l.take k)).2 = true ∨ ((foldD t (l.take k)).2 = false ∧ True) := by
        by_cases h : (foldD t (l.take k)).2 = true
        · exact .inl h
        · rw [Bool.not_eq_true] at h
          refine .inr ⟨h, ?_⟩
          trivial
      by_cases hnm : l[k].1 = t.name
      · have HST : Hid (foldD t (l.take (k + 1)) = ((foldD t (l.take k)).1, true)) := Lib.hid (by rw [HSN.out, if_pos hnm]; rw [if_neg (by omega), if_neg (by omega)])
        have heq : ((str l[k].1).toList == (str t.name).toList) = true := by rw [hnm]; simp
        have HNM := Lib.hid hnm
        have HW0 := Lib.hid hw0
        clear hnm hw0 hins hgs
        rcases hgq with hgq | ⟨hgq, hgt⟩
        all_goals
          rw [hgq]
          clear hgq
          go_wp2_with fail
          go_quiet (fail)
          have HRUNq := Lib.hid (HRUN.out.below (W' := wr.drewN nq) ⟨rfl, rfl, rfl, Nat.le_refl _, fun _ _ => rfl⟩)
          generalize wr.drewN nq = wq at *
          clear b0 b1 b2 b3 x0 x1
          have x0 : wq.cell? (ad.add (k * 2)) = some (.string (str l[k].1)) := (HRUNq.out.2.1.cell (p := ad.add (k * 2)) (by rw [block_of_add]; exact ha1)).trans s0
          have x1 : wq.cell? ⟨(ad.add (k * 2)).block, (ad.add (k * 2)).off + 1, none⟩ = some (.slice B1 q1 c1) := (HRUNq.out.2.1.cell (p := ⟨(ad.add (k * 2)).block, (ad.add (k * 2)).off + 1, none⟩) (by show (ad.add (k * 2)).block < _; rw [block_of_add]; exact ha1)).trans s1
          obtain ⟨b0, b1, b2, b3⟩ := HRUNq.out.2.2.1.four
          obtain ⟨d0, d1, d2, d3⟩ := (HRUNq.out.2.2.1.alloc (.cells #[.string (str l[k].1), .slice B1 q1 c1] 59)).four
          go_wp2_with fail
          go_roundw
          case rel => exact ⟨k + 1, by omega, by go_num, by rw [HST.out], by rw [HST.out]; exact HRUNq.out.below ((Below.refl _ _).alloc (Nat.le_refl _) _)⟩
          case measure => simp [intOf]; omega
      · have HST : Hid (foldD t (l.take (k + 1)) = ((foldD t (l.take k)).1 ++ [l[k]], (foldD t (l.take k)).2)) := Lib.hid (by rw [HSN.out, if_neg hnm])
        have heq : ((str l[k].1).toList == (str t.name).toList) = false := by rw [str_toList, str_toList]; simpa using hnm
        have hgq2 : (foldD t (l.take k)).2 = true ∨ ((foldD t (l.take k)).2 = false ∧ True) := by
          rcases hgq with h | ⟨h, h2⟩
          · exact .inl h
          · refine .inr ⟨h, ?_⟩
            trivial
        clear hnm hw0 hins hgs hgq
        rcases hgq2 with hgq | ⟨hgq, hgt⟩
        all_goals
          rw [hgq] at HST
          rw [hgq]
          clear hgq
          go_wp2_with fail
          go_quiet (fail)
          have HRUNq := Lib.hid (HRUN.out.below (W' := wr.drewN nq) ⟨rfl, rfl, rfl, Nat.le_refl _, fun _ _ => rfl⟩)
          generalize wr.drewN nq = wq at *
          clear b0 b1 b2 b3 x0 x1
          have x0 : wq.cell? (ad.add (k * 2)) = some (.string (str l[k].1)) := (HRUNq.out.2.1.cell (p := ad.add (k * 2)) (by rw [block_of_add]; exact ha1)).trans s0
          have x1 : wq.cell? ⟨(ad.add (k * 2)).block, (ad.add (k * 2)).off + 1, none⟩ = some (.slice B1 q1 c1) := (HRUNq.out.2.1.cell (p := ⟨(ad.add (k * 2)).block, (ad.add (k * 2)).off + 1, none⟩) (by show (ad.add (k * 2)).block < _; rw [block_of_add]; exact ha1)).trans s1
          obtain ⟨b0, b1, b2, b3⟩ := HRUNq.out.2.2.1.four
          obtain ⟨d0, d1, d2, d3⟩ := (HRUNq.out.2.2.1.alloc (.cells #[.string (str l[k].1), .slice B1 q1 c1] 59)).four
          have hbf : Below wq.heap.size wq (wq.alloc (.cells #[.string (str l[k].1), .slice B1 q1 c1] 59)) := (Below.refl _ _).alloc (Nat.le_refl _) _
          go_wp2_with (at_builtin; refine stop ?_)
          have hbl6 : Below wq.heap.size wq ((wq.alloc (.cells #[.string (str l[k].1), .slice B1 q1 c1] 59)).alloc (.cells #[.string (str l[k].1), .slice B1 q1 c1] 59)) := hbf.alloc hbf.size _
          obtain ⟨css6, hcss6, hcl6, -⟩ := HRUNq.out.1.below hbl6
          have hrd6 : Rd ((wq.alloc (.cells #[.string (str l[k].1), .slice B1 q1 c1] 59)).alloc (.cells #[.string (str l[k].1), .slice B1 q1 c1] 59)) No 2 (some ⟨wq.heap.size + 1, 0, none⟩) 1 [#[.string (str l[k].1), .slice B1 q1 c1]] := by
            have := rd_one (X := No) (k := 2) (wq.alloc (.cells #[.string (str l[k].1), .slice B1 q1 c1] 59)) 59 #[.string (str l[k].1), .slice B1 q1 c1] rfl (fun u hu => by simp at hu; rcases hu with rfl | rfl <;> rfl) (fun h => h)
            first
              | exact this
              | (rw [World.size_alloc] at this; exact this)
          refine Stop.go (wpList_append_k el26 _ (by rfl) _ _ (by rfl) _ css6 (by rfl) hcss6 No _ 1 1 [#[.string (str l[k].1), .slice B1 q1 c1]] (by rfl) hrd6 (by rw [hcl6]; have := HLEN.out; simp; omega) (by omega) ?_)
          intro v7 w7 ho7 hg7
          have HRUN7 := Lib.hid (HRUNq.out.grow hbl6 HX.out (p := l[k]) (HRUNq.out.old hbl6 HY1.out) hq1 hc1 hcss6 ho7 hg7)
          clear ho7 hg7 hcss6 hcl6 hbl6
          go_wp2_with fail
          go_roundw
          case rel => exact ⟨k + 1, by omega, by go_num, by rw [HST.out], by rw [HST.out]; exact HRUN7.out⟩
          case measure => simp [intOf]; omega

end Go.Proofs.Ythhiiimmgghhaaa
