/-
  The document's Without: a net without what is at a place. Conditions: bounds.
-/
import Derived.Test.YticabfmjdjcfnaaActA
namespace Go.Proofs.Yticabfmjdjcfnaa
open Go.RowKit
theorem erase_take {l : Row} {i k : Nat} (hi : i < l.length) (hk : k < l.length) : (l.take (k + 1)).eraseIdx i = (l.take k).eraseIdx i ++ (if k = i then [] else [l[k]]) := by
  rw [List.take_succ_eq_append_getElem hk]
  rcases Nat.lt_trichotomy i k with h | h | h
  · rw [List.eraseIdx_append_of_lt_length (by rw [List.length_take]; omega), if_neg (by omega)]
  · subst h
    have e1 : (l.take i).length = i := by rw [List.length_take]; omega
    rw [List.eraseIdx_append_of_length_le (by omega), e1, Nat.sub_self, if_pos rfl, List.eraseIdx_of_length_le (l := l.take i) (by omega)]
    rfl
  · rw [if_neg (by omega), List.eraseIdx_of_length_le (by simp; omega), List.eraseIdx_of_length_le (by simp; omega)]
/-- The value v is a row of these items. -/
def RowI (w : World) (X : Nat → Prop) (v : Value) (l : Row) : Prop := ∃ css, OwnK w 57 4 v css ∧ css.length = l.length ∧ ∀ (i : Nat) (p : Int × Msg) (cs : Array Value), l[i]? = some p → css[i]? = some cs → ItAt w X p cs
theorem RowI.its {w : World} {X : Nat → Prop} {A : Option Addr} {n c : Nat} {l : Row} (h : RowI w X (.slice A n c) l) (hX : ∀ g, Value.ownBlock (.slice A n c) = some g → ¬ X g) : Its w X A n l := by
  obtain ⟨css, h1, h2, h3⟩ := h
  exact ⟨css, h1.rd hX, h2, h3⟩
theorem snoc_items {w : World} {X : Nat → Prop} {l : Row} {css : List (Array Value)} {p : Int × Msg} {cs : Array Value} (hl : css.length = l.length)
    (h3 : ∀ (i : Nat) (p : Int × Msg) (cs : Array Value), l[i]? = some p → css[i]? = some cs → ItAt w X p cs) (hp : ItAt w X p cs) : ∀ (i : Nat) (q : Int × Msg) (ds : Array Value), (l ++ [p])[i]? = some q → (css ++ [cs])[i]? = some ds → ItAt w X q ds := fun i x y e1 e2 => by
  rcases Nat.lt_or_ge i l.length with hi | hi
  · rw [List.getElem?_append_left hi] at e1
    rw [List.getElem?_append_left (by omega)] at e2
    exact h3 i x y e1 e2
  · rw [List.getElem?_append_right hi] at e1
    rw [List.getElem?_append_right (by omega), hl] at e2
    rcases hd : i - l.length with _ | q
    · rw [hd] at e1 e2
      simp at e1 e2
      subst e1 e2
      exact hp
    · rw [hd] at e1; simp at e1
set_option maxRecDepth 100000 in
set_option maxHeartbeats 8000000 in
theorem without_any {w : World} {X : Nat → Prop} {s : St} {cs : Array Value} (h : RAt w X s cs) (hX : ∀ b, X b → b < w.heap.size) (hok : s.ok) {i : Nat} (hi : i < s.l.length) :
    Calls Try.prog 35 #[.agg cs, .int .i64 (i : Int)] w fun e w' => ∃ cs', e = .returned (.agg cs') ∧ RAt w' X (s.cut i) cs' ∧ Below w.heap.size w w' := by
  obtain ⟨A, n, c, rfl, hI, hnc, hcm⟩ := h
  have hlen := hI.len
  subst hlen
  have hl4 : s.l.length ≤ 4096 := Nat.le_trans hok.len hok.hi
  have k0 : Blk ((w.alloc (.cells #[.int .i64 (s.most : Int), .slice A s.l.length c, .int .i64 (s.came : Int)] 28)).alloc (.cells #[.int .i64 0, .slice none 0 0, .int .i64 0] 28)) w.heap.size 28 #[.int .i64 (s.most : Int), .slice A s.l.length c, .int .i64 (s.came : Int)] := (Blk.new _ _ _).alloc _
  have k1 : Blk ((w.alloc (.cells #[.int .i64 (s.most : Int), .slice A s.l.length c, .int .i64 (s.came : Int)] 28)).alloc (.cells #[.int .i64 0, .slice none 0 0, .int .i64 0] 28)) (w.heap.size + 1) 28 #[.int .i64 0, .slice none 0 0, .int .i64 0] := blk_new _ 28 _ (by simp)
  have hb1 : Below w.heap.size w ((w.alloc (.cells #[.int .i64 (s.most : Int), .slice A s.l.length c, .int .i64 (s.came : Int)] 28)).alloc (.cells #[.int .i64 0, .slice none 0 0, .int .i64 0] 28)) := ((Below.refl _ _).alloc (Nat.le_refl _) _).alloc (by simp) _
  have HZ1 : Hid (((w.alloc (.cells #[.int .i64 (s.most : Int), .slice A s.l.length c, .int .i64 (s.came : Int)] 28)).alloc (.cells #[.int .i64 0, .slice none 0 0, .int .i64 0] 28)).heap.size = w.heap.size + 2) := Lib.hid (by simp)
  have HI1 := Lib.hid ((hI.wide (X' := fun b => X b ∨ w.heap.size ≤ b) (fun b hb e => e.elim id (fun e => absurd e (by omega)))).below hb1)
  have hm1 := hcm
  unfold maxLen at hm1
  clear hI hok
  obtain ⟨c0, c1, c2⟩ := k0.three
  go_enter Try.func35, Try.ntmps35
  go_wp2_with fail
  generalize ((w.alloc (.cells #[.int .i64 (s.most : Int), .slice A s.l.length c, .int .i64 (s.came : Int)] 28)).alloc (.cells #[.int .i64 0, .slice none 0 0, .int .i64 0] 28)) = w1 at *
  have hz1 : w1.heap.size = w.heap.size + 2 := HZ1.out
  have HZ := Lib.hid hz1
  clear hz1 HZ1
  go_loopw [5, 6] (fun v i' wr => ∃ k : Nat, k ≤ s.l.length ∧ i' = .int .i64 k ∧ RowI wr (fun b => X b ∨ w.heap.size ≤ b) v ((s.l.take k).eraseIdx i) ∧ (∀ g, v.ownBlock = some g → w.heap.size + 2 ≤ g) ∧ Below w1.heap.size w1 wr) (fun _ i' _ => s.l.length - (intOf i').toNat)
  case atStart => exact ⟨0, by omega, rfl, ⟨[], OwnK.nil _ 57 4, by simp, fun i p cs e => (by simp at e)⟩, fun g e => (by cases e), Below.refl _ _⟩
  case round =>
    obtain ⟨k, hk, rfl, hrow, hlow, hb⟩ := hrel
    have kr := k0.below hb k0.lt
    have kq := k1.below hb k1.lt
    obtain ⟨d0, d1, d2⟩ := kr.three
    by_cases hlt : k < s.l.length
    case neg =>
      have hd1 : decide (k < s.l.length) = false := by simpa using hlt
      have htk : s.l.take k = s.l := List.take_of_length_le (by omega)
      rw [htk] at hrow
      obtain ⟨css, q1, q2, q3⟩ := hrow
      obtain ⟨Av, cv, rfl, hv1, hv2⟩ := ownK_form q1
      have hlv : css.length = (s.cut i).l.length := q2
      rw [hlv] at hv1 hlow q1
      rw [hlv]
      have df := kr.frozen 1
      have HQ := Lib.hid (And.intro q1 (And.intro q2 q3))
      have HLOW := Lib.hid hlow
      clear q1 q2 q3 hlow c0 c1 c2 htk
      go_wp2_with (with_reducible refine at_store 28 rfl ?_)
      have hTs : Turn (fun b => b = w.heap.size) wr (wr.setCell ⟨w.heap.size, 1, none⟩ (.slice Av (s.cut i).l.length cv)) := (Turn.refl (fun b => b = w.heap.size) wr).setCell (p := ⟨w.heap.size, 1, none⟩) (fun _ => rfl) _
      have m1 := kq.keep hTs (by omega)
      refine Stop.go (wpList_store_blk (by rfl) (by rfl) 28 _ _ (by rfl) (w.heap.size + 1) _ #[.int .i64 (s.most : Int), .slice Av (s.cut i).l.length cv, .int .i64 (s.came : Int)] (by rfl) (by rfl) 28 m1 (by rfl) (info28 _ rfl) (by simp [Value.oneCell']) ?_)
      intro wz fz gz sz
      clear sz
      have hTz : Turn (fun b => b = w.heap.size + 1) _ wz := Turn.of_grown gz (fun r e => by injection e with e; exact e.symm)
      go_wp2_with fail
      refine bodyPost_ret (v := .agg #[.int .i64 (s.most : Int), .slice Av (s.cut i).l.length cv, .int .i64 (s.came : Int)]) (results_cell_row (by rfl) _ _ (w.heap.size + 1) 28 _ (0, 0) _ (by rfl) fz Try.underlying28 (by rfl) (info28 _ rfl)) rfl ?_
      obtain ⟨q1, q2, q3⟩ := HQ.out
      have hIr : Its wr (fun b => X b ∨ (w.heap.size ≤ b ∧ b < w.heap.size + 2)) Av (s.cut i).l.length (s.cut i).l := RowI.its ⟨css, q1, q2, fun i' p cs e1 e2 => (q3 i' p cs e1 e2).wide (fun b _ e => e.elim .inl (fun e => .inr e.1))⟩ (fun g e e' => by
        have := HLOW.out g e
        rcases e' with e' | e'
        · have := hX g e'; omega
        · omega)
      have hbw := hb1.trans (hb.mono hb1.size)
      refine ⟨_, rfl, ⟨Av, _, cv, rfl, ((hIr.keep hTs (fun b _ e => .inr (by omega))).keep hTz (fun b _ e => .inr (by omega))).wide (fun b _ e => .inl e), hv1, hv2⟩, ?_⟩
      exact (hbw.trans (hTs.below hbw.size (fun b e => by omega))).trans (hTz.below (by have := hbw.size; have := hTs.size; omega) (fun b e => by omega))
    case pos =>
      have hki : ((k : Nat) : Int) < ((s.l.length : Nat) : Int) := by omega
      have HET := Lib.hid (erase_take hi hlt)
      by_cases hkk : k = i
      · subst hkk
        rw [if_pos rfl, List.append_nil] at HET
        clear c0 c1 c2
        go_wp2_with fail
        exact ⟨⟨k + 1, by omega, by go_num, by rw [HET.out]; exact hrow, hlow, hb⟩, by simp [intOf]; omega⟩
      · rw [if_neg hkk] at HET
        obtain ⟨ad, Am, q, cm, hAe, hadl, hadx, hbr, r0, r1, r2, r3⟩ := (HI1.out.below hb).at_ hlt
        subst hAe
        obtain ⟨css, q1, q2, q3⟩ := hrow
        obtain ⟨Av, cv, rfl, hv1, hv2⟩ := ownK_form q1
        have hcl : css.length ≤ 4096 := by rw [q2]; exact Nat.le_trans (List.length_eraseIdx_le _ _) (by rw [List.length_take]; omega)
        have hneI : (((k : Nat) : Int) == ((i : Nat) : Int)) = false := by rw [beq_eq_false_iff_ne]; omega
        have hneN : (k == i) = false := by rw [beq_eq_false_iff_ne]; exact hkk
        have HPC := Lib.hid (show ItAt wr (fun b => X b ∨ w.heap.size ≤ b) s.l[k] #[.int .i64 s.l[k].1, .int .i64 s.l[k].2.fr, .int .i64 s.l[k].2.to, .slice Am q cm] from ⟨Am, q, cm, rfl, hbr⟩)
        generalize s.l[k] = pp at *
        have HQ := Lib.hid (And.intro q1 (And.intro q2 q3))
        have HLOW := Lib.hid hlow
        clear c0 c1 c2 hbr q1 q2 q3 hlow hkk
        go_wp2_with (at_builtin; refine stop ?_)
        obtain ⟨q1, q2, q3⟩ := HQ.out
        have hbA : Below wr.heap.size wr (wr.alloc (.cells #[.int .i64 pp.1, .int .i64 pp.2.fr, .int .i64 pp.2.to, .slice Am q cm] 57)) := (Below.refl _ _).alloc (Nat.le_refl _) _
        refine Stop.go (wpList_append_k el26 _ (by rfl) _ _ (by rfl) (.slice Av css.length cv) css (by rfl) (q1.alloc _) No _ 1 _ [#[.int .i64 pp.1, .int .i64 pp.2.fr, .int .i64 pp.2.to, .slice Am q cm]] (by rfl) (rd_one wr 57 #[.int .i64 pp.1, .int .i64 pp.2.fr, .int .i64 pp.2.to, .slice Am q cm] rfl (by simp [Value.oneCell']) (fun h => h)) (by omega) (by omega) ?_)
        intro v9 w9 ho9 hg9
        have hT9 : Turn (fun b => Value.ownBlock (.slice Av css.length cv) = some b) _ w9 := hg9.turn (fun g e => e)
        have hlow := HLOW.out
        have hzr := hb.size
        have hz1 := HZ.out
        have hXo : ∀ g, Value.ownBlock (.slice Av css.length cv) = some g → w.heap.size + 2 ≤ g := hlow
        have hb9 : Below w1.heap.size w1 w9 := (hb.trans (hbA.mono hb.size)).trans (hT9.below (by have := hbA.size; omega) (fun b e => by have := hXo b e; omega))
        go_wp2_with fail
        refine ⟨⟨k + 1, by omega, by go_num, ?_, fun g e => (hg9.2 g e).elim (hlow g) (fun e => by have := hbA.size; omega), hb9⟩, by simp [intOf]; omega⟩
        rw [HET.out]
        refine ⟨css ++ [#[.int .i64 pp.1, .int .i64 pp.2.fr, .int .i64 pp.2.to, .slice Am q cm]], ho9, by simp [q2], snoc_items q2 (fun i' p cs e1 e2 => ?_) ?_⟩
        · exact ((q3 i' p cs e1 e2).keep (S := No) (Turn.of_below hbA No) (fun _ _ h => h.elim)).keep hT9 (fun b _ e => .inr (by have := hXo b e; omega))
        · exact (HPC.out.keep (S := No) (Turn.of_below hbA No) (fun _ _ h => h.elim)).keep hT9 (fun b _ e => .inr (by have := hXo b e; omega))
end Go.Proofs.Yticabfmjdjcfnaa
