/-
  A table in memory: its log, its writers, their maps. Nothing is assumed.
-/
import Derived.Test.YthcphoijanebhaaDoorMapn
namespace Go.Proofs.YthcphoijanebhaaDoor
open Go.RowKit Go.Maps
/-- The cells of a table: its log v, its writers x, their maps mp. -/
def tabA (v : Value) (x : Nat → Wr) (mp : Nat → Nat) : Array Value :=
  #[v, .int .i64 (x 0).high, .int .i64 (x 0).next, .int .i64 (x 0).marked, .map (some (mp 0)), .map (some (mp 1)),
    .int .i64 (x 1).high, .int .i64 (x 1).next, .int .i64 (x 1).marked, .map (some (mp 2)), .map (some (mp 3)),
    .int .i64 (x 2).high, .int .i64 (x 2).next, .int .i64 (x 2).marked, .map (some (mp 4)), .map (some (mp 5)),
    .int .i64 (x 3).high, .int .i64 (x 3).next, .int .i64 (x 3).marked, .map (some (mp 6)), .map (some (mp 7)), .bool true]
/-- A table lies at g. -/
structure TX (w : World) (g : Nat) (v : Value) (x : Nat → Wr) (mp : Nat → Nat) : Prop where
  blk : Blk w g 108 (tabA v x mp)
  om : ∀ i, i < 4 → OM w (mp (2 * i)) (x i).opens
  em : ∀ i, i < 4 → EM w (mp (2 * i + 1)) (x i).ended
  rise : ∀ i j, i < j → j < 8 → mp i < mp j
/-- Its own blocks. -/
def own (g : Nat) (mp : Nat → Nat) : Nat → Prop := fun b => b = g ∨ ∃ i, i < 8 ∧ b = mp i
def upd {α : Type} (x : Nat → α) (i : Nat) (y : α) : Nat → α := fun j => if j = i then y else x j
theorem upd_same {α : Type} (x : Nat → α) (i : Nat) (y : α) : upd x i y i = y := if_pos rfl
theorem upd_other {α : Type} (x : Nat → α) {i j : Nat} (y : α) (h : j ≠ i) : upd x i y j = x j := if_neg h
section
variable {w w' : World} {g : Nat} {v : Value} {x : Nat → Wr} {mp : Nat → Nat} {S : Nat → Prop}
theorem TX.keepB (h : TX w g v x mp) (hk : ∀ b, own g mp b → w'.heap[b]? = w.heap[b]?) : TX w' g v x mp :=
  ⟨(hk g (.inl rfl)).trans h.blk, fun i hi => (h.om i hi).keepB (hk _ (.inr ⟨2 * i, by omega, rfl⟩)), fun i hi => (h.em i hi).keepB (hk _ (.inr ⟨2 * i + 1, by omega, rfl⟩)), h.rise⟩
theorem TX.lt (h : TX w g v x mp) {b : Nat} (hb : own g mp b) : b < w.heap.size := by
  rcases hb with rfl | ⟨i, hi, rfl⟩
  · exact h.blk.lt
  · rcases Nat.mod_two_eq_zero_or_one i with q | q
    · have := (h.om (i / 2) (by omega)).lt
      rwa [show 2 * (i / 2) = i by omega] at this
    · have := (h.em (i / 2) (by omega)).lt
      rwa [show 2 * (i / 2) + 1 = i by omega] at this
theorem TX.cellv (h : TX w g v x mp) : w.cell? ⟨g, 0, none⟩ = some v ∧ w.cell? ⟨g, 21, none⟩ = some (.bool true) := ⟨h.blk.cell 0, h.blk.cell 21⟩
/-- The cells of a writer. -/
theorem TX.cells (h : TX w g v x mp) {i : Nat} (hi : i < 4) : w.cell? ⟨g, 1 + i * 5, none⟩ = some (.int .i64 (x i).high) ∧ w.cell? ⟨g, 1 + i * 5 + 1, none⟩ = some (.int .i64 (x i).next) ∧
    w.cell? ⟨g, 1 + i * 5 + 2, none⟩ = some (.int .i64 (x i).marked) ∧ w.cell? ⟨g, 1 + i * 5 + 3, none⟩ = some (.map (some (mp (2 * i)))) ∧ w.cell? ⟨g, 1 + i * 5 + 4, none⟩ = some (.map (some (mp (2 * i + 1)))) := by
  rcases i with _ | _ | _ | _ | i
  · exact ⟨h.blk.cell 1, h.blk.cell 2, h.blk.cell 3, h.blk.cell 4, h.blk.cell 5⟩
  · exact ⟨h.blk.cell 6, h.blk.cell 7, h.blk.cell 8, h.blk.cell 9, h.blk.cell 10⟩
  · exact ⟨h.blk.cell 11, h.blk.cell 12, h.blk.cell 13, h.blk.cell 14, h.blk.cell 15⟩
  · exact ⟨h.blk.cell 16, h.blk.cell 17, h.blk.cell 18, h.blk.cell 19, h.blk.cell 20⟩
  · omega
theorem TX.notMap (h : TX w g v x mp) {i : Nat} (hi : i < 8) : mp i ≠ g := by
  intro e
  have hb := h.blk
  unfold Blk at hb
  rcases Nat.mod_two_eq_zero_or_one i with q | q
  · obtain ⟨es, c, ho⟩ := (h.om (i / 2) (by omega)).1.obj
    rw [show 2 * (i / 2) = i by omega, e, hb] at ho
    cases ho
  · obtain ⟨es, c, ho⟩ := (h.em (i / 2) (by omega)).1.obj
    rw [show 2 * (i / 2) + 1 = i by omega, e, hb] at ho
    cases ho
/-- One number of a writer is stored. -/
theorem TX.set (h : TX w g v x mp) {i j : Nat} (hi : i < 4) (hj : j < 3) (n : Int) :
    TX (w.setCell ⟨g, 1 + i * 5 + j, none⟩ (.int .i64 n)) g v (upd x i (if j = 0 then { x i with high := n } else if j = 1 then { x i with next := n } else { x i with marked := n })) mp := by
  have hb := h.blk.set_ (1 + i * 5 + j) (.int .i64 n)
  have hk : ∀ b, b ≠ g → (w.setCell ⟨g, 1 + i * 5 + j, none⟩ (.int .i64 n)).heap[b]? = w.heap[b]? := fun b hb => Below.heap_setCell _ _ _ _ hb
  refine ⟨?_, fun k hk' => ?_, fun k hk' => ?_, h.rise⟩
  · have e : (tabA v x mp).setIfInBounds (1 + i * 5 + j) (.int .i64 n) = tabA v (upd x i (if j = 0 then { x i with high := n } else if j = 1 then { x i with next := n } else { x i with marked := n })) mp := by
      rcases i with _ | _ | _ | _ | i <;> first | omega | (rcases j with _ | _ | _ | j <;> first | omega | rfl)
    rw [e] at hb
    exact hb
  · have := (h.om k hk').keepB (hk _ (h.notMap (by omega)))
    by_cases e : k = i
    · subst e
      rw [upd_same]
      split
      · exact this
      · split <;> exact this
    · rw [upd_other _ _ e]; exact this
  · have := (h.em k hk').keepB (hk _ (h.notMap (by omega)))
    by_cases e : k = i
    · subst e
      rw [upd_same]
      split
      · exact this
      · split <;> exact this
    · rw [upd_other _ _ e]; exact this
theorem tabA_upd (v : Value) (x : Nat → Wr) (mp : Nat → Nat) {i : Nat} {y : Wr} (h1 : y.high = (x i).high) (h2 : y.next = (x i).next) (h3 : y.marked = (x i).marked) : tabA v (upd x i y) mp = tabA v x mp := by
  have h : ∀ j, (upd x i y j).high = (x j).high ∧ (upd x i y j).next = (x j).next ∧ (upd x i y j).marked = (x j).marked := fun j => by
    unfold upd
    split
    · rename_i e; subst e; exact ⟨h1, h2, h3⟩
    · exact ⟨rfl, rfl, rfl⟩
  unfold tabA
  simp only [(h _).1, (h _).2.1, (h _).2.2]
/-- The map of a writer's open transactions has turned. -/
theorem TX.opened (h : TX w g v x mp) {i : Nat} (hi : i < 4) {l : List (Int × Nat)} (hm : OM w' (mp (2 * i)) l) (hg : w.grownBy w' (some (mp (2 * i)))) (hlt : ∀ b, own g mp b → b < w.heap.size) : TX w' g v (upd x i { x i with opens := l }) mp := by
  have hk : ∀ b, own g mp b → b ≠ mp (2 * i) → w'.heap[b]? = w.heap[b]? := fun b hb hne => hg.block b (hlt b hb) (fun e => hne (by injection e))
  refine ⟨?_, fun k hk' => ?_, fun k hk' => ?_, h.rise⟩
  · rw [tabA_upd v x mp (y := { x i with opens := l }) rfl rfl rfl]
    exact (hk g (.inl rfl) (fun e => h.notMap (i := 2 * i) (by omega) e.symm)).trans h.blk
  · by_cases e : k = i
    · subst e; rw [upd_same]; exact hm
    · rw [upd_other _ _ e]
      refine (h.om k hk').keepB (hk _ (.inr ⟨2 * k, by omega, rfl⟩) ?_)
      intro q
      rcases Nat.lt_or_ge k i with z | z
      · have := h.rise (2 * k) (2 * i) (by omega) (by omega); omega
      · have := h.rise (2 * i) (2 * k) (by omega) (by omega); omega
  · have q : mp (2 * k + 1) ≠ mp (2 * i) := by
      intro q
      rcases Nat.lt_or_ge (2 * k + 1) (2 * i) with z | z
      · have := h.rise (2 * k + 1) (2 * i) z (by omega); omega
      · have := h.rise (2 * i) (2 * k + 1) (by omega) (by omega); omega
    have := (h.em k hk').keepB (hk _ (.inr ⟨2 * k + 1, by omega, rfl⟩) q)
    by_cases e : k = i
    · subst e; rw [upd_same]; exact this
    · rw [upd_other _ _ e]; exact this
theorem TX.ended (h : TX w g v x mp) {i : Nat} (hi : i < 4) {l : List Int} (hm : EM w' (mp (2 * i + 1)) l) (hg : w.grownBy w' (some (mp (2 * i + 1)))) (hlt : ∀ b, own g mp b → b < w.heap.size) : TX w' g v (upd x i { x i with ended := l }) mp := by
  have hk : ∀ b, own g mp b → b ≠ mp (2 * i + 1) → w'.heap[b]? = w.heap[b]? := fun b hb hne => hg.block b (hlt b hb) (fun e => hne (by injection e))
  refine ⟨?_, fun k hk' => ?_, fun k hk' => ?_, h.rise⟩
  · rw [tabA_upd v x mp (y := { x i with ended := l }) rfl rfl rfl]
    exact (hk g (.inl rfl) (fun e => h.notMap (i := 2 * i + 1) (by omega) e.symm)).trans h.blk
  · have q : mp (2 * k) ≠ mp (2 * i + 1) := by
      intro q
      rcases Nat.lt_or_ge (2 * k) (2 * i + 1) with z | z
      · have := h.rise (2 * k) (2 * i + 1) z (by omega); omega
      · have := h.rise (2 * i + 1) (2 * k) (by omega) (by omega); omega
    have := (h.om k hk').keepB (hk _ (.inr ⟨2 * k, by omega, rfl⟩) q)
    by_cases e : k = i
    · subst e; rw [upd_same]; exact this
    · rw [upd_other _ _ e]; exact this
  · by_cases e : k = i
    · subst e; rw [upd_same]; exact hm
    · rw [upd_other _ _ e]
      refine (h.em k hk').keepB (hk _ (.inr ⟨2 * k + 1, by omega, rfl⟩) ?_)
      intro q
      rcases Nat.lt_or_ge k i with z | z
      · have := h.rise (2 * k + 1) (2 * i + 1) (by omega) (by omega); omega
      · have := h.rise (2 * i + 1) (2 * k + 1) (by omega) (by omega); omega
end
theorem upd_upd {α : Type} (x : Nat → α) (i : Nat) (y z : α) : upd (upd x i y) i z = upd x i z := by
  funext j; unfold upd; split <;> rfl
theorem upd_self {α : Type} (x : Nat → α) (i : Nat) : upd x i (x i) = x := by
  funext j; unfold upd; split
  · rename_i e; rw [e]
  · rfl
/-- The cells of entries. -/
def cellsOf (l : List Ent) : List (Array Value) := l.map Ent.cells
/-- Numbers of an entry are of 64 bits. -/
theorem right_in64 {e : Ent} (h : Right e) : In64 e.num ∧ In64 e.seq ∧ In64 e.id ∧ In64 e.epoch ∧ In64 e.kind ∧ In64 e.value := by
  unfold Right at h; unfold In64; omega
theorem wr_lens (id : Int) (l : List Ent) : (wr id l).opens.length ≤ l.length ∧ (wr id l).ended.length ≤ l.length := by
  induction l using snoc_induction with
  | h0 => exact ⟨Nat.le_refl _, Nat.le_refl _⟩
  | h1 l e ih =>
    rw [wr_snoc, List.length_append]
    show _ ≤ l.length + 1 ∧ _ ≤ l.length + 1
    split
    · unfold Wr.note
      split
      · constructor
        · show (if e.num ∈ ((wr id l).up e).ended ∨ e.num ∈ keys ((wr id l).up e).opens then ((wr id l).up e).opens else ((wr id l).up e).opens ++ [(e.num, l.length)]).length ≤ _
          rw [(up_opens _ e).1]
          split
          · omega
          · simp; omega
        · show ((wr id l).up e).ended.length ≤ _
          rw [(up_opens _ e).2.1]; omega
      · constructor
        · show (((wr id l).up e).opens.filter _).length ≤ _
          refine Nat.le_trans (List.length_filter_le _ _) ?_
          rw [(up_opens _ e).1]; omega
        · show (e.num :: ((wr id l).up e).ended).length ≤ _
          rw [(up_opens _ e).2.1]; simp; omega
    · omega
/-- A table at g stands for a log; its own blocks are in S. -/
structure Tb (w : World) (S : Nat → Prop) (g : Nat) (l : List Ent) : Prop where
  ex : ∃ v mp, TX w g v (fun i => wr (i : Int) l) mp ∧ OwnK w 45 6 v (cellsOf l) ∧ (∀ b, own g mp b → v.ownBlock ≠ some b) ∧ ∀ b, (own g mp b ∨ v.ownBlock = some b) → S b
  right : AllR l
  len : l.length ≤ 4096
section
variable {w w' : World} {g : Nat} {l : List Ent} {S S' : Nat → Prop}
theorem TX.own_lt {v : Value} {x : Nat → Wr} {mp : Nat → Nat} {c : List (Array Value)} (h : TX w g v x mp) (ho : OwnK w 45 6 v c) : ∀ b, (own g mp b ∨ v.ownBlock = some b) → b < w.heap.size := fun _ hb => hb.elim h.lt ho.lt
theorem Tb.keep (h : Tb w S g l) (ht : Turn S' w w') (hd : ∀ b, b < w.heap.size → S b → ¬ S' b) : Tb w' S g l := by
  obtain ⟨⟨v, mp, h1, h2, h4, h3⟩, hr, hl⟩ := h
  have hlt := h1.own_lt h2
  refine ⟨⟨v, mp, h1.keepB fun b hb => ht.block b (hlt b (.inl hb)) (hd b (hlt b (.inl hb)) (h3 b (.inl hb))), h2.keepB fun r e => ?_, h4, h3⟩, hr, hl⟩
  exact ht.block r (hlt r (.inr e)) (hd r (hlt r (.inr e)) (h3 r (.inr e)))
theorem Tb.wide (h : Tb w S g l) (hS : ∀ b, b < w.heap.size → S b → S' b) : Tb w S' g l := by
  obtain ⟨⟨v, mp, h1, h2, h4, h3⟩, hr, hl⟩ := h
  have hlt := h1.own_lt h2
  exact ⟨⟨v, mp, h1, h2, h4, fun b hb => hS b (hlt b hb) (h3 b hb)⟩, hr, hl⟩
theorem Tb.below (h : Tb w S g l) (hb : Below w.heap.size w w') : Tb w' S g l := h.keep (S' := No) (Turn.of_below hb No) (fun _ _ _ h => h)
theorem Tb.glt (h : Tb w S g l) : g < w.heap.size := by obtain ⟨⟨v, mp, h1, h2, h3⟩, hr, hl⟩ := h; exact h1.blk.lt
theorem Tb.gS (h : Tb w S g l) : S g := by obtain ⟨⟨v, mp, h1, h2, h4, h3⟩, hr, hl⟩ := h; exact h3 g (.inl (.inl rfl))
end
end Go.Proofs.YthcphoijanebhaaDoor
