/-
  A thing is carried out on a disk, and waits. Conditions: it can be done, within the room and the bounds.
-/
import Derived.Test.YthhiiimmgghhaaaDo
namespace Go.Proofs.Ythhiiimmgghhaaa
open Go.RowKit
theorem Blk.five {w : World} {g : Nat} {t : TypeId} {a b c d e : Value} (h : Blk w g t #[a, b, c, d, e]) : w.cell? ⟨g, 0, none⟩ = some a ∧ w.cell? ⟨g, 1, none⟩ = some b ∧ w.cell? ⟨g, 2, none⟩ = some c ∧ w.cell? ⟨g, 3, none⟩ = some d ∧ w.cell? ⟨g, 4, none⟩ = some e :=
  ⟨h.cell 0, h.cell 1, h.cell 2, h.cell 3, h.cell 4⟩
/-- How a disk stands behind a thing that was done to its files, ahead of its being kept: files l', what waits as before. -/
structure Mid (w : World) (X : Nat → Prop) (g : Nat) (s : St) (l' : FL) (m1 m2 : Nat) (S1 S2 : Nat → Prop) (wv : Value) : Prop where
  blk : Blk w g 82 #[.map (some m1), .int .i64 (total l' : Int), .map (some m2), .int .i64 (total s.lasts : Int), wv, .int .i64 (s.room : Int)]
  f1 : FM w S1 m1 l'
  f2 : FM w S2 m2 s.lasts
  ts : OwnT w X wv s.waits
theorem blk_of_set {w w' : World} {g i : Nat} {t : TypeId} {cs : Array Value} {u : Value} (h : Blk w g t cs) (hk : w'.heap[g]? = (w.setCell ⟨g, i, none⟩ u).heap[g]?) : Blk w' g t (cs.setIfInBounds i u) := hk.trans (h.set_ i u)
/-- A thing was done to the files of a disk as they stand. -/
theorem DkAt.did1 {w w1 : World} {S X : Nat → Prop} {g : Nat} {s : St} {m1 m2 : Nat} {S1 S2 : Nat → Prop} {wv : Value} (h : DkAt w S X g s m1 m2 S1 S2 wv) {l' : FL} (hd : Done w S1 g 0 m1 (total l' : Int) l' w1) :
    Mid w1 X g s l' m1 m2 (More S1 w w1) S2 wv ∧ Turn S w w1 := by
  obtain ⟨hF, hT, hB⟩ := hd
  refine ⟨⟨?_, hF, ?_, ?_⟩, hT.mono (fun b _ e => e.elim (h.s1_in b) (fun e => by subst e; exact h.g_in))⟩
  · exact blk_of_set h.blk hB
  · exact h.f2.keep hT (fun b hb e => e.elim (fun q => h.apart b q hb) (fun q => by subst q; exact h.g2 hb))
  · exact h.ts.keep hT (fun b _ e => e.elim (fun q => h.inX b (h.s1_in b q)) (fun q => by subst q; exact h.inX _ h.g_in)) (fun r e e' => e'.elim (h.wvn r e).2.1 (h.wvn r e).1)
/-- And is kept among what waits. -/
theorem carried {w w1 w2 w5 : World} {S X : Nat → Prop} {g : Nat} {s : St} {m1 m2 : Nat} {S1 S2 : Nat → Prop} {wv v5 : Value} (h : DkAt w S X g s m1 m2 S1 S2 wv) (hb1 : Below w.heap.size w w1) {t : Th}
    (hM : Mid w2 X g s (t.on s.files) m1 m2 (More S1 w1 w2) S2 wv ∧ Turn S w1 w2 ∧ Turn (fun b => S1 b ∨ b = g) w1 w2) {css : List (Array Value)} (hcl : css.length = s.waits.length)
    (hct : ∀ (i : Nat) (t : Th) (cs : Array Value), s.waits[i]? = some t → css[i]? = some cs → ThAt w X t cs) {p q : Nat} (ht : ThAt w X t (t.cells p q)) (ho5 : OwnK w5 92 5 v5 (css ++ [t.cells p q])) (hg5 : Grew wv w2 v5 w5)
    (hcan : t.can s.files) (hroom : total (t.on s.files) ≤ s.room) : Wrote w S X g (s.done t) (w5.setCell ⟨g, 4, none⟩ v5) := by
  obtain ⟨hM, hT2, hT2'⟩ := hM
  have hz1 := hb1.size
  have hz2 := hT2.size
  have hz5 := hg5.1.size
  have hgl := h.blk.lt
  have hT5 : Turn (fun r => wv.ownBlock = some r) w2 w5 := hg5.turn (fun _ e => e)
  have hT6 : Turn (fun b => b = g) w5 (w5.setCell ⟨g, 4, none⟩ v5) := (Turn.refl (fun b => b = g) _).setCell (p := ⟨g, 4, none⟩) (fun _ => rfl) _
  have hTw : Turn S w (w5.setCell ⟨g, 4, none⟩ v5) := (((Turn.of_below hb1 S).trans hT2 (fun _ _ e => e)).trans hT5 (fun b _ e => h.wv_in b e)).trans hT6 (fun b _ e => by subst e; exact h.g_in)
  have hz6 : (w5.setCell ⟨g, 4, none⟩ v5).heap.size = w5.heap.size := setCell_size _ _ _
  have hwvlt : ∀ r, wv.ownBlock = some r → r < w.heap.size := fun r e => h.lt r (h.wv_in r e)
  have hv5 : ∀ r, v5.ownBlock = some r → wv.ownBlock = some r ∨ w2.heap.size ≤ r := hg5.2
  have hS' : ∀ b, (S b ∨ More S1 w1 w2 b ∨ v5.ownBlock = some b) → S b ∨ w.heap.size ≤ b := by
    rintro b (e | e | e)
    · exact .inl e
    · rcases e with e | e
      · exact .inl (h.s1_in b e)
      · exact .inr (by omega)
    · rcases hv5 b e with e | e
      · exact .inl (h.wv_in b e)
      · exact .inr (by omega)
  have hX' : ∀ b, b < w.heap.size → (X b ∨ (S b ∨ More S1 w1 w2 b ∨ v5.ownBlock = some b)) → X b := fun b hb e => e.elim id (fun e => (hS' b e).elim (h.inX b) (fun e => by omega))
  refine ⟨hTw, fun b => S b ∨ More S1 w1 w2 b ∨ v5.ownBlock = some b, fun b e => .inl e, hS', m1, m2, More S1 w1 w2, S2, v5, ?_⟩
  have hnew1 : ∀ b, More S1 w1 w2 b → b ≠ g ∧ ¬ S2 b ∧ ∀ r, wv.ownBlock = some r → r ≠ b := by
    rintro b (e | e)
    · exact ⟨fun q => h.g1 (by subst q; exact e), h.apart b e, fun r er q => (h.wvn r er).2.1 (by subst q; exact e)⟩
    · exact ⟨by omega, fun q => by have := h.lt b (h.s2_in b q); omega, fun r er q => by have := hwvlt r er; omega⟩
  refine { blk := ?_, f1 := ?_, f2 := ?_, ts := ?_, ok := h.ok.done hcan hroom, g_in := .inl h.g_in, s1_in := fun b e => .inr (.inl e), s2_in := fun b e => .inl (h.s2_in b e), wv_in := fun r e => .inr (.inr e), g1 := fun e => (hnew1 g e).1 rfl, g2 := h.g2, apart := fun b e => (hnew1 b e).2.1, wvn := ?_, inX := fun b e => .inr e, lt := ?_ }
  · have b5 := hM.blk.keep hT5 (fun e => (h.wvn g e).1 rfl)
    have b6 := b5.set_ 4 v5
    rw [St.files_done]
    exact b6
  · rw [St.files_done]
    exact (hM.f1.keep hT5 (fun b hb e => (hnew1 b hb).2.2 b e rfl)).keep hT6 (fun b hb e => (hnew1 b hb).1 e)
  · exact (hM.f2.keep hT5 (fun b hb e => (h.wvn b e).2.2 hb)).keep hT6 (fun b hb e => h.g2 (by subst e; exact hb))
  · refine ⟨css ++ [t.cells p q], by simp [hcl, St.done], ho5.keep hT6 (fun r e e' => ?_), fun i t' cs e1 e2 => ?_⟩
    · subst e'
      rcases hv5 r e with q | q
      · exact (h.wvn r q).1 rfl
      · omega
    · have hth : ThAt w X t' cs := by
        have e1' : (s.waits ++ [t])[i]? = some t' := e1
        rcases Nat.lt_or_ge i s.waits.length with hi | hi
        · rw [List.getElem?_append_left hi] at e1'
          rw [List.getElem?_append_left (by omega)] at e2
          exact hct i t' cs e1' e2
        · rw [List.getElem?_append_right hi] at e1'
          rw [List.getElem?_append_right (by omega)] at e2
          have hi0 : i - s.waits.length = 0 := by
            rcases Nat.eq_zero_or_pos (i - s.waits.length) with q | q
            · exact q
            · rw [List.getElem?_eq_none (by simp; omega)] at e1'; cases e1'
          rw [hi0] at e1'
          rw [hcl, hi0] at e2
          simp at e1' e2
          subst e1' e2
          exact ht
      exact (hth.wide hX').keep hTw (fun b _ e => .inl (h.inX b e))
  · intro r e
    rcases hv5 r e with q | q
    · exact ⟨(h.wvn r q).1, fun e' => (hnew1 r e').2.2 r q rfl, (h.wvn r q).2.2⟩
    · exact ⟨by omega, fun e' => by
        rcases e' with e' | e'
        · have := h.lt r (h.s1_in r e'); omega
        · omega, fun e' => by have := h.lt r (h.s2_in r e'); omega⟩
  · rintro b (e | e | e)
    · have := h.lt b e; omega
    · rcases e with e | e
      · have := h.lt b (h.s1_in b e); omega
      · omega
    · have := ho5.lt e; omega
set_option maxRecDepth 100000 in
set_option maxHeartbeats 4000000 in
theorem carry_any {w : World} {S X : Nat → Prop} {g : Nat} {s : St} (h : Dk w S X g s) (t : Th) (p q : Nat) (ht : ThAt w X t (t.cells p q)) (hcan : t.can s.files) (hroom : total (t.on s.files) ≤ s.room) (hn : t.name.length ≤ 24) (hsz : s.size < 900000) :
    Calls Try.prog 49 #[.pointer (some ⟨g, 0, none⟩), .agg (t.cells p q)] w fun e w' => e = .returned (.tuple #[]) ∧ Wrote w S X g (s.done t) w' := by
  obtain ⟨m1, m2, S1, S2, wv, h⟩ := h
  have hen := enters_do t
  have hgl := h.blk.lt
  rw [Th.cells_eq]
  go_enter Try.func49, Try.ntmps49
  go_wp2_with fail
  rw [← Th.cells_eq]
  have hb1 : Below w.heap.size w (w.alloc (.cells (t.cells p q) 92)) := (Below.refl _ _).alloc (Nat.le_refl _) _
  have bx : Blk (w.alloc (.cells (t.cells p q) 92)) w.heap.size 92 (t.cells p q) := Blk.new _ _ _
  have hz1 : w.heap.size < (w.alloc (.cells (t.cells p q) 92)).heap.size := by simp
  have h1 : DkAt (w.alloc (.cells (t.cells p q) 92)).drew S X g s m1 m2 S1 S2 wv := h.keep (T := No) ((Turn.of_below hb1 No).drew) (fun _ _ h => h.elim)
  have ht1 : ThAt (w.alloc (.cells (t.cells p q) 92)).drew X t (t.cells p q) := ht.keep (S := No) ((Turn.of_below hb1 No).drew) (fun _ _ h => h.elim)
  have hfn : (w.alloc (.cells (t.cells p q) 92)).cell? ⟨w.heap.size, 4, none⟩ = some (.func (.func t.fn) #[] (t.lb p q)) := by rw [bx.cell 4, Th.cells_eq]; rfl
  generalize w.alloc (.cells (t.cells p q) 92) = w1 at *
  have hdo := do_any t p q ht1 h1.f1 g 0 h1.g1 (h1.blk.cell 0) (h1.blk.cell 1) (h1.blk.frozen 1) hn hcan (Nat.le_trans h1.ok.total_le h1.ok.2.1) (Nat.le_trans hroom h1.ok.2.1) (by have := s.files_len; omega)
  refine wp_region_np ?_
  refine wp_region_held_drew (S := fun W => W.cell? ⟨w.heap.size, 4, none⟩ = some (.func (.func t.fn) #[] (t.lb p q))) (by kernel_rfl) hfn (fun hHeld => ?_)
  refine wpAnyH_takeAt (i := 0) (d := 4) (v := ?vp0) rfl rfl (by kernel_rfl) (by kernel_rfl) (by kernel_rfl) (fun _ _ _ h => h) (Or.inl ⟨by rfl, ?hyp0⟩) hHeld ?_
  case hyp0 =>
    intro W hSw
    clear hSw
    (go_simp; try with_reducible rfl)
  simp only [List.setIfInBounds_toArray, List.set_cons_zero, List.set_cons_succ]
  refine wpAnyH_takeAt (i := 1) (d := 5) (v := ?vp1) rfl rfl (by kernel_rfl) (by kernel_rfl) (by kernel_rfl) (fun _ _ _ h => h) (Or.inl ⟨by rfl, ?hyp1⟩) hHeld ?_
  case hyp1 =>
    intro W hSw
    have sc := hSw
    (go_simp; try with_reducible rfl)
  simp only [List.setIfInBounds_toArray, List.set_cons_zero, List.set_cons_succ]
  refine wpAnyH_takeAt (i := 2) (d := 6) (v := ?vp2) rfl rfl (by kernel_rfl) (by kernel_rfl) (by kernel_rfl) (fun _ _ _ h => h) (Or.inl ⟨by rfl, ?hyp2⟩) hHeld ?_
  case hyp2 =>
    intro W hSw
    clear hSw
    (go_simp; try with_reducible rfl)
  simp only [List.setIfInBounds_toArray, List.set_cons_zero, List.set_cons_succ]
  refine wpAnyH_takeAt (i := 3) (d := 7) (v := ?vp3) rfl rfl (by kernel_rfl) (by kernel_rfl) (by kernel_rfl) (fun _ _ _ h => h) (Or.inl ⟨by rfl, ?hyp3⟩) hHeld ?_
  case hyp3 =>
    intro W hSw
    clear hSw
    (go_simp; try with_reducible rfl)
  simp only [List.setIfInBounds_toArray, List.set_cons_zero, List.set_cons_succ]
  refine wpAnyH_takeAt (i := 4) (d := 8) (v := ?vp4) rfl rfl (by kernel_rfl) (by kernel_rfl) (by kernel_rfl) (fun _ _ _ h => h) (Or.inl ⟨by rfl, ?hyp4⟩) hHeld ?_
  case hyp4 =>
    intro W hSw
    clear hSw
    (go_simp; try with_reducible rfl)
  simp only [List.setIfInBounds_toArray, List.set_cons_zero, List.set_cons_succ]
  refine wpAnyH_ready (rs := [5]) (by kernel_rfl) (by simp) (AllReadyH.cons rfl (fun K hK => ?_) AllReadyH.nil)
  go_simp
  refine hdo.mono ?_
  rintro e w2 ⟨rfl, hD⟩
  obtain ⟨hM, hT2⟩ := h1.did1 hD
  have hnS : ¬ S w.heap.size := fun e => by have := h.lt _ e; omega
  have hfn2 : w2.cell? ⟨w.heap.size, 4, none⟩ = some (.func (.func t.fn) #[] (t.lb p q)) := (hT2.cell (p := ⟨w.heap.size, 4, none⟩) hz1 hnS).trans hfn
  dsimp only
  refine hK.out _ _ hfn2 (fun hHeld => ?_)
  clear hK K
  try simp only [List.setIfInBounds_toArray, List.set_cons_zero, List.set_cons_succ]
  refine wpAnyH_done (by kernel_rfl) ?_ _
  have bx2 : Blk w2 w.heap.size 92 (t.cells p q) := Blk.keep (w := w1.drew) bx hT2 hnS
  rw [Th.cells_eq] at bx2
  have hgl2 : g < w2.heap.size := hM.blk.lt
  have hgne : g ≠ w.heap.size := by omega
  obtain ⟨css, hcl, hck0, hct⟩ := h.ts
  have hb1d : Below w.heap.size w w1.drew := hb1.drew
  have hck : OwnK w2 92 5 wv css := (hck0.below hb1d).keep hD.2.1 (fun r e e' => e'.elim (h.wvn r e).2.1 (h.wvn r e).1)
  obtain ⟨A0, q0, c0, rfl, hq0, hc0, hm0⟩ := hck.form
  have hw4 : w2.cell? ⟨g, 4, none⟩ = some (.slice A0 q0 c0) := hM.blk.cell 4
  have hz4 : w2.frozen? ⟨g, 4, none⟩ = false := hM.blk.frozen 4
  obtain ⟨v5, w5, hrun, ho5, hg5⟩ := run_append_k el80 (w2.alloc (.cells #[.int .i64 t.deed, .string (str t.name), .string (str t.bytes), .int .i64 t.num, .func (.func t.fn) #[] (t.lb p q)] 92)).drew (.slice A0 q0 c0) css (show OwnK (w2.alloc (.cells #[.int .i64 t.deed, .string (str t.name), .string (str t.bytes), .int .i64 t.num, .func (.func t.fn) #[] (t.lb p q)] 92)).drew 92 5 (.slice A0 q0 c0) css from hck.alloc _) No (some ⟨w2.heap.size, 0, none⟩) 1 1 [#[.int .i64 t.deed, .string (str t.name), .string (str t.bytes), .int .i64 t.num, .func (.func t.fn) #[] (t.lb p q)]] (show Rd (w2.alloc (.cells #[.int .i64 t.deed, .string (str t.name), .string (str t.bytes), .int .i64 t.num, .func (.func t.fn) #[] (t.lb p q)] 92)).drew No 5 (some ⟨w2.heap.size, 0, none⟩) 1 [#[.int .i64 t.deed, .string (str t.name), .string (str t.bytes), .int .i64 t.num, .func (.func t.fn) #[] (t.lb p q)]] from rd_one w2 92 #[.int .i64 t.deed, .string (str t.name), .string (str t.bytes), .int .i64 t.num, .func (.func t.fn) #[] (t.lb p q)] rfl (by have := t.cells_one p q; rwa [Th.cells_eq] at this) (fun h => h)) 80 (by have := hcl; unfold St.size at hsz; omega) (by omega)
  have hg5' : Grew (.slice A0 q0 c0) w2 v5 w5 := (Grew.alloc (w := w2) _).trans hg5.of_drew
  have hn5 : ∀ r, Value.ownBlock (.slice A0 q0 c0) = some r → r ≠ g ∧ r ≠ w.heap.size := fun r e => ⟨(h1.wvn r e).1, fun e' => by have := h.lt r (h.wv_in r e); omega⟩
  have bx5 := bx2.keep (hg5'.turn (S := fun r => Value.ownBlock (.slice A0 q0 c0) = some r) (fun _ e => e)) (fun e => (hn5 _ e).2 rfl)
  have hT5 : Turn (fun r => Value.ownBlock (.slice A0 q0 c0) = some r) w2 w5 := hg5'.turn (fun _ e => e)
  have hw5 : w5.cell? ⟨g, 4, none⟩ = some (.slice A0 q0 c0) := (hT5.cell (p := ⟨g, 4, none⟩) hgl2 (fun e => (hn5 _ e).1 rfl)).trans hw4
  have hz5 : w5.frozen? ⟨g, 4, none⟩ = false := (hT5.frozen (p := ⟨g, 4, none⟩) hgl2 (fun e => (hn5 _ e).1 rfl)).trans hz4
  obtain ⟨A5, q5, c5, rfl, -, -, -⟩ := ho5.form
  have ho5' : OwnK w5 92 5 (.slice A5 q5 c5) (css ++ [t.cells p q]) := by rw [Th.cells_eq]; exact ho5
  clear hq0 hm0 hdo hfn hen
  go_wp2_with fail
  apply wp_region_to
  case h =>
    refine wp_region_np ?_
    refine wp_region_held_drew (S := fun W => Blk W w.heap.size 92 #[.int .i64 t.deed, .string (str t.name), .string (str t.bytes), .int .i64 t.num, .func (.func t.fn) #[] (t.lb p q)]) (by kernel_rfl) bx2 (fun hHeld => ?_)
    refine wpAnyH_takeAt (i := 0) (d := 10) (v := ?vr0) rfl rfl (by kernel_rfl) (by kernel_rfl) (by kernel_rfl) (fun _ _ _ h => h) (Or.inl ⟨by rfl, ?hyr0⟩) hHeld ?_
    case hyr0 =>
      intro W hSw
      clear hSw
      (go_simp; try with_reducible rfl)
    simp only [List.setIfInBounds_toArray, List.set_cons_zero, List.set_cons_succ]
    refine wpAnyH_takeAt (i := 1) (d := 11) (v := ?vr1) rfl rfl (by kernel_rfl) (by kernel_rfl) (by kernel_rfl) (fun _ _ _ h => h) (Or.inl ⟨by rfl, ?hyr1⟩) hHeld ?_
    case hyr1 =>
      intro W hSw
      clear hSw
      (go_simp; try with_reducible rfl)
    simp only [List.setIfInBounds_toArray, List.set_cons_zero, List.set_cons_succ]
    refine wpAnyH_takeAt (i := 2) (d := 12) (v := ?vr2) rfl rfl (by kernel_rfl) (by kernel_rfl) (by kernel_rfl) (fun _ _ _ h => h) (Or.inl ⟨by rfl, ?hyr2⟩) hHeld ?_
    case hyr2 =>
      intro W hSw
      clear hSw
      (go_simp; try with_reducible rfl)
    simp only [List.setIfInBounds_toArray, List.set_cons_zero, List.set_cons_succ]
    refine wpAnyH_takeAt (i := 3) (d := 13) (v := ?vr3) rfl rfl (by kernel_rfl) (by kernel_rfl) (by kernel_rfl) (fun _ _ _ h => h) (Or.inl ⟨by rfl, ?hyr3⟩) hHeld ?_
    case hyr3 =>
      intro W hSw
      clear hSw
      (go_simp; try with_reducible rfl)
    simp only [List.setIfInBounds_toArray, List.set_cons_zero, List.set_cons_succ]
    refine wpAnyH_takeAt (i := 5) (d := 15) (v := ?vr5) rfl rfl (by kernel_rfl) (by kernel_rfl) (by kernel_rfl) (fun _ _ _ h => h) (Or.inl ⟨by rfl, ?hyr5⟩) hHeld ?_
    case hyr5 =>
      intro W hSw
      obtain ⟨s0, s1, s2, s3, s4⟩ := Blk.five (show Blk W w.heap.size 92 #[.int .i64 t.deed, .string (str t.name), .string (str t.bytes), .int .i64 t.num, .func (.func t.fn) #[] (t.lb p q)] from hSw)
      (go_simp; try with_reducible rfl)
    simp only [List.setIfInBounds_toArray, List.set_cons_zero, List.set_cons_succ]
    refine wpAnyH_ready (rs := [4, 6]) (by kernel_rfl) (by simp) (AllReadyH.cons rfl (fun K hK => ?_) (AllReadyH.cons rfl (fun K hK => ?_) AllReadyH.nil))
    · go_simp
      refine hK.out _ _ hHeld (fun hHeld => ?_)
      clear hK K
      try simp only [List.setIfInBounds_toArray, List.set_cons_zero, List.set_cons_succ]
      refine wpAnyH_ready (rs := [6]) (by kernel_rfl) (by simp) (AllReadyH.cons rfl (fun K hK => ?_) AllReadyH.nil)
      go_simp
      refine hK.out _ _ (Blk.alloc (w := w2.drew) bx2 _) (fun hHeld => ?_)
      clear hK K
      try simp only [List.setIfInBounds_toArray, List.set_cons_zero, List.set_cons_succ]
      refine wpAnyH_ready (rs := [7]) (by kernel_rfl) (by simp) (AllReadyH.cons rfl (fun K hK => ?_) AllReadyH.nil)
      refine step_append_eq (d := 17) (by rfl) rfl _ _ (by rfl) _ _ (by rfl) (by rfl) hrun ?_
      refine hK.out _ _ bx5 (fun hHeld => ?_)
      clear hK K
      try simp only [List.setIfInBounds_toArray, List.set_cons_zero, List.set_cons_succ]
      refine wpAnyH_takeAt (i := 8) (d := 18) (v := ?vra8) rfl rfl (by kernel_rfl) (by kernel_rfl) (by kernel_rfl) (fun _ _ _ h => h) (Or.inl ⟨by rfl, ?hyra8⟩) hHeld ?_
      case hyra8 =>
        intro W hSw
        clear hSw
        (go_simp; try with_reducible rfl)
      simp only [List.setIfInBounds_toArray, List.set_cons_zero, List.set_cons_succ]
      refine wpAnyH_takeAt (i := 9) (d := 19) (v := ?vra9) rfl rfl (by kernel_rfl) (by kernel_rfl) (by kernel_rfl) (fun _ _ _ h => h) (Or.inl ⟨by rfl, ?hyra9⟩) hHeld ?_
      case hyra9 =>
        intro W hSw
        clear hSw
        (go_simp; try with_reducible rfl)
      simp only [List.setIfInBounds_toArray, List.set_cons_zero, List.set_cons_succ]
      refine wpAnyH_ready (rs := [10]) (by kernel_rfl) (by simp) (AllReadyH.cons rfl (fun K hK => ?_) AllReadyH.nil)
      go_simp
      refine hK.out _ _ (bx5.far (p := ⟨g, 4, none⟩) (by show w.heap.size ≠ g; omega) _) (fun hHeld => ?_)
      clear hK K
      try simp only [List.setIfInBounds_toArray, List.set_cons_zero, List.set_cons_succ]
      refine wpAnyH_done (by kernel_rfl) ?_ _
      exact ⟨rfl, rfl, rfl⟩
    · go_simp
      refine hK.out _ _ (Blk.alloc (w := w2.drew) bx2 _) (fun hHeld => ?_)
      clear hK K
      try simp only [List.setIfInBounds_toArray, List.set_cons_zero, List.set_cons_succ]
      refine wpAnyH_ready (rs := [4]) (by kernel_rfl) (by simp) (AllReadyH.cons rfl (fun K hK => ?_) AllReadyH.nil)
      go_simp
      refine hK.out _ _ hHeld (fun hHeld => ?_)
      clear hK K
      try simp only [List.setIfInBounds_toArray, List.set_cons_zero, List.set_cons_succ]
      refine wpAnyH_ready (rs := [7]) (by kernel_rfl) (by simp) (AllReadyH.cons rfl (fun K hK => ?_) AllReadyH.nil)
      refine step_append_eq (d := 17) (by rfl) rfl _ _ (by rfl) _ _ (by rfl) (by rfl) hrun ?_
      refine hK.out _ _ bx5 (fun hHeld => ?_)
      clear hK K
      try simp only [List.setIfInBounds_toArray, List.set_cons_zero, List.set_cons_succ]
      refine wpAnyH_takeAt (i := 8) (d := 18) (v := ?vrb8) rfl rfl (by kernel_rfl) (by kernel_rfl) (by kernel_rfl) (fun _ _ _ h => h) (Or.inl ⟨by rfl, ?hyrb8⟩) hHeld ?_
      case hyrb8 =>
        intro W hSw
        clear hSw
        (go_simp; try with_reducible rfl)
      simp only [List.setIfInBounds_toArray, List.set_cons_zero, List.set_cons_succ]
      refine wpAnyH_takeAt (i := 9) (d := 19) (v := ?vrb9) rfl rfl (by kernel_rfl) (by kernel_rfl) (by kernel_rfl) (fun _ _ _ h => h) (Or.inl ⟨by rfl, ?hyrb9⟩) hHeld ?_
      case hyrb9 =>
        intro W hSw
        clear hSw
        (go_simp; try with_reducible rfl)
      simp only [List.setIfInBounds_toArray, List.set_cons_zero, List.set_cons_succ]
      refine wpAnyH_ready (rs := [10]) (by kernel_rfl) (by simp) (AllReadyH.cons rfl (fun K hK => ?_) AllReadyH.nil)
      go_simp
      refine hK.out _ _ (bx5.far (p := ⟨g, 4, none⟩) (by show w.heap.size ≠ g; omega) _) (fun hHeld => ?_)
      clear hK K
      try simp only [List.setIfInBounds_toArray, List.set_cons_zero, List.set_cons_succ]
      refine wpAnyH_done (by kernel_rfl) ?_ _
      exact ⟨rfl, rfl, rfl⟩
  case hc =>
    go_end0
    refine ⟨rfl, carried h hb1d ⟨hM, hT2, hD.2.1⟩ hcl hct ht ho5' hg5' hcan hroom⟩
end Go.Proofs.Ythhiiimmgghhaaa
