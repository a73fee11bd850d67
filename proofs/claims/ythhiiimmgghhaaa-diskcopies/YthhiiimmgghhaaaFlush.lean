/-
  disk.Flush: all lasts, nothing waits. Condition: at most 900000 files and things.
-/
import Derived.Test.YthhiiimmgghhaaaRound
import Derived.Test.YthhiiimmgghhaaaActs
namespace Go.Proofs.Ythhiiimmgghhaaa
open Go.RowKit Go.Shelf
attribute [local go_sem] Oper.semAt_some
theorem OwnT.cells {w : World} {X : Nat → Prop} {v : Value} {ts : List Th} (h : OwnT w X v ts) : ∃ css, css.length = ts.length ∧ OwnK w 92 5 v css ∧ (∀ cs ∈ css, ∃ (t : Th) (p q : Nat), cs = t.cells p q) ∧ ∀ (i : Nat) (t : Th), ts[i]? = some t → ∃ p q, css[i]? = some (t.cells p q) ∧ ThAt w X t (t.cells p q) := by
  obtain ⟨css, h1, h2, h3⟩ := h
  refine ⟨css, h1, h2, fun cs hcs => ?_, fun i t hi => ?_⟩
  · obtain ⟨i, hi, rfl⟩ := List.getElem_of_mem hcs
    have hlt : i < ts.length := by omega
    obtain ⟨p, q, e, _⟩ := h3 i ts[i] css[i] (List.getElem?_eq_getElem hlt) (List.getElem?_eq_getElem hi)
    exact ⟨ts[i], p, q, e⟩
  · have hlt := (List.getElem?_eq_some_iff.1 hi).1
    have hc : css[i]? = some (css[i]'(by omega)) := List.getElem?_eq_getElem (by omega)
    have ht := h3 i t _ hi hc
    obtain ⟨p, q, e, hr⟩ := ht
    exact ⟨p, q, by rw [hc, e], ⟨p, q, rfl, hr⟩⟩
/-- How a disk stands between two rounds of a flush. -/
def Flushing (w0 : World) (g : Nat) (s : St) (m1 m2 : Nat) (S2 : Nat → Prop) (wv : Value) (k : Nat) (W : World) : Prop :=
  ∃ S2' : Nat → Prop, (∀ b, S2' b → S2 b ∨ w0.heap.size + 2 ≤ b) ∧ (∀ b, S2 b → S2' b) ∧
    Blk W g 82 #[.map (some m1), .int .i64 (total s.files : Int), .map (some m2), .int .i64 (total (after s.lasts (s.waits.take k)) : Int), wv, .int .i64 (s.room : Int)] ∧
    FM W S2' m2 (after s.lasts (s.waits.take k)) ∧ Turn (fun b => S2 b ∨ b = g) w0 W
theorem flushing_abide {w0 : World} {g : Nat} {s : St} {m1 m2 : Nat} {S2 : Nat → Prop} {wv : Value} (hg : g < w0.heap.size) (hS : ∀ b, S2 b → b < w0.heap.size) : AbideB w0.heap.size (Flushing w0 g s m1 m2 S2 wv) := fun k A A' hs ht => by
  obtain ⟨S2', h1, h2, h3, h4, h5⟩ := hs
  refine ⟨S2', h1, h2, h3.keep ht (fun e => ?_), h4.keep ht (fun b hb e => ?_), h5.trans ht (fun b hb e => ?_)⟩
  · rcases e with e | e <;> omega
  · rcases h1 b hb with q | q
    · have := hS b q; rcases e with e | e <;> omega
    · rcases e with e | e <;> omega
  · rcases e with e | e <;> omega
theorem take_next {ts : List Th} {k : Nat} {t : Th} (h : ts[k]? = some t) (l : FL) : after l (ts.take (k + 1)) = t.on (after l (ts.take k)) := by
  have hlt := (List.getElem?_eq_some_iff.1 h).1
  rw [List.take_add_one, h]
  exact after_snoc _ _ _
theorem Fine.next {room : Nat} {ts : List Th} {l : FL} {k : Nat} {t : Th} (h : Fine room l ts) (hk : ts[k]? = some t) : t.can (after l (ts.take k)) ∧ total (after l (ts.take k)) ≤ room ∧ total (t.on (after l (ts.take k))) ≤ room := by
  have hlt := (List.getElem?_eq_some_iff.1 hk).1
  have hd : ts.drop k = t :: ts.drop (k + 1) := by
    rw [List.drop_eq_getElem_cons hlt]; rw [List.getElem?_eq_getElem hlt] at hk; injection hk with hk; rw [hk]
  have := h.at_ (ts.take k) (rest := t :: ts.drop (k + 1)) (by rw [← hd, List.take_append_drop])
  exact ⟨this.2.1, this.1, this.2.2.head⟩
theorem name_of_can {w : World} {S : Nat → Prop} {m : Nat} {l : FL} (h : FM w S m l) {t : Th} (hc : t.can l) : t.name.length ≤ 24 := by
  obtain ⟨vs, _, _, _, _, _, h6, _⟩ := h
  cases t with
  | put n b => exact hc
  | cut n k => obtain ⟨b, hb, _⟩ := hc; exact (h6 n b hb).1
  | rem n => obtain ⟨b, hb⟩ := hc; exact (h6 n b hb).1
set_option maxRecDepth 100000 in
set_option maxHeartbeats 4000000 in
theorem diskFlush_any {w : World} {S X : Nat → Prop} {g : Nat} {s : St} (h : Dk w S X g s) (hsz : s.size < 900000) :
    Calls Try.prog 21 #[.pointer (some ⟨g, 0, none⟩)] w fun e w' => e = .returned (.int .i64 0) ∧ Wrote w S X g s.flush w' := by
  obtain ⟨m1, m2, S1, S2, wv, h⟩ := h
  refine (callsIn_wide (n := 3)).1 ?_
  refine callsIn_of_wp_marks Try.func21 rfl trivial ?_ rfl
  simp only [Try.ntmps21, List.size_toArray, List.length_cons, List.length_nil, Nat.reduceAdd, Nat.reduceSub, Array.replicate_succ, Array.replicate_zero, List.push_toArray, List.append_toArray, List.nil_append, List.cons_append]
  gi_wp2_with fail
  have hb1 : Below w.heap.size w (w.alloc (.cells #[.pointer (some ⟨g, 0, none⟩)] 22)) := (Below.refl _ _).alloc (Nat.le_refl _) _
  have hx1 : (w.alloc (.cells #[.pointer (some ⟨g, 0, none⟩)] 22)).cell? ⟨w.heap.size, 0, none⟩ = some (.pointer (some ⟨g, 0, none⟩)) := (Blk.new w 22 _).cell 0
  have h1 := h.keep (T := No) (Turn.of_below hb1 No) (fun _ _ h => h.elim)
  generalize w.alloc (.cells #[.pointer (some ⟨g, 0, none⟩)] 22) = w1 at *
  refine ⟨trivial, (callsIn_wide.2 (made_yes g s.room w1 (h1.blk.cell 5) h.ok.1)).mono ?_⟩
  rintro e w' ⟨rfl, rfl⟩
  gi_wp2_with fail
  refine ⟨trivial, (callsIn_wide.2 (inTurn_any g w1)).mono ?_⟩
  rintro e w2 ⟨rfl, hw2⟩
  have hb2 : Below w1.heap.size w1 w2 := by rw [← hw2]; exact (Below.refl _ _).alloc (Nat.le_refl _) _
  have hx2 : w2.cell? ⟨w1.heap.size, 0, none⟩ = some (.pointer (some ⟨g, 0, none⟩)) := by rw [← hw2]; exact (Blk.new w1 22 _).cell 0
  have hx3 : w2.cell? ⟨w.heap.size, 0, none⟩ = some (.pointer (some ⟨g, 0, none⟩)) := (hb2.cell (p := ⟨w.heap.size, 0, none⟩) (block_lt_of_cell hx1)).trans hx1
  have h2 := h1.keep (T := No) (Turn.of_below hb2 No) (fun _ _ h => h.elim)
  clear hw2 hx1
  gi_wp2_with fail
  obtain ⟨css, hcl, hck, hform, hth⟩ := h2.ts.cells
  have hgl := h2.blk.lt
  have hsw : s.waits.length < 900000 := by unfold St.size at hsz; omega
  have hat : ∀ k, k < css.length → ∃ (t : Th) (p q : Nat), s.waits[k]? = some t ∧ css.getD k #[] = t.cells p q ∧ encT css k = #[.int .i64 (k : Int), .agg (t.cells p q)] ∧ ThAt w2 X t (t.cells p q) := fun k hk => by
    have hlt : k < s.waits.length := by omega
    obtain ⟨p, q, e1, e2⟩ := hth k s.waits[k] (List.getElem?_eq_getElem hlt)
    exact ⟨s.waits[k], p, q, List.getElem?_eq_getElem hlt, by rw [List.getD_eq_getElem?_getD, e1]; rfl, encT_at e1, e2⟩
  refine range_n rfl (by omega) (gf := 66) (lb := #[.pointer (some ⟨w1.heap.size, 0, none⟩)]) rfl trivial (enters_of Try.func66 (by kernel_rfl) rfl)
    (iter_in (3 - 1) (by omega) w1.heap.size g wv css w2 hx2 (h2.blk.cell 4) hck hform (by omega))
    (fun h h' => ⟨Nat.le_trans h.1 h'.1, fun r e => (h'.2 r e).trans (h.2 r e)⟩)
    (fun W W' ht hz => ⟨ht.size, fun r e => ht.block r (by have := h2.lt r (h2.wv_in r e); omega) (fun e' => by have := h2.lt r (h2.wv_in r e); rcases e' with e' | e' <;> omega)⟩) (fun _ => rfl)
    (Flushing w2 g s m1 m2 S2 wv) (fun _ _ _ => False) (flushing_abide hgl (fun b hb => h2.lt b (h2.s2_in b hb))) (fun _ _ _ _ h _ => h)
    ⟨S2, fun b hb => .inl hb, fun b hb => hb, h2.blk, h2.f2, Turn.refl _ _⟩ (fun k => .cells (css.getD k #[]) 92)
    (fun k b => { tmps := #[.pointer (some ⟨g, 0, none⟩), .pointer (some ⟨w.heap.size, 0, none⟩), .int .i64 0, undef, .pointer (some ⟨b, 0, none⟩), .pointer (some ⟨g, 0, none⟩), .bool true, .bool false, .pointer (some ⟨g, 0, none⟩), .func (.func 66) #[] #[.pointer (some ⟨w1.heap.size, 0, none⟩)], .int .i64 (k : Int), .agg (css.getD k #[]), undef, undef, undef, undef, undef, undef, undef, undef, undef], defers := [] }) ?assign ?body ?done ?stop
  case assign =>
    intro l k W K hk hK
    obtain ⟨t, p, q, _, e1, e2, _⟩ := hat k hk
    rw [e2]
    rw [e1] at hK
    rw [Th.cells_eq] at hK ⊢
    gi_wp2
    exact hK
  case body =>
    intro l k W0 W hI0 hk hob hbB hTW
    obtain ⟨t, p, q, hwk, e1, e2, hta⟩ := hat k hk
    have hbS : ∀ S2' : Nat → Prop, FM W0 S2' m2 (after s.lasts (s.waits.take k)) → ¬ S2' W0.heap.size := fun S2' hF e => by have := hF.lt e; omega
    obtain ⟨S2', hs1, hs2, hblk0, hF0, hT0⟩ := hI0
    have hbn := hbS S2' hF0
    obtain ⟨b, hbe⟩ : ∃ b, b = W0.heap.size := ⟨_, rfl⟩
    rw [← hbe] at hob hbB hbn ⊢
    have hblk := hblk0.keep hTW (fun e => by rcases e with e | e <;> omega)
    have hF := hF0.keep hTW (fun b hb e => by
      rcases hs1 b hb with q | q
      · have := h2.lt b (h2.s2_in b q); rcases e with e | e <;> omega
      · rcases e with e | e <;> omega)
    have hT := hT0.trans hTW (fun b hb e => by rcases e with e | e <;> omega)
    clear hblk0 hF0 hT0 hTW hbS hbe
    have hbx : Blk W b 92 (t.cells p q) := by have : W.heap[b]? = some (.cells (css.getD k #[]) 92) := hob; rw [e1] at this; exact this
    have hbz := hbx.lt
    rw [e1]
    have hfin := h2.ok.2.2.2.next hwk
    have hta' : ThAt W X t (t.cells p q) := hta.keep hT (fun b _ e => by
      rcases e with e | e
      · exact h2.inX b (h2.s2_in b e)
      · subst e; exact h2.inX _ h2.g_in)
    have hgS : ¬ S2' g := fun e => by rcases hs1 g e with e | e; exact h2.g2 e; omega
    have hlen : (after s.lasts (s.waits.take k)).length < 1000000 := by
      have := length_after (s.waits.take k) s.lasts
      rw [List.length_take] at this
      unfold St.size at hsz
      omega
    have hdo := do_any t p q (w := W.drew) (hta'.keep (S := No) ((Turn.refl No _).drew) (fun _ _ h => h.elim)) (hF.keep (T := No) ((Turn.refl No _).drew) (fun _ _ h => h)) g 2 hgS (hblk.cell 2) (hblk.cell 3) (hblk.frozen 3) (name_of_can hF hfin.1) hfin.1 (Nat.le_trans hfin.2.1 h2.ok.2.1) (Nat.le_trans hfin.2.2 h2.ok.2.1) hlen
    have hen := enters_do t
    have hx : W.cell? ⟨w.heap.size, 0, none⟩ = some (.pointer (some ⟨g, 0, none⟩)) := (hT.cell (p := ⟨w.heap.size, 0, none⟩) (block_lt_of_cell hx3) (fun e => by
      have hgw := h.blk.lt
      rcases e with e | e
      · have : w.heap.size < w.heap.size := h.lt _ (h.s2_in _ e)
        omega
      · have e' : w.heap.size = g := e
        omega)).trans hx3
    have hfn : W.cell? ⟨b, 4, none⟩ = some (.func (.func t.fn) #[] (t.lb p q)) := by rw [hbx.cell 4, Th.cells_eq]; rfl
    have hdon : ∀ w', Done W.drew S2' g 2 m2 (total (t.on (after s.lasts (s.waits.take k))) : Int) (t.on (after s.lasts (s.waits.take k))) w' → postN w2.heap.size (KeepRow wv) (Flushing w2 g s m1 m2 S2 wv) (fun _ _ _ => False) k W .normal { tmps := #[], defers := [] } w' := by
      rintro w' ⟨hF', hT', hB'⟩
      have hz := hT'.size
      have hT'' : Turn (fun b => S2' b ∨ b = g) W w' := ⟨hT'.os, hT'.tape, hT'.output, hT'.size, hT'.block⟩
      have hWz : w2.heap.size + 2 ≤ W.heap.size := by omega
      have hSlt : ∀ b, S2 b → b < w2.heap.size := fun b hb => h2.lt b (h2.s2_in b hb)
      refine ⟨Both.of_turn hT'' (by omega) (fun e => ?_) (fun e => ?_), ⟨hz, fun r e => hT''.block r ?_ (fun e' => ?_)⟩, More S2' W.drew w', fun b hb => ?_, fun b hb => .inl (hs2 b hb), ?_, ?_, hT.trans hT'' (fun b hb e => ?_)⟩
      · rcases e with e | e
        · rcases hs1 _ e with e | e
          · have := hSlt _ e; omega
          · omega
        · omega
      · rcases e with e | e
        · rcases hs1 _ e with e | e
          · have := hSlt _ e; omega
          · omega
        · omega
      · have := h2.lt r (h2.wv_in r e); omega
      · have hr := h2.lt r (h2.wv_in r e)
        rcases e' with e' | e'
        · rcases hs1 _ e' with e' | e'
          · exact (h2.wvn r e).2.2 e'
          · omega
        · exact (h2.wvn r e).1 e'
      · rcases hb with hb | hb
        · exact hs1 b hb
        · have : W.drew.heap.size = W.heap.size := rfl
          exact .inr (by omega)
      · rw [take_next hwk]
        exact blk_of_set (w := W.drew) hblk hB'
      · rw [take_next hwk]; exact hF'
      · rcases e with e | e
        · rcases hs1 _ e with e | e
          · exact .inl e
          · omega
        · exact .inr e
    have HDON := Lib.hid hdon
    clear hdon hta hta' hF hblk hx3 hx2
    gi_wp2_with fail
    refine round_np ?_
    refine round_held (S := fun W' => W'.cell? ⟨b, 4, none⟩ = some (.func (.func t.fn) #[] (t.lb p q)) ∧ W'.cell? ⟨w.heap.size, 0, none⟩ = some (.pointer (some ⟨g, 0, none⟩))) (by kernel_rfl) (by kernel_rfl) np_out ⟨hfn, hx⟩ (fun hHeld => ?_)
    refine wpAnyH_takeAt (i := 0) (d := 12) (v := ?vf0) rfl rfl (by kernel_rfl) (by kernel_rfl) (by kernel_rfl) (fun _ _ _ h => h) (Or.inl ⟨by rfl, ?hyf0⟩) hHeld ?_
    case hyf0 =>
      intro W hSw
      clear hSw
      (go_simp; try with_reducible rfl)
    simp only [List.setIfInBounds_toArray, List.set_cons_zero, List.set_cons_succ]
    refine wpAnyH_takeAt (i := 1) (d := 13) (v := ?vf1) rfl rfl (by kernel_rfl) (by kernel_rfl) (by kernel_rfl) (fun _ _ _ h => h) (Or.inl ⟨by rfl, ?hyf1⟩) hHeld ?_
    case hyf1 =>
      intro W hSw
      obtain ⟨sc, sd⟩ := hSw
      (go_simp; try with_reducible rfl)
    simp only [List.setIfInBounds_toArray, List.set_cons_zero, List.set_cons_succ]
    refine wpAnyH_takeAt (i := 2) (d := 14) (v := ?vf2) rfl rfl (by kernel_rfl) (by kernel_rfl) (by kernel_rfl) (fun _ _ _ h => h) (Or.inl ⟨by rfl, ?hyf2⟩) hHeld ?_
    case hyf2 =>
      intro W hSw
      obtain ⟨sc, sd⟩ := hSw
      (go_simp; try with_reducible rfl)
    simp only [List.setIfInBounds_toArray, List.set_cons_zero, List.set_cons_succ]
    refine wpAnyH_takeAt (i := 3) (d := 15) (v := ?vf3) rfl rfl (by kernel_rfl) (by kernel_rfl) (by kernel_rfl) (fun _ _ _ h => h) (Or.inl ⟨by rfl, ?hyf3⟩) hHeld ?_
    case hyf3 =>
      intro W hSw
      clear hSw
      (go_simp; try with_reducible rfl)
    simp only [List.setIfInBounds_toArray, List.set_cons_zero, List.set_cons_succ]
    refine wpAnyH_takeAt (i := 4) (d := 16) (v := ?vf4) rfl rfl (by kernel_rfl) (by kernel_rfl) (by kernel_rfl) (fun _ _ _ h => h) (Or.inl ⟨by rfl, ?hyf4⟩) hHeld ?_
    case hyf4 =>
      intro W hSw
      clear hSw
      (go_simp; try with_reducible rfl)
    simp only [List.setIfInBounds_toArray, List.set_cons_zero, List.set_cons_succ]
    refine wpAnyH_ready (rs := [5]) (by kernel_rfl) (by simp) (AllReadyH.cons rfl (fun K hK => ?_) AllReadyH.nil)
    go_simp
    refine hdo.mono ?_
    rintro e w' ⟨rfl, hD⟩
    dsimp only
    have hwn : ¬ S2' w.heap.size := fun e => by
      rcases hs1 _ e with e | e
      · have := h.lt _ (h.s2_in _ e); omega
      · have h3 := hb1.size; have h4 := hb2.size; omega
    have hT3 := hD.2.1
    have hgw := h.blk.lt
    refine hK.out _ _ ⟨(hT3.cell (p := ⟨b, 4, none⟩) hbz (fun e => e.elim hbn (fun e => by have e' : b = g := e; omega))).trans hfn, (hT3.cell (p := ⟨w.heap.size, 0, none⟩) (block_lt_of_cell hx) (fun e => e.elim hwn (fun e => by have e' : w.heap.size = g := e; omega))).trans hx⟩ (fun hHeld => ?_)
    clear hK K
    refine wpAnyH_done (by kernel_rfl) ?_ _
    have := HDON.out w' hD
    exact this
  case done =>
    intro W hI hK
    obtain ⟨S2', hs1, hs2, hblk, hF, hT⟩ := hI
    have htk : s.waits.take css.length = s.waits := by rw [hcl]; exact List.take_length
    rw [htk] at hblk hF
    have hgw := h.blk.lt
    have hx : W.cell? ⟨w.heap.size, 0, none⟩ = some (.pointer (some ⟨g, 0, none⟩)) := (hT.cell (p := ⟨w.heap.size, 0, none⟩) (block_lt_of_cell hx3) (fun e => by
      rcases e with e | e
      · have : w.heap.size < w.heap.size := h.lt _ (h.s2_in _ e)
        omega
      · have e' : w.heap.size = g := e
        omega)).trans hx3
    have hc4 : W.cell? ⟨g, 4, none⟩ = some wv := hblk.cell 4
    have hz4 := hblk.frozen 4
    have hSlt : ∀ b, S2 b → b < w.heap.size := fun b hb => h.lt b (h.s2_in b hb)
    have hz1 := hb1.size
    have hz2 := hb2.size
    have hz3 := hT.size
    have hTw : Turn S w W := ((Turn.of_below hb1 S).trans (Turn.of_below hb2 S) (fun _ _ e => e)).trans hT (fun b hb e => by
      rcases e with e | e
      · exact h.s2_in b e
      · subst e; exact h.g_in)
    have hT4 : Turn (fun b => b = g ∨ b = w2.heap.size) W ((W.setCell ⟨g, 4, none⟩ (.slice none 0 0)).putObj w2.heap.size (.deferred none)) :=
      ((Turn.refl (fun b => b = g ∨ b = w2.heap.size) W).setCell (p := ⟨g, 4, none⟩) (fun _ => .inl rfl) _).trans (turn_putObj _ _ _ (S := fun b => b = g ∨ b = w2.heap.size) (.inr rfl)) (fun _ _ e => e)
    have hb6 : Blk ((W.setCell ⟨g, 4, none⟩ (.slice none 0 0)).putObj w2.heap.size (.deferred none)) g 82 #[.map (some m1), .int .i64 (total s.files : Int), .map (some m2), .int .i64 (total s.files : Int), .slice none 0 0, .int .i64 (s.room : Int)] :=
      ((turn_putObj (W.setCell ⟨g, 4, none⟩ (.slice none 0 0)) w2.heap.size (.deferred none) (S := fun b => b = w2.heap.size) rfl).block g (by rw [setCell_size]; omega) (by omega)).trans (hblk.set_ 4 (.slice none 0 0))
    have hsz6 : ((W.setCell ⟨g, 4, none⟩ (.slice none 0 0)).putObj w2.heap.size (.deferred none)).heap.size ≥ W.heap.size := hT4.size
    have hf1 : FM W S1 m1 s.files := h2.f1.keep hT (fun b hb e => e.elim (fun e => h.apart b hb e) (fun e => h.g1 (by subst e; exact hb)))
    have hS1lt : ∀ b, S1 b → b < w.heap.size := fun b hb => h.lt b (h.s1_in b hb)
    have HW : Hid (Wrote w S X g s.flush ((W.setCell ⟨g, 4, none⟩ (.slice none 0 0)).putObj w2.heap.size (.deferred none))) := Lib.hid (by
      refine ⟨hTw.trans hT4 (fun b hb e => ?_), fun b => S b ∨ S2' b, fun b e => .inl e, fun b e => ?_, m1, m2, S1, S2', .slice none 0 0, ?_⟩
      · rcases e with e | e
        · subst e; exact h.g_in
        · omega
      · rcases e with e | e
        · exact .inl e
        · rcases hs1 b e with e | e
          · exact .inl (h.s2_in b e)
          · exact .inr (by omega)
      · refine { blk := hb6, f1 := hf1.keep hT4 (fun b hb e => ?_), f2 := hF.keep hT4 (fun b hb e => ?_), ts := OwnT.nil _ _, ok := h.ok.flush, g_in := .inl h.g_in, s1_in := fun b e => .inl (h.s1_in b e), s2_in := fun b e => .inr e, wv_in := fun r e => (by cases e), g1 := h.g1, g2 := fun e => ?_, apart := fun b e e' => ?_, wvn := fun r e => (by cases e), inX := fun b e => .inr e, lt := fun b e => ?_ }
        · have := hS1lt b hb
          rcases e with e | e
          · exact h.g1 (by subst e; exact hb)
          · omega
        · rcases e with e | e
          · subst e
            rcases hs1 _ hb with q | q
            · exact h.g2 q
            · omega
          · rcases hs1 _ hb with q | q
            · have := hSlt b q; omega
            · omega
        · rcases hs1 _ e with q | q
          · exact h.g2 q
          · omega
        · rcases hs1 _ e' with q | q
          · exact h.apart b e q
          · have := hS1lt b e; omega
        · rcases e with e | e
          · have := h.lt b e; omega
          · have := hF.lt e; omega)
    have hKD : (W.setCell ⟨g, 4, none⟩ (.slice none 0 0)).heap[w2.heap.size]? = some (.deferred (some [])) := (Below.heap_setCell _ ⟨g, 4, none⟩ _ _ (by show w2.heap.size ≠ g; omega)).trans hK
    clear hTw hT4 hb6 hsz6 hf1 hF hblk hT hx3 hx2 hck h2 h1
    gi_wp2_with fail
    generalize hW9 : W.setCell ⟨g, 4, none⟩ (.slice none 0 0) = W9 at *
    refine ⟨by simp, .inl ⟨_, _, rfl, run_takeDeferred hKD, ?_⟩⟩
    exact ⟨.int .i64 0, by simp [results, Try.results21, go_sem], rfl, HW.out⟩
  case stop => exact fun c k W _ h => h.elim
end Go.Proofs.Ythhiiimmgghhaaa
