/-
  disk.Crash: the disk that a crash leaves; this one stays. Condition: at most 900000 files and things.
-/
import Derived.Test.YthhiiimmgghhaaaFlush
import Derived.Test.YthhiiimmgghhaaaTorn
import Derived.Scope
namespace Go.Proofs.Ythhiiimmgghhaaa
open Go.RowKit Go.Shelf
attribute [local go_sem] Oper.semAt_some
theorem held2 {w : World} {p q : Addr} {x y : Value} (h : w.cell? p = some x ∧ w.cell? q = some y) (o : Obj) : (w.alloc o).cell? p = some x ∧ (w.alloc o).cell? q = some y :=
  ⟨((turn_al w o).cell (block_lt_of_cell h.1) (fun h => h)).trans h.1, ((turn_al w o).cell (block_lt_of_cell h.2) (fun h => h)).trans h.2⟩
/-- How the files of a crash stand between two rounds. -/
def Doing (w0 : World) (lb : Nat) (P0 : Nat → Prop) (m' : Nat) (l : FL) (W : World) : Prop :=
  ∃ S' : Nat → Prop, (∀ b, S' b → P0 b ∨ w0.heap.size + 2 ≤ b) ∧ Blk W lb 78 #[.map (some m'), .int .i64 (total l : Int)] ∧ FM W S' m' l ∧ Turn (fun b => P0 b ∨ b = lb) w0 W
section
variable {w0 W W' : World} {lb : Nat} {P0 : Nat → Prop} {m' : Nat} {l : FL}
theorem Doing.keep (h : Doing w0 lb P0 m' l W) (hlb : lb < w0.heap.size) (hP : ∀ b, P0 b → b < w0.heap.size ∧ b ≠ lb) (ht : Turn (two w0.heap.size) W W') : Doing w0 lb P0 m' l W' := by
  obtain ⟨S', h1, h2, h3, h4⟩ := h
  refine ⟨S', h1, h2.keep ht (fun e => ?_), h3.keep ht (fun b hb e => ?_), h4.trans ht (fun b hb e => ?_)⟩
  · rcases e with e | e <;> omega
  · rcases h1 b hb with q | q
    · have := (hP b q).1; rcases e with e | e <;> omega
    · rcases e with e | e <;> omega
  · rcases e with e | e <;> omega
theorem Doing.go (h : Doing w0 lb P0 m' l W) (hB : w0.heap.size + 2 ≤ W.heap.size) (hlb : lb < w0.heap.size) (hP : ∀ b, P0 b → b < w0.heap.size ∧ b ≠ lb) (t : Th) (p q : Nat) {X : Nat → Prop} (ht : ThAt W X t (t.cells p q))
    (hcan : t.can l) (h1 : total l ≤ 16777216) (h2 : total (t.on l) ≤ 16777216) (hlen : l.length < 1000000) :
    Calls Try.prog t.fn (#[.pointer (some ⟨lb, 0, none⟩)] ++ t.lb p q) W fun e w' => e = .returned (.tuple #[]) ∧ Doing w0 lb P0 m' (t.on l) w' ∧ Turn (fun b => (P0 b ∨ w0.heap.size + 2 ≤ b) ∨ b = lb) W w' := by
  obtain ⟨S', hs, hblk, hF, hT⟩ := h
  have hgS : ¬ S' lb := fun e => by
    rcases hs lb e with e | e
    · exact (hP lb e).2 rfl
    · omega
  refine (do_any t p q ht hF lb 0 hgS (hblk.cell 0) (hblk.cell 1) (hblk.frozen 1) (name_of_can hF hcan) hcan h1 h2 hlen).mono ?_
  rintro e w' ⟨rfl, hF', hT', hB'⟩
  refine ⟨rfl, ⟨More S' W w', fun b hb => ?_, blk_of_set hblk hB', hF', hT.trans hT' (fun b hb e => ?_)⟩, hT'.mono (fun b _ e => ?_)⟩
  · rcases hb with hb | hb
    · exact hs b hb
    · exact .inr (by omega)
  · rcases e with e | e
    · rcases hs _ e with e | e
      · exact .inl e
      · omega
    · exact .inr e
  · rcases e with e | e
    · exact .inl (hs b e)
    · exact .inr e
end
theorem left_some {s : St} {kp tn : Int} {t : Th} (h : s.waits[pick kp s.waits.length]? = some t) : left s kp tn = torn (after s.lasts (s.waits.take (pick kp s.waits.length))) t tn := by
  unfold left; simp only [h]
theorem left_none {s : St} {kp tn : Int} (h : pick kp s.waits.length = s.waits.length) : left s kp tn = s.files := by
  unfold left St.files
  have : s.waits[s.waits.length]? = none := by simp
  simp only [h, this, List.take_length]
theorem field92 (a b c d e : Value) (w : World) : (Instr.field 92 (.agg #[a, b, c, d, e]) 1).run Try.prog w = .ok e w := by kernel_rfl
/-- A disk in new memory. -/
def NewDk (w : World) (s : St) (p : Value) (w' : World) : Prop := ∃ g' S', p = .pointer (some ⟨g', 0, none⟩) ∧ Dk w' S' S' g' s ∧ (∀ b, S' b → w.heap.size ≤ b) ∧ Below w.heap.size w w'
/-- A disk in new memory, apart from block D. -/
def NewDkN (w : World) (s : St) (p : Value) (w' : World) (D : Nat) : Prop := ∃ g' S', p = .pointer (some ⟨g', 0, none⟩) ∧ Dk w' S' (fun b => S' b ∨ b = D) g' s ∧ (∀ b, S' b → w.heap.size ≤ b ∧ b ≠ D) ∧ Below w.heap.size w w'
theorem NewDkN.put {w w' : World} {s : St} {p : Value} {D : Nat} (h : NewDkN w s p w' D) (hD : w.heap.size ≤ D) (x : Obj) : NewDk w s p (w'.putObj D x) := by
  obtain ⟨g', S', rfl, hDk, h1, h2⟩ := h
  have hT := turn_putObj w' D x (S := fun b => b = D) rfl
  refine ⟨g', S', rfl, (hDk.keep hT (fun b _ e => ⟨.inr e, fun e' => (h1 b e').2 e⟩)).wide (fun b _ e => .inl e) (fun b e => e), fun b hb => (h1 b hb).1, h2.trans (hT.below h2.size (fun b e => ?_))⟩
  subst e
  exact hD
set_option maxRecDepth 100000 in
set_option maxHeartbeats 4000000 in
theorem diskCrash_any {w : World} {S X : Nat → Prop} {g : Nat} {s : St} (h : Dk w S X g s) (kp tn : Int) (hsz : s.size < 900000) :
    Calls Try.prog 16 #[.pointer (some ⟨g, 0, none⟩), .agg #[.int .i64 kp, .int .i64 tn]] w fun e w' => ∃ p, e = .returned (.tuple #[p, .int .i64 0]) ∧ NewDk w (s.crash kp tn) p w' := by
  obtain ⟨m1, m2, S1, S2, wv, h⟩ := h
  refine (callsIn_wide (n := 3)).1 ?_
  refine callsIn_of_wp_marks Try.func16 rfl trivial ?_ rfl
  simp only [Try.ntmps16, List.size_toArray, List.length_cons, List.length_nil, Nat.reduceAdd, Nat.reduceSub, Array.replicate_succ, Array.replicate_zero, List.push_toArray, List.append_toArray, List.nil_append, List.cons_append]
  gi_wp2_with fail
  refine (wpIn_wide (n := 3)).2 (wp_scope_straight ((wpIn_wide (n := 3)).1 ?_))
  have hb1 : Below w.heap.size w (w.alloc (.cells #[.int .i64 kp, .int .i64 tn] 37)) := (Below.refl _ _).alloc (Nat.le_refl _) _
  have hx1 : Blk (w.alloc (.cells #[.int .i64 kp, .int .i64 tn] 37)) w.heap.size 37 #[.int .i64 kp, .int .i64 tn] := Blk.new w 37 _
  have h1 := h.keep (T := No) (Turn.of_below hb1 No) (fun _ _ h => h.elim)
  generalize w.alloc (.cells #[.int .i64 kp, .int .i64 tn] 37) = w1 at *
  gi_wp2_with fail
  refine ⟨trivial, (callsIn_wide.2 (made_yes g s.room w1 (h1.blk.cell 5) h.ok.1)).mono ?_⟩
  rintro e w' ⟨rfl, rfl⟩
  gi_wp2_with fail
  refine ⟨trivial, (callsIn_wide.2 (copied_any h1.f2 g 2 (total s.lasts) (h1.blk.cell 2) (h1.blk.cell 3) (total_small h.ok).2)).mono ?_⟩
  rintro e w2 ⟨m', P0, rfl, hF2, hP0, hb2⟩
  gi_wp2_with fail
  have hb3 : Below w2.heap.size w2 (w2.alloc (.cells #[.map (some m'), .int .i64 (total s.lasts : Int)] 78)) := (Below.refl _ _).alloc (Nat.le_refl _) _
  have hl3 : Blk (w2.alloc (.cells #[.map (some m'), .int .i64 (total s.lasts : Int)] 78)) w2.heap.size 78 #[.map (some m'), .int .i64 (total s.lasts : Int)] := Blk.new _ _ _
  have hF3 := hF2.below hb3
  have h3 := (h1.keep (T := No) (Turn.of_below hb2 No) (fun _ _ h => h.elim)).keep (T := No) (Turn.of_below hb3 No) (fun _ _ h => h.elim)
  have hx3 := (hx1.below hb2 hx1.lt).alloc (.cells #[.map (some m'), .int .i64 (total s.lasts : Int)] 78)
  have hlb : w1.heap.size ≤ w2.heap.size := hb2.size
  have hz3 : w2.heap.size < (w2.alloc (.cells #[.map (some m'), .int .i64 (total s.lasts : Int)] 78)).heap.size := by simp
  have hP0l : ∀ b, P0 b → b < w2.heap.size := fun b hb => hF2.lt hb
  have hbw3 : Below w.heap.size w (w2.alloc (.cells #[.map (some m'), .int .i64 (total s.lasts : Int)] 78)) := (hb1.trans (hb2.mono hb1.size)).trans (hb3.mono (Nat.le_trans hb1.size hb2.size))
  generalize w2.alloc (.cells #[.map (some m'), .int .i64 (total s.lasts : Int)] 78) = w3 at *
  obtain ⟨css, hcl, hck0, hform, hth⟩ := h.ts.cells
  have hck3 := hck0.below hbw3
  clear hck0
  obtain ⟨A, q, c, rfl, hq, hqc, hcm⟩ := hck3.form
  have hn : q = s.waits.length := by omega
  have hsw : s.waits.length < 900000 := by unfold St.size at hsz; omega
  have hk3 : w3.cell? ⟨w.heap.size, 0, none⟩ = some (.int .i64 kp) := hx3.cell 0
  have hw3 : w3.cell? ⟨g, 4, none⟩ = some (.slice A q c) := h3.blk.cell 4
  clear hq
  subst hn
  refine (wpIn_wide (n := 3)).2 (wp_region_by (fun a' w' => a' = { tmps := #[.pointer (some ⟨g, 0, none⟩), .agg #[.int .i64 kp, .int .i64 tn], undef, .pointer (some ⟨w.heap.size, 0, none⟩), .pointer none, .int .i64 0, .pointer (some ⟨w2.heap.size, 0, none⟩), .pointer (some ⟨w3.heap.size, 0, none⟩), undef, undef, .pointer (some ⟨g, 0, none⟩), .bool true, .bool false, .pointer (some ⟨g, 0, none⟩), .pointer (some ⟨g, 0, none⟩), .pointer (some ⟨g, 2, none⟩), .agg #[.map (some m'), .int .i64 (total s.lasts : Int)], .pointer (some ⟨w.heap.size, 0, none⟩), .int .i64 kp, .pointer (some ⟨g, 0, none⟩), .pointer (some ⟨g, 0, none⟩), .pointer (some ⟨g, 4, none⟩), .slice A s.waits.length c, .int .i64 (s.waits.length : Int), .int .i64 (pick kp s.waits.length : Int), undef, undef, undef, undef, undef, undef, undef, undef, undef, undef, undef, undef, undef, undef, undef, undef, undef, undef, undef, undef, undef, undef, undef, undef, undef, undef, undef, undef, undef, undef], defers := [] } ∧ w' = (w3.alloc (.cells #[.int .i64 (pick kp s.waits.length : Int)] 3)).drew) ?reg4 ?rest4)
  case reg4 =>
    refine wp_region_np ?_
    refine wp_region_held_drew (S := fun W => W.cell? ⟨w.heap.size, 0, none⟩ = some (.int .i64 kp) ∧ W.cell? ⟨g, 4, none⟩ = some (.slice A s.waits.length c)) (by kernel_rfl) ⟨hk3, hw3⟩ (fun hHeld => ?_)
    refine wpAnyH_takeAt (i := 0) (d := 17) (v := ?vk0) rfl rfl (by kernel_rfl) (by kernel_rfl) (by kernel_rfl) (fun _ _ _ h => h) (Or.inl ⟨by rfl, ?hyk0⟩) hHeld ?_
    case hyk0 =>
      intro W hSw
      clear hSw
      (go_simp; try with_reducible rfl)
    simp only [List.setIfInBounds_toArray, List.set_cons_zero, List.set_cons_succ]
    refine wpAnyH_takeAt (i := 1) (d := 18) (v := ?vk1) rfl rfl (by kernel_rfl) (by kernel_rfl) (by kernel_rfl) (fun _ _ _ h => h) (Or.inl ⟨by rfl, ?hyk1⟩) hHeld ?_
    case hyk1 =>
      intro W hSw
      obtain ⟨sc, sd⟩ := hSw
      (go_simp; try with_reducible rfl)
    simp only [List.setIfInBounds_toArray, List.set_cons_zero, List.set_cons_succ]
    refine wpAnyH_takeAt (i := 2) (d := 19) (v := ?vk2) rfl rfl (by kernel_rfl) (by kernel_rfl) (by kernel_rfl) (fun _ _ _ h => h) (Or.inl ⟨by rfl, ?hyk2⟩) hHeld ?_
    case hyk2 =>
      intro W hSw
      clear hSw
      (go_simp; try with_reducible rfl)
    simp only [List.setIfInBounds_toArray, List.set_cons_zero, List.set_cons_succ]
    refine wpAnyH_takeAt (i := 3) (d := 20) (v := ?vk3) rfl rfl (by kernel_rfl) (by kernel_rfl) (by kernel_rfl) (fun _ _ _ h => h) (Or.inl ⟨by rfl, ?hyk3⟩) hHeld ?_
    case hyk3 =>
      intro W hSw
      clear hSw
      (go_simp; try with_reducible rfl)
    simp only [List.setIfInBounds_toArray, List.set_cons_zero, List.set_cons_succ]
    refine wpAnyH_takeAt (i := 4) (d := 21) (v := ?vk4) rfl rfl (by kernel_rfl) (by kernel_rfl) (by kernel_rfl) (fun _ _ _ h => h) (Or.inl ⟨by rfl, ?hyk4⟩) hHeld ?_
    case hyk4 =>
      intro W hSw
      clear hSw
      (go_simp; try with_reducible rfl)
    simp only [List.setIfInBounds_toArray, List.set_cons_zero, List.set_cons_succ]
    refine wpAnyH_takeAt (i := 5) (d := 22) (v := ?vk5) rfl rfl (by kernel_rfl) (by kernel_rfl) (by kernel_rfl) (fun _ _ _ h => h) (Or.inl ⟨by rfl, ?hyk5⟩) hHeld ?_
    case hyk5 =>
      intro W hSw
      obtain ⟨sc, sd⟩ := hSw
      (go_simp; try with_reducible rfl)
    simp only [List.setIfInBounds_toArray, List.set_cons_zero, List.set_cons_succ]
    refine wpAnyH_takeAt (i := 6) (d := 23) (v := ?vk6) rfl rfl (by kernel_rfl) (by kernel_rfl) (by kernel_rfl) (fun _ _ _ h => h) (Or.inl ⟨by rfl, ?hyk6⟩) hHeld ?_
    case hyk6 =>
      intro W hSw
      clear hSw
      (go_simp; try with_reducible rfl)
    simp only [List.setIfInBounds_toArray, List.set_cons_zero, List.set_cons_succ]
    refine wpAnyH_ready (rs := [7, 8]) (by kernel_rfl) (by simp) (AllReadyH.cons rfl (fun K hK => ?_) (AllReadyH.cons rfl (fun K hK => ?_) AllReadyH.nil))
    · go_simp
      refine (picked_any kp s.waits.length w3.drew (by omega)).mono ?_
      rintro e w' ⟨rfl, rfl⟩
      dsimp only
      refine hK.out _ _ hHeld (fun hHeld => ?_)
      clear hK K
      try simp only [List.setIfInBounds_toArray, List.set_cons_zero, List.set_cons_succ]
      refine wpAnyH_ready (rs := [8]) (by kernel_rfl) (by simp) (AllReadyH.cons rfl (fun K hK => ?_) AllReadyH.nil)
      go_simp
      refine hK.out _ _ (held2 hHeld _) (fun hHeld => ?_)
      clear hK K
      try simp only [List.setIfInBounds_toArray, List.set_cons_zero, List.set_cons_succ]
      refine wpAnyH_ready (rs := [9]) (by kernel_rfl) (by simp) (AllReadyH.cons rfl (fun K hK => ?_) AllReadyH.nil)
      go_simp
      refine hK.out _ _ (held2 (w := w3) ⟨hk3, hw3⟩ _) (fun hHeld => ?_)
      clear hK K
      refine wpAnyH_done (by kernel_rfl) ?_ _
      exact ⟨rfl, rfl, rfl⟩
    · go_simp
      refine hK.out _ _ (held2 hHeld _) (fun hHeld => ?_)
      clear hK K
      try simp only [List.setIfInBounds_toArray, List.set_cons_zero, List.set_cons_succ]
      refine wpAnyH_ready (rs := [7]) (by kernel_rfl) (by simp) (AllReadyH.cons rfl (fun K hK => ?_) AllReadyH.nil)
      go_simp
      refine (picked_any kp s.waits.length _ (by omega)).mono ?_
      rintro e w' ⟨rfl, rfl⟩
      dsimp only
      refine hK.out _ _ hHeld (fun hHeld => ?_)
      clear hK K
      try simp only [List.setIfInBounds_toArray, List.set_cons_zero, List.set_cons_succ]
      refine wpAnyH_ready (rs := [9]) (by kernel_rfl) (by simp) (AllReadyH.cons rfl (fun K hK => ?_) AllReadyH.nil)
      go_simp
      refine hK.out _ _ (held2 (w := w3) ⟨hk3, hw3⟩ _) (fun hHeld => ?_)
      clear hK K
      refine wpAnyH_done (by kernel_rfl) ?_ _
      exact ⟨rfl, rfl, rfl⟩
  case rest4 =>
    rintro a' w4 ⟨rfl, rfl⟩
    have hb4 : Below w3.heap.size w3 (w3.alloc (.cells #[.int .i64 (pick kp s.waits.length : Int)] 3)).drew := ((Below.refl _ _).alloc (Nat.le_refl _) _).drew
    have hkb4 : Blk (w3.alloc (.cells #[.int .i64 (pick kp s.waits.length : Int)] 3)).drew w3.heap.size 3 #[.int .i64 (pick kp s.waits.length : Int)] := Blk.new w3 3 _
    have hz4 : (w3.alloc (.cells #[.int .i64 (pick kp s.waits.length : Int)] 3)).drew.heap.size = w3.heap.size + 1 := by show (w3.alloc _).heap.size = _; simp
    generalize (w3.alloc (.cells #[.int .i64 (pick kp s.waits.length : Int)] 3)).drew = w4 at *
    have HZ4 := Lib.hid hz4
    clear hz4
    gi_wp2_with fail
    refine wpIn_label ?_
    gi_wp2_with fail
    refine ⟨trivial, (callsIn_wide.2 (inTurn_any g w4)).mono ?_⟩
    rintro e w5 ⟨rfl, hw5⟩
    have hb5 : Below w4.heap.size w4 w5 := by rw [← hw5]; exact (Below.refl _ _).alloc (Nat.le_refl _) _
    have hx5 : w5.cell? ⟨w4.heap.size, 0, none⟩ = some (.pointer (some ⟨g, 0, none⟩)) := by rw [← hw5]; exact (Blk.new w4 22 _).cell 0
    have HZ5 : Hid (w5.heap.size = w4.heap.size + 1) := Lib.hid (by rw [← hw5]; simp)
    clear hw5
    have h5 := (h3.keep (T := No) (Turn.of_below hb4 No) (fun _ _ h => h.elim)).keep (T := No) (Turn.of_below hb5 No) (fun _ _ h => h.elim)
    have hb35 : Below w3.heap.size w3 w5 := hb4.trans (hb5.mono hb4.size)
    have hkb5 := hkb4.below hb5 hkb4.lt
    have hck5 := hck3.below hb35
    have hc5 := hx3.below hb35 hx3.lt
    have hl5 := hl3.below hb35 hl3.lt
    have hF5 := hF3.below hb35
    clear hkb4 hck3 hx3 hl3 hF3 hk3 hw3
    gi_wp2_with fail
    have hgl := h.blk.lt
    have hz1 := hb1.size
    have hz2 := hb2.size
    have hz35 := hb35.size
    have hz5 := HZ5.out
    have hz4 := HZ4.out
    have hxl := hx1.lt
    have hbw5 : Below w.heap.size w w5 := hbw3.trans (hb35.mono hbw3.size)
    have hlb5 : w2.heap.size < w5.heap.size := by omega
    have hP : ∀ b, P0 b → b < w5.heap.size ∧ b ≠ w2.heap.size := fun b hb => by have := hP0l b hb; omega
    have hPw : ∀ b, P0 b → w.heap.size < b := fun b hb => by have := hP0 b hb; omega
    have hK := pick_le kp s.waits.length
    have hat : ∀ k, k < css.length → ∃ (t : Th) (p q : Nat), s.waits[k]? = some t ∧ css.getD k #[] = t.cells p q ∧ encT css k = #[.int .i64 (k : Int), .agg (t.cells p q)] ∧ ThAt w X t (t.cells p q) := fun k hk => by
      have hlt : k < s.waits.length := by omega
      obtain ⟨p, q, e1, e2⟩ := hth k s.waits[k] (List.getElem?_eq_getElem hlt)
      exact ⟨s.waits[k], p, q, List.getElem?_eq_getElem hlt, by rw [List.getD_eq_getElem?_getD, e1]; rfl, encT_at e1, e2⟩
    have hwvl : ∀ r, Value.ownBlock (.slice A s.waits.length c) = some r → r < w.heap.size := fun r e => h.lt r (h.wv_in r e)
    refine range_n rfl (by omega) (gf := 66) (lb := #[.pointer (some ⟨w4.heap.size, 0, none⟩)]) rfl trivial (enters_of Try.func66 (by kernel_rfl) rfl)
      (iter_in (3 - 1) (by omega) w4.heap.size g (.slice A s.waits.length c) css w5 hx5 (h5.blk.cell 4) hck5 hform (by omega))
      (fun h h' => ⟨Nat.le_trans h.1 h'.1, fun r e => (h'.2 r e).trans (h.2 r e)⟩)
      (fun W W' ht hz => ⟨ht.size, fun r e => ht.block r (by have := hwvl r e; omega) (fun e' => by have := hwvl r e; rcases e' with e' | e' <;> omega)⟩) (fun _ => rfl)
      (fun k W => k ≤ pick kp s.waits.length ∧ Doing w5 w2.heap.size P0 m' (after s.lasts (s.waits.take k)) W) (fun cc _ W => cc = .exit 0 ∧ Doing w5 w2.heap.size P0 m' (left s kp tn) W)
      (fun k W W' hs ht => ⟨hs.1, hs.2.keep hlb5 hP ht⟩) (fun cc k W W' hs ht => ⟨hs.1, hs.2.keep hlb5 hP ht⟩)
      ⟨by omega, P0, fun b hb => .inl hb, hl5, hF5, Turn.refl _ _⟩ (fun k => .cells (css.getD k #[]) 92)
      (fun k b => { tmps := #[.pointer (some ⟨g, 0, none⟩), .agg #[.int .i64 kp, .int .i64 tn], undef, .pointer (some ⟨w.heap.size, 0, none⟩), .pointer none, .int .i64 0, .pointer (some ⟨w2.heap.size, 0, none⟩), .pointer (some ⟨w3.heap.size, 0, none⟩), .int .i64 (k : Int), .pointer (some ⟨b, 0, none⟩), .pointer (some ⟨g, 0, none⟩), .bool true, .bool false, .pointer (some ⟨g, 0, none⟩), .pointer (some ⟨g, 0, none⟩), .pointer (some ⟨g, 2, none⟩), .agg #[.map (some m'), .int .i64 (total s.lasts : Int)], .pointer (some ⟨w.heap.size, 0, none⟩), .int .i64 kp, .pointer (some ⟨g, 0, none⟩), .pointer (some ⟨g, 0, none⟩), .pointer (some ⟨g, 4, none⟩), .slice A s.waits.length c, .int .i64 (s.waits.length : Int), .int .i64 (pick kp s.waits.length : Int), .pointer (some ⟨g, 0, none⟩), .func (.func 66) #[] #[.pointer (some ⟨w4.heap.size, 0, none⟩)], .int .i64 (k : Int), .agg (css.getD k #[]), undef, undef, undef, undef, undef, undef, undef, undef, undef, undef, undef, undef, undef, undef, undef, undef, undef, undef, undef, undef, undef, undef, undef, undef, undef, undef], defers := [] }) ?assign ?body ?done ?stop
    case assign =>
      intro l k W K hk hK
      obtain ⟨t, p, q, _, e1, e2, _⟩ := hat k hk
      clear hz4 hz5
      rw [e2]
      rw [e1] at hK
      rw [Th.cells_eq] at hK ⊢
      gi_wp2
      exact hK
    case body =>
      intro l k W0 W hI0 hk hob hbB hTW
      obtain ⟨hkK, hD0⟩ := hI0
      have hD := hD0.keep hlb5 hP hTW
      clear hD0
      obtain ⟨t, p, q, hwk, e1, e2, hta⟩ := hat k hk
      obtain ⟨b, hbe⟩ : ∃ b, b = W0.heap.size := ⟨_, rfl⟩
      rw [← hbe] at hob hbB ⊢
      clear hbe hTW W0
      have hbx : Blk W b 92 (t.cells p q) := by have : W.heap[b]? = some (.cells (css.getD k #[]) 92) := hob; rw [e1] at this; exact this
      have hbz := hbx.lt
      have hWz : w5.heap.size + 2 ≤ W.heap.size := by omega
      rw [e1]
      have hfin := h.ok.2.2.2.next hwk
      have hT5 : Turn (fun b => P0 b ∨ b = w2.heap.size) w5 W := hD.choose_spec.2.2.2
      have hbwW : Below w.heap.size w W := hbw5.trans (hT5.below (by omega) (fun b e => by
        rcases e with e | e
        · have := hPw b e; omega
        · omega))
      have htW : ThAt W X t (t.cells p q) := hta.keep (S := No) (Turn.of_below hbwW No) (fun _ _ h => h.elim)
      have hlen : (after s.lasts (s.waits.take k)).length < 900000 := by
        have := length_after (s.waits.take k) s.lasts
        rw [List.length_take] at this
        unfold St.size at hsz
        omega
      have hkc : W.cell? ⟨w3.heap.size, 0, none⟩ = some (.int .i64 (pick kp s.waits.length : Int)) := (hT5.cell (p := ⟨w3.heap.size, 0, none⟩) hkb5.lt (fun e => by
        rcases e with e | e
        · have : w3.heap.size < w2.heap.size := hP0l _ e
          omega
        · have : w3.heap.size = w2.heap.size := e
          omega)).trans (hkb5.cell 0)
      have htc : W.cell? ⟨w.heap.size, 1, none⟩ = some (.int .i64 tn) := (hT5.cell (p := ⟨w.heap.size, 1, none⟩) hc5.lt (fun e => by
        rcases e with e | e
        · have : w.heap.size < w.heap.size := hPw _ e
          omega
        · have : w.heap.size = w2.heap.size := e
          omega)).trans (hc5.cell 1)
      have hboth : ∀ {w'}, Turn (fun b => (P0 b ∨ w5.heap.size + 2 ≤ b) ∨ b = w2.heap.size) W w' → Both w5.heap.size W w' := fun hT => Both.of_turn hT (by omega) (fun e => by
        rcases e with (e | e) | e
        · have := (hP _ e).1; omega
        · omega
        · omega) (fun e => by
        rcases e with (e | e) | e
        · have := (hP _ e).1; omega
        · omega
        · omega)
      have hen := enters_do t
      have hbc := hbx
      rw [Th.cells_eq] at hbc
      obtain ⟨b0, b1, b2, b3, b4⟩ := hbc.five5
      have HZW : Hid (w5.heap.size = w3.heap.size + 2) := Lib.hid (by omega)
      clear hz4 hz5 hz35
      by_cases hlt : k < pick kp s.waits.length
      · have hgo := hD.go hWz hlb5 hP t p q htW hfin.1 (Nat.le_trans hfin.2.1 h.ok.2.1) (Nat.le_trans hfin.2.2 h.ok.2.1) (by omega)
        rw [Th.cells_eq]
        have HB := Lib.hid (hwvl)
        clear b0 b1 b2 b3
        gi_wp2_with fail
        refine ⟨trivial, (CallsIn.inRound l (callsIn_wide.2 hgo)).mono ?_⟩
        rintro e w' ⟨rfl, hD', hT'⟩
        have HP : Hid (postN w5.heap.size (KeepRow (.slice A s.waits.length c)) (fun k W => k ≤ pick kp s.waits.length ∧ Doing w5 w2.heap.size P0 m' (after s.lasts (s.waits.take k)) W) (fun cc _ W => cc = .exit 0 ∧ Doing w5 w2.heap.size P0 m' (left s kp tn) W) k W .normal { tmps := #[], defers := [] } w') := Lib.hid ⟨hboth hT', ⟨hT'.size, fun r e => hT'.block r (by have := hwvl r e; omega) (fun e' => by
          have := hwvl r e
          rcases e' with (e' | e') | e'
          · have := hPw _ e'; omega
          · omega
          · omega)⟩, by omega, by rw [take_next hwk]; exact hD'⟩
        clear hD' hT' hgo
        gi_wp2_with fail
        exact HP.out
      · have hkeq : k = pick kp s.waits.length := by omega
        have hleft : left s kp tn = torn (after s.lasts (s.waits.take k)) t tn := by rw [left_some (by rw [← hkeq]; exact hwk), ← hkeq]
        have hbl : t.bytes.length ≤ 1000000000 := by
          have h0 := hfin.2.2
          have hr := h.ok.2.1
          cases t with
          | put n b => have e : total (Th.on (.put n b) (after s.lasts (s.waits.take k))) = _ := total_put _ n b; show b.length ≤ _; omega
          | cut n j => show (0 : Nat) ≤ _; omega
          | rem n => show (0 : Nat) ≤ _; omega
        have hnl : t.name.length ≤ 24 := name_of_can hD.choose_spec.2.2.1 hfin.1
        have htears := tears_any t p q tn W hbl
        have hdk : decide (k < pick kp s.waits.length) = false := by simp; omega
        have HKEQ := Lib.hid hkeq
        clear hkeq hlt
        rw [Th.cells_eq] at htears
        rw [Th.cells_eq]
        gi_wp2_with fail
        refine ⟨trivial, (CallsIn.inRound l (callsIn_wide.2 htears)).mono ?_⟩
        rintro e W1 ⟨rfl, hbt⟩
        have hz1W := hbt.size
        have hD1 : Doing w5 w2.heap.size P0 m' (after s.lasts (s.waits.take k)) W1 := hD.keep hlb5 hP (Turn.of_below hbt _)
        have hTt : Turn (fun b => (P0 b ∨ w5.heap.size + 2 ≤ b) ∨ b = w2.heap.size) W W1 := Turn.of_below hbt _
        clear htears
        by_cases hpos : 0 < pick tn t.bytes.length
        · have hdp : decide (0 < pick tn t.bytes.length) = true := by simpa using hpos
          have hleft' : left s kp tn = Th.on (.put t.name (t.bytes.take (pick tn t.bytes.length))) (after s.lasts (s.waits.take k)) := by rw [hleft]; unfold torn; rw [if_pos hpos]; rfl
          have hbx1 := hbc.below hbt hbc.lt
          have htc1 : W1.cell? ⟨w.heap.size, 1, none⟩ = some (.int .i64 tn) := (hbt.cell (p := ⟨w.heap.size, 1, none⟩) (block_lt_of_cell htc)).trans htc
          have htorn := torn_any t p q tn W1 hbl (by omega)
          rw [Th.cells_eq] at htorn
          obtain ⟨x0, x1, x2, x3, x4⟩ := hbx1.five5
          have HL := Lib.hid hleft'
          have HTot : Hid (total (Th.on (.put t.name (t.bytes.take (pick tn t.bytes.length))) (after s.lasts (s.waits.take k))) ≤ 16777216) := Lib.hid (by rw [← hleft']; exact Nat.le_trans (left_total h.ok kp tn) h.ok.2.1)
          clear b0 b1 b2 b3 b4 htc hkc hbx1 hleft hleft' hpos
          gi_wp2_with fail
          refine ⟨trivial, (CallsIn.inRound l (callsIn_wide.2 htorn)).mono ?_⟩
          rintro e W2 ⟨p1, q1, rfl, hp1, hq1, ht1, hb2t⟩
          have hz2W := hb2t.size
          have hD2 : Doing w5 w2.heap.size P0 m' (after s.lasts (s.waits.take k)) W2 := hD1.keep hlb5 hP (Turn.of_below hb2t _)
          have hTt2 : Turn (fun b => (P0 b ∨ w5.heap.size + 2 ≤ b) ∨ b = w2.heap.size) W W2 := hTt.trans (Turn.of_below hb2t (fun b => (P0 b ∨ w5.heap.size + 2 ≤ b) ∨ b = w2.heap.size)) (fun _ _ e => e)
          have hgo := hD2.go (by omega) hlb5 hP (.put t.name (t.bytes.take (pick tn t.bytes.length))) p1 q1 ht1 hnl (Nat.le_trans hfin.2.1 h.ok.2.1) HTot.out (by omega)
          have hen8 := enters_do (.put t.name (t.bytes.take (pick tn t.bytes.length)))
          rw [show Th.cells (.put t.name (t.bytes.take (pick tn t.bytes.length))) p1 q1 = #[.int .i64 1, .string (str t.name), .string (str (t.bytes.take (pick tn t.bytes.length))), .int .i64 0, .func (.func 68) #[] #[.pointer (some ⟨p1, 0, none⟩), .pointer (some ⟨q1, 0, none⟩)]] from rfl]
          clear x0 x1 x2 x3 x4 htc1 htorn hen
          have hfield := field92
          gi_wp2_with fail
          refine ⟨trivial, (CallsIn.inRound l (callsIn_wide.2 hgo)).mono ?_⟩
          rintro e w' ⟨rfl, hD', hT'⟩
          have HP : Hid (Both w5.heap.size W w' ∧ (Code.exit 0 = .exit 0 ∧ Doing w5 w2.heap.size P0 m' (left s kp tn) w')) := Lib.hid ⟨hboth (hTt2.trans hT' (fun _ _ e => e)), rfl, by rw [HL.out]; exact hD'⟩
          clear hD' hT' hgo hen8
          gi_wp2_with fail
          exact ⟨HP.out.1, rfl, HP.out.2.2⟩
        · have hdp : decide (0 < pick tn t.bytes.length) = false := by simpa using hpos
          have hleft' : left s kp tn = after s.lasts (s.waits.take k) := by rw [hleft]; unfold torn; rw [if_neg hpos]
          have HP : Hid (Both w5.heap.size W W1 ∧ (Code.exit 0 = .exit 0 ∧ Doing w5 w2.heap.size P0 m' (left s kp tn) W1)) := Lib.hid ⟨hboth hTt, rfl, by rw [hleft']; exact hD1⟩
          clear b0 b1 b2 b3 b4 htc hkc hleft hleft' hpos
          gi_wp2_with fail
          exact ⟨HP.out.1, rfl, HP.out.2.2⟩
    case done =>
      intro W hI hdef
      obtain ⟨hNK, hDn⟩ := hI
      have hKN : pick kp s.waits.length = s.waits.length := by omega
      have hDl : Doing w5 w2.heap.size P0 m' (left s kp tn) W := by
        rw [left_none hKN]
        rw [hcl, List.take_length] at hDn
        exact hDn
      clear hDn hNK hKN
      have hx : W.cell? ⟨g, 5, none⟩ = some (.int .i64 (s.room : Int)) := by
        have hT5 : Turn (fun b => P0 b ∨ b = w2.heap.size) w5 W := hDl.choose_spec.2.2.2
        refine (hT5.cell (p := ⟨g, 5, none⟩) (by show g < w5.heap.size; omega) (fun e => ?_)).trans (h5.blk.cell 5)
        rcases e with e | e
        · have : w.heap.size < g := hPw _ e
          omega
        · have : g = w2.heap.size := e
          omega
      obtain ⟨S', hs', hlW, hFW, hTW⟩ := hDl
      have hzW := hTW.size
      have hbwW : Below w.heap.size w W := hbw5.trans (hTW.below (by omega) (fun b e => by
        rcases e with e | e
        · have := hPw b e; omega
        · omega))
      have htl : total (left s kp tn) ≤ 16777216 := Nat.le_trans (left_total h.ok kp tn) h.ok.2.1
      have hcop := copied_any (w := W.drew) (hFW.keep (T := No) ((Turn.refl No _).drew) (fun _ _ h => h)) w2.heap.size 0 (total (left s kp tn)) (hlW.cell 0) (hlW.cell 1) (by omega)
      have hS'w : ∀ b, S' b → w.heap.size ≤ b := fun b hb => by
        rcases hs' b hb with e | e
        · have := hPw b e; omega
        · omega
      have hlbn : ¬ S' w2.heap.size := fun e => by
        rcases hs' _ e with e | e
        · exact (hP _ e).2 rfl
        · omega
      have HZ5' := Lib.hid hz5
      have HLT : Hid (w5.heap.size < W.heap.size) := Lib.hid (lt_of_heap hdef)
      clear hz4 hz5 hz35 hz1 hz2 hat hth hform
      gi_wp2_with fail
      refine (wpIn_wide (n := 3)).2 (wp_region_by (fun a' w' => ∃ p, a'.tmps.getD 4 undef = p ∧ a'.tmps.getD 5 undef = .int .i64 0 ∧ a'.defers = [{ target := .collected w5.heap.size, args := #[] }] ∧ NewDkN w (s.crash kp tn) p w' w5.heap.size ∧ w'.heap[w5.heap.size]? = some (.deferred (some []))) ?regd ?restd)
      case regd =>
        refine wp_region_np ?_
        refine wp_region_held_drew (S := fun W' => Blk W' w2.heap.size 78 #[.map (some m'), .int .i64 (total (left s kp tn) : Int)] ∧ W'.cell? ⟨g, 5, none⟩ = some (.int .i64 (s.room : Int))) (by kernel_rfl) ⟨hlW, hx⟩ (fun hHeld => ?_)
        refine wpAnyH_takeAt (i := 0) (d := 47) (v := ?vqd0) rfl rfl (by kernel_rfl) (by kernel_rfl) (by kernel_rfl) (fun _ _ _ h => h) (Or.inl ⟨by rfl, ?hyqd0⟩) hHeld ?_
        case hyqd0 =>
          intro W hSw
          have s0 := (show Blk W w2.heap.size 78 #[.map (some m'), .int .i64 (total (left s kp tn) : Int)] from hSw.1).cell 0; have s1 := (show Blk W w2.heap.size 78 #[.map (some m'), .int .i64 (total (left s kp tn) : Int)] from hSw.1).cell 1; simp at s0 s1
          (go_simp; try with_reducible rfl)
        simp only [List.setIfInBounds_toArray, List.set_cons_zero, List.set_cons_succ]
        refine wpAnyH_takeAt (i := 2) (d := 49) (v := ?vqd2) rfl rfl (by kernel_rfl) (by kernel_rfl) (by kernel_rfl) (fun _ _ _ h => h) (Or.inl ⟨by rfl, ?hyqd2⟩) hHeld ?_
        case hyqd2 =>
          intro W hSw
          clear hSw
          (go_simp; try with_reducible rfl)
        simp only [List.setIfInBounds_toArray, List.set_cons_zero, List.set_cons_succ]
        refine wpAnyH_takeAt (i := 3) (d := 50) (v := ?vqd3) rfl rfl (by kernel_rfl) (by kernel_rfl) (by kernel_rfl) (fun _ _ _ h => h) (Or.inl ⟨by rfl, ?hyqd3⟩) hHeld ?_
        case hyqd3 =>
          intro W hSw
          clear hSw
          (go_simp; try with_reducible rfl)
        simp only [List.setIfInBounds_toArray, List.set_cons_zero, List.set_cons_succ]
        refine wpAnyH_takeAt (i := 4) (d := 51) (v := ?vqd4) rfl rfl (by kernel_rfl) (by kernel_rfl) (by kernel_rfl) (fun _ _ _ h => h) (Or.inl ⟨by rfl, ?hyqd4⟩) hHeld ?_
        case hyqd4 =>
          intro W hSw
          clear hSw
          (go_simp; try with_reducible rfl)
        simp only [List.setIfInBounds_toArray, List.set_cons_zero, List.set_cons_succ]
        refine wpAnyH_takeAt (i := 5) (d := 52) (v := ?vqd5) rfl rfl (by kernel_rfl) (by kernel_rfl) (by kernel_rfl) (fun _ _ _ h => h) (Or.inl ⟨by rfl, ?hyqd5⟩) hHeld ?_
        case hyqd5 =>
          intro W hSw
          have sc := hSw.2
          (go_simp; try with_reducible rfl)
        simp only [List.setIfInBounds_toArray, List.set_cons_zero, List.set_cons_succ]
        refine wpAnyH_ready (rs := [1]) (by kernel_rfl) (by simp) (AllReadyH.cons rfl (fun K hK => ?_) AllReadyH.nil)
        go_simp
        refine hcop.mono ?_
        rintro e W2 ⟨m'', P1, rfl, hF2', hP1, hbc2⟩
        have hbc : Below W.heap.size W W2 := ⟨hbc2.os, hbc2.tape, hbc2.output, hbc2.size, hbc2.block⟩
        dsimp only
        refine hK.out _ _ ⟨hlW.below hbc hlW.lt, (hbc.cell (p := ⟨g, 5, none⟩) (block_lt_of_cell hx)).trans hx⟩ (fun hHeld => ?_)
        clear hK K
        try simp only [List.setIfInBounds_toArray, List.set_cons_zero, List.set_cons_succ]
        refine wpAnyH_takeAt (i := 6) (d := 53) (v := ?vqd6) rfl rfl (by kernel_rfl) (by kernel_rfl) (by kernel_rfl) (fun _ _ _ h => h) (Or.inl ⟨by rfl, ?hyqd6⟩) hHeld ?_
        case hyqd6 =>
          intro W hSw
          clear hSw
          (go_simp; try with_reducible rfl)
        simp only [List.setIfInBounds_toArray, List.set_cons_zero, List.set_cons_succ]
        refine wpAnyH_ready (rs := [7]) (by kernel_rfl) (by simp) (AllReadyH.cons rfl (fun K hK => ?_) AllReadyH.nil)
        go_simp
        refine hK.out _ _ ⟨hHeld.1.alloc _, (held2 ⟨hHeld.2, hHeld.2⟩ _).1⟩ (fun hHeld => ?_)
        clear hK K
        try simp only [List.setIfInBounds_toArray, List.set_cons_zero, List.set_cons_succ]
        refine wpAnyH_takeAt (i := 8) (d := 4) (v := ?vqd8) rfl rfl (by kernel_rfl) (by kernel_rfl) (by kernel_rfl) (fun _ _ _ h => h) (Or.inl ⟨by rfl, ?hyqd8⟩) hHeld ?_
        case hyqd8 =>
          intro W hSw
          clear hSw
          (go_simp; try with_reducible rfl)
        simp only [List.setIfInBounds_toArray, List.set_cons_zero, List.set_cons_succ]
        refine wpAnyH_takeAt (i := 9) (d := 5) (v := ?vqd9) rfl rfl (by kernel_rfl) (by kernel_rfl) (by kernel_rfl) (fun _ _ _ h => h) (Or.inl ⟨by rfl, ?hyqd9⟩) hHeld ?_
        case hyqd9 =>
          intro W hSw
          clear hSw
          (go_simp; try with_reducible rfl)
        simp only [List.setIfInBounds_toArray, List.set_cons_zero, List.set_cons_succ]
        refine wpAnyH_done (by kernel_rfl) ?_ _
        have hzc := hbc.size
        have hP1' : ∀ b, P1 b → W.heap.size ≤ b := hP1
        refine ⟨rfl, _, rfl, rfl, rfl, ⟨W2.heap.size, fun b => b = W2.heap.size ∨ S' b ∨ P1 b, rfl, ⟨m', m'', S', P1, .slice none 0 0, ?_⟩, fun b hb => ?_, (hbwW.trans (hbc.mono hbwW.size)).alloc (by have := hbwW.size; omega) _⟩, ?_⟩
        · refine { blk := Blk.new W2 82 _, f1 := (hFW.below hbc).keep (turn_al _ _) (fun _ _ h => h), f2 := hF2'.keep (turn_al _ _) (fun _ _ h => h), ts := OwnT.nil _ _, ok := h.ok.crash kp tn, g_in := .inl rfl, s1_in := fun b e => .inr (.inl e), s2_in := fun b e => .inr (.inr e), wv_in := fun r e => (by cases e), g1 := fun e => ?_, g2 := fun e => ?_, apart := fun b e e' => ?_, wvn := fun r e => (by cases e), inX := fun b e => .inl e, lt := fun b e => ?_ }
          · have := hFW.lt e; omega
          · have := hF2'.lt e; omega
          · have := hFW.lt e; have := hP1' b e'; omega
          · rw [World.size_alloc]
            rcases e with e | e | e
            · omega
            · have := hFW.lt e; omega
            · have := hF2'.lt e; omega
        · have := hbwW.size
          have := HLT.out
          have := hlb5
          rcases hb with e | e | e
          · exact ⟨by omega, by omega⟩
          · refine ⟨hS'w b e, ?_⟩
            rcases hs' b e with e | e
            · have := (hP b e).1; omega
            · omega
          · have := hP1' b e; exact ⟨by omega, by omega⟩
        · exact (Below.heap_alloc W2 _ _ (by have := HLT.out; omega)).trans ((hbc.block _ HLT.out).trans hdef)
      case restd =>
        rintro a' w9 ⟨p, e4, e5, ed, hN, hd9⟩
        obtain ⟨tm, df⟩ := a'
        dsimp only at e4 e5 ed
        subst ed
        gi_wp2_with fail
        try rw [Exit.noGoto_ret]
        refine ⟨by simp, .inl ⟨_, _, rfl, run_takeDeferred hd9, ?_⟩⟩
        rw [Array.getD_eq_getD_getElem?] at e4 e5
        refine ⟨.tuple #[p, .int .i64 0], by simp [results, Try.results16, go_sem, e4, e5], p, rfl, ?_⟩
        exact hN.put (by have := hbw5.size; omega) _
    case stop =>
      intro cc k W hk hI hdef
      obtain ⟨rfl, hDl⟩ := hI
      refine wpIn_exit ?_
      have hx : W.cell? ⟨g, 5, none⟩ = some (.int .i64 (s.room : Int)) := by
        have hT5 : Turn (fun b => P0 b ∨ b = w2.heap.size) w5 W := hDl.choose_spec.2.2.2
        refine (hT5.cell (p := ⟨g, 5, none⟩) (by show g < w5.heap.size; omega) (fun e => ?_)).trans (h5.blk.cell 5)
        rcases e with e | e
        · have : w.heap.size < g := hPw _ e
          omega
        · have : g = w2.heap.size := e
          omega
      obtain ⟨S', hs', hlW, hFW, hTW⟩ := hDl
      have hzW := hTW.size
      have hbwW : Below w.heap.size w W := hbw5.trans (hTW.below (by omega) (fun b e => by
        rcases e with e | e
        · have := hPw b e; omega
        · omega))
      have htl : total (left s kp tn) ≤ 16777216 := Nat.le_trans (left_total h.ok kp tn) h.ok.2.1
      have hcop := copied_any (w := W.drew) (hFW.keep (T := No) ((Turn.refl No _).drew) (fun _ _ h => h)) w2.heap.size 0 (total (left s kp tn)) (hlW.cell 0) (hlW.cell 1) (by omega)
      have hS'w : ∀ b, S' b → w.heap.size ≤ b := fun b hb => by
        rcases hs' b hb with e | e
        · have := hPw b e; omega
        · omega
      have hlbn : ¬ S' w2.heap.size := fun e => by
        rcases hs' _ e with e | e
        · exact (hP _ e).2 rfl
        · omega
      have HZ5' := Lib.hid hz5
      have HLT : Hid (w5.heap.size < W.heap.size) := Lib.hid (lt_of_heap hdef)
      clear hz4 hz5 hz35 hz1 hz2 hat hth hform
      gi_wp2_with fail
      refine (wpIn_wide (n := 3)).2 (wp_region_by (fun a' w' => ∃ p, a'.tmps.getD 4 undef = p ∧ a'.tmps.getD 5 undef = .int .i64 0 ∧ a'.defers = [{ target := .collected w5.heap.size, args := #[] }] ∧ NewDkN w (s.crash kp tn) p w' w5.heap.size ∧ w'.heap[w5.heap.size]? = some (.deferred (some []))) ?regs ?rests)
      case regs =>
        refine wp_region_np ?_
        refine wp_region_held_drew (S := fun W' => Blk W' w2.heap.size 78 #[.map (some m'), .int .i64 (total (left s kp tn) : Int)] ∧ W'.cell? ⟨g, 5, none⟩ = some (.int .i64 (s.room : Int))) (by kernel_rfl) ⟨hlW, hx⟩ (fun hHeld => ?_)
        refine wpAnyH_takeAt (i := 0) (d := 47) (v := ?vqs0) rfl rfl (by kernel_rfl) (by kernel_rfl) (by kernel_rfl) (fun _ _ _ h => h) (Or.inl ⟨by rfl, ?hyqs0⟩) hHeld ?_
        case hyqs0 =>
          intro W hSw
          have s0 := (show Blk W w2.heap.size 78 #[.map (some m'), .int .i64 (total (left s kp tn) : Int)] from hSw.1).cell 0; have s1 := (show Blk W w2.heap.size 78 #[.map (some m'), .int .i64 (total (left s kp tn) : Int)] from hSw.1).cell 1; simp at s0 s1
          (go_simp; try with_reducible rfl)
        simp only [List.setIfInBounds_toArray, List.set_cons_zero, List.set_cons_succ]
        refine wpAnyH_takeAt (i := 2) (d := 49) (v := ?vqs2) rfl rfl (by kernel_rfl) (by kernel_rfl) (by kernel_rfl) (fun _ _ _ h => h) (Or.inl ⟨by rfl, ?hyqs2⟩) hHeld ?_
        case hyqs2 =>
          intro W hSw
          clear hSw
          (go_simp; try with_reducible rfl)
        simp only [List.setIfInBounds_toArray, List.set_cons_zero, List.set_cons_succ]
        refine wpAnyH_takeAt (i := 3) (d := 50) (v := ?vqs3) rfl rfl (by kernel_rfl) (by kernel_rfl) (by kernel_rfl) (fun _ _ _ h => h) (Or.inl ⟨by rfl, ?hyqs3⟩) hHeld ?_
        case hyqs3 =>
          intro W hSw
          clear hSw
          (go_simp; try with_reducible rfl)
        simp only [List.setIfInBounds_toArray, List.set_cons_zero, List.set_cons_succ]
        refine wpAnyH_takeAt (i := 4) (d := 51) (v := ?vqs4) rfl rfl (by kernel_rfl) (by kernel_rfl) (by kernel_rfl) (fun _ _ _ h => h) (Or.inl ⟨by rfl, ?hyqs4⟩) hHeld ?_
        case hyqs4 =>
          intro W hSw
          clear hSw
          (go_simp; try with_reducible rfl)
        simp only [List.setIfInBounds_toArray, List.set_cons_zero, List.set_cons_succ]
        refine wpAnyH_takeAt (i := 5) (d := 52) (v := ?vqs5) rfl rfl (by kernel_rfl) (by kernel_rfl) (by kernel_rfl) (fun _ _ _ h => h) (Or.inl ⟨by rfl, ?hyqs5⟩) hHeld ?_
        case hyqs5 =>
          intro W hSw
          have sc := hSw.2
          (go_simp; try with_reducible rfl)
        simp only [List.setIfInBounds_toArray, List.set_cons_zero, List.set_cons_succ]
        refine wpAnyH_ready (rs := [1]) (by kernel_rfl) (by simp) (AllReadyH.cons rfl (fun K hK => ?_) AllReadyH.nil)
        go_simp
        refine hcop.mono ?_
        rintro e W2 ⟨m'', P1, rfl, hF2', hP1, hbc2⟩
        have hbc : Below W.heap.size W W2 := ⟨hbc2.os, hbc2.tape, hbc2.output, hbc2.size, hbc2.block⟩
        dsimp only
        refine hK.out _ _ ⟨hlW.below hbc hlW.lt, (hbc.cell (p := ⟨g, 5, none⟩) (block_lt_of_cell hx)).trans hx⟩ (fun hHeld => ?_)
        clear hK K
        try simp only [List.setIfInBounds_toArray, List.set_cons_zero, List.set_cons_succ]
        refine wpAnyH_takeAt (i := 6) (d := 53) (v := ?vqs6) rfl rfl (by kernel_rfl) (by kernel_rfl) (by kernel_rfl) (fun _ _ _ h => h) (Or.inl ⟨by rfl, ?hyqs6⟩) hHeld ?_
        case hyqs6 =>
          intro W hSw
          clear hSw
          (go_simp; try with_reducible rfl)
        simp only [List.setIfInBounds_toArray, List.set_cons_zero, List.set_cons_succ]
        refine wpAnyH_ready (rs := [7]) (by kernel_rfl) (by simp) (AllReadyH.cons rfl (fun K hK => ?_) AllReadyH.nil)
        go_simp
        refine hK.out _ _ ⟨hHeld.1.alloc _, (held2 ⟨hHeld.2, hHeld.2⟩ _).1⟩ (fun hHeld => ?_)
        clear hK K
        try simp only [List.setIfInBounds_toArray, List.set_cons_zero, List.set_cons_succ]
        refine wpAnyH_takeAt (i := 8) (d := 4) (v := ?vqs8) rfl rfl (by kernel_rfl) (by kernel_rfl) (by kernel_rfl) (fun _ _ _ h => h) (Or.inl ⟨by rfl, ?hyqs8⟩) hHeld ?_
        case hyqs8 =>
          intro W hSw
          clear hSw
          (go_simp; try with_reducible rfl)
        simp only [List.setIfInBounds_toArray, List.set_cons_zero, List.set_cons_succ]
        refine wpAnyH_takeAt (i := 9) (d := 5) (v := ?vqs9) rfl rfl (by kernel_rfl) (by kernel_rfl) (by kernel_rfl) (fun _ _ _ h => h) (Or.inl ⟨by rfl, ?hyqs9⟩) hHeld ?_
        case hyqs9 =>
          intro W hSw
          clear hSw
          (go_simp; try with_reducible rfl)
        simp only [List.setIfInBounds_toArray, List.set_cons_zero, List.set_cons_succ]
        refine wpAnyH_done (by kernel_rfl) ?_ _
        have hzc := hbc.size
        have hP1' : ∀ b, P1 b → W.heap.size ≤ b := hP1
        refine ⟨rfl, _, rfl, rfl, rfl, ⟨W2.heap.size, fun b => b = W2.heap.size ∨ S' b ∨ P1 b, rfl, ⟨m', m'', S', P1, .slice none 0 0, ?_⟩, fun b hb => ?_, (hbwW.trans (hbc.mono hbwW.size)).alloc (by have := hbwW.size; omega) _⟩, ?_⟩
        · refine { blk := Blk.new W2 82 _, f1 := (hFW.below hbc).keep (turn_al _ _) (fun _ _ h => h), f2 := hF2'.keep (turn_al _ _) (fun _ _ h => h), ts := OwnT.nil _ _, ok := h.ok.crash kp tn, g_in := .inl rfl, s1_in := fun b e => .inr (.inl e), s2_in := fun b e => .inr (.inr e), wv_in := fun r e => (by cases e), g1 := fun e => ?_, g2 := fun e => ?_, apart := fun b e e' => ?_, wvn := fun r e => (by cases e), inX := fun b e => .inl e, lt := fun b e => ?_ }
          · have := hFW.lt e; omega
          · have := hF2'.lt e; omega
          · have := hFW.lt e; have := hP1' b e'; omega
          · rw [World.size_alloc]
            rcases e with e | e | e
            · omega
            · have := hFW.lt e; omega
            · have := hF2'.lt e; omega
        · have := hbwW.size
          have := HLT.out
          have := hlb5
          rcases hb with e | e | e
          · exact ⟨by omega, by omega⟩
          · refine ⟨hS'w b e, ?_⟩
            rcases hs' b e with e | e
            · have := (hP b e).1; omega
            · omega
          · have := hP1' b e; exact ⟨by omega, by omega⟩
        · exact (Below.heap_alloc W2 _ _ (by have := HLT.out; omega)).trans ((hbc.block _ HLT.out).trans hdef)
      case rests =>
        rintro a' w9 ⟨p, e4, e5, ed, hN, hd9⟩
        obtain ⟨tm, df⟩ := a'
        dsimp only at e4 e5 ed
        subst ed
        gi_wp2_with fail
        try rw [Exit.noGoto_ret]
        refine ⟨by simp, .inl ⟨_, _, rfl, run_takeDeferred hd9, ?_⟩⟩
        rw [Array.getD_eq_getD_getElem?] at e4 e5
        refine ⟨.tuple #[p, .int .i64 0], by simp [results, Try.results16, go_sem, e4, e5], p, rfl, ?_⟩
        exact hN.put (by have := hbw5.size; omega) _
end Go.Proofs.Ythhiiimmgghhaaa
