/-
  disk.(*files).copied: the same files in memory of their own. Condition: the files are fine, within bounds.
-/
import Derived.Test.YthhiiimmgghhaaaAsk
import Derived.Test.YthhiiimmgghhaaaStore
namespace Go.Proofs.Ythhiiimmgghhaaa
open Go.RowKit Go.Maps
theorem turn_al (w : World) (o : Obj) : Turn No w (w.alloc o) := (Turn.refl No w).alloc o
theorem makeMap76 (n : Nat) (w : World) : (Instr.makeMap 76 (some (.int .i64 (n : Int)))).run Try.prog w = .ok (.map (some w.heap.size)) (w.alloc (.map #[] 0)) := by
  simp [Instr.makeMap, run_underlying Try.underlying76, asInt, asIntOf, Result.andThen]
theorem FM.len_ {w : World} {S : Nat → Prop} {m : Nat} {l : FL} (h : FM w S m l) (ty : TypeId) : (Builtin.len_ #[76] ty #[.map (some m)]).run Try.prog w = .ok (.int .i64 (l.length : Int)) w := by
  have hr := h.rises
  obtain ⟨vs, ⟨D, hown, hag⟩, _⟩ := h
  rw [hown.len Try.underlying76 ty, size_of_keys hown hr (fun k => (hag k).1.trans (by simp))]
/-- The files whose names p does not leave out. -/
def keepF (p : Bs → Bool) (l : FL) : FL := l.filter fun x => p x.1
theorem find_keepF (p : Bs → Bool) : ∀ (l : FL) (k : Bs), find (keepF p l) k = if p k = true then find l k else none
  | [], k => by simp [keepF, find]
  | (m, c) :: r, k => by
    have ih := find_keepF p r k
    unfold keepF at ih ⊢
    by_cases hp : p m = true
    · rw [List.filter_cons_of_pos (p := fun x : Bs × Bs => p x.1) (a := (m, c)) hp]
      unfold find
      by_cases e : m = k
      · subst e; rw [if_pos rfl, if_pos rfl, if_pos hp]
      · rw [if_neg e, if_neg e, ih]
    · rw [List.filter_cons_of_neg (p := fun x : Bs × Bs => p x.1) (a := (m, c)) hp, ih]
      by_cases e : m = k
      · subst e; rw [if_neg hp, if_neg hp]
      · conv => rhs; unfold find
        rw [if_neg e]
theorem rises_keepF {l : FL} (h : Rises l) (p : Bs → Bool) : Rises (keepF p l) := List.Pairwise.filter _ h
theorem same_str (a b : Bs) : (Lit.string a).sameKey (.string b) = decide (a = b) := by
  rw [Bool.eq_iff_iff]; simp [Lit.sameKey]
/-- A region whose end is told. -/
theorem wp_region_by {P : Program} {id : Nat} {ops : Array Oper} {b : Bool} {Q : Exit → Act → World → Prop} {a : Act} {w : World} (R : Act → World → Prop)
    (h : (Code.region id ops b).wp P (fun e a' w' => e = .normal ∧ R a' w') a w) (hc : ∀ a' w', R a' w' → Q .normal a' w') : (Code.region id ops b).wp P Q a w :=
  Code.wp_mono (fun e a w h => by obtain ⟨rfl, h⟩ := h; exact hc _ _ h) h
/-- The two blocks that a copy begins with. -/
def Begun (w : World) (u m' cb : Nat) (w' : World) : Prop :=
  w.heap.size + 1 ≤ m' ∧ w.heap.size + 1 ≤ cb ∧ m' ≠ cb ∧ FM w' (fun b => b = m') m' [] ∧ Blk w' cb 78 #[.map (some m'), .int .i64 (u : Int)] ∧ Blk w' w.heap.size 78 #[.map none, .int .i64 0] ∧ Below w.heap.size w w'
/-- What holds between two rounds of a copy. -/
def Copying (w : World) (l : FL) (D : DataW Value) (m m' cb r u : Nat) (wr : World) : Prop :=
  ∃ left cnt S', wr.ranges Try.prog 9 hv m r (Maps.size D) D left cnt ∧ FM wr S' m' (keepF (fun k => !left (.string k)) l) ∧ (∀ b, S' b → w.heap.size < b ∧ b ≠ r ∧ b ≠ cb) ∧
    Blk wr cb 78 #[.map (some m'), .int .i64 (u : Int)] ∧ Blk wr w.heap.size 78 #[.map none, .int .i64 0] ∧ Below w.heap.size w wr
theorem held_turn {w w' : World} {S : Nat → Prop} {m g o u : Nat} {l : FL} (h : w.cell? ⟨g, o, none⟩ = some (.map (some m)) ∧ w.cell? ⟨g, o + 1, none⟩ = some (.int .i64 (u : Int)) ∧ FM w S m l) (ht : Turn No w w') :
    w'.cell? ⟨g, o, none⟩ = some (.map (some m)) ∧ w'.cell? ⟨g, o + 1, none⟩ = some (.int .i64 (u : Int)) ∧ FM w' S m l :=
  ⟨(ht.cell (p := ⟨g, o, none⟩) (block_lt_of_cell h.1) (fun h => h)).trans h.1, (ht.cell (p := ⟨g, o + 1, none⟩) (block_lt_of_cell h.2.1) (fun h => h)).trans h.2.1, h.2.2.keep ht (fun _ _ h => h)⟩
theorem held_alloc {w : World} {S : Nat → Prop} {m g o u : Nat} {l : FL} (h : w.cell? ⟨g, o, none⟩ = some (.map (some m)) ∧ w.cell? ⟨g, o + 1, none⟩ = some (.int .i64 (u : Int)) ∧ FM w S m l) (x : Obj) :
    (w.alloc x).cell? ⟨g, o, none⟩ = some (.map (some m)) ∧ (w.alloc x).cell? ⟨g, o + 1, none⟩ = some (.int .i64 (u : Int)) ∧ FM (w.alloc x) S m l := held_turn h (turn_al w x)
set_option maxRecDepth 100000 in
set_option maxHeartbeats 4000000 in
theorem copied_any {w : World} {S : Nat → Prop} {m : Nat} {l : FL} (h : FM w S m l) (g o : Nat) (u : Nat) (hc : w.cell? ⟨g, o, none⟩ = some (.map (some m))) (hu : w.cell? ⟨g, o + 1, none⟩ = some (.int .i64 (u : Int))) (htot : total l ≤ 1000000000) :
    Calls Try.prog 43 #[.pointer (some ⟨g, o, none⟩)] w fun e w' => ∃ m' S', e = .returned (.agg #[.map (some m'), .int .i64 (u : Int)]) ∧ FM w' S' m' l ∧ (∀ b, S' b → w.heap.size ≤ b) ∧ Below w.heap.size w w' := by
  have hgl : g < w.heap.size := block_lt_of_cell hc
  go_enter Try.func43, Try.ntmps43
  go_wp2_with fail
  have hb1 : Below w.heap.size w (w.alloc (.cells #[.map none, .int .i64 0] 78)) := (Below.refl _ _).alloc (Nat.le_refl _) _
  have r1 : Blk (w.alloc (.cells #[.map none, .int .i64 0] 78)) w.heap.size 78 #[.map none, .int .i64 0] := Blk.new _ _ _
  have hz1 : (w.alloc (.cells #[.map none, .int .i64 0] 78)).heap.size = w.heap.size + 1 := by simp
  have hc1 : (w.alloc (.cells #[.map none, .int .i64 0] 78)).cell? ⟨g, o, none⟩ = some (.map (some m)) := (hb1.cell (p := ⟨g, o, none⟩) hgl).trans hc
  have hu1 : (w.alloc (.cells #[.map none, .int .i64 0] 78)).cell? ⟨g, o + 1, none⟩ = some (.int .i64 (u : Int)) := (hb1.cell (p := ⟨g, o + 1, none⟩) hgl).trans hu
  have hF1 : FM (w.alloc (.cells #[.map none, .int .i64 0] 78)) S m l := h.below hb1
  generalize w.alloc (.cells #[.map none, .int .i64 0] 78) = w1 at *
  have HZ1 := Lib.hid hz1
  clear hz1
  have hmm := makeMap76 l.length
  refine wp_region_by (fun a' w' => ∃ m' cb, a' = { tmps := #[.pointer (some ⟨g, o, none⟩), undef, .pointer (some ⟨w.heap.size, 0, none⟩), .pointer (some ⟨cb, 0, none⟩), undef, undef, .pointer (some ⟨g, o, none⟩), .pointer (some ⟨g, o, none⟩), .pointer (some ⟨g, o, none⟩), .map (some m), .int .i64 (l.length : Int), .map (some m'), .pointer (some ⟨g, o, none⟩), .pointer (some ⟨g, o, none⟩), .pointer (some ⟨g, o + 1, none⟩), .int .i64 (u : Int), .agg #[.map (some m'), .int .i64 (u : Int)], undef, undef, undef, undef, undef, undef, undef, undef, undef, undef, undef, undef, undef, undef, undef, undef], defers := [] } ∧ Begun w u m' cb w') ?reg ?rest
  case reg =>
    have H1 := (⟨hc1, hu1, hF1⟩ : w1.cell? ⟨g, o, none⟩ = some (.map (some m)) ∧ w1.cell? ⟨g, o + 1, none⟩ = some (.int .i64 (u : Int)) ∧ FM w1 S m l)
    refine wp_region_np ?_
    refine wp_region_held_drew (S := fun W => W.cell? ⟨g, o, none⟩ = some (.map (some m)) ∧ W.cell? ⟨g, o + 1, none⟩ = some (.int .i64 (u : Int)) ∧ FM W S m l) (by kernel_rfl) ⟨hc1, hu1, hF1.keep (T := No) ((Turn.refl No _).drew) (fun _ _ h => h)⟩ (fun hHeld => ?_)
    refine wpAnyH_takeAt (i := 0) (d := 6) (v := ?vg0) rfl rfl (by kernel_rfl) (by kernel_rfl) (by kernel_rfl) (fun _ _ _ h => h) (Or.inl ⟨by rfl, ?hyg0⟩) hHeld ?_
    case hyg0 =>
      intro W hSw
      clear hSw
      (go_simp; try with_reducible rfl)
    simp only [List.setIfInBounds_toArray, List.set_cons_zero, List.set_cons_succ]
    refine wpAnyH_takeAt (i := 1) (d := 7) (v := ?vg1) rfl rfl (by kernel_rfl) (by kernel_rfl) (by kernel_rfl) (fun _ _ _ h => h) (Or.inl ⟨by rfl, ?hyg1⟩) hHeld ?_
    case hyg1 =>
      intro W hSw
      clear hSw
      (go_simp; try with_reducible rfl)
    simp only [List.setIfInBounds_toArray, List.set_cons_zero, List.set_cons_succ]
    refine wpAnyH_takeAt (i := 2) (d := 8) (v := ?vg2) rfl rfl (by kernel_rfl) (by kernel_rfl) (by kernel_rfl) (fun _ _ _ h => h) (Or.inl ⟨by rfl, ?hyg2⟩) hHeld ?_
    case hyg2 =>
      intro W hSw
      clear hSw
      (go_simp; try with_reducible rfl)
    simp only [List.setIfInBounds_toArray, List.set_cons_zero, List.set_cons_succ]
    refine wpAnyH_takeAt (i := 3) (d := 9) (v := ?vg3) rfl rfl (by kernel_rfl) (by kernel_rfl) (by kernel_rfl) (fun _ _ _ h => h) (Or.inl ⟨by rfl, ?hyg3⟩) hHeld ?_
    case hyg3 =>
      intro W hSw
      obtain ⟨sc, sd, sf⟩ := hSw; clear sf
      (go_simp; try with_reducible rfl)
    simp only [List.setIfInBounds_toArray, List.set_cons_zero, List.set_cons_succ]
    refine wpAnyH_takeAt (i := 4) (d := 10) (v := ?vg4) rfl rfl (by kernel_rfl) (by kernel_rfl) (by kernel_rfl) (fun _ _ _ h => h) (Or.inl ⟨by rfl, ?hyg4⟩) hHeld ?_
    case hyg4 =>
      intro W hSw
      obtain ⟨sc, sd, sf⟩ := hSw; have sl := sf.len_; clear sf sc sd
      (go_simp; try with_reducible rfl)
    simp only [List.setIfInBounds_toArray, List.set_cons_zero, List.set_cons_succ]
    refine wpAnyH_takeAt (i := 6) (d := 12) (v := ?vg6) rfl rfl (by kernel_rfl) (by kernel_rfl) (by kernel_rfl) (fun _ _ _ h => h) (Or.inl ⟨by rfl, ?hyg6⟩) hHeld ?_
    case hyg6 =>
      intro W hSw
      clear hSw
      (go_simp; try with_reducible rfl)
    simp only [List.setIfInBounds_toArray, List.set_cons_zero, List.set_cons_succ]
    refine wpAnyH_takeAt (i := 7) (d := 13) (v := ?vg7) rfl rfl (by kernel_rfl) (by kernel_rfl) (by kernel_rfl) (fun _ _ _ h => h) (Or.inl ⟨by rfl, ?hyg7⟩) hHeld ?_
    case hyg7 =>
      intro W hSw
      clear hSw
      (go_simp; try with_reducible rfl)
    simp only [List.setIfInBounds_toArray, List.set_cons_zero, List.set_cons_succ]
    refine wpAnyH_takeAt (i := 8) (d := 14) (v := ?vg8) rfl rfl (by kernel_rfl) (by kernel_rfl) (by kernel_rfl) (fun _ _ _ h => h) (Or.inl ⟨by rfl, ?hyg8⟩) hHeld ?_
    case hyg8 =>
      intro W hSw
      clear hSw
      (go_simp; try with_reducible rfl)
    simp only [List.setIfInBounds_toArray, List.set_cons_zero, List.set_cons_succ]
    refine wpAnyH_takeAt (i := 9) (d := 15) (v := ?vg9) rfl rfl (by kernel_rfl) (by kernel_rfl) (by kernel_rfl) (fun _ _ _ h => h) (Or.inl ⟨by rfl, ?hyg9⟩) hHeld ?_
    case hyg9 =>
      intro W hSw
      obtain ⟨sc, sd, sf⟩ := hSw; clear sf
      (go_simp; try with_reducible rfl)
    simp only [List.setIfInBounds_toArray, List.set_cons_zero, List.set_cons_succ]
    refine wpAnyH_ready (rs := [5, 11]) (by kernel_rfl) (by simp) (AllReadyH.cons rfl (fun K hK => ?_) (AllReadyH.cons rfl (fun K hK => ?_) AllReadyH.nil))
    · go_simp
      refine hK.out _ _ (held_alloc hHeld _) (fun hHeld => ?_)
      clear hK K
      try simp only [List.setIfInBounds_toArray, List.set_cons_zero, List.set_cons_succ]
      refine wpAnyH_takeAt (i := 10) (d := 16) (v := ?vga10) rfl rfl (by kernel_rfl) (by kernel_rfl) (by kernel_rfl) (fun _ _ _ h => h) (Or.inl ⟨by rfl, ?hyga10⟩) hHeld ?_
      case hyga10 =>
        intro W hSw
        clear hSw
        (go_simp; try with_reducible rfl)
      simp only [List.setIfInBounds_toArray, List.set_cons_zero, List.set_cons_succ]
      refine wpAnyH_ready (rs := [11]) (by kernel_rfl) (by simp) (AllReadyH.cons rfl (fun K hK => ?_) AllReadyH.nil)
      go_simp
      refine hK.out _ _ (held_alloc hHeld _) (fun hHeld => ?_)
      clear hK K
      try simp only [List.setIfInBounds_toArray, List.set_cons_zero, List.set_cons_succ]
      refine wpAnyH_ready (rs := [12]) (by kernel_rfl) (by simp) (AllReadyH.cons rfl (fun K hK => ?_) AllReadyH.nil)
      go_simp
      refine hK.out _ _ (held_turn H1 (((turn_al _ _).trans (turn_al _ _) (fun _ _ e => e)).drew)) (fun hHeld => ?_)
      clear hK K
      refine wpAnyH_done (by kernel_rfl) ?_ _
      refine ⟨rfl, w1.heap.size, w1.heap.size + 1, rfl, by have := HZ1.out; omega, by have := HZ1.out; omega, by omega, ?_, ?_, ?_, ?_⟩
      · exact (FM.made w1).keep (T := No) ((turn_al _ _).drew) (fun _ _ h => h)
      · exact blk_new (w1.alloc (.map #[] 0)) 78 _ (by simp)
      · exact (r1.alloc _).alloc _
      · exact ((hb1.alloc (by have := HZ1.out; omega) _).alloc (by have := HZ1.out; simp; omega) _).drew
    · go_simp
      refine hK.out _ _ (held_alloc hHeld _) (fun hHeld => ?_)
      clear hK K
      try simp only [List.setIfInBounds_toArray, List.set_cons_zero, List.set_cons_succ]
      refine wpAnyH_ready (rs := [5]) (by kernel_rfl) (by simp) (AllReadyH.cons rfl (fun K hK => ?_) AllReadyH.nil)
      go_simp
      refine hK.out _ _ (held_alloc hHeld _) (fun hHeld => ?_)
      clear hK K
      try simp only [List.setIfInBounds_toArray, List.set_cons_zero, List.set_cons_succ]
      refine wpAnyH_takeAt (i := 10) (d := 16) (v := ?vgb10) rfl rfl (by kernel_rfl) (by kernel_rfl) (by kernel_rfl) (fun _ _ _ h => h) (Or.inl ⟨by rfl, ?hygb10⟩) hHeld ?_
      case hygb10 =>
        intro W hSw
        clear hSw
        (go_simp; try with_reducible rfl)
      simp only [List.setIfInBounds_toArray, List.set_cons_zero, List.set_cons_succ]
      refine wpAnyH_ready (rs := [12]) (by kernel_rfl) (by simp) (AllReadyH.cons rfl (fun K hK => ?_) AllReadyH.nil)
      go_simp
      refine hK.out _ _ (held_turn H1 (((turn_al _ _).trans (turn_al _ _) (fun _ _ e => e)).drew)) (fun hHeld => ?_)
      clear hK K
      refine wpAnyH_done (by kernel_rfl) ?_ _
      refine ⟨rfl, w1.heap.size + 1, w1.heap.size, rfl, by have := HZ1.out; omega, by have := HZ1.out; omega, by omega, ?_, ?_, ?_, ?_⟩
      · have := FM.made (w1.alloc (.cells #[.map (some (w1.heap.size + 1)), .int .i64 (u : Int)] 78))
        rw [World.size_alloc] at this
        exact this.keep (T := No) ((Turn.refl No _).drew) (fun _ _ h => h)
      · exact (Blk.new w1 78 _).alloc _
      · exact (r1.alloc _).alloc _
      · exact ((hb1.alloc (by have := HZ1.out; omega) _).alloc (by have := HZ1.out; simp; omega) _).drew
  case rest =>
    rintro a' w2 ⟨m', cb, rfl, hm', hcb, hne, hF2, hB2, hR2, hb2⟩
    have hc2 : w2.cell? ⟨g, o, none⟩ = some (.map (some m)) := (hb2.cell (p := ⟨g, o, none⟩) hgl).trans hc
    have hml := h.lt h.mem
    obtain ⟨vs, ⟨D, hown0, hag⟩, hr, hSm, hSl, hlen, hrow, hapart⟩ := h
    have hown : w2.ownsMap Try.prog 9 hv m (Maps.size D) D := by
      obtain ⟨es, clock, hb, F, hs, hD⟩ := hown0
      exact ⟨es, clock, (hb2.block m hml).trans hb, F, hs, hD⟩
    clear hown0
    have HROW := Lib.hid hrow
    have HAG := Lib.hid hag
    have HR := Lib.hid hr
    have HLEN := Lib.hid hlen
    clear hrow hag hr hlen hapart hSm hSl hF1 hu1 hc1 r1 hmm HZ1 hb1 hu
    go_wp2_with (at_range; refine wpList_range_own _ rfl _ 76 rfl 9 32 keyed9 Try.underlying76 hv m (Maps.size D) D rfl hown ?_; intro w3 hrg3 hg3 hs3)
    have hrr : w2.heap.size < w3.heap.size := by omega
    have hz2 := hb2.size
    have hcbl := hB2.lt
    have hb3 : Below w.heap.size w w3 := hb2.trans ⟨hg3.os, hg3.tape, hg3.output, hg3.size, fun k hk => hg3.block k (by omega) (by simp)⟩
    have hT3 : Turn No w2 w3 := Turn.of_grown hg3 (fun r e => by cases e)
    have hstart : Copying w l D m m' cb w2.heap.size u w3 := by
      refine ⟨_, _, fun b => b = m', hrg3, ?_, fun b hb => ?_, hB2.keep hT3 (fun h => h), hR2.keep hT3 (fun h => h), hb3⟩
      · have e : keepF (fun k => !Maps.has D (.string k)) l = [] := by
          refine List.filter_eq_nil_iff.2 fun p hp => ?_
          have := find_of_mem HR.out (n := p.1) (b := p.2) hp
          have h1 := (HAG.out p.1).1
          rw [this] at h1
          simp [h1]
        rw [e]
        exact hF2.keep hT3 (fun _ _ h => h)
      · have : b = m' := hb
        have h2 : m' < w2.heap.size := hF2.lt (b := m') rfl
        omega
    clear hrg3 hF2 hB2 hR2 hc2 hg3 hs3 hT3
    go_loopw [22] (fun _ wr => Copying w l D m m' cb w2.heap.size u wr) (fun _ wr => wr.rangeLeft m w2.heap.size)
    case atStart => exact hstart
    case round =>
      obtain ⟨left, cnt, S', hrg, hF, hS', hB, hR, hbr⟩ := hrel
      go_wp2_with (at_next; refine wpList_next_ranges _ rfl _ rfl 9 keyed9 hv (fun n : Bs => .string (str n)) (fun v : Value => v) (fun key kl h => by obtain ⟨x, hx, _⟩ := Maps.keyOf_str Try.underlying9 h; exact ⟨x, hx⟩) (fun v y _ => ⟨v, rfl⟩) m w2.heap.size (Maps.size D) D left cnt rfl hrg ?_ ?_)
      · intro hc0 hl0
        have hF9 : FM wr S' m' l := by
          have e : keepF (fun k => !left (.string k)) l = l := List.filter_eq_self.2 fun p _ => by simp [hl0]
          rwa [e] at hF
        have e0 : wr.cell? ⟨cb, 0, none⟩ = some (.map (some m')) := hB.cell 0
        have e1 : wr.cell? ⟨cb, 1, none⟩ = some (.int .i64 (u : Int)) := hB.cell 1
        clear hrg hF hstart
        go_wp2_with (with_reducible refine at_store 78 rfl ?_)
        refine Stop.go (wpList_store_blk (by rfl) (by rfl) 78 _ _ (by rfl) w.heap.size _ #[.map (some m'), .int .i64 (u : Int)] (by rfl) (by rfl) 78 hR (by rfl) (by kernel_rfl) (by simp [Value.oneCell']) ?_)
        intro w9 f9 g9 s9
        have HS9 := Lib.hid s9
        clear s9
        go_wp2_with fail
        refine bodyPost_ret (v := .agg #[.map (some m'), .int .i64 (u : Int)]) (results_cell_row (by rfl) _ _ w.heap.size 78 _ (0, 0) _ (by rfl) f9 Try.underlying78 (by rfl) (by kernel_rfl)) rfl ?_
        exact ⟨m', S', rfl, hF9.keep (T := fun b => b = w.heap.size) (Turn.of_grown g9 (fun r e => by injection e with e; exact e.symm)) (fun b hb e => by have := (hS' b hb).1; omega), fun b hb => by have := (hS' b hb).1; omega, below_grown hbr g9 (Nat.le_refl _) (Nat.le_refl _)⟩
      · intro n c kl ya yb w4 cnt4 hkey hlk hRv hat hrg4 hlt4 hg4 hs4 hen
        obtain ⟨n', hn', hkl, _⟩ := Maps.keyOf_str Try.underlying9 hkey
        have en : n = n' := str_inj (by injection hn')
        subst en
        subst hkl
        have ey : ya = .held c := by unfold hv at hRv; injection hRv with e; injection e with e _; exact e.symm
        subst ey
        have hhas : Maps.has D (.string n) = true := has_true_of_atKey hat
        obtain ⟨b, hfb⟩ : ∃ b, find l n = some b := Option.isSome_iff_exists.1 (by have := (HAG.out n).1; rw [hhas] at this; simpa using this.symm)
        have ec : c = vs n := by
          have h1 := (HAG.out n).2 (vs n) (by rw [hfb]; rfl) (.held c)
          have h2 := hat (.held c)
          rw [h1] at h2
          injection h2 with h2
          exact h2.symm
        subst ec
        obtain ⟨hn24, hown, hvS⟩ := HROW.out n b hfb
        have hbl := find_le_total l n b hfb
        have hrm : w2.heap.size ≠ m := hrg4.ne
        have hb4 : Below w.heap.size w w4 := hbr.trans ⟨hg4.os, hg4.tape, hg4.output, hg4.size, fun k hk => hg4.block k (by have := hbr.size; omega) (fun e => by injection e with e; omega)⟩
        have hT4 : Turn (fun b => b = w2.heap.size) wr w4 := Turn.of_grown hg4 (fun r e => by injection e with e; exact e.symm)
        have hF4 : FM w4 S' m' (keepF (fun k => !left (.string k)) l) := hF.keep hT4 (fun b hb e => (hS' b hb).2.1 e)
        have hB4 := hB.keep hT4 (fun e => by omega)
        have hR4 := hR.keep hT4 (fun e => by have := hbr.size; omega)
        have hown4 := hown.below hb4
        have hcm4 : w4.cell? ⟨cb, 0, none⟩ = some (.map (some m')) := hB4.cell 0
        obtain ⟨Ac, qc, cc, ecv, hqc, _, _⟩ := hown4.form
        have HM : Hid (wr.rangeLeft m w2.heap.size = cnt) := Lib.hid hrg.left_eq
        have HQC := Lib.hid hqc
        rw [ecv] at hen hown4 ⊢
        clear hqc hown hvS hRv hat hkey hhas hrg hF hB hR hT4 hg4 hs4 hstart hn'
        go_wp2_with fail
        refine wp_region_np ?_
        refine wp_region_held_drew (S := fun W => W.cell? ⟨cb, 0, none⟩ = some (.map (some m'))) (by kernel_rfl) hcm4 (fun hHeld => ?_)
        refine wpAnyH_takeAt (i := 0) (d := 27) (v := ?vh0) rfl rfl (by kernel_rfl) (by kernel_rfl) (by kernel_rfl) (fun _ _ _ h => h) (Or.inl ⟨by rfl, ?hyh0⟩) hHeld ?_
        case hyh0 =>
          intro W hSw
          clear hSw
          (go_simp; try with_reducible rfl)
        simp only [List.setIfInBounds_toArray, List.set_cons_zero, List.set_cons_succ]
        refine wpAnyH_takeAt (i := 1) (d := 28) (v := ?vh1) rfl rfl (by kernel_rfl) (by kernel_rfl) (by kernel_rfl) (fun _ _ _ h => h) (Or.inl ⟨by rfl, ?hyh1⟩) hHeld ?_
        case hyh1 =>
          intro W hSw
          have sc := hSw
          (go_simp; try with_reducible rfl)
        simp only [List.setIfInBounds_toArray, List.set_cons_zero, List.set_cons_succ]
        refine wpAnyH_takeAt (i := 2) (d := 29) (v := ?vh2) rfl rfl (by kernel_rfl) (by kernel_rfl) (by kernel_rfl) (fun _ _ _ h => h) (Or.inl ⟨by rfl, ?hyh2⟩) hHeld ?_
        case hyh2 =>
          intro W hSw
          clear hSw
          (go_simp; try with_reducible rfl)
        simp only [List.setIfInBounds_toArray, List.set_cons_zero, List.set_cons_succ]
        refine wpAnyH_takeAt (i := 3) (d := 30) (v := ?vh3) rfl rfl (by kernel_rfl) (by kernel_rfl) (by kernel_rfl) (fun _ _ _ h => h) (Or.inl ⟨by rfl, ?hyh3⟩) hHeld ?_
        case hyh3 =>
          intro W hSw
          clear hSw
          (go_simp; try with_reducible rfl)
        simp only [List.setIfInBounds_toArray, List.set_cons_zero, List.set_cons_succ]
        refine wpAnyH_ready (rs := [4]) (by kernel_rfl) (by simp) (AllReadyH.cons rfl (fun K hK => ?_) AllReadyH.nil)
        go_simp
        refine (clone_any Ac qc cc b No w4.drew (hown4.bys (fun _ _ h => h)) (by have := HQC.out; omega)).mono ?_
        rintro e w5 ⟨v5, rfl, ho5, hg5, hb5⟩
        have hb5' : Below w4.heap.size w4 w5 := ⟨hb5.os, hb5.tape, hb5.output, hb5.size, hb5.block⟩
        have hnone : find (keepF (fun k => !left (.string k)) l) n = none := by rw [find_keepF]; simp [hlk]
        obtain ⟨v0, hlook, ho0, hv0⟩ := hF4.look (n := n) (by unfold maxLen; omega)
        have hgr : Grew v0 w4 v5 w5 := ⟨grown_of_low hb5' _, fun g e => .inr (hg5 g e)⟩
        obtain ⟨w6, hupd, hF6, hT6, hgm⟩ := hF4.store (l' := keepF (fun k => !(left (.string k) && !(Lit.string k).sameKey (.string n))) l) hn24 hlook hgr ho5 (rises_keepF HR.out _) (Nat.le_trans (List.length_filter_le _ _) HLEN.out)
          (by rw [find_keepF]; simp only [same_str]; simp [hfb]) (fun k hk => by rw [find_keepF, find_keepF]; simp only [same_str]; simp [hk])
        have hcm5 : w5.cell? ⟨cb, 0, none⟩ = some (.map (some m')) := (hb5'.cell (p := ⟨cb, 0, none⟩) (block_lt_of_cell hcm4)).trans hcm4
        have hcS : ¬ S' cb := fun e => (hS' cb e).2.2 rfl
        have hrS : ¬ S' w2.heap.size := fun e => (hS' _ e).2.1 rfl
        have hwS : ¬ S' w.heap.size := fun e => by have := (hS' _ e).1; omega
        have hcm6 : w6.cell? ⟨cb, 0, none⟩ = some (.map (some m')) := (hT6.cell (p := ⟨cb, 0, none⟩) (block_lt_of_cell hcm4) hcS).trans hcm4
        dsimp only
        refine hK.out _ _ hcm5 (fun hHeld => ?_)
        clear hK K
        try simp only [List.setIfInBounds_toArray, List.set_cons_zero, List.set_cons_succ]
        refine wpAnyH_ready (rs := [5]) (by kernel_rfl) (by simp) (AllReadyH.cons rfl (fun K hK => ?_) AllReadyH.nil)
        go_simp
        refine hK.out _ _ hcm6 (fun hHeld => ?_)
        clear hK K
        try simp only [List.setIfInBounds_toArray, List.set_cons_zero, List.set_cons_succ]
        refine wpAnyH_done (by kernel_rfl) ?_ _
        have hrl : w2.heap.size < w4.heap.size := hrg4.lt
        have hml4 : m ≠ m' := by omega
        have hrg6 : w6.ranges Try.prog 9 hv m w2.heap.size (Maps.size D) D (fun z => left z && !z.sameKey (.string n)) cnt4 :=
          (hrg4.kept (grown_of_low hb5' none) (by simp) (by simp)).kept hgm (fun e => hml4 (by injection e)) (fun e => (hS' m' hF4.mem).2.1 (by injection e with e; exact e.symm))
        have hz5 := hb5'.size
        have hz6 := hT6.size
        have hbr4 := hb4.size
        have HREL : Hid (Copying w l D m m' cb w2.heap.size u w6) := Lib.hid ⟨_, _, _, hrg6, hF6, fun b hb => (by
          rcases hb with hb | hb
          · exact hS' b hb
          · have := hB4.lt; exact ⟨by omega, by omega, by omega⟩), hB4.keep hT6 hcS, hR4.keep hT6 hwS, hb4.trans ⟨hT6.os, hT6.tape, hT6.output, hT6.size, fun k hk => hT6.block k (by omega) (fun e => by have := (hS' _ e).1; omega)⟩⟩
        have HM6 : Hid (w6.rangeLeft m w2.heap.size = cnt4) := Lib.hid hrg6.left_eq
        clear hrg6 hrg4 hF6 hB4 hR4 hb4 hF4 hupd hlook hen hcm6 hcm5 hcm4
        go_wp2_with fail
        go_roundw
        case rel => exact HREL.out
        case measure => rw [HM.out, HM6.out]; exact hlt4
end Go.Proofs.Ythhiiimmgghhaaa
