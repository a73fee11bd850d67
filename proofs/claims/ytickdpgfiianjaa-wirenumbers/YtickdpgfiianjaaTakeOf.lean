/-
  What wire.leading, wire.Take and wire.TakeSigned answer: the number with which bytes begin, or why there is none. Condition: fewer than 1000000 bytes.
-/
import Derived.Test.YtickdpgfiianjaaRefTake
namespace Go.Proofs.Ytickdpgfiianjaa
open Go.RowKit
/-- What is known behind wire.leading. -/
def Leading (w : World) (t : Tk) (r : Ending) (w' : World) : Prop :=
  Below w.heap.size w w' ∧ match t with
  | .num m k => r = .returned (.tuple #[.int .i64 (m : Int), .int .i64 (k : Int)])
  | .short => r = panicE 120
  | .bad => r = panicE 121
set_option maxRecDepth 100000 in
set_option maxHeartbeats 1000000 in
theorem leading_any (A : Option Addr) (n c : Nat) (l : List UInt8) (w : World) (hr : Bys w w.heap.size A n l) (hn : n < 1000000) :
    Calls Try.prog 42 #[.slice A n c] w (Leading w (tk l)) := by
  go_enter Try.func42, Try.ntmps42
  go_wp2_with fail
  refine (taker_any A n c 120 l w hr hn).mono ?_
  rintro e w1 ⟨p, q, r, rfl, ht1, hq, hb1⟩
  have hp : w.heap.size ≤ p := by have := ht1.2.2.2.2.2; omega
  unfold nextV takenV
  go_wp2_with fail
  refine (number_any ht1).mono ?_
  rintro e w2 ⟨ho2, hm2⟩
  rw [List.drop_zero] at hm2
  have hb2 := hb1.trans (ho2.below hp)
  clear hb1 ho2 ht1
  rcases ht : tk l with _ | _ | ⟨m, k⟩
  · rw [ht] at hm2
    simp only at hm2
    subst hm2
    clear ht
    unfold panicE
    go_wp2_with fail
    refine ⟨rfl, hb2, ?_⟩
    rfl
  · rw [ht] at hm2
    simp only at hm2
    subst hm2
    clear ht
    unfold panicE
    go_wp2_with fail
    refine ⟨rfl, hb2, ?_⟩
    rfl
  · rw [ht] at hm2
    obtain ⟨rfl, ht2⟩ := hm2
    have HT := Lib.hid ht
    clear ht
    go_wp2_with fail
    refine (taken_any ht2.1).mono ?_
    rintro e w3 ⟨rfl, rfl⟩
    go_wp2_with fail
    go_ret2
    refine ⟨hb2, ?_⟩
    rw [HT.out]
    rfl
set_option maxRecDepth 100000 in
set_option maxHeartbeats 1000000 in
theorem take1_any (q p1 p2 p3 B : Nat) (A : Option Addr) (n c : Nat) (l : List UInt8) (w : World) (hq : Blk w q 22 #[.slice A n c]) (h1 : Blk w p1 2 #[.int .i64 0]) (h2 : Blk w p2 3 #[.int .i64 0]) (h3 : Blk w p3 24 #[.int .i64 0])
    (hr : Bys w w.heap.size A n l) (hn : n < 1000000) (hB : B ≤ p1 ∧ B ≤ p2 ∧ p1 ≠ p2 ∧ p1 ≠ p3 ∧ p2 ≠ p3) (hBw : B ≤ w.heap.size) :
    Calls Try.prog 41 #[.pointer (some ⟨q, 0, none⟩), .pointer (some ⟨p1, 0, none⟩), .pointer (some ⟨p2, 0, none⟩)] w fun e w' => Blk w' p3 24 #[.int .i64 0] ∧
      ((e = .returned (.tuple #[]) ∧ tkErr (tk l) = 0 ∧ Blk w' p1 2 #[.int .i64 (tkNum (tk l) : Int)] ∧ Blk w' p2 3 #[.int .i64 (tkLen (tk l) : Int)] ∧ Below B w w') ∨
       ∃ x : Int, e = panicE x ∧ x = (tkErr (tk l) : Int) ∧ Blk w' p1 2 #[.int .i64 (tkNum (tk l) : Int)] ∧ Blk w' p2 3 #[.int .i64 (tkLen (tk l) : Int)] ∧ Below B w w') := by
  have e0 : w.cell? ⟨q, 0, none⟩ = some (.slice A n c) := hq.cell 0
  go_enter Try.func41, Try.ntmps41
  go_wp2_with fail
  refine (leading_any A n c l w hr hn).mono ?_
  rintro e w1 ⟨hb, hm⟩
  have h1' := h1.below hb h1.lt
  have h2' := h2.below hb h2.lt
  have h3' := h3.below hb h3.lt
  have HB := Lib.hid (hb.mono hBw)
  clear e0 hb
  rcases ht : tk l with _ | _ | ⟨m, k⟩
  · rw [ht] at hm
    simp only at hm
    subst hm
    unfold panicE
    go_wp2_with fail
    refine ⟨rfl, h3', .inr ⟨_, rfl, ?_⟩⟩
    rw [ht]
    exact ⟨rfl, h1', h2', HB.out⟩
  · rw [ht] at hm
    simp only at hm
    subst hm
    unfold panicE
    go_wp2_with fail
    refine ⟨rfl, h3', .inr ⟨_, rfl, ?_⟩⟩
    rw [ht]
    exact ⟨rfl, h1', h2', HB.out⟩
  · rw [ht] at hm
    simp only at hm
    subst hm
    have s1 : w1.cell? ⟨p1, 0, none⟩ = some (.int .i64 0) := h1'.cell 0
    have y1 := h1'.frozen 0
    have h2w := h2'.far (p := ⟨p1, 0, none⟩) (by show p2 ≠ p1; omega) (.int .i64 (m : Int))
    have h3w := h3'.far (p := ⟨p1, 0, none⟩) (by show p3 ≠ p1; omega) (.int .i64 (m : Int))
    have e2 : (w1.setCell ⟨p1, 0, none⟩ (.int .i64 (m : Int))).cell? ⟨p2, 0, none⟩ = some (.int .i64 0) := h2w.cell 0
    have z2 : (w1.setCell ⟨p1, 0, none⟩ (.int .i64 (m : Int))).frozen? ⟨p2, 0, none⟩ = false := h2w.frozen 0
    have H2 := Lib.hid (h2w.set_ 0 (.int .i64 (k : Int)))
    have H3 := Lib.hid (h3w.far (p := ⟨p2, 0, none⟩) (by show p3 ≠ p2; omega) (.int .i64 (k : Int)))
    have H1 := Lib.hid ((h1'.set_ 0 (.int .i64 (m : Int))).far (p := ⟨p2, 0, none⟩) (by show p1 ≠ p2; omega) (.int .i64 (k : Int)))
    have H4 := Lib.hid ((HB.out.setCell (p := ⟨p1, 0, none⟩) hB.1 (.int .i64 (m : Int))).setCell (p := ⟨p2, 0, none⟩) hB.2.1 (.int .i64 (k : Int)))
    clear hB h1' h2' h3' h2w h3w HB h1 h2 h3 hr
    go_wp2_with fail
    go_end0
    refine ⟨H3.out, .inl ⟨rfl, ?_⟩⟩
    rw [ht]
    exact ⟨rfl, H1.out, H2.out, H4.out⟩
/-- What is known behind wire.Take. -/
def TakeW (w : World) (t : Tk) (e : Ending) (w' : World) : Prop := e = .returned (.tuple #[.int .i64 (tkNum t : Int), .int .i64 (tkLen t : Int), .int .i64 (tkErr t : Int)]) ∧ Below w.heap.size w w'
theorem tkErr_ok {o : Tk} (h : tkErr o = 0) : (0 : Int) = (tkErr o : Int) := by omega
set_option maxRecDepth 100000 in
set_option maxHeartbeats 2000000 in
theorem take_any (A : Option Addr) (n c : Nat) (l : List UInt8) (w : World) (hr : Bys w w.heap.size A n l) (hn : n < 1000000) :
    Calls Try.prog 19 #[.slice A n c] w (TakeW w (tk l)) := by
  have hmf := mf
  go_enter Try.func19, Try.ntmps19
  go_wp2_with fail
  have hq0 : Blk (((w.alloc (.cells #[.slice A n c] 22)).alloc (.cells #[.int .i64 0] 2)).alloc (.cells #[.int .i64 0] 3)) w.heap.size 22 #[.slice A n c] := ((Blk.new w 22 _).alloc _).alloc _
  have h10 : Blk (((w.alloc (.cells #[.slice A n c] 22)).alloc (.cells #[.int .i64 0] 2)).alloc (.cells #[.int .i64 0] 3)) (w.heap.size + 1) 2 #[.int .i64 0] := (blk_new _ 2 _ (by simp)).alloc _
  have h20 : Blk (((w.alloc (.cells #[.slice A n c] 22)).alloc (.cells #[.int .i64 0] 2)).alloc (.cells #[.int .i64 0] 3)) (w.heap.size + 1 + 1) 3 #[.int .i64 0] := blk_new _ 3 _ (by simp)
  have hb0 : Below w.heap.size w (((w.alloc (.cells #[.slice A n c] 22)).alloc (.cells #[.int .i64 0] 2)).alloc (.cells #[.int .i64 0] 3)) := (((Below.refl _ _).alloc (Nat.le_refl _) _).alloc (le_alloc (Nat.le_refl _) _) _).alloc (le_alloc (le_alloc (Nat.le_refl _) _) _) _
  have hs0 : (((w.alloc (.cells #[.slice A n c] 22)).alloc (.cells #[.int .i64 0] 2)).alloc (.cells #[.int .i64 0] 3)).heap.size = w.heap.size + 3 := by simp
  generalize ((w.alloc (.cells #[.slice A n c] 22)).alloc (.cells #[.int .i64 0] 2)).alloc (.cells #[.int .i64 0] 3) = w0 at *
  clear hmf
  refine (attempt_take _ _ _ w0 (fun x w' => x = (tkErr (tk l) : Int) ∧ Blk w' (w.heap.size + 1) 2 #[.int .i64 (tkNum (tk l) : Int)] ∧ Blk w' (w.heap.size + 1 + 1) 3 #[.int .i64 (tkLen (tk l) : Int)] ∧ Below w.heap.size w w') ?_ ?_).mono ?_
  · refine (take1_any w.heap.size (w.heap.size + 1) (w.heap.size + 1 + 1) w0.heap.size w.heap.size A n c l _ (hq0.alloc _) (h10.alloc _) (h20.alloc _) (Blk.new w0 24 _) ((hr.below hb0).alloc (by omega) _ |>.more (le_alloc (by omega) _)) hn ⟨by omega, by omega, by omega, by omega, by omega⟩ (le_alloc (by omega) _)).mono ?_
    have hb1 : Below w.heap.size w (w0.alloc (.cells #[.int .i64 0] 24)) := hb0.alloc (by omega) _
    rintro e w' ⟨h3, ⟨rfl, he, ha, hb, hbl⟩ | ⟨x, rfl, hx, ha, hb, hbl⟩⟩
    · exact ⟨h3, .inl ⟨rfl, tkErr_ok he, ha, hb, hb1.trans hbl⟩⟩
    · exact ⟨h3, .inr ⟨x, rfl, hx, ha, hb, hb1.trans hbl⟩⟩
  · rintro x v w' ⟨hx, ha, hb, hbl⟩
    exact ⟨hx, ha.far (p := ⟨w0.heap.size, 0, none⟩) (by show w.heap.size + 1 ≠ w0.heap.size; omega) _, hb.far (p := ⟨w0.heap.size, 0, none⟩) (by show w.heap.size + 1 + 1 ≠ w0.heap.size; omega) _, hbl.setCell (p := ⟨w0.heap.size, 0, none⟩) (by show w.heap.size ≤ w0.heap.size; omega) _⟩
  rintro e w1 ⟨x, rfl, rfl, ha, hb, hbl⟩
  clear hq0 h10 h20 hb0 hs0
  generalize hy : (tkNum (tk l) : Int) = y at *
  generalize hm : (tkLen (tk l) : Int) = m at *
  generalize hx : (tkErr (tk l) : Int) = x at *
  have HF : Hid (Ending.returned (.tuple #[.int .i64 y, .int .i64 m, .int .i64 x]) = Ending.returned (.tuple #[.int .i64 (tkNum (tk l) : Int), .int .i64 (tkLen (tk l) : Int), .int .i64 (tkErr (tk l) : Int)])) := Lib.hid (by rw [hy, hm, hx])
  clear hy hm hx
  have hd1 : Blk w1.drew (w.heap.size + 1) 2 #[.int .i64 y] := ha.drew
  have hd2 : Blk w1.drew (w.heap.size + 1 + 1) 3 #[.int .i64 m] := hb.drew
  have hd3 : Below w.heap.size w w1.drew := hbl.drew
  go_wp2_with fail
  refine wp_region_np ?_
  refine wp_region_held_drew (S := fun W => Blk W (w.heap.size + 1) 2 #[.int .i64 y] ∧ Blk W (w.heap.size + 1 + 1) 3 #[.int .i64 m]) (by kernel_rfl) ⟨hd1, hd2⟩ (fun hHeld => ?_)
  clear ha hb hbl
  generalize w1.drew = w1 at *
  refine wpAnyH_takeAt (i := 0) (d := 7) (v := ?va0) rfl rfl (by kernel_rfl) (by kernel_rfl) (by kernel_rfl) (fun _ _ _ h => h) (Or.inl ⟨by rfl, ?hya0⟩) hHeld ?_
  case hya0 =>
    intro W hSw
    have s0 : W.cell? ⟨w.heap.size + 1, 0, none⟩ = some (.int .i64 y) := hSw.1.cell 0
    (go_simp; try with_reducible rfl)
  simp only [List.setIfInBounds_toArray, List.set_cons_zero, List.set_cons_succ]
  refine wpAnyH_takeAt (i := 2) (d := 9) (v := ?va2) rfl rfl (by kernel_rfl) (by kernel_rfl) (by kernel_rfl) (fun _ _ _ h => h) (Or.inl ⟨by rfl, ?hya2⟩) hHeld ?_
  case hya2 =>
    intro W hSw
    clear hSw
    (go_simp; try with_reducible rfl)
  simp only [List.setIfInBounds_toArray, List.set_cons_zero, List.set_cons_succ]
  refine wpAnyH_ready (rs := [1, 3]) (by kernel_rfl) (by simp) (AllReadyH.cons rfl (fun K hK => ?_) (AllReadyH.cons rfl (fun K hK => ?_) AllReadyH.nil))
  · skip
    have t0 : w1.cell? ⟨w.heap.size + 1 + 1, 0, none⟩ = some (.int .i64 m) := hHeld.2.cell 0
    go_simp
    refine hK.out _ _ hHeld (fun hHeld => ?_)
    clear hK K t0
    refine wpAnyH_ready (rs := [3]) (by kernel_rfl) (by simp) (AllReadyH.cons rfl (fun K hK => ?_) AllReadyH.nil)
    have t0 : w1.cell? ⟨w.heap.size + 1, 0, none⟩ = some (.int .i64 y) := hHeld.1.cell 0
    have t1 := hHeld.1.frozen 0
    have HW : Blk (w1.setCell ⟨w.heap.size + 1, 0, none⟩ (.int .i64 y)) (w.heap.size + 1) 2 #[.int .i64 y] ∧ Blk (w1.setCell ⟨w.heap.size + 1, 0, none⟩ (.int .i64 y)) (w.heap.size + 1 + 1) 3 #[.int .i64 m] := ⟨hHeld.1.set_ 0 _, hHeld.2.far (p := ⟨w.heap.size + 1, 0, none⟩) (by show w.heap.size + 1 + 1 ≠ w.heap.size + 1; omega) _⟩
    have HL := hd3.setCell (p := ⟨w.heap.size + 1, 0, none⟩) (by show w.heap.size ≤ w.heap.size + 1; omega) (.int .i64 y)
    go_simp
    refine hK.out _ _ HW (fun hHeld => ?_)
    clear hK K t0 t1 hd3 hd1 hd2
    generalize w1.setCell ⟨w.heap.size + 1, 0, none⟩ (.int .i64 y) = w2 at *
    refine wpAnyH_ready (rs := [4]) (by kernel_rfl) (by simp) (AllReadyH.cons rfl (fun K hK => ?_) AllReadyH.nil)
    have t0 : w2.cell? ⟨w.heap.size + 1 + 1, 0, none⟩ = some (.int .i64 m) := hHeld.2.cell 0
    have t1 := hHeld.2.frozen 0
    have HW2 : Blk (w2.setCell ⟨w.heap.size + 1 + 1, 0, none⟩ (.int .i64 m)) (w.heap.size + 1) 2 #[.int .i64 y] ∧ Blk (w2.setCell ⟨w.heap.size + 1 + 1, 0, none⟩ (.int .i64 m)) (w.heap.size + 1 + 1) 3 #[.int .i64 m] := ⟨hHeld.1.far (p := ⟨w.heap.size + 1 + 1, 0, none⟩) (by show w.heap.size + 1 ≠ w.heap.size + 1 + 1; omega) _, hHeld.2.set_ 0 _⟩
    have HL2 := HL.setCell (p := ⟨w.heap.size + 1 + 1, 0, none⟩) (by show w.heap.size ≤ w.heap.size + 1 + 1; omega) (.int .i64 m)
    go_simp
    refine hK.out _ _ HW2 (fun hHeld => ?_)
    clear hK K t0 t1 HL
    generalize w2.setCell ⟨w.heap.size + 1 + 1, 0, none⟩ (.int .i64 m) = w3 at *
    refine wpAnyH_ready (rs := [5]) (by kernel_rfl) (by simp) (AllReadyH.cons rfl (fun K hK => ?_) AllReadyH.nil)
    go_simp
    refine hK.out _ _ hHeld (fun hHeld => ?_)
    clear hK K
    refine wpAnyH_done (by kernel_rfl) ?_ _
    have s0 : w3.cell? ⟨w.heap.size + 1, 0, none⟩ = some (.int .i64 y) := hHeld.1.cell 0
    have t0 : w3.cell? ⟨w.heap.size + 1 + 1, 0, none⟩ = some (.int .i64 m) := hHeld.2.cell 0
    go_wp2_with fail
    refine bodyPost_ret (v := .tuple #[.int .i64 y, .int .i64 m, .int .i64 x]) ?_ rfl ⟨HF.out, HL2⟩
    simp [results, Try.results19, go_sem, s0, t0]
  · skip
    have t0 : w1.cell? ⟨w.heap.size + 1, 0, none⟩ = some (.int .i64 y) := hHeld.1.cell 0
    have t1 := hHeld.1.frozen 0
    have HW : Blk (w1.setCell ⟨w.heap.size + 1, 0, none⟩ (.int .i64 y)) (w.heap.size + 1) 2 #[.int .i64 y] ∧ Blk (w1.setCell ⟨w.heap.size + 1, 0, none⟩ (.int .i64 y)) (w.heap.size + 1 + 1) 3 #[.int .i64 m] := ⟨hHeld.1.set_ 0 _, hHeld.2.far (p := ⟨w.heap.size + 1, 0, none⟩) (by show w.heap.size + 1 + 1 ≠ w.heap.size + 1; omega) _⟩
    have HL := hd3.setCell (p := ⟨w.heap.size + 1, 0, none⟩) (by show w.heap.size ≤ w.heap.size + 1; omega) (.int .i64 y)
    go_simp
    refine hK.out _ _ HW (fun hHeld => ?_)
    clear hK K t0 t1 hd3 hd1 hd2
    generalize w1.setCell ⟨w.heap.size + 1, 0, none⟩ (.int .i64 y) = w2 at *
    refine wpAnyH_ready (rs := [1]) (by kernel_rfl) (by simp) (AllReadyH.cons rfl (fun K hK => ?_) AllReadyH.nil)
    have t0 : w2.cell? ⟨w.heap.size + 1 + 1, 0, none⟩ = some (.int .i64 m) := hHeld.2.cell 0
    go_simp
    refine hK.out _ _ hHeld (fun hHeld => ?_)
    clear hK K t0
    refine wpAnyH_ready (rs := [4]) (by kernel_rfl) (by simp) (AllReadyH.cons rfl (fun K hK => ?_) AllReadyH.nil)
    have t0 : w2.cell? ⟨w.heap.size + 1 + 1, 0, none⟩ = some (.int .i64 m) := hHeld.2.cell 0
    have t1 := hHeld.2.frozen 0
    have HW2 : Blk (w2.setCell ⟨w.heap.size + 1 + 1, 0, none⟩ (.int .i64 m)) (w.heap.size + 1) 2 #[.int .i64 y] ∧ Blk (w2.setCell ⟨w.heap.size + 1 + 1, 0, none⟩ (.int .i64 m)) (w.heap.size + 1 + 1) 3 #[.int .i64 m] := ⟨hHeld.1.far (p := ⟨w.heap.size + 1 + 1, 0, none⟩) (by show w.heap.size + 1 ≠ w.heap.size + 1 + 1; omega) _, hHeld.2.set_ 0 _⟩
    have HL2 := HL.setCell (p := ⟨w.heap.size + 1 + 1, 0, none⟩) (by show w.heap.size ≤ w.heap.size + 1 + 1; omega) (.int .i64 m)
    go_simp
    refine hK.out _ _ HW2 (fun hHeld => ?_)
    clear hK K t0 t1 HL
    generalize w2.setCell ⟨w.heap.size + 1 + 1, 0, none⟩ (.int .i64 m) = w3 at *
    refine wpAnyH_ready (rs := [5]) (by kernel_rfl) (by simp) (AllReadyH.cons rfl (fun K hK => ?_) AllReadyH.nil)
    go_simp
    refine hK.out _ _ hHeld (fun hHeld => ?_)
    clear hK K
    refine wpAnyH_done (by kernel_rfl) ?_ _
    have s0 : w3.cell? ⟨w.heap.size + 1, 0, none⟩ = some (.int .i64 y) := hHeld.1.cell 0
    have t0 : w3.cell? ⟨w.heap.size + 1 + 1, 0, none⟩ = some (.int .i64 m) := hHeld.2.cell 0
    go_wp2_with fail
    refine bodyPost_ret (v := .tuple #[.int .i64 y, .int .i64 m, .int .i64 x]) ?_ rfl ⟨HF.out, HL2⟩
    simp [results, Try.results19, go_sem, s0, t0]
/-- What is known behind wire.TakeSigned. -/
def TakeSW (w : World) (t : Tk) (e : Ending) (w' : World) : Prop := e = .returned (.tuple #[.int .i64 (tksNum t), .int .i64 (tkLen t : Int), .int .i64 (tkErr t : Int)]) ∧ Below w.heap.size w w'
theorem unf_tk {t : Tk} : unf (tkNum t) = tksNum t := by
  rcases t with _ | _ | ⟨m, k⟩
  · rfl
  · rfl
  · rfl
theorem tkNum_lt (l : List UInt8) : tkNum (tk l) < 9223372036854775808 := by
  rcases ht : tk l with _ | _ | ⟨m, k⟩
  · show 0 < _; omega
  · show 0 < _; omega
  · exact (tk_bound ht).1
set_option maxRecDepth 100000 in
set_option maxHeartbeats 1000000 in
theorem takeSigned_any (A : Option Addr) (n c : Nat) (l : List UInt8) (w : World) (hr : Bys w w.heap.size A n l) (hn : n < 1000000) :
    Calls Try.prog 21 #[.slice A n c] w (TakeSW w (tk l)) := by
  go_enter Try.func21, Try.ntmps21
  go_wp2_with fail
  refine (take_any A n c l w hr hn).mono ?_
  rintro e w1 ⟨rfl, hb⟩
  have hlt := tkNum_lt l
  have HU := Lib.hid (unf_tk (t := tk l))
  go_wp2_with fail
  refine (unfolded_any _ hlt w1).mono ?_
  rintro e w2 ⟨rfl, rfl⟩
  go_wp2_with fail
  go_ret3
  exact ⟨by rw [← HU.out]; rfl, hb⟩
end Go.Proofs.Ytickdpgfiianjaa
