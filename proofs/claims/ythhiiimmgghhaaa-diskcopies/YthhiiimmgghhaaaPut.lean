/-
  What is done to files in memory: put, cut, remove. Conditions: names of at most 24 bytes, files and bytes within bounds.
-/
import Derived.Test.YthhiiimmgghhaaaStep
namespace Go.Proofs.Ythhiiimmgghhaaa
open Go.RowKit
/-- Behind a thing done to the files at block g, offset o. -/
def Done (w : World) (S : Nat → Prop) (g o m : Nat) (u : Int) (l' : FL) (w' : World) : Prop :=
  FM w' (More S w w') m l' ∧ Turn (fun b => S b ∨ b = g) w w' ∧ w'.heap[g]? = (w.setCell ⟨g, o + 1, none⟩ (.int .i64 u)).heap[g]?
theorem setCell_size (w : World) (a : Addr) (u : Value) : (w.setCell a u).heap.size = w.heap.size := by simp [World.setCell]
theorem setCell_block {w w' : World} {g i : Nat} {u : Value} (h : w'.heap[g]? = w.heap[g]?) : (w'.setCell ⟨g, i, none⟩ u).heap[g]? = (w.setCell ⟨g, i, none⟩ u).heap[g]? := by
  simp [World.setCell, Array.getElem?_modify, h]
theorem done_of {w w2 : World} {S : Nat → Prop} {g o m : Nat} {l' : FL} {u : Int} (hF2 : FM w2 (More S w w2) m l') (hT2 : Turn S w w2) (hg : ¬ S g) (hgl : g < w.heap.size) : Done w S g o m u l' (w2.setCell ⟨g, o + 1, none⟩ (.int .i64 u)) := by
  have hT : Turn (fun b => b = g) w2 (w2.setCell ⟨g, o + 1, none⟩ (.int .i64 u)) := (Turn.refl (fun b => b = g) _).setCell (p := ⟨g, o + 1, none⟩) (fun _ => rfl) _
  refine ⟨?_, hT2.mono (fun b _ h => .inl h) |>.trans hT (fun b _ e => .inr e), setCell_block (hT2.block g hgl hg)⟩
  have := hF2.keep hT (fun b hb e => by
    subst e
    rcases hb with hb | hb
    · exact hg hb
    · omega)
  exact this.wide (fun b hb => by unfold More at hb ⊢; rw [setCell_size]; exact hb) (fun b hb => by
    have := this.lt (b := b) (by unfold More at hb ⊢; rw [setCell_size] at hb; exact hb)
    exact this)
/-- The same, where the sum was written ahead. -/
theorem done_of2 {w w1 w3 : World} {S : Nat → Prop} {g o m : Nat} {l' : FL} {u : Int} (hw1 : w1 = (w.setCell ⟨g, o + 1, none⟩ (.int .i64 u)).drew) (hF : FM w3 (More S w1 w3) m l') (hT : Turn S w1 w3) (hg : ¬ S g) (hgl : g < w.heap.size) : Done w S g o m u l' w3 := by
  have hs : w1.heap.size = w.heap.size := by rw [hw1]; exact setCell_size _ _ _
  have h0 : Turn (fun b => S b ∨ b = g) w w1 := by rw [hw1]; exact ((Turn.refl (fun b => S b ∨ b = g) _).setCell (p := ⟨g, o + 1, none⟩) (fun _ => .inr rfl) _).drew
  refine ⟨?_, h0.trans hT (fun b _ e => .inl e), ?_⟩
  · unfold More at hF ⊢
    rw [hs] at hF
    exact hF
  · rw [hT.block g (by omega) hg, hw1]; rfl
set_option maxHeartbeats 2000000 in
theorem put_any {w : World} {S : Nat → Prop} {m : Nat} {l : FL} (h : FM w S m l) (g o : Nat) (u : Nat) (hg : ¬ S g) (hc : w.cell? ⟨g, o, none⟩ = some (.map (some m))) (hu : w.cell? ⟨g, o + 1, none⟩ = some (.int .i64 (u : Int)))
    (hf : w.frozen? ⟨g, o + 1, none⟩ = false) (n b : Bs) (hn : n.length ≤ 24) (hb : b.length ≤ 100000000) (hs : sizeF l n ≤ 100000000) (hu' : u ≤ 100000000) (hlen : l.length < 1000000) :
    Calls Try.prog 69 #[.pointer (some ⟨g, o, none⟩), .string (str n), .string (str b)] w fun e w' => e = .returned (.tuple #[]) ∧ Done w S g o m ((u + b.length : Nat) : Int) (putF n b l) w' := by
  obtain ⟨v, hl, ho, hvS⟩ := h.look (n := n) (by unfold maxLen; omega)
  have hgl : g < w.heap.size := block_lt_of_cell hc
  have hlook : (Instr.lookup 76 (.map (some m)) (.string (str n)) false).run Try.prog w.drew = .ok v w.drew := h.look_keep (by unfold maxLen; omega) hl rfl
  have HF := Lib.hid h
  have HL := Lib.hid hl
  clear h hl
  go_enter Try.func69, Try.ntmps69
  go_wp2_with fail
  refine wp_region_np ?_
  refine wp_region_held_drew (S := fun W => W.cell? ⟨g, o, none⟩ = some (.map (some m))) (by kernel_rfl) hc (fun hHeld => ?_)
  refine wpAnyH_takeAt (i := 0) (d := 6) (v := ?vp0) rfl rfl (by kernel_rfl) (by kernel_rfl) (by kernel_rfl) (fun _ _ _ h => h) (Or.inl ⟨by rfl, ?hyp0⟩) hHeld ?_
  case hyp0 =>
    intro W hSw
    clear hSw
    (go_simp; try with_reducible rfl)
  simp only [List.setIfInBounds_toArray, List.set_cons_zero, List.set_cons_succ]
  refine wpAnyH_takeAt (i := 1) (d := 7) (v := ?vp1) rfl rfl (by kernel_rfl) (by kernel_rfl) (by kernel_rfl) (fun _ _ _ h => h) (Or.inl ⟨by rfl, ?hyp1⟩) hHeld ?_
  case hyp1 =>
    intro W hSw
    clear hSw
    (go_simp; try with_reducible rfl)
  simp only [List.setIfInBounds_toArray, List.set_cons_zero, List.set_cons_succ]
  refine wpAnyH_takeAt (i := 2) (d := 8) (v := ?vp2) rfl rfl (by kernel_rfl) (by kernel_rfl) (by kernel_rfl) (fun _ _ _ h => h) (Or.inl ⟨by rfl, ?hyp2⟩) hHeld ?_
  case hyp2 =>
    intro W hSw
    clear hSw
    (go_simp; try with_reducible rfl)
  simp only [List.setIfInBounds_toArray, List.set_cons_zero, List.set_cons_succ]
  refine wpAnyH_takeAt (i := 3) (d := 9) (v := ?vp3) rfl rfl (by kernel_rfl) (by kernel_rfl) (by kernel_rfl) (fun _ _ _ h => h) (Or.inl ⟨by rfl, ?hyp3⟩) hHeld ?_
  case hyp3 =>
    intro W hSw
    have sc := hSw
    (go_simp; try with_reducible rfl)
  simp only [List.setIfInBounds_toArray, List.set_cons_zero, List.set_cons_succ]
  refine wpAnyH_takeAt (i := 4) (d := 10) (v := ?vp4) rfl rfl (by kernel_rfl) (by kernel_rfl) (by kernel_rfl) (fun _ _ _ h => h) (Or.inl ⟨by rfl, ?hyp4⟩) hHeld ?_
  case hyp4 =>
    intro W hSw
    clear hSw
    (go_simp; try with_reducible rfl)
  simp only [List.setIfInBounds_toArray, List.set_cons_zero, List.set_cons_succ]
  refine wpAnyH_takeAt (i := 5) (d := 11) (v := ?vp5) rfl rfl (by kernel_rfl) (by kernel_rfl) (by kernel_rfl) (fun _ _ _ h => h) (Or.inl ⟨by rfl, ?hyp5⟩) hHeld ?_
  case hyp5 =>
    intro W hSw
    clear hSw
    (go_simp; try with_reducible rfl)
  simp only [List.setIfInBounds_toArray, List.set_cons_zero, List.set_cons_succ]
  refine wpAnyH_takeAt (i := 6) (d := 12) (v := ?vp6) rfl rfl (by kernel_rfl) (by kernel_rfl) (by kernel_rfl) (fun _ _ _ h => h) (Or.inl ⟨by rfl, ?hyp6⟩) hHeld ?_
  case hyp6 =>
    intro W hSw
    clear hSw
    (go_simp; try with_reducible rfl)
  simp only [List.setIfInBounds_toArray, List.set_cons_zero, List.set_cons_succ]
  refine wpAnyH_takeAt (i := 7) (d := 13) (v := ?vp7) rfl rfl (by kernel_rfl) (by kernel_rfl) (by kernel_rfl) (fun _ _ _ h => h) (Or.inl ⟨by rfl, ?hyp7⟩) hHeld ?_
  case hyp7 =>
    intro W hSw
    clear hSw
    (go_simp; try with_reducible rfl)
  simp only [List.setIfInBounds_toArray, List.set_cons_zero, List.set_cons_succ]
  refine wpAnyH_takeAt (i := 8) (d := 14) (v := ?vp8) rfl rfl (by kernel_rfl) (by kernel_rfl) (by kernel_rfl) (fun _ _ _ h => h) (Or.inl ⟨by rfl, ?hyp8⟩) hHeld ?_
  case hyp8 =>
    intro W hSw
    have sc := hSw
    (go_simp; try with_reducible rfl)
  simp only [List.setIfInBounds_toArray, List.set_cons_zero, List.set_cons_succ]
  refine wpAnyH_takeAt (i := 9) (d := 15) (v := ?vp9) rfl rfl (by kernel_rfl) (by kernel_rfl) (by kernel_rfl) (fun _ _ _ h => h) (Or.inl ⟨by rfl, ?hyp9⟩) hHeld ?_
  case hyp9 =>
    intro W hSw
    clear hSw
    (go_simp; try with_reducible rfl)
  simp only [List.setIfInBounds_toArray, List.set_cons_zero, List.set_cons_succ]
  refine wpAnyH_takeAt (i := 11) (d := 17) (v := ?vp11) rfl rfl (by kernel_rfl) (by kernel_rfl) (by kernel_rfl) (fun _ _ _ h => h) (Or.inl ⟨by rfl, ?hyp11⟩) hHeld ?_
  case hyp11 =>
    intro W hSw
    clear hSw
    (go_simp; try with_reducible rfl)
  simp only [List.setIfInBounds_toArray, List.set_cons_zero, List.set_cons_succ]
  refine wpAnyH_ready (rs := [10]) (by kernel_rfl) (by simp) (AllReadyH.cons rfl (fun K hK => ?_) AllReadyH.nil)
  go_simp
  refine hK.out _ _ hHeld (fun hHeld => ?_)
  clear hK K
  try simp only [List.setIfInBounds_toArray, List.set_cons_zero, List.set_cons_succ]
  refine wpAnyH_ready (rs := [12]) (by kernel_rfl) (by simp) (AllReadyH.cons rfl (fun K hK => ?_) AllReadyH.nil)
  refine step_append_str (d := 18) (by rfl) rfl _ _ (by rfl) v _ (by rfl) (show Own w.drew v _ from ho) b (by rfl) (Nat.le_trans (show _ ≤ 100000000 from hs) (by omega)) (by omega) ?_
  intro v1 w1 ho1 hg1
  have hg1' : Grew v w v1 w1 := hg1.of_drew
  obtain ⟨w2, hupd, hF2, hT2, hgm⟩ := HF.out.store hn HL.out hg1' ho1 (rises_put l n b HF.out.rises) (by have := length_put l n b; omega) (find_put_same l n b HF.out.rises) (fun k hk => find_put_other l n b k hk)
  have hc1 : w1.cell? ⟨g, o, none⟩ = some (.map (some m)) := ((hg1'.turn (S := S) (fun r e => (hvS r e).1)).cell (p := ⟨g, o, none⟩) hgl hg).trans hc
  refine hK.out _ _ hc1 (fun hHeld => ?_)
  clear hK K
  try simp only [List.setIfInBounds_toArray, List.set_cons_zero, List.set_cons_succ]
  refine wpAnyH_ready (rs := [13]) (by kernel_rfl) (by simp) (AllReadyH.cons rfl (fun K hK => ?_) AllReadyH.nil)
  go_simp
  have hc2 : w2.cell? ⟨g, o, none⟩ = some (.map (some m)) := (hT2.cell (p := ⟨g, o, none⟩) hgl hg).trans hc
  refine hK.out _ _ hc2 (fun hHeld => ?_)
  clear hK K
  try simp only [List.setIfInBounds_toArray, List.set_cons_zero, List.set_cons_succ]
  refine wpAnyH_done (by kernel_rfl) ?_ _
  have hu2 : w2.cell? ⟨g, o + 1, none⟩ = some (.int .i64 (u : Int)) := (hT2.cell (p := ⟨g, o + 1, none⟩) hgl hg).trans hu
  have hf2 : w2.frozen? ⟨g, o + 1, none⟩ = false := (hT2.frozen (p := ⟨g, o + 1, none⟩) hgl hg).trans hf
  have hbs := str_size b
  clear hc2 hHeld hc1 hupd hlook
  go_wp2_with fail
  go_end0
  refine ⟨rfl, ?_⟩
  rw [show ((u + b.length : Nat) : Int) = (u : Int) + (b.length : Int) from by omega]
  exact done_of hF2 hT2 hg hgl
set_option maxHeartbeats 2000000 in
theorem cut_any {w : World} {S : Nat → Prop} {m : Nat} {l : FL} (h : FM w S m l) (g o : Nat) (u : Nat) (hg : ¬ S g) (hc : w.cell? ⟨g, o, none⟩ = some (.map (some m))) (hu : w.cell? ⟨g, o + 1, none⟩ = some (.int .i64 (u : Int)))
    (hf : w.frozen? ⟨g, o + 1, none⟩ = false) (n b : Bs) (k : Nat) (hn : n.length ≤ 24) (hfd : find l n = some b) (hk : k ≤ b.length) (hs : b.length ≤ u) (hu' : u ≤ 100000000) (hlen : l.length < 1000000) :
    Calls Try.prog 71 #[.pointer (some ⟨g, o, none⟩), .string (str n), .int .i64 (k : Int)] w fun e w' => e = .returned (.tuple #[]) ∧ Done w S g o m ((u : Int) - ((b.length : Int) - (k : Int))) (cutF n k l) w' := by
  have hgl : g < w.heap.size := block_lt_of_cell hc
  have hsz := size_any (w := w.drew) (S := S) (m := m) (l := l) (h.below ⟨rfl, rfl, rfl, Nat.le_refl _, fun _ _ => rfl⟩) g o hc n (by omega)
  have esz : sizeF l n = b.length := by unfold sizeF; rw [hfd]; rfl
  rw [esz] at hsz
  have HF := Lib.hid h
  have HE := Lib.hid esz
  have HFD := Lib.hid hfd
  clear h esz hfd
  have hi1 : IntKind.i64.wrap ((b.length : Int) - (k : Int)) = (b.length : Int) - (k : Int) := IntWalk.i64_in _ (by omega)
  have hi2 : IntKind.i64.wrap ((u : Int) - ((b.length : Int) - (k : Int))) = (u : Int) - ((b.length : Int) - (k : Int)) := IntWalk.i64_in _ (by omega)
  go_enter Try.func71, Try.ntmps71
  go_wp2_with fail
  apply wp_region_to
  case h =>
    refine wp_region_np ?_
    refine wp_region_held_drew (S := fun _ => True) (by kernel_rfl) trivial (fun hHeld => ?_)
    refine wpAnyH_takeAt (i := 0) (d := 6) (v := ?vc0) rfl rfl (by kernel_rfl) (by kernel_rfl) (by kernel_rfl) (fun _ _ _ h => h) (Or.inl ⟨by rfl, ?hyc0⟩) hHeld ?_
    case hyc0 =>
      intro W hSw
      clear hSw
      (go_simp; try with_reducible rfl)
    simp only [List.setIfInBounds_toArray, List.set_cons_zero, List.set_cons_succ]
    refine wpAnyH_takeAt (i := 1) (d := 7) (v := ?vc1) rfl rfl (by kernel_rfl) (by kernel_rfl) (by kernel_rfl) (fun _ _ _ h => h) (Or.inl ⟨by rfl, ?hyc1⟩) hHeld ?_
    case hyc1 =>
      intro W hSw
      clear hSw
      (go_simp; try with_reducible rfl)
    simp only [List.setIfInBounds_toArray, List.set_cons_zero, List.set_cons_succ]
    refine wpAnyH_takeAt (i := 2) (d := 8) (v := ?vc2) rfl rfl (by kernel_rfl) (by kernel_rfl) (by kernel_rfl) (fun _ _ _ h => h) (Or.inl ⟨by rfl, ?hyc2⟩) hHeld ?_
    case hyc2 =>
      intro W hSw
      clear hSw
      (go_simp; try with_reducible rfl)
    simp only [List.setIfInBounds_toArray, List.set_cons_zero, List.set_cons_succ]
    refine wpAnyH_takeAt (i := 4) (d := 10) (v := ?vc4) rfl rfl (by kernel_rfl) (by kernel_rfl) (by kernel_rfl) (fun _ _ _ h => h) (Or.inl ⟨by rfl, ?hyc4⟩) hHeld ?_
    case hyc4 =>
      intro W hSw
      clear hSw
      (go_simp; try with_reducible rfl)
    simp only [List.setIfInBounds_toArray, List.set_cons_zero, List.set_cons_succ]
    refine wpAnyH_takeAt (i := 5) (d := 11) (v := ?vc5) rfl rfl (by kernel_rfl) (by kernel_rfl) (by kernel_rfl) (fun _ _ _ h => h) (Or.inl ⟨by rfl, ?hyc5⟩) hHeld ?_
    case hyc5 =>
      intro W hSw
      clear hSw
      (go_simp; try with_reducible rfl)
    simp only [List.setIfInBounds_toArray, List.set_cons_zero, List.set_cons_succ]
    refine wpAnyH_takeAt (i := 7) (d := 13) (v := ?vc7) rfl rfl (by kernel_rfl) (by kernel_rfl) (by kernel_rfl) (fun _ _ _ h => h) (Or.inl ⟨by rfl, ?hyc7⟩) hHeld ?_
    case hyc7 =>
      intro W hSw
      clear hSw
      (go_simp; try with_reducible rfl)
    simp only [List.setIfInBounds_toArray, List.set_cons_zero, List.set_cons_succ]
    refine wpAnyH_ready (rs := [3, 6]) (by kernel_rfl) (by simp) (AllReadyH.cons rfl (fun K hK => ?_) (AllReadyH.cons rfl (fun K hK => ?_) AllReadyH.nil))
    · go_simp
      refine hK.out _ _ trivial (fun hHeld => ?_)
      clear hK K
      try simp only [List.setIfInBounds_toArray, List.set_cons_zero, List.set_cons_succ]
      refine wpAnyH_ready (rs := [6]) (by kernel_rfl) (by simp) (AllReadyH.cons rfl (fun K hK => ?_) AllReadyH.nil)
      go_simp
      refine hsz.mono ?_
      rintro e w' ⟨rfl, rfl⟩
      dsimp only
      refine hK.out _ _ trivial (fun hHeld => ?_)
      clear hK K
      try simp only [List.setIfInBounds_toArray, List.set_cons_zero, List.set_cons_succ]
      refine wpAnyH_takeAt (i := 8) (d := 14) (v := ?vca8) rfl rfl (by kernel_rfl) (by kernel_rfl) (by kernel_rfl) (fun _ _ _ h => h) (Or.inl ⟨by rfl, ?hyca8⟩) hHeld ?_
      case hyca8 =>
        intro W hSw
        clear hSw
        (go_simp; try with_reducible rfl)
      simp only [List.setIfInBounds_toArray, List.set_cons_zero, List.set_cons_succ]
      refine wpAnyH_takeAt (i := 9) (d := 15) (v := ?vca9) rfl rfl (by kernel_rfl) (by kernel_rfl) (by kernel_rfl) (fun _ _ _ h => h) (Or.inl ⟨by rfl, ?hyca9⟩) hHeld ?_
      case hyca9 =>
        intro W hSw
        clear hSw
        (go_simp; try with_reducible rfl)
      simp only [List.setIfInBounds_toArray, List.set_cons_zero, List.set_cons_succ]
      refine wpAnyH_takeAt (i := 10) (d := 16) (v := ?vca10) rfl rfl (by kernel_rfl) (by kernel_rfl) (by kernel_rfl) (fun _ _ _ h => h) (Or.inl ⟨by rfl, ?hyca10⟩) hHeld ?_
      case hyca10 =>
        intro W hSw
        clear hSw
        (go_simp; try with_reducible rfl)
      simp only [List.setIfInBounds_toArray, List.set_cons_zero, List.set_cons_succ]
      refine wpAnyH_takeAt (i := 11) (d := 17) (v := ?vca11) rfl rfl (by kernel_rfl) (by kernel_rfl) (by kernel_rfl) (fun _ _ _ h => h) (Or.inl ⟨by rfl, ?hyca11⟩) hHeld ?_
      case hyca11 =>
        intro W hSw
        clear hSw
        (go_simp; try with_reducible rfl)
      simp only [List.setIfInBounds_toArray, List.set_cons_zero, List.set_cons_succ]
      refine wpAnyH_ready (rs := [12]) (by kernel_rfl) (by simp) (AllReadyH.cons rfl (fun K hK => ?_) AllReadyH.nil)
      go_simp
      refine hK.out _ _ trivial (fun hHeld => ?_)
      clear hK K
      try simp only [List.setIfInBounds_toArray, List.set_cons_zero, List.set_cons_succ]
      refine wpAnyH_done (by kernel_rfl) ?_ _
      exact ⟨rfl, rfl, rfl⟩
    · go_simp
      refine hsz.mono ?_
      rintro e w' ⟨rfl, rfl⟩
      dsimp only
      refine hK.out _ _ trivial (fun hHeld => ?_)
      clear hK K
      try simp only [List.setIfInBounds_toArray, List.set_cons_zero, List.set_cons_succ]
      refine wpAnyH_takeAt (i := 8) (d := 14) (v := ?vcb8) rfl rfl (by kernel_rfl) (by kernel_rfl) (by kernel_rfl) (fun _ _ _ h => h) (Or.inl ⟨by rfl, ?hycb8⟩) hHeld ?_
      case hycb8 =>
        intro W hSw
        clear hSw
        (go_simp; try with_reducible rfl)
      simp only [List.setIfInBounds_toArray, List.set_cons_zero, List.set_cons_succ]
      refine wpAnyH_ready (rs := [3]) (by kernel_rfl) (by simp) (AllReadyH.cons rfl (fun K hK => ?_) AllReadyH.nil)
      go_simp
      refine hK.out _ _ trivial (fun hHeld => ?_)
      clear hK K
      try simp only [List.setIfInBounds_toArray, List.set_cons_zero, List.set_cons_succ]
      refine wpAnyH_takeAt (i := 9) (d := 15) (v := ?vcb9) rfl rfl (by kernel_rfl) (by kernel_rfl) (by kernel_rfl) (fun _ _ _ h => h) (Or.inl ⟨by rfl, ?hycb9⟩) hHeld ?_
      case hycb9 =>
        intro W hSw
        clear hSw
        (go_simp; try with_reducible rfl)
      simp only [List.setIfInBounds_toArray, List.set_cons_zero, List.set_cons_succ]
      refine wpAnyH_takeAt (i := 10) (d := 16) (v := ?vcb10) rfl rfl (by kernel_rfl) (by kernel_rfl) (by kernel_rfl) (fun _ _ _ h => h) (Or.inl ⟨by rfl, ?hycb10⟩) hHeld ?_
      case hycb10 =>
        intro W hSw
        clear hSw
        (go_simp; try with_reducible rfl)
      simp only [List.setIfInBounds_toArray, List.set_cons_zero, List.set_cons_succ]
      refine wpAnyH_takeAt (i := 11) (d := 17) (v := ?vcb11) rfl rfl (by kernel_rfl) (by kernel_rfl) (by kernel_rfl) (fun _ _ _ h => h) (Or.inl ⟨by rfl, ?hycb11⟩) hHeld ?_
      case hycb11 =>
        intro W hSw
        clear hSw
        (go_simp; try with_reducible rfl)
      simp only [List.setIfInBounds_toArray, List.set_cons_zero, List.set_cons_succ]
      refine wpAnyH_ready (rs := [12]) (by kernel_rfl) (by simp) (AllReadyH.cons rfl (fun K hK => ?_) AllReadyH.nil)
      go_simp
      refine hK.out _ _ trivial (fun hHeld => ?_)
      clear hK K
      try simp only [List.setIfInBounds_toArray, List.set_cons_zero, List.set_cons_succ]
      refine wpAnyH_done (by kernel_rfl) ?_ _
      exact ⟨rfl, rfl, rfl⟩
  case hc =>
    clear hi1 hi2 hsz
    have hF1 : FM (w.setCell ⟨g, o + 1, none⟩ (.int .i64 ((u : Int) - ((b.length : Int) - (k : Int))))).drew S m l := HF.out.keep (T := fun b => b = g) ((Turn.refl (fun b => b = g) _).setCell (p := ⟨g, o + 1, none⟩) (fun _ => rfl) _).drew (fun b hb e => hg (by subst e; exact hb))
    have hc1 : (w.setCell ⟨g, o + 1, none⟩ (.int .i64 ((u : Int) - ((b.length : Int) - (k : Int))))).drew.cell? ⟨g, o, none⟩ = some (.map (some m)) := (World.cell?_setCell_other w ⟨g, o + 1, none⟩ ⟨g, o, none⟩ _ (by simp)).trans hc
    have hgl1 : g < (w.setCell ⟨g, o + 1, none⟩ (.int .i64 ((u : Int) - ((b.length : Int) - (k : Int))))).drew.heap.size := by show g < (w.setCell _ _).heap.size; rw [setCell_size]; exact hgl
    generalize hw1 : (w.setCell ⟨g, o + 1, none⟩ (.int .i64 ((u : Int) - ((b.length : Int) - (k : Int))))).drew = w1 at *
    have HW1 := Lib.hid hw1
    obtain ⟨v, hl, ho, hvS⟩ := hF1.look (n := n) (by unfold maxLen; omega)
    obtain ⟨A, q, c, rfl, hq, _⟩ := ho.form
    have hlook : (Instr.lookup 76 (.map (some m)) (.string (str n)) false).run Try.prog w1.drew = .ok (.slice A q c) w1.drew := hF1.look_keep (by unfold maxLen; omega) hl rfl
    have HB : Hid ((find l n).getD [] = b) := Lib.hid (by rw [HFD.out]; rfl)
    rw [HB.out] at ho hq
    have HQ := Lib.hid hq
    have HL := Lib.hid hl
    clear hw1 hl hq hf hu hc
    go_wp2_with fail
    refine wp_region_np ?_
    refine wp_region_held_drew (S := fun W => W.cell? ⟨g, o, none⟩ = some (.map (some m))) (by kernel_rfl) hc1 (fun hHeld => ?_)
    refine wpAnyH_takeAt (i := 0) (d := 18) (v := ?vd0) rfl rfl (by kernel_rfl) (by kernel_rfl) (by kernel_rfl) (fun _ _ _ h => h) (Or.inl ⟨by rfl, ?hyd0⟩) hHeld ?_
    case hyd0 =>
      intro W hSw
      clear hSw
      (go_simp; try with_reducible rfl)
    simp only [List.setIfInBounds_toArray, List.set_cons_zero, List.set_cons_succ]
    refine wpAnyH_takeAt (i := 1) (d := 19) (v := ?vd1) rfl rfl (by kernel_rfl) (by kernel_rfl) (by kernel_rfl) (fun _ _ _ h => h) (Or.inl ⟨by rfl, ?hyd1⟩) hHeld ?_
    case hyd1 =>
      intro W hSw
      clear hSw
      (go_simp; try with_reducible rfl)
    simp only [List.setIfInBounds_toArray, List.set_cons_zero, List.set_cons_succ]
    refine wpAnyH_takeAt (i := 2) (d := 20) (v := ?vd2) rfl rfl (by kernel_rfl) (by kernel_rfl) (by kernel_rfl) (fun _ _ _ h => h) (Or.inl ⟨by rfl, ?hyd2⟩) hHeld ?_
    case hyd2 =>
      intro W hSw
      clear hSw
      (go_simp; try with_reducible rfl)
    simp only [List.setIfInBounds_toArray, List.set_cons_zero, List.set_cons_succ]
    refine wpAnyH_takeAt (i := 3) (d := 21) (v := ?vd3) rfl rfl (by kernel_rfl) (by kernel_rfl) (by kernel_rfl) (fun _ _ _ h => h) (Or.inl ⟨by rfl, ?hyd3⟩) hHeld ?_
    case hyd3 =>
      intro W hSw
      have sc := hSw
      (go_simp; try with_reducible rfl)
    simp only [List.setIfInBounds_toArray, List.set_cons_zero, List.set_cons_succ]
    refine wpAnyH_takeAt (i := 4) (d := 22) (v := ?vd4) rfl rfl (by kernel_rfl) (by kernel_rfl) (by kernel_rfl) (fun _ _ _ h => h) (Or.inl ⟨by rfl, ?hyd4⟩) hHeld ?_
    case hyd4 =>
      intro W hSw
      clear hSw
      (go_simp; try with_reducible rfl)
    simp only [List.setIfInBounds_toArray, List.set_cons_zero, List.set_cons_succ]
    refine wpAnyH_takeAt (i := 5) (d := 23) (v := ?vd5) rfl rfl (by kernel_rfl) (by kernel_rfl) (by kernel_rfl) (fun _ _ _ h => h) (Or.inl ⟨by rfl, ?hyd5⟩) hHeld ?_
    case hyd5 =>
      intro W hSw
      clear hSw
      (go_simp; try with_reducible rfl)
    simp only [List.setIfInBounds_toArray, List.set_cons_zero, List.set_cons_succ]
    refine wpAnyH_takeAt (i := 6) (d := 24) (v := ?vd6) rfl rfl (by kernel_rfl) (by kernel_rfl) (by kernel_rfl) (fun _ _ _ h => h) (Or.inl ⟨by rfl, ?hyd6⟩) hHeld ?_
    case hyd6 =>
      intro W hSw
      clear hSw
      (go_simp; try with_reducible rfl)
    simp only [List.setIfInBounds_toArray, List.set_cons_zero, List.set_cons_succ]
    refine wpAnyH_takeAt (i := 7) (d := 25) (v := ?vd7) rfl rfl (by kernel_rfl) (by kernel_rfl) (by kernel_rfl) (fun _ _ _ h => h) (Or.inl ⟨by rfl, ?hyd7⟩) hHeld ?_
    case hyd7 =>
      intro W hSw
      clear hSw
      (go_simp; try with_reducible rfl)
    simp only [List.setIfInBounds_toArray, List.set_cons_zero, List.set_cons_succ]
    refine wpAnyH_takeAt (i := 8) (d := 26) (v := ?vd8) rfl rfl (by kernel_rfl) (by kernel_rfl) (by kernel_rfl) (fun _ _ _ h => h) (Or.inl ⟨by rfl, ?hyd8⟩) hHeld ?_
    case hyd8 =>
      intro W hSw
      have sc := hSw
      (go_simp; try with_reducible rfl)
    simp only [List.setIfInBounds_toArray, List.set_cons_zero, List.set_cons_succ]
    refine wpAnyH_takeAt (i := 9) (d := 27) (v := ?vd9) rfl rfl (by kernel_rfl) (by kernel_rfl) (by kernel_rfl) (fun _ _ _ h => h) (Or.inl ⟨by rfl, ?hyd9⟩) hHeld ?_
    case hyd9 =>
      intro W hSw
      clear hSw
      (go_simp; try with_reducible rfl)
    simp only [List.setIfInBounds_toArray, List.set_cons_zero, List.set_cons_succ]
    refine wpAnyH_takeAt (i := 11) (d := 29) (v := ?vd11) rfl rfl (by kernel_rfl) (by kernel_rfl) (by kernel_rfl) (fun _ _ _ h => h) (Or.inl ⟨by rfl, ?hyd11⟩) hHeld ?_
    case hyd11 =>
      intro W hSw
      clear hSw
      (go_simp; try with_reducible rfl)
    simp only [List.setIfInBounds_toArray, List.set_cons_zero, List.set_cons_succ]
    refine wpAnyH_ready (rs := [10]) (by kernel_rfl) (by simp) (AllReadyH.cons rfl (fun K hK => ?_) AllReadyH.nil)
    go_simp
    refine hK.out _ _ hHeld (fun hHeld => ?_)
    clear hK K
    try simp only [List.setIfInBounds_toArray, List.set_cons_zero, List.set_cons_succ]
    refine wpAnyH_ready (rs := [12]) (by kernel_rfl) (by simp) (AllReadyH.cons rfl (fun K hK => ?_) AllReadyH.nil)
    go_simp
    refine (short_any A q c b k w1.drew ho (by have := HQ.out; omega) (by have := HQ.out; omega)).mono ?_
    rintro e w2 ⟨v2, rfl, ho2, hg2⟩
    have hg2' : Grew (.slice A q c) w1 v2 w2 := hg2.of_drew
    obtain ⟨w3, hupd, hF3, hT3, hgm⟩ := hF1.store hn HL.out hg2' ho2 (rises_cut hF1.rises n k) (by rw [length_cut]; omega) (by rw [find_cut, if_pos rfl, HFD.out]; rfl) (fun k' hk' => by rw [find_cut, if_neg hk'])
    have hc2 : w2.cell? ⟨g, o, none⟩ = some (.map (some m)) := ((hg2'.turn (S := S) (fun r e => (hvS r e).1)).cell (p := ⟨g, o, none⟩) hgl1 hg).trans hc1
    dsimp only
    refine hK.out _ _ hc2 (fun hHeld => ?_)
    clear hK K
    try simp only [List.setIfInBounds_toArray, List.set_cons_zero, List.set_cons_succ]
    refine wpAnyH_ready (rs := [13]) (by kernel_rfl) (by simp) (AllReadyH.cons rfl (fun K hK => ?_) AllReadyH.nil)
    go_simp
    have hc3 : w3.cell? ⟨g, o, none⟩ = some (.map (some m)) := (hT3.cell (p := ⟨g, o, none⟩) hgl1 hg).trans hc1
    refine hK.out _ _ hc3 (fun hHeld => ?_)
    clear hK K
    try simp only [List.setIfInBounds_toArray, List.set_cons_zero, List.set_cons_succ]
    refine wpAnyH_done (by kernel_rfl) ?_ _
    go_wp2_with fail
    go_end0
    exact ⟨rfl, done_of2 HW1.out.symm hF3 hT3 hg hgl⟩
set_option maxHeartbeats 2000000 in
theorem rem_any {w : World} {S : Nat → Prop} {m : Nat} {l : FL} (h : FM w S m l) (g o : Nat) (u : Nat) (hg : ¬ S g) (hc : w.cell? ⟨g, o, none⟩ = some (.map (some m))) (hu : w.cell? ⟨g, o + 1, none⟩ = some (.int .i64 (u : Int)))
    (hf : w.frozen? ⟨g, o + 1, none⟩ = false) (n b : Bs) (hn : n.length ≤ 24) (hfd : find l n = some b) (hs : b.length ≤ u) (hu' : u ≤ 100000000) :
    Calls Try.prog 73 #[.pointer (some ⟨g, o, none⟩), .string (str n)] w fun e w' => e = .returned (.tuple #[]) ∧ Done w S g o m ((u : Int) - (b.length : Int)) (remF n l) w' := by
  have hgl : g < w.heap.size := block_lt_of_cell hc
  have hsz := size_any (w := w.drew) (S := S) (m := m) (l := l) (h.below ⟨rfl, rfl, rfl, Nat.le_refl _, fun _ _ => rfl⟩) g o hc n (by omega)
  have esz : sizeF l n = b.length := by unfold sizeF; rw [hfd]; rfl
  rw [esz] at hsz
  have HF := Lib.hid h
  clear h esz hfd
  have hi2 : IntKind.i64.wrap ((u : Int) - (b.length : Int)) = (u : Int) - (b.length : Int) := IntWalk.i64_in _ (by omega)
  go_enter Try.func73, Try.ntmps73
  go_wp2_with fail
  apply wp_region_to
  case h =>
    refine wp_region_np ?_
    refine wp_region_held_drew (S := fun _ => True) (by kernel_rfl) trivial (fun hHeld => ?_)
    refine wpAnyH_takeAt (i := 0) (d := 4) (v := ?ve0) rfl rfl (by kernel_rfl) (by kernel_rfl) (by kernel_rfl) (fun _ _ _ h => h) (Or.inl ⟨by rfl, ?hye0⟩) hHeld ?_
    case hye0 =>
      intro W hSw
      clear hSw
      (go_simp; try with_reducible rfl)
    simp only [List.setIfInBounds_toArray, List.set_cons_zero, List.set_cons_succ]
    refine wpAnyH_takeAt (i := 1) (d := 5) (v := ?ve1) rfl rfl (by kernel_rfl) (by kernel_rfl) (by kernel_rfl) (fun _ _ _ h => h) (Or.inl ⟨by rfl, ?hye1⟩) hHeld ?_
    case hye1 =>
      intro W hSw
      clear hSw
      (go_simp; try with_reducible rfl)
    simp only [List.setIfInBounds_toArray, List.set_cons_zero, List.set_cons_succ]
    refine wpAnyH_takeAt (i := 2) (d := 6) (v := ?ve2) rfl rfl (by kernel_rfl) (by kernel_rfl) (by kernel_rfl) (fun _ _ _ h => h) (Or.inl ⟨by rfl, ?hye2⟩) hHeld ?_
    case hye2 =>
      intro W hSw
      clear hSw
      (go_simp; try with_reducible rfl)
    simp only [List.setIfInBounds_toArray, List.set_cons_zero, List.set_cons_succ]
    refine wpAnyH_takeAt (i := 4) (d := 8) (v := ?ve4) rfl rfl (by kernel_rfl) (by kernel_rfl) (by kernel_rfl) (fun _ _ _ h => h) (Or.inl ⟨by rfl, ?hye4⟩) hHeld ?_
    case hye4 =>
      intro W hSw
      clear hSw
      (go_simp; try with_reducible rfl)
    simp only [List.setIfInBounds_toArray, List.set_cons_zero, List.set_cons_succ]
    refine wpAnyH_takeAt (i := 5) (d := 9) (v := ?ve5) rfl rfl (by kernel_rfl) (by kernel_rfl) (by kernel_rfl) (fun _ _ _ h => h) (Or.inl ⟨by rfl, ?hye5⟩) hHeld ?_
    case hye5 =>
      intro W hSw
      clear hSw
      (go_simp; try with_reducible rfl)
    simp only [List.setIfInBounds_toArray, List.set_cons_zero, List.set_cons_succ]
    refine wpAnyH_ready (rs := [3, 6]) (by kernel_rfl) (by simp) (AllReadyH.cons rfl (fun K hK => ?_) (AllReadyH.cons rfl (fun K hK => ?_) AllReadyH.nil))
    · go_simp
      refine hK.out _ _ trivial (fun hHeld => ?_)
      clear hK K
      try simp only [List.setIfInBounds_toArray, List.set_cons_zero, List.set_cons_succ]
      refine wpAnyH_ready (rs := [6]) (by kernel_rfl) (by simp) (AllReadyH.cons rfl (fun K hK => ?_) AllReadyH.nil)
      go_simp
      refine hsz.mono ?_
      rintro e w' ⟨rfl, rfl⟩
      dsimp only
      refine hK.out _ _ trivial (fun hHeld => ?_)
      clear hK K
      try simp only [List.setIfInBounds_toArray, List.set_cons_zero, List.set_cons_succ]
      refine wpAnyH_takeAt (i := 7) (d := 11) (v := ?vea7) rfl rfl (by kernel_rfl) (by kernel_rfl) (by kernel_rfl) (fun _ _ _ h => h) (Or.inl ⟨by rfl, ?hyea7⟩) hHeld ?_
      case hyea7 =>
        intro W hSw
        clear hSw
        (go_simp; try with_reducible rfl)
      simp only [List.setIfInBounds_toArray, List.set_cons_zero, List.set_cons_succ]
      refine wpAnyH_takeAt (i := 8) (d := 12) (v := ?vea8) rfl rfl (by kernel_rfl) (by kernel_rfl) (by kernel_rfl) (fun _ _ _ h => h) (Or.inl ⟨by rfl, ?hyea8⟩) hHeld ?_
      case hyea8 =>
        intro W hSw
        clear hSw
        (go_simp; try with_reducible rfl)
      simp only [List.setIfInBounds_toArray, List.set_cons_zero, List.set_cons_succ]
      refine wpAnyH_takeAt (i := 9) (d := 13) (v := ?vea9) rfl rfl (by kernel_rfl) (by kernel_rfl) (by kernel_rfl) (fun _ _ _ h => h) (Or.inl ⟨by rfl, ?hyea9⟩) hHeld ?_
      case hyea9 =>
        intro W hSw
        clear hSw
        (go_simp; try with_reducible rfl)
      simp only [List.setIfInBounds_toArray, List.set_cons_zero, List.set_cons_succ]
      refine wpAnyH_ready (rs := [10]) (by kernel_rfl) (by simp) (AllReadyH.cons rfl (fun K hK => ?_) AllReadyH.nil)
      go_simp
      refine hK.out _ _ trivial (fun hHeld => ?_)
      clear hK K
      try simp only [List.setIfInBounds_toArray, List.set_cons_zero, List.set_cons_succ]
      refine wpAnyH_done (by kernel_rfl) ?_ _
      exact ⟨rfl, rfl, rfl⟩
    · go_simp
      refine hsz.mono ?_
      rintro e w' ⟨rfl, rfl⟩
      dsimp only
      refine hK.out _ _ trivial (fun hHeld => ?_)
      clear hK K
      try simp only [List.setIfInBounds_toArray, List.set_cons_zero, List.set_cons_succ]
      refine wpAnyH_ready (rs := [3]) (by kernel_rfl) (by simp) (AllReadyH.cons rfl (fun K hK => ?_) AllReadyH.nil)
      go_simp
      refine hK.out _ _ trivial (fun hHeld => ?_)
      clear hK K
      try simp only [List.setIfInBounds_toArray, List.set_cons_zero, List.set_cons_succ]
      refine wpAnyH_takeAt (i := 7) (d := 11) (v := ?veb7) rfl rfl (by kernel_rfl) (by kernel_rfl) (by kernel_rfl) (fun _ _ _ h => h) (Or.inl ⟨by rfl, ?hyeb7⟩) hHeld ?_
      case hyeb7 =>
        intro W hSw
        clear hSw
        (go_simp; try with_reducible rfl)
      simp only [List.setIfInBounds_toArray, List.set_cons_zero, List.set_cons_succ]
      refine wpAnyH_takeAt (i := 8) (d := 12) (v := ?veb8) rfl rfl (by kernel_rfl) (by kernel_rfl) (by kernel_rfl) (fun _ _ _ h => h) (Or.inl ⟨by rfl, ?hyeb8⟩) hHeld ?_
      case hyeb8 =>
        intro W hSw
        clear hSw
        (go_simp; try with_reducible rfl)
      simp only [List.setIfInBounds_toArray, List.set_cons_zero, List.set_cons_succ]
      refine wpAnyH_takeAt (i := 9) (d := 13) (v := ?veb9) rfl rfl (by kernel_rfl) (by kernel_rfl) (by kernel_rfl) (fun _ _ _ h => h) (Or.inl ⟨by rfl, ?hyeb9⟩) hHeld ?_
      case hyeb9 =>
        intro W hSw
        clear hSw
        (go_simp; try with_reducible rfl)
      simp only [List.setIfInBounds_toArray, List.set_cons_zero, List.set_cons_succ]
      refine wpAnyH_ready (rs := [10]) (by kernel_rfl) (by simp) (AllReadyH.cons rfl (fun K hK => ?_) AllReadyH.nil)
      go_simp
      refine hK.out _ _ trivial (fun hHeld => ?_)
      clear hK K
      try simp only [List.setIfInBounds_toArray, List.set_cons_zero, List.set_cons_succ]
      refine wpAnyH_done (by kernel_rfl) ?_ _
      exact ⟨rfl, rfl, rfl⟩
  case hc =>
    clear hi2 hsz
    have hF1 : FM (w.setCell ⟨g, o + 1, none⟩ (.int .i64 ((u : Int) - (b.length : Int)))).drew S m l := HF.out.keep (T := fun b => b = g) ((Turn.refl (fun b => b = g) _).setCell (p := ⟨g, o + 1, none⟩) (fun _ => rfl) _).drew (fun b hb e => hg (by subst e; exact hb))
    have hc1 : (w.setCell ⟨g, o + 1, none⟩ (.int .i64 ((u : Int) - (b.length : Int)))).drew.cell? ⟨g, o, none⟩ = some (.map (some m)) := (World.cell?_setCell_other w ⟨g, o + 1, none⟩ ⟨g, o, none⟩ _ (by simp)).trans hc
    generalize hw1 : (w.setCell ⟨g, o + 1, none⟩ (.int .i64 ((u : Int) - (b.length : Int)))).drew = w1 at *
    have HW1 := Lib.hid hw1
    obtain ⟨w3, hdel, hF3, hT3, hgm⟩ := hF1.drop (n := n) (by unfold maxLen; omega) 0
    clear hw1 hf hu hc
    go_wp2_with fail
    go_end0
    refine ⟨rfl, done_of2 HW1.out.symm (hF3.wide (fun b hb => .inl hb) (fun b hb => ?_)) hT3 hg hgl⟩
    rcases hb with hb | hb
    · exact hF3.lt hb
    · exact hb.2
end Go.Proofs.Ythhiiimmgghhaaa
