/-
  A table is made of a log: its writers. Nothing is assumed.
-/
import Derived.Test.YthcphoijanebhaaDoorIter
namespace Go.Proofs.YthcphoijanebhaaDoor
open Go.RowKit Go.Shelf Go.Maps
attribute [local go_sem] Oper.semAt_some
set_option maxRecDepth 100000 in
set_option maxHeartbeats 1000000 in
theorem newWriter_any (w : World) : Calls Tryd.prog 77 #[] w fun e w' => ∃ m1 m2, e = .returned (.agg #[.int .i64 0, .int .i64 0, .int .i64 0, .map (some m1), .map (some m2)]) ∧ w.heap.size ≤ m1 ∧ m1 < m2 ∧ OM w' m1 [] ∧ EM w' m2 [] ∧ Below w.heap.size w w' := by
  have hmm := @run_makeMap Tryd.prog
  go_enter Tryd.func77, Tryd.ntmps77
  go_wp2_with fail
  clear hmm
  obtain ⟨o, ho⟩ : ∃ o, o = Obj.cells #[.int .i64 0, .int .i64 0, .int .i64 0, .map (some (w.heap.size + 1)), .map (some (w.heap.size + 1 + 1))] 105 := ⟨_, rfl⟩
  rw [← ho]
  have h1 : OM ((w.alloc o).alloc (.map #[] 0)) (w.heap.size + 1) [] := by have := OM.made (w.alloc o); simpa using this
  have h2 : EM (((w.alloc o).alloc (.map #[] 0)).alloc (.map #[] 0)) (w.heap.size + 1 + 1) [] := by have := EM.made ((w.alloc o).alloc (.map #[] 0)); simpa using this
  have h3 : Blk (((w.alloc o).alloc (.map #[] 0)).alloc (.map #[] 0)) w.heap.size 105 #[.int .i64 0, .int .i64 0, .int .i64 0, .map (some (w.heap.size + 1)), .map (some (w.heap.size + 1 + 1))] := by subst ho; exact ((Blk.new w 105 _).alloc _).alloc _
  refine bodyPost_ret (v := .agg #[.int .i64 0, .int .i64 0, .int .i64 0, .map (some (w.heap.size + 1)), .map (some (w.heap.size + 1 + 1))]) (results_cell_row (by rfl) _ _ w.heap.size 105 _ (0, 0) _ (by rfl) h3 Tryd.underlying105 (by rfl) (by kernel_rfl)) rfl ?_
  exact ⟨w.heap.size + 1, w.heap.size + 1 + 1, rfl, by omega, by omega, h1.keepB (Below.heap_alloc _ _ _ h1.lt), h2, (((Below.refl _ _).alloc (Nat.le_refl _) _).alloc (by simp) _).alloc (by simp; omega) _⟩
/-- A map that is made, or not yet. -/
def mq (k : Nat) (mp : Nat → Nat) (j : Nat) : Value := if j < 2 * k then .map (some (mp j)) else .map none
def tabP (v : Value) (k : Nat) (mp : Nat → Nat) : Array Value :=
  #[v, .int .i64 0, .int .i64 0, .int .i64 0, mq k mp 0, mq k mp 1, .int .i64 0, .int .i64 0, .int .i64 0, mq k mp 2, mq k mp 3, .int .i64 0, .int .i64 0, .int .i64 0, mq k mp 4, mq k mp 5, .int .i64 0, .int .i64 0, .int .i64 0, mq k mp 6, mq k mp 7, .bool true]
/-- A table whose first k writers are made. -/
structure TP (B : Nat) (w : World) (g : Nat) (v : Value) (k : Nat) (mp : Nat → Nat) : Prop where
  blk : Blk w g 108 (tabP v k mp)
  om : ∀ i, i < k → OM w (mp (2 * i)) []
  em : ∀ i, i < k → EM w (mp (2 * i + 1)) []
  rise : ∀ i j, i < j → j < 2 * k → mp i < mp j
  low : ∀ i, i < 2 * k → B ≤ mp i
def mput (mp : Nat → Nat) (k m1 m2 : Nat) : Nat → Nat := fun j => if j = 2 * k then m1 else if j = 2 * k + 1 then m2 else mp j
theorem mput_1 (mp : Nat → Nat) (k m1 m2 : Nat) : mput mp k m1 m2 (2 * k) = m1 := if_pos rfl
theorem mput_2 (mp : Nat → Nat) (k m1 m2 : Nat) : mput mp k m1 m2 (2 * k + 1) = m2 := by unfold mput; rw [if_neg (by omega), if_pos rfl]
theorem mput_o (mp : Nat → Nat) {k j : Nat} (m1 m2 : Nat) (h : j < 2 * k) : mput mp k m1 m2 j = mp j := by unfold mput; rw [if_neg (by omega), if_neg (by omega)]
theorem tabP_put (v : Value) {k : Nat} (hk : k < 4) (mp : Nat → Nat) (m1 m2 : Nat) :
    (((((tabP v k mp).setIfInBounds (1 + k * 5) (.int .i64 0)).setIfInBounds (1 + k * 5 + 1) (.int .i64 0)).setIfInBounds (1 + k * 5 + 1 + 1) (.int .i64 0)).setIfInBounds (1 + k * 5 + 1 + 1 + 1) (.map (some m1))).setIfInBounds (1 + k * 5 + 1 + 1 + 1 + 1) (.map (some m2)) = tabP v (k + 1) (mput mp k m1 m2) := by
  rcases k with _ | _ | _ | _ | k
  · rfl
  · rfl
  · rfl
  · rfl
  · omega
theorem TP.there {B : Nat} {w : World} {g : Nat} {v : Value} {k : Nat} {mp : Nat → Nat} (h : TP B w g v k mp) (hk : k < 4) : w.there g (1 + k * 5) 5 := fun j hj => by
  have hb := h.blk
  rw [hb.frozen (1 + k * 5 + j), hb.cell (1 + k * 5 + j)]
  refine ⟨?_, rfl⟩
  have : 1 + k * 5 + j < (tabP v k mp).size := by show _ < 22; omega
  simp [this]
theorem TP.step {B : Nat} {w w1 : World} {g : Nat} {v : Value} {k : Nat} {mp : Nat → Nat} (h : TP B w g v k mp) (hk : k < 4) {m1 m2 : Nat} (hb : Below w.heap.size w w1) (h1 : w.heap.size ≤ m1) (h2 : m1 < m2) (hB : B ≤ w.heap.size) (hO : OM w1 m1 []) (hE : EM w1 m2 []) :
    TP B (w1.setCells g (1 + k * 5) [.int .i64 0, .int .i64 0, .int .i64 0, .map (some m1), .map (some m2)]) g v (k + 1) (mput mp k m1 m2) := by
  have hgl := h.blk.lt
  have hoth : ∀ b, b ≠ g → (w1.setCells g (1 + k * 5) [.int .i64 0, .int .i64 0, .int .i64 0, .map (some m1), .map (some m2)]).heap[b]? = w1.heap[b]? := fun b hb => setCells_other g hb _ _ _
  have hom : ∀ i, i < k → mp (2 * i) < w.heap.size := fun i hi => (h.om i hi).lt
  have hem : ∀ i, i < k → mp (2 * i + 1) < w.heap.size := fun i hi => (h.em i hi).lt
  have hnb : ∀ (es : _) (c : _), w.heap[g]? = some (.map es c) → False := fun es c e => by have := h.blk; unfold Blk at this; rw [this] at e; cases e
  refine ⟨?_, fun i hi => ?_, fun i hi => ?_, fun i j hij hj => ?_, fun i hi => ?_⟩
  · rw [← tabP_put v hk mp m1 m2]
    exact (((((h.blk.below hb hgl).set_ _ _).set_ _ _).set_ _ _).set_ _ _).set_ _ _
  · rcases Nat.lt_or_ge i k with q | q
    · rw [mput_o mp m1 m2 (by omega)]
      have := h.om i q
      refine this.keepB ((hoth _ ?_).trans (hb.block _ this.lt))
      intro e
      obtain ⟨es, c, ho⟩ := this.1.obj
      exact hnb es c (e ▸ ho)
    · obtain rfl : i = k := by omega
      rw [mput_1]
      exact hO.keepB (hoth _ (by omega))
  · rcases Nat.lt_or_ge i k with q | q
    · rw [mput_o mp m1 m2 (by omega)]
      have := h.em i q
      refine this.keepB ((hoth _ ?_).trans (hb.block _ this.lt))
      intro e
      obtain ⟨es, c, ho⟩ := this.1.obj
      exact hnb es c (e ▸ ho)
    · obtain rfl : i = k := by omega
      rw [mput_2]
      exact hE.keepB (hoth _ (by omega))
  · have hlow : ∀ i, i < 2 * k → mp i < w.heap.size := fun i hi => by
      rcases Nat.mod_two_eq_zero_or_one i with q | q
      · have := hom (i / 2) (by omega); rwa [show 2 * (i / 2) = i by omega] at this
      · have := hem (i / 2) (by omega); rwa [show 2 * (i / 2) + 1 = i by omega] at this
    rcases Nat.lt_or_ge j (2 * k) with q | q
    · rw [mput_o mp m1 m2 q, mput_o mp m1 m2 (by omega)]
      exact h.rise i j hij q
    · rcases Nat.lt_or_ge i (2 * k) with z | z
      · have := hlow i z
        rw [mput_o mp m1 m2 z]
        have : j = 2 * k ∨ j = 2 * k + 1 := by omega
        rcases this with rfl | rfl
        · rw [mput_1]; omega
        · rw [mput_2]; omega
      · obtain rfl : i = 2 * k := by omega
        obtain rfl : j = 2 * k + 1 := by omega
        rw [mput_1, mput_2]; exact h2
  · rcases Nat.lt_or_ge i (2 * k) with q | q
    · rw [mput_o mp m1 m2 q]; exact h.low i q
    · have : i = 2 * k ∨ i = 2 * k + 1 := by omega
      rcases this with rfl | rfl
      · rw [mput_1]; omega
      · rw [mput_2]; omega
theorem TP.tx {B : Nat} {w : World} {g : Nat} {v : Value} {mp : Nat → Nat} (h : TP B w g v 4 mp) : TX w g v (fun _ => Wr.none_) mp := ⟨h.blk, h.om, h.em, h.rise⟩
theorem TP.start {B : Nat} {w : World} {g : Nat} {v : Value} (h : Blk w g 108 #[v, .int .i64 0, .int .i64 0, .int .i64 0, .map none, .map none, .int .i64 0, .int .i64 0, .int .i64 0, .map none, .map none, .int .i64 0, .int .i64 0, .int .i64 0, .map none, .map none, .int .i64 0, .int .i64 0, .int .i64 0, .map none, .map none, .bool true]) : TP B w g v 0 (fun _ => 0) :=
  ⟨h, fun i hi => absurd hi (by omega), fun i hi => absurd hi (by omega), fun i j _ hj => absurd hj (by omega), fun i hi => absurd hi (by omega)⟩
theorem wr_none (id : Int) : wr id [] = Wr.none_ := rfl
theorem noted_wr (l : List Ent) {e : Ent} (hr : Right e) {i : Nat} (hi : i < 4) : wr (i : Int) (l ++ [e]) = noted (fun i => wr (i : Int) l) l.length e i := by
  rw [wr_snoc]
  unfold noted
  by_cases h : e.id = -1
  · rw [if_pos h, if_neg (by omega)]
  · rw [if_neg h]
    have h0 : 0 ≤ e.id := by unfold Right at hr; omega
    by_cases q : e.id = (i : Int)
    · rw [if_pos q, show e.id.toNat = i by omega, upd_same]
    · rw [if_neg q, upd_other _ _ (by omega)]
end Go.Proofs.YthcphoijanebhaaDoor
