/-
  What sums.Of answers of the iterator of waystationlaw01.SumsParts: the sum of all parts, one behind the other; and of none: 0. Conditions: at most 50 parts, each of at most 500 bytes.
-/
import Derived.Test.YtnlokmamflpffaaIter
import Derived.RecoverIn
namespace Go.Proofs.Ytnlokmamflpffaa
open Go.RowKit Go.Shelf
attribute [local go_sem] Oper.semAt_some
theorem catch_idle (p q : Addr) (w : World) :
    CallsDIn Fence.wide 2 Try.prog 27 #[.pointer (some p), .pointer (some q)] .returning w fun e u' w' => e = .returned (.tuple #[]) ∧ u' = .returning ∧ w = w' := by
  refine callsDIn_of_wpSIn Try.func27 rfl trivial fun c₀ cs hu => ?_
  apply wpSIn_seq
  apply wpSIn_region
  simp [wpOpsSIn, go_sem, recoverD, hu, Try.ntmps27, Exit.thenS]
  refine wpSIn_cond (t := false) (by simp [Act.eval, Array.replicate]) ?_
  simp only [Bool.false_eq_true, if_false]
  refine wpSIn_of_wpIn rfl (wpIn_skip ?_)
  cases c₀
  simp_all [bodyPostS, results, Try.results27]
theorem func_nil (fn : Fn) (a b : Array Value) (w : World) : (binOp .eql 50 (.func fn a b) .nilFunc).run Try.prog w = .ok (.bool false) w := by
  kernel_rfl
/-- What holds between two rounds: the result is still 0, and the sum runs on. -/
def Adding (w : World) (g br : Nat) (pre : List (Value × List UInt8)) (W : World) : Prop :=
  Blk W w.heap.size 24 #[.int .u32 0] ∧ Blk W br 46 #[.pointer (some ⟨g, 0, none⟩)] ∧ Blk W g 56 (running ((Crc.run 4294967295 (pre.map (·.2)).flatten : Nat) : Int)) ∧ Below w.heap.size w W
theorem blk_keep {W W' : World} {b : Nat} {t : TypeId} {cs : Array Value} {row : Option Nat} (h : Blk W b t cs) (hg : W.grownBy W' row) (hr : ∀ r, row = some r → ∃ o : Obj, W.heap[r]? = some o ∧ o.isCells = false) : Blk W' b t cs := by
  refine (hg.block b h.lt ?_).trans h
  intro e
  obtain ⟨o, ho, hn⟩ := hr b e.symm
  unfold Blk at h
  rw [h] at ho
  injection ho with ho
  subst ho
  cases hn
theorem adding_own (w : World) (g br B : Nat) (hB : w.heap.size ≤ B) : OwnFrom B (Adding w g br) := fun _ _ _ _ hs hg hr =>
  ⟨blk_keep hs.1 hg (fun r e => (hr r e).2), blk_keep hs.2.1 hg (fun r e => (hr r e).2), blk_keep hs.2.2.1 hg (fun r e => (hr r e).2), hs.2.2.2.trans (below_of_grown hg hs.2.2.2.size (fun r e => Nat.le_trans hB (hr r e).1))⟩
theorem handed_own (B : Nat) : OwnFrom B Handed := fun _ _ _ _ hs hg hr => by
  obtain ⟨A, q, c, hx, hb, hq⟩ := hs
  refine ⟨A, q, c, hx, ⟨hb.1, fun h0 => ?_⟩, hq⟩
  obtain ⟨ad, e, hlt, hc⟩ := hb.2 h0
  exact ⟨ad, e, Nat.lt_of_lt_of_le hlt hg.size, fun j u hu => cell_kept (hc j u hu) hg (fun r e => (hr r e).2)⟩
set_option maxRecDepth 100000 in
set_option maxHeartbeats 2000000 in
theorem of_any (bl : Nat) (A : Option Addr) (N C : Nat) (ps : List Part) (w : World) (hbl : bl < w.heap.size)
    (hc : w.cell? ⟨bl, 0, none⟩ = some (.slice A N C)) (hp : Parts w w.heap.size A N ps) (hN : N ≤ 50) (h500 : ∀ p : Part, p ∈ ps → p.2.1 ≤ 500) :
    Calls Try.prog 16 #[.func (.func 17) #[] #[.pointer (some ⟨bl, 0, none⟩)]] w fun e w' => e = .returned (.int .u32 ((Crc.sum (ps.map (fun p : Part => p.2.2.2)).flatten : Nat) : Int)) ∧ Below w.heap.size w w' := by
  have hmf : ∀ (fn : Fn) (first cap : Array Value) (w : World), (Instr.makeFunc fn first cap).run Try.prog w = .ok (.func fn first cap) w := fun _ _ _ _ => rfl
  have hfn := func_nil
  refine (callsIn_wide (n := 3)).1 ?_
  refine callsIn_of_wp_marks Try.func16 rfl trivial ?_ rfl
  simp only [Try.ntmps16, List.size_toArray, List.length_cons, List.length_nil, Nat.reduceAdd, Nat.reduceSub, Array.replicate_succ, Array.replicate_zero, List.push_toArray, List.append_toArray, List.nil_append, List.cons_append]
  gi_wp2_with fail
  refine ⟨trivial, (callsIn_wide.2 (begin_any 0 (by omega) _)).mono ?_⟩
  rintro e w1 ⟨g, hg, rfl, hb1, hk1⟩
  gi_wp2_with fail
  have hzw : w.heap.size < w1.heap.size := by have := hb1.size; simp at this; omega
  have hgw : w.heap.size < g := by simp at hg; omega
  have hg1 : g < w1.heap.size := hk1.lt
  have hres : Blk (w1.alloc (.cells #[.pointer (some ⟨g, 0, none⟩)] 46)) w.heap.size 24 #[.int .u32 0] := ((Blk.new w 24 #[.int .u32 0]).below hb1 (by simp)).alloc _
  have hbox : Blk (w1.alloc (.cells #[.pointer (some ⟨g, 0, none⟩)] 46)) w1.heap.size 46 #[.pointer (some ⟨g, 0, none⟩)] := Blk.new _ _ _
  have hrun : Blk (w1.alloc (.cells #[.pointer (some ⟨g, 0, none⟩)] 46)) g 56 (running ((4294967295 : Nat) : Int)) := hk1.alloc _
  have hB1 : Below w.heap.size w (w1.alloc (.cells #[.pointer (some ⟨g, 0, none⟩)] 46)) := (((Below.refl _ _).alloc (Nat.le_refl _) _).trans (hb1.mono (by simp))).alloc (by omega) _
  have hz2 : w1.heap.size < (w1.alloc (.cells #[.pointer (some ⟨g, 0, none⟩)] 46)).heap.size := by simp
  generalize w1.heap.size = br at *
  generalize w1.alloc (.cells #[.pointer (some ⟨g, 0, none⟩)] 46) = w2 at *
  clear hk1 hb1 hg hfn hmf
  refine range_v (α := Value × List UInt8) rfl (by omega) (gf := 17) (lb := #[.pointer (some ⟨bl, 0, none⟩)]) rfl trivial (enters_of Try.func17 (by kernel_rfl) rfl)
    (iter_in Fence.wide (3 - 1) trivial rfl (by omega) bl w.heap.size A N C ps w2 hbl hB1.size ((hB1.cell (p := ⟨bl, 0, none⟩) hbl).trans hc) (hp.below hB1) hN h500)
    belowK_t (belowK_b hB1.size) (Below.refl _ _) (fun _ => rfl)
    (Adding w g br) (adding_own w g br w2.heap.size hB1.size) (handed_own w2.heap.size) ⟨hres, hbox, hrun, hB1⟩
    (fun x => { tmps := #[.func (.func 17) #[] #[.pointer (some ⟨bl, 0, none⟩)], undef, .pointer (some ⟨w.heap.size, 0, none⟩), .pointer (some ⟨br, 0, none⟩), x.1, .func (.func 17) #[] #[.pointer (some ⟨bl, 0, none⟩)], .bool false, .pointer (some ⟨g, 0, none⟩), .func (.func 27) #[] #[.pointer (some ⟨br, 0, none⟩), .pointer (some ⟨w.heap.size, 0, none⟩)], .func (.func 17) #[] #[.pointer (some ⟨bl, 0, none⟩)], x.1, undef, undef, undef, undef, undef], defers := [] }) ?assign ?body ?done
  case assign =>
    intro l x W K hK
    gi_wp2
    exact hK
  case body =>
    rintro l pre ⟨v, bs⟩ W ⟨hr, hbx, hrn, hB⟩ ⟨A1, q1, c1, hx, hby, hq1⟩
    have hx' : v = .slice A1 q1 c1 := hx
    subst hx'
    clear hx
    have hcb := hbx.cell 0
    have hcb' : W.cell? ⟨br, 0, none⟩ = some (.pointer (some ⟨g, 0, none⟩)) := hcb
    clear hcb
    have hR := Crc.run_lt (pre.map (·.2)).flatten (w := 4294967295) (by omega)
    gi_wp2_with fail
    refine ⟨trivial, (CallsIn.inRound l (callsIn_wide.2 (add_any g _ (by omega) A1 q1 c1 W.heap.size bs W hrn hby (by omega)))).mono ?_⟩
    rintro e w' ⟨rfl, rfl⟩
    gi_wp2
    refine ⟨KeepsOthers.setCell _ _ _, (Below.refl w.heap.size W).setCell (p := ⟨g, 0, none⟩) (Nat.le_of_lt hgw) _, hr.far (by show w.heap.size ≠ g; omega) _, hbx.far (by show br ≠ g; omega) _, ?_, hB.setCell (p := ⟨g, 0, none⟩) (Nat.le_of_lt hgw) _⟩
    have h := hrn.set_ 0 (.int .u32 ((Crc.run (Crc.run 4294967295 (pre.map (·.2)).flatten) bs : Nat) : Int))
    rw [running_set] at h
    rw [List.map_append, List.flatten_append, Crc.run_append]
    simpa using h
  case done =>
    rintro D xs W hD hS ⟨hr, hbx, hrn, hB⟩ hK
    have hcb' : W.cell? ⟨br, 0, none⟩ = some (.pointer (some ⟨g, 0, none⟩)) := hbx.cell 0
    have hR := Crc.run_lt (xs.map (·.2)).flatten (w := 4294967295) (by omega)
    have hrc : W.cell? ⟨w.heap.size, 0, none⟩ = some (.int .u32 0) := hr.cell 0
    have hrf := hr.frozen 0
    have HS := Lib.hid hS
    clear hS
    gi_wp2_with fail
    refine ⟨trivial, (callsIn_wide.2 (told_any g _ (by omega) W hrn)).mono ?_⟩
    rintro e w' ⟨rfl, rfl⟩
    gi_wp2_with fail
    rw [HS.out]
    rw [HS.out] at hR hrn
    clear hcb' hrc hrf
    have hKD : (W.setCell ⟨w.heap.size, 0, none⟩ (.int .u32 ((4294967295 - Crc.run 4294967295 (ps.map (fun p : Part => p.2.2.2)).flatten : Nat) : Int))).heap[D]? = some (.deferred (some [])) := (KeepsOthers.setCell _ _ _).same D _ hK rfl
    have hb9 : Blk (W.setCell ⟨w.heap.size, 0, none⟩ (.int .u32 ((4294967295 - Crc.run 4294967295 (ps.map (fun p : Part => p.2.2.2)).flatten : Nat) : Int))) w.heap.size 24 #[.int .u32 ((4294967295 - Crc.run 4294967295 (ps.map (fun p : Part => p.2.2.2)).flatten : Nat) : Int)] := hr.set_ 0 _
    have hB9 : Below w.heap.size w (W.setCell ⟨w.heap.size, 0, none⟩ (.int .u32 ((4294967295 - Crc.run 4294967295 (ps.map (fun p : Part => p.2.2.2)).flatten : Nat) : Int))) := hB.setCell (p := ⟨w.heap.size, 0, none⟩) (Nat.le_refl _) _
    have hfin : (Crc.sum (ps.map (fun p : Part => p.2.2.2)).flatten : Nat) = 4294967295 - Crc.run 4294967295 (ps.map (fun p : Part => p.2.2.2)).flatten := rfl
    rw [← hfin] at hKD hb9 hB9 ⊢
    generalize Crc.sum (ps.map (fun p : Part => p.2.2.2)).flatten = r at *
    generalize W.setCell ⟨w.heap.size, 0, none⟩ (.int .u32 (r : Int)) = W9 at *
    refine ⟨by simp, .inl ⟨_, _, rfl, run_takeDeferred hKD, ?_⟩⟩
    have hb10 : Blk (W9.putObj D (.deferred none)) w.heap.size 24 #[.int .u32 (r : Int)] := blk_keep hb9 (grownBy_putObj' W9 D (.deferred none)) (fun k e => by cases e; exact ⟨_, hKD, rfl⟩)
    have hB10 : Below w.heap.size w (W9.putObj D (.deferred none)) := hB9.trans (belowK_b (w := w2) hB1.size W9 D _ _ hD hKD rfl rfl)
    generalize W9.putObj D (.deferred none) = W10 at *
    refine ⟨by simp, .inr ⟨fun _ => by omega, _, _, 27, #[.pointer (some ⟨br, 0, none⟩), .pointer (some ⟨w.heap.size, 0, none⟩)], rfl, by simp [go_sem], fun _ _ => trivial, ?_⟩⟩
    refine (catch_idle _ _ _).mono ?_
    rintro e u' w'' ⟨rfl, rfl, rfl⟩
    have hc10 : W10.cell? ⟨w.heap.size, 0, none⟩ = some (.int .u32 (r : Int)) := hb10.cell 0
    refine ⟨.int .u32 (r : Int), ?_, rfl, hB10⟩
    simp [results, Try.results16, go_sem, hc10]
theorem nil_nil (w : World) : (binOp .eql 50 .nilFunc .nilFunc).run Try.prog w = .ok (.bool true) w := by
  kernel_rfl
set_option maxRecDepth 100000 in
set_option maxHeartbeats 2000000 in
theorem of_none (w : World) : Calls Try.prog 16 #[.nilFunc] w fun e w' => e = .returned (.int .u32 0) ∧ Below w.heap.size w w' := by
  have hfn := nil_nil
  refine (callsIn_wide (n := 3)).1 ?_
  refine callsIn_of_wp_marks Try.func16 rfl trivial ?_ rfl
  simp only [Try.ntmps16, List.size_toArray, List.length_cons, List.length_nil, Nat.reduceAdd, Nat.reduceSub, Array.replicate_succ, Array.replicate_zero, List.push_toArray, List.append_toArray, List.nil_append, List.cons_append]
  gi_wp2_with fail
  have hb : Blk (w.alloc (.cells #[.int .u32 0] 24)) w.heap.size 24 #[.int .u32 0] := Blk.new _ _ _
  have hc : (w.alloc (.cells #[.int .u32 0] 24)).cell? ⟨w.heap.size, 0, none⟩ = some (.int .u32 0) := hb.cell 0
  refine ⟨.int .u32 0, ?_, rfl, (Below.refl _ _).alloc (Nat.le_refl _) _⟩
  simp [results, Try.results16, go_sem, hc]
end Go.Proofs.Ytnlokmamflpffaa
