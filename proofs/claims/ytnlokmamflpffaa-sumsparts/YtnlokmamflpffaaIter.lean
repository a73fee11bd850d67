/-
  What the iterator of waystationlaw01.SumsParts hands on: a copy of each part, one behind the other. Conditions: at most 50 parts, each of at most 500 bytes.
-/
import Derived.Test.YtnlokmamflpffaaRange
import Derived.Test.YtnlokmamflpffaaStep
import Derived.Shelf.Abstract
import Derived.Shelf.RegionOpen
import Derived.OwnWalkIn
import Derived.TacticsInMore
import Derived.LoopNIn
import Derived.LoopIn
namespace Go.Proofs.Ytnlokmamflpffaa
open Go.RowKit Go.Shelf
attribute [local go_sem] Oper.semAt_some
/-- A part: a slice of bytes as it lies in memory, and the bytes. -/
def Part : Type := Option Addr × Nat × Nat × List UInt8
/-- The slice value '.slice A N c' holds the parts ps, all of it below block B. -/
def Parts (w : World) (B : Nat) (A : Option Addr) (N : Nat) (ps : List Part) : Prop :=
  ps.length = N ∧ (0 < N → ∃ ad, A = some ad ∧ ad.block < B ∧ ∀ (j : Nat) (p : Part), ps[j]? = some p → w.cell? (ad.add j) = some (.slice p.1 p.2.1 p.2.2.1)) ∧ ∀ p : Part, p ∈ ps → Bys w B p.1 p.2.1 p.2.2.2
theorem Parts.below {w w' : World} {B N : Nat} {A : Option Addr} {ps : List Part} (h : Parts w B A N ps) (hb : Below B w w') : Parts w' B A N ps :=
  ⟨h.1, fun hN => by
    obtain ⟨ad, e, hlt, hc⟩ := h.2.1 hN
    exact ⟨ad, e, hlt, fun j p hp => (hb.cell (by rw [block_of_add]; exact hlt)).trans (hc j p hp)⟩, fun p hp => (h.2.2 p hp).below hb⟩
theorem Parts.at_ {w : World} {B N k : Nat} {A : Option Addr} {ps : List Part} (h : Parts w B A N ps) (hk : k < N) :
    ∃ (ad : Addr) (p : Part), A = some ad ∧ ad.block < B ∧ ps[k]? = some p ∧ p ∈ ps ∧ w.cell? (ad.add k) = some (.slice p.1 p.2.1 p.2.2.1) ∧ Bys w B p.1 p.2.1 p.2.2.2 := by
  obtain ⟨ad, e, hlt, hc⟩ := h.2.1 (by omega)
  have hl : k < ps.length := by have := h.1; omega
  exact ⟨ad, ps[k], e, hlt, List.getElem?_eq_getElem hl, List.getElem_mem hl, hc k _ (List.getElem?_eq_getElem hl), h.2.2 _ (List.getElem_mem hl)⟩
/-- What a round knows of what it is handed. -/
def Handed (x : Value × List UInt8) (W : World) : Prop := ∃ A q c, x.1 = .slice A q c ∧ Bys W W.heap.size A q x.2 ∧ q < 1000
theorem grown_of_below {a w : World} (h : Below a.heap.size a w) : a.grownBy w none := ⟨h.os, h.tape, h.output, h.size, fun i hi _ => h.block i hi⟩
theorem wpListIn_append_want {F : Fence} {n : Nat} (w : World) {ops : Array Oper} {rest : List Oper} {o : Oper} {a : Act} {Q : Exit → Act → World → Prop} (hw : Region.wanted o (yielded ops a.tmps) = true) (s x : Operand)
    (ho : o.op = .call { callee := .builtin .append, args := #[s, x], argTypes := #[22, 22] })
    (base : Nat) (v : Value) (l : List UInt8) (hs : a.eval s = v) (hown : Own w base v l) (B : Nat) (A : Option Addr) (m c : Nat) (k : List UInt8) (hx : a.eval x = .slice A m c) (hr : Bys w B A m k)
    (hl : l.length < 1000000) (hm : m < 1000000) (hbase : base ≤ w.heap.size)
    (h : ∀ v' w', Own w' base v' (l ++ k) → Below base w w' → wpListIn F n Try.prog ops Q rest (a.put o.dst v') w') : wpListIn F n Try.prog ops Q (o :: rest) a w := by
  refine BigFrame.wpListIn_want hw fun K hK => ?_
  obtain ⟨v', w', hrun, h2, h3⟩ := run_append_bytes w base v l hown B A m c k hr o.type hl hm hbase
  unfold Oper.wpIn
  refine ⟨?_, ?_⟩
  · simp [Oper.about, ho, resolve, Target.leads, Sem.run_pure]
  · rw [Oper.semAt_plain F _ _ (by rw [ho]; intro c hc'; cases hc')]
    simp [execOp, ho, resolve, invoke, builtin, hs, hx, hrun, Result.andThen]
    exact hK _ _ (h v' w' h2 h3)
set_option maxRecDepth 100000 in
set_option maxHeartbeats 2000000 in
theorem iter_in (F : Fence) (n : Nat) (h17 : F.fn 17) (hro : F.round = none) (hn : 1 ≤ n) (bl n₀ : Nat) (A : Option Addr) (N C : Nat) (ps : List Part) (w : World) (hbl : bl < n₀) (hn₀ : n₀ ≤ w.heap.size)
    (hc : w.cell? ⟨bl, 0, none⟩ = some (.slice A N C)) (hp : Parts w n₀ A N ps) (hN : N ≤ 50) (h500 : ∀ p : Part, p ∈ ps → p.2.1 ≤ 500) :
    SeqV F n Try.prog 17 #[.pointer (some ⟨bl, 0, none⟩)] (fun x : Value × List UInt8 => #[x.1]) Handed (Below n₀) (fun xs => xs.map (·.2) = ps.map (fun p : Part => p.2.2.2)) w := fun l J W hW hJ hY h0 => by
  have hcW := (hW.cell (p := ⟨bl, 0, none⟩) (by show bl < w.heap.size; omega)).trans hc
  have hpW := hp.below (hW.mono hn₀)
  have hzW : n₀ ≤ W.heap.size := Nat.le_trans hn₀ hW.size
  refine callsIn_of_wp Try.func17 rfl h17 ?_ hro
  simp only [Try.ntmps17, List.size_toArray, List.length_cons, List.length_nil, Nat.reduceAdd, Nat.reduceSub, Array.replicate_succ, Array.replicate_zero, List.push_toArray, List.append_toArray, List.nil_append, List.cons_append]
  have HY := Lib.hid hY
  have HJ := Lib.hid hJ
  clear hY hJ hW hc hp
  gi_wp2
  gi_loopw [3] (fun i wr => ∃ (k : Nat) (pre : List (Value × List UInt8)), k ≤ N ∧ i = .int .i64 k ∧ pre.map (·.2) = (ps.take k).map (fun p : Part => p.2.2.2) ∧ J pre wr ∧ Below n₀ W wr) (fun i _ => N - (intOf i).toNat)
  case atStart => exact ⟨0, [], by omega, rfl, rfl, h0, Below.refl _ _⟩
  case round =>
    obtain ⟨k, pre, hk, rfl, hpre, hJs, hbr⟩ := hrel
    have HPRE := Lib.hid hpre
    clear hpre
    have hcr := (hbr.cell (p := ⟨bl, 0, none⟩) hbl).trans hcW
    by_cases hlt : k < N
    · obtain ⟨ad, p, rfl, had, hpk, hpm, hcp, hbp⟩ := (hpW.below hbr).at_ hlt
      have h5 := h500 p hpm
      have HP : Hid ((ps.take (k + 1)).map (fun p : Part => p.2.2.2) = (ps.take k).map (fun p : Part => p.2.2.2) ++ [p.2.2.2]) := Lib.hid (by rw [take_snoc_some hpk, List.map_append]; rfl)
      clear hpk
      have hzr : n₀ ≤ wr.heap.size := Nat.le_trans hzW hbr.size
      have hcr2 : (wr.alloc (.cells #[] 5)).cell? ⟨bl, 0, none⟩ = some (.slice (some ad) N C) := (World.cell?_alloc_lt wr _ ⟨bl, 0, none⟩ (by show bl < wr.heap.size; omega)).trans hcr
      have hcp2 : (wr.alloc (.cells #[] 5)).cell? (ad.add k) = some (.slice p.1 p.2.1 p.2.2.1) := (World.cell?_alloc_lt wr _ (ad.add k) (by rw [block_of_add]; omega)).trans hcp
      gi_wp2_with (gi_at_builtin; refine stop ?_)
      refine Stop.go (wpListIn_append_want _ (by rfl) _ _ (by rfl) wr.heap.size _ [] (by rfl) (own_empty _ _ (Nat.le_refl _)) n₀ p.1 p.2.1 p.2.2.1 p.2.2.2 (by rfl) (hbp.alloc hzr _) (by simp) (by omega) (le_alloc (Nat.le_refl _) _) ?_)
      intro v2 w2 ho2 hb2a
      rw [List.nil_append] at ho2
      have hb2 : Below wr.heap.size wr w2 := ((Below.refl _ _).alloc (Nat.le_refl _) _).trans hb2a
      obtain ⟨A2, q2, c2, rfl, hq2⟩ := ho2.form2
      have hx : Handed (.slice A2 q2 c2, p.2.2.2) w2 := ⟨A2, q2, c2, rfl, ho2.bys, by have := hbp.1; omega⟩
      have hJ2 := HJ.out pre wr w2 none hJs (grown_of_below hb2) (fun r e => by cases e)
      obtain ⟨fn, tmps, assign, body, hy, hR⟩ := HY.out pre (.slice A2 q2 c2, p.2.2.2) w2 hJ2 hx
      dsimp only at hy
      clear hcr2 hcp2 hcr hcp hq2 hb2a hJs
      gi_wp2
      refine hR.mono ?_
      rintro e W' ⟨rfl, hJ', hk'⟩
      gi_wp2
      go_roundw
      case rel => exact ⟨k + 1, pre ++ [(.slice A2 q2 c2, p.2.2.2)], by omega, by go_num, by rw [List.map_append, HPRE.out, HP.out]; rfl, hJ', (hbr.trans (hb2.mono hzr)).trans hk'⟩
      case measure => simp [intOf]; omega
    · have hd1 : decide (k < N) = false := by simpa using hlt
      gi_wp2
      refine ⟨fun _ h => (by cases h), ?_⟩
      gi_wp2
      go_end0
      exact ⟨⟨_, rfl⟩, pre, by rw [HPRE.out, List.take_of_length_le (by have := hpW.1; omega)], hJs⟩
end Go.Proofs.Ytnlokmamflpffaa
