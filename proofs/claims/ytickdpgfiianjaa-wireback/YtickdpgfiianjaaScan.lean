/-
  The entries of bytes, with where each frame ends, and why they end; and what wire.frames's iterator hands on. Condition: fewer than 1000000 bytes.
-/
import Derived.Test.YtickdpgfiianjaaRange
import Derived.Test.YtickdpgfiianjaaWorks
import Derived.Test.YtickdpgfiianjaaRefEntry
import Derived.Shelf.Abstract
import Derived.Shelf.RegionOpen
import Derived.OwnWalkIn
import Derived.TacticsInMore
import Derived.LoopNIn
import Derived.LoopIn
namespace Go.Proofs.Ytickdpgfiianjaa
open Go.RowKit Go.Shelf
attribute [local go_sem] Oper.semAt_some
def scanF : Nat → Nat → List UInt8 → List (Ent × Nat) × Nat
  | 0, _, _ => ([], 0)
  | f + 1, k, b => if b = [] then ([], 0) else
    match rd b with
    | .err c => ([], c)
    | .ok e n => ((e, k + n) :: (scanF f (k + n) (b.drop n)).1, (scanF f (k + n) (b.drop n)).2)
def scan (l : List UInt8) : List (Ent × Nat) × Nat := scanF l.length 0 l
def goodOf (xs : List (Ent × Nat)) : Nat := match xs.getLast? with
  | some x => x.2
  | none => 0
theorem goodOf_snoc (xs : List (Ent × Nat)) (x : Ent × Nat) : goodOf (xs ++ [x]) = x.2 := by
  unfold goodOf; simp
theorem rd_bound {b : List UInt8} {e : Ent} {k : Nat} (h : rd b = .ok e k) : 6 ≤ k ∧ k ≤ b.length := by
  unfold rd at h
  split at h
  · cases h
  · split at h
    · cases h
    · split at h
      · cases h
      · split at h
        · cases h
        · split at h
          · cases h
          · injection h with h1 h2
            omega
theorem scanF_end {f k : Nat} : scanF f k [] = ([], 0) := by cases f <;> rfl
theorem scanF_err {f k c : Nat} {b : List UInt8} (h0 : b ≠ []) (h : rd b = .err c) : scanF (f + 1) k b = ([], c) := by
  show (if b = [] then _ else _) = _
  rw [if_neg h0, h]
theorem scanF_ok {f k n : Nat} {e : Ent} {b : List UInt8} (h0 : b ≠ []) (h : rd b = .ok e n) : scanF (f + 1) k b = ((e, k + n) :: (scanF f (k + n) (b.drop n)).1, (scanF f (k + n) (b.drop n)).2) := by
  show (if b = [] then _ else _) = _
  rw [if_neg h0, h]
theorem rd_err_pos {b : List UInt8} {c : Nat} (h : rd b = .err c) : c = 120 ∨ c = 121 ∨ c = 110 := by
  unfold rd at h
  split at h
  · injection h with h; omega
  · split at h
    · injection h with h; omega
    · split at h
      · injection h with h; omega
      · split at h
        · injection h with h; omega
        · split at h
          · injection h with h; omega
          · cases h
theorem grown_of_below {a w : World} (h : Below a.heap.size a w) : a.grownBy w none := ⟨h.os, h.tape, h.output, h.size, fun i hi _ => h.block i hi⟩
/-- What the iterator needs to stay: the blocks below B, and its own. -/
def Bk (B bl : Nat) (W W' : World) : Prop := W.heap.size ≤ W'.heap.size ∧ ∀ i, (i < B ∨ i = bl) → W'.heap[i]? = W.heap[i]?
theorem Bk.refl {B bl : Nat} {W : World} : Bk B bl W W := ⟨Nat.le_refl _, fun _ _ => rfl⟩
theorem Bk.trans {B bl : Nat} {W W' W'' : World} (h : Bk B bl W W') (h' : Bk B bl W' W'') : Bk B bl W W'' := ⟨Nat.le_trans h.1 h'.1, fun i hi => (h'.2 i hi).trans (h.2 i hi)⟩
theorem Bk.of_below {B bl n : Nat} {W W' : World} (h : Below n W W') (hB : B ≤ n) (hbl : bl < n) : Bk B bl W W' := ⟨h.size, fun i hi => h.block i (by rcases hi with hi | hi <;> omega)⟩
theorem Bk.cell {B bl : Nat} {W W' : World} (h : Bk B bl W W') {p : Addr} (hp : p.block < B ∨ p.block = bl) : W'.cell? p = W.cell? p := World.cell?_of_block (h.2 _ hp)
theorem Bk.bys {B bl n : Nat} {W W' : World} {A : Option Addr} {l : List UInt8} (h : Bk B bl W W') (hr : Bys W B A n l) : Bys W' B A n l := hr.keep fun _ hp => h.cell (.inl hp)
def encE (x : Ent × Nat) : Array Value := #[x.1.val, .int .i64 (x.2 : Int)]
set_option maxRecDepth 100000 in
set_option maxHeartbeats 4000000 in
theorem iter_in (w : World) (n : Nat) (hn : 1 ≤ n) (bl n₀ : Nat) (hblw : bl < w.heap.size) (A : Option Addr) (N C : Nat) (l : List UInt8) (hn₀ : n₀ ≤ w.heap.size)
    (hc : w.cell? ⟨bl, 0, none⟩ = some (.slice A N C)) (hr : Bys w n₀ A N l) (hNC : N ≤ C) (hN : N < 1000000) :
    SeqP Fence.wide n Try.prog 70 #[.pointer (some ⟨bl, 0, none⟩)] encE (fun pre _ _ => pre.length < 1000000) (Bk n₀ bl) (fun xs => scan l = (xs, 0)) (fun ch xs => ∃ c : Nat, ch = [{ v := .iface 24 (.int .i64 (c : Int)), recovered := false }] ∧ scan l = (xs, c)) w := fun lo J W hW hJ hY h0 => by
  have hcW := (hW.cell (p := ⟨bl, 0, none⟩) hblw).trans hc
  have hblW : bl < W.heap.size := Nat.lt_of_lt_of_le hblw hW.size
  have hrW := hr.below (hW.mono hn₀)
  have hzW : n₀ ≤ W.heap.size := Nat.le_trans hn₀ hW.size
  refine callsIn_of_wp Try.func70 rfl trivial ?_ rfl
  simp only [Try.ntmps70, List.size_toArray, List.length_cons, List.length_nil, Nat.reduceAdd, Nat.reduceSub, Array.replicate_succ, Array.replicate_zero, List.push_toArray, List.append_toArray, List.nil_append, List.cons_append]
  have HY := Lib.hid hY
  have HJ := Lib.hid hJ
  clear hY hJ hW hc hr
  gi_wp2
  gi_loopw [3] (fun i wr => ∃ (k f : Nat) (pre : List (Ent × Nat)), k ≤ N ∧ N - k ≤ f ∧ pre.length ≤ k ∧ i = .int .i64 k ∧ scan l = (pre ++ (scanF f k (l.drop k)).1, (scanF f k (l.drop k)).2) ∧ J pre wr ∧ Bk n₀ bl W wr) (fun i _ => N - (intOf i).toNat)
  case atStart => exact ⟨0, l.length, [], by omega, by have := hrW.1; omega, by simp, rfl, by simp [scan], h0, Bk.refl⟩
  case round =>
    obtain ⟨k, f, pre, hk, hf, hpl, rfl, hsc, hJs, hbr⟩ := hrel
    have HSC := Lib.hid hsc
    clear hsc
    have hcr := (hbr.cell (p := ⟨bl, 0, none⟩) (.inr rfl)).trans hcW
    have HL := Lib.hid hrW.1
    by_cases hlt : k < N
    · obtain ⟨f', rfl⟩ : ∃ f', f = f' + 1 := ⟨f - 1, by omega⟩
      obtain ⟨ad, u, rfl, hb, -, -⟩ := hrW.at_ hlt
      obtain ⟨A1, hs1, hy1⟩ := slice_rest ad N C k (k : Int) rfl (by omega) hNC
      have HY1 := Lib.hid hy1
      have hzr : n₀ ≤ wr.heap.size := Nat.le_trans hzW hbr.1
      have hblr : bl < wr.heap.size := Nat.lt_of_lt_of_le hblW hbr.1
      have HNE : Hid (l.drop k ≠ []) := Lib.hid (by rw [ne_eq, List.drop_eq_nil_iff, HL.out]; omega)
      clear hy1
      gi_wp2_with fail
      clear hs1
      refine ⟨trivial, (callsIn_wide.2 (frame_in A1 (N - k) (C - k) (l.drop k) wr ((HY1.out _ _ _ (hbr.bys hrW)).more hzr) (by omega) (by omega))).mono ?_⟩
      rintro e w1 ⟨hb1, hm1⟩
      have hJ1 := HJ.out pre wr w1 none hJs (grown_of_below hb1) (fun r e => by cases e)
      have hb1' := hbr.trans (Bk.of_below hb1 hzr hblr)
      have hz1 := hb1.size
      clear hb1 hJs
      rcases hrd : rd (l.drop k) with ⟨cc⟩ | ⟨x, m⟩
      · rw [hrd] at hm1
        simp only at hm1
        subst hm1
        have HS : Hid (scan l = (pre, cc)) := Lib.hid (by rw [HSC.out, scanF_err HNE.out hrd]; simp)
        unfold panicE
        gi_wp2
        refine ⟨rfl, .inr ⟨_, rfl, pre, ⟨cc, rfl, HS.out⟩, hJ1⟩⟩
      · rw [hrd] at hm1
        simp only at hm1
        subst hm1
        have hbd := rd_bound hrd
        rw [List.length_drop, HL.out] at hbd
        have HS : Hid (scan l = (pre ++ [(x, k + m)] ++ (scanF f' (k + m) (l.drop (k + m))).1, (scanF f' (k + m) (l.drop (k + m))).2)) := Lib.hid (by
          rw [HSC.out, scanF_ok HNE.out hrd, List.drop_drop]; simp)
        have hJ2 := HJ.out pre w1 _ none hJ1 (World.grownBy_alloc w1 (.cells #[.int .i64 x.epoch, .int .i64 x.id, .int .i64 x.num, .int .i64 x.seq, .int .i64 x.kind, .int .i64 x.value] 38) none) (fun r e => by cases e)
        obtain ⟨fn, tmps, assign, body, hy, hR⟩ := HY.out pre (x, k + m) _ hJ2 (show pre.length < 1000000 by omega)
        have hb2 := hb1'.trans (Bk.of_below ((Below.refl w1.heap.size w1).alloc (Nat.le_refl _) (.cells #[.int .i64 x.epoch, .int .i64 x.id, .int .i64 x.num, .int .i64 x.seq, .int .i64 x.kind, .int .i64 x.value] 38)) (Nat.le_trans hzr hz1) (Nat.lt_of_lt_of_le hblr hz1))
        unfold encE at hy
        simp only [Ent.val, Ent.cells] at hy
        have hcast : ((k + m : Nat) : Int) = (k : Int) + (m : Int) := by omega
        rw [hcast] at hy
        unfold Ent.val Ent.cells
        clear hcr hrd hJ1
        gi_wp2
        refine hR.mono ?_
        rintro e W' ⟨rfl, hJ', hk'⟩
        gi_wp2
        go_roundw
        case rel => exact ⟨k + m, f', pre ++ [(x, k + m)], by omega, by omega, by simp; omega, by rw [hcast], HS.out, hJ', hb2.trans hk'⟩
        case measure => simp [intOf]; omega
    · have HS : Hid (scan l = (pre, 0)) := Lib.hid (by rw [HSC.out, List.drop_eq_nil_of_le (by rw [HL.out]; omega), scanF_end]; simp)
      have hd1 : decide (k < N) = false := by simpa using hlt
      gi_wp2
      go_end0
      exact .inl ⟨⟨_, rfl⟩, pre, HS.out, hJs⟩
end Go.Proofs.Ytickdpgfiianjaa
