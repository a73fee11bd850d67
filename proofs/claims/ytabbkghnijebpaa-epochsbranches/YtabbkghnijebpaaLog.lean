/-
  waystationlaw07.log: entries of some epochs. Condition: at most 1000000000 of them.
-/
import Derived.Test.YtabbkghnijebpaaRefs
namespace Go.Proofs.Ytabbkghnijebpaa
open Go.RowKit Go.Shelf
/-- The log of epochs: entry i has the value i. -/
def lf (z : Nat → Int) (i : Nat) : Int × Int := (z i, (i : Int))
/-- What is known behind a call that answers a log in new memory. -/
def NewLg (w : World) (n : Nat) (f : Nat → Int × Int) (e : Ending) (w' : World) : Prop := ∃ A c, e = .returned (.slice A n c) ∧ Lg w' (fun b => b < w.heap.size) A n f ∧ n ≤ c ∧ c ≤ maxLen ∧ Below w.heap.size w w'
theorem OwnL.snoc {w : World} {v : Value} {n : Nat} {f : Nat → Int × Int} (h : OwnK w 59 6 v (((List.range n).map fun i => entA (f i)) ++ [entA (f n)])) : OwnL w v (n + 1) f := by
  unfold OwnL
  rw [List.range_succ, List.map_append]
  exact h
theorem OwnL.form {w : World} {v : Value} {n : Nat} {f : Nat → Int × Int} (h : OwnL w v n f) : ∃ A c, v = .slice A n c ∧ n ≤ c ∧ c ≤ maxLen := by
  obtain ⟨A, q, c, e, hq, h1, h2⟩ := OwnK.form h
  simp at hq
  subst hq
  exact ⟨A, c, e, h1, h2⟩
set_option maxRecDepth 100000 in
set_option maxHeartbeats 4000000 in
theorem log_any {w : World} {A : Option Addr} {n c : Nat} {z : Nat → Int} (h : Ints w A n z) (hc : n ≤ 1000000000) : Calls Try.prog 10 #[.slice A n c] w (NewLg w n (lf z)) := by
  have HH := Lib.hid h
  clear h
  go_enter Try.func10, Try.ntmps10
  go_wp2_with fail
  go_loopw [3, 4] (fun v i wr => ∃ k : Nat, k ≤ n ∧ i = .int .i64 k ∧ OwnL wr v k (lf z) ∧ (∀ g, v.ownBlock = some g → w.heap.size ≤ g) ∧ Below w.heap.size w wr) (fun _ i _ => n - (intOf i).toNat)
  case atStart => exact ⟨0, by omega, rfl, OwnK.nil _ 59 6, fun g e => (by cases e), Below.refl _ _⟩
  case round =>
    obtain ⟨k, hk, rfl, ho, hlow, hb⟩ := hrel
    obtain ⟨Av, cv, rfl, hv1, hv2⟩ := ho.form
    by_cases hlt : k < n
    case neg =>
      have hd1 : decide (k < n) = false := by simpa using hlt
      obtain rfl : k = n := by omega
      have HO := Lib.hid ho
      have HL := Lib.hid hlow
      clear ho hlow
      go_wp2_with fail
      go_ret
      exact ⟨Av, cv, rfl, OwnL.lg HO.out (fun g e hx => by have := HL.out g e; omega), hv1, hv2, hb⟩
    case pos =>
    obtain ⟨ad, rfl, hl, c0⟩ := (HH.out.below hb).at_ hlt
    have HO := Lib.hid ho
    have HL := Lib.hid hlow
    have HB := Lib.hid hb
    clear ho hlow hb
    go_wp2_with (at_builtin; refine stop ?_)
    have hbA : Below wr.heap.size wr (wr.alloc (.cells (entA (lf z k)) 59)) := (Below.refl _ _).alloc (Nat.le_refl _) _
    refine Stop.go (wpList_append_k el25 _ (by rfl) _ _ (by rfl) (.slice Av k cv) _ (by rfl) (OwnK.alloc HO.out _) No _ 1 _ [entA (lf z k)] (by rfl) (rd_one wr 59 (entA (lf z k)) rfl (by simp [entA, Value.oneCell']) (fun h => h)) (by simp; omega) (by omega) ?_)
    intro v9 w9 ho9 hg9
    have hs := HB.out.size
    have ho9' := OwnL.snoc ho9
    have hT9 : Turn (fun b => Value.ownBlock (.slice Av k cv) = some b) _ w9 := hg9.turn (fun g e => e)
    have hb9 : Below w.heap.size w w9 := (HB.out.trans (hbA.mono hs)).trans (hT9.below (le_alloc hs _) (fun b e => HL.out b e))
    have hl9 : ∀ g, v9.ownBlock = some g → w.heap.size ≤ g := fun g e => by
      rcases hg9.2 g e with h | h
      · exact HL.out g h
      · exact Nat.le_trans (le_alloc hs _) h
    have HO9 := Lib.hid ho9'
    have HB9 := Lib.hid hb9
    have HL9 := Lib.hid hl9
    clear ho9 ho9' hg9 hT9 hb9 hl9
    go_wp2_with fail
    go_roundw
    case rel => exact ⟨k + 1, by omega, by go_num, HO9.out, HL9.out, HB9.out⟩
    case measure => simp [intOf]; omega
end Go.Proofs.Ytabbkghnijebpaa
