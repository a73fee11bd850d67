/-
  Where epochs begin: the iterator, and what Starts answers. Conditions: bounds.
-/
import Derived.Test.YtabbkghnijebpaaNear
import Derived.Test.YtabbkghnijebpaaTurns
import Derived.RecoverIn
import Derived.LoopIn
import Derived.Laws.EntriesVeiled
namespace Go.Proofs.Ytabbkghnijebpaa
open Go.RowKit Go.Shelf
attribute [local go_sem] Oper.semAt_some
theorem starts_prefix {E : Nat → Int} {m : Nat} : ∀ {n : Nat}, m ≤ n → ∃ r, starts E n = starts E m ++ r := by
  intro n h
  induction h with
  | refl => exact ⟨[], by simp⟩
  | step h ih =>
    obtain ⟨r, hr⟩ := ih
    rw [starts_succ, hr]
    exact ⟨_, by rw [List.append_assoc]⟩
theorem starts_at {E : Nat → Int} {i n : Nat} (hi : i < n) (hs : i = 0 ∨ E i ≠ E (i - 1)) : (starts E n)[(starts E i).length]? = some i := by
  obtain ⟨r, hr⟩ := starts_prefix (E := E) (m := i + 1) (n := n) (by omega)
  rw [hr, starts_succ, if_pos hs, List.append_assoc, List.getElem?_append_right (Nat.le_refl _)]
  simp
theorem starts_yes {E : Nat → Int} {i : Nat} (hs : i = 0 ∨ E i ≠ E (i - 1)) : starts E (i + 1) = starts E i ++ [i] := by rw [starts_succ, if_pos hs]
theorem starts_no {E : Nat → Int} {i : Nat} (hs : ¬ (i = 0 ∨ E i ≠ E (i - 1))) : starts E (i + 1) = starts E i := by rw [starts_succ, if_neg hs, List.append_nil]
theorem lastTo_succ (E : Nat → Int) (i : Nat) : lastTo E (i + 1) = E i := by unfold lastTo; rw [if_neg (by omega)]; rfl
/-- At place i an epoch begins, as the iterator asks it. -/
theorem start_iff {E : Nat → Int} {n i : Nat} (h : Good E n) (hi : i < n) : E i = lastTo E i ↔ ¬ (i = 0 ∨ E i ≠ E (i - 1)) := by
  unfold lastTo
  by_cases h0 : i = 0
  · rw [if_pos h0]
    have := (h i hi).1
    omega
  · rw [if_neg h0]
    omega
theorem starts_iter (A : Option Addr) (n c : Nat) (w : World) : Calls Try.prog 27 #[.slice A n c] w fun e w' => e = .returned (.func (.func 33) #[] #[.pointer (some ⟨w.heap.size, 0, none⟩)]) ∧ w.alloc (.cells #[.slice A n c] 25) = w' := by
  have hmf := mf
  go_enter Try.func27, Try.ntmps27
  go_wp2_with fail
  go_ret
  exact ⟨rfl, rfl⟩
/-- The entries lie as they lay. -/
def KeepL (A : Option Addr) (B : Nat) (W W' : World) : Prop := W.heap.size ≤ W'.heap.size ∧ ∀ ad, A = some ad → ad.block < B → W'.heap[ad.block]? = W.heap[ad.block]?
theorem Lg.keepL {w w' : World} {X : Nat → Prop} {A : Option Addr} {n B : Nat} {f : Nat → Int × Int} (h : Lg w X A n f) (hk : KeepL A B w w') (hB : 0 < n → ∀ ad, A = some ad → ad.block < B) : Lg w' X A n f :=
  ⟨h.1, h.2.1, fun hn => by
    obtain ⟨ad, e, hb, hx, hc⟩ := h.2.2 hn
    exact ⟨ad, e, Nat.lt_of_lt_of_le hb hk.1, hx, fun j u hu => (World.cell?_of_block (a := ad.add j) (by rw [block_of_add]; exact hk.2 ad e (hB hn ad e))).trans (hc j u hu)⟩⟩
/-- What is handed on. -/
def encS (E : Nat → Int) (l : List Nat) (k : Nat) : Array Value := #[.agg (stA E (l.getD k 0))]
theorem encS_at {E : Nat → Int} {l : List Nat} {k i : Nat} (h : l[k]? = some i) : encS E l k = #[.agg #[.int .i64 (E i), .int .i64 (i : Int)]] := by unfold encS stA; rw [List.getD_eq_getElem?_getD, h]; rfl
set_option maxRecDepth 100000 in
set_option maxHeartbeats 4000000 in
theorem iter_in (nf : Nat) (hnf : 1 ≤ nf) (bx : Nat) {X : Nat → Prop} (A : Option Addr) (n c : Nat) (f : Nat → Int × Int) (w : World) (hcx : w.cell? ⟨bx, 0, none⟩ = some (.slice A n c)) (hl : Lg w X A n f) (hg : Good (fun i => (f i).1) n) (hn : n ≤ 1000000) (B0 : Nat) (hB0 : 0 < n → ∀ ad, A = some ad → ad.block < B0) :
    SeqN Fence.wide nf Try.prog 33 #[.pointer (some ⟨bx, 0, none⟩)] (encS (fun i => (f i).1) (starts (fun i => (f i).1) n)) (starts (fun i => (f i).1) n).length (KeepL A B0) w := fun l J Jx W hW hJ hJx hY h0 => by
  have hcW := (hW.cell (p := ⟨bx, 0, none⟩) (block_lt_of_cell hcx) (fun h => h)).trans hcx
  have hlW := hl.keep hW (fun _ _ h => h.elim)
  have HBK := Lib.hid hB0
  refine callsIn_of_wp Try.func33 rfl trivial ?_ rfl
  simp only [Try.ntmps33, List.size_toArray, List.length_cons, List.length_nil, Nat.reduceAdd, Nat.reduceSub, Array.replicate_succ, Array.replicate_zero, List.push_toArray, List.append_toArray, List.nil_append, List.cons_append]
  have HY := Lib.hid hY
  have HJ := Lib.hid hJ
  have HJX := Lib.hid hJx
  have HG := Lib.hid hg
  have HLW := Lib.hid hlW
  clear hY hJ hJx hW hcx hl hg hlW hB0
  gi_wp2
  gi_loopw [3, 8] (fun ep i wr => ∃ k : Nat, k ≤ n ∧ i = .int .i64 k ∧ ep = .int .i64 (lastTo (fun i => (f i).1) k) ∧ J (starts (fun i => (f i).1) k).length wr ∧ KeepL A B0 W wr) (fun _ i _ => n - (intOf i).toNat)
  case atStart => exact ⟨0, by omega, rfl, rfl, h0, Nat.le_refl _, fun _ _ _ => rfl⟩
  case round =>
    obtain ⟨k, hk, rfl, rfl, hJs, hkr⟩ := hrel
    have HK := Lib.hid hkr
    have HJS := Lib.hid hJs
    clear hkr hJs
    by_cases hlt : k < n
    case neg =>
      have hd1 : decide (k < n) = false := by simpa using hlt
      obtain rfl : k = n := by omega
      gi_wp2
      go_end0
      exact ⟨⟨_, rfl⟩, .inl HJS.out⟩
    case pos =>
    obtain ⟨ad, rfl, hadl, -, c0, c1, c2, c3, c4, c5⟩ := (HLW.out.keepL HK.out HBK.out).at_ hlt
    have HS := Lib.hid (start_iff HG.out hlt)
    have hk0 : (wr.alloc (.cells #[.int .i64 (f k).1, .int .i64 (-1), .int .i64 0, .int .i64 0, .int .i64 1, .int .i64 (f k).2] 59)).cell? ⟨wr.heap.size, 0, none⟩ = some (.int .i64 (f k).1) := (Blk.new _ _ _).cell 0
    have HJ2 := Lib.hid (HJ.out _ _ _ HJS.out (turn_alloc wr (.cells #[.int .i64 (f k).1, .int .i64 (-1), .int .i64 0, .int .i64 0, .int .i64 1, .int .i64 (f k).2] 59) No))
    have HK2 : Hid (KeepL (some ad) B0 wr (wr.alloc (.cells #[.int .i64 (f k).1, .int .i64 (-1), .int .i64 0, .int .i64 0, .int .i64 1, .int .i64 (f k).2] 59))) := Lib.hid ⟨by simp, fun x e _ => by injection e with e; subst e; exact Below.heap_alloc wr _ _ hadl⟩
    by_cases hst : (f k).1 = lastTo (fun i => (f i).1) k
    case pos =>
      have hq : ((f k).1 == lastTo (fun i => (f i).1) k) = true := by simpa using hst
      have HN : Hid (starts (fun i => (f i).1) (k + 1) = starts (fun i => (f i).1) k) := Lib.hid (starts_no (HS.out.1 hst))
      have HL : Hid (lastTo (fun i => (f i).1) (k + 1) = lastTo (fun i => (f i).1) k) := Lib.hid (by rw [lastTo_succ]; exact hst)
      clear hst
      gi_wp2
      go_roundw
      case rel => exact ⟨k + 1, by omega, by go_num, by rw [HL.out], by rw [HN.out]; exact HJ2.out, Nat.le_trans HK.out.1 HK2.out.1, fun x e hb => (HK2.out.2 x e hb).trans (HK.out.2 x e hb)⟩
      case measure => simp [intOf]; omega
    case neg =>
      have hq : ((f k).1 == lastTo (fun i => (f i).1) k) = false := by simpa using hst
      have hss : k = 0 ∨ (fun i => (f i).1) k ≠ (fun i => (f i).1) (k - 1) := Decidable.not_not.1 (fun h => hst (HS.out.2 h))
      have HN : Hid (starts (fun i => (f i).1) (k + 1) = starts (fun i => (f i).1) k ++ [k]) := Lib.hid (starts_yes hss)
      have hat := starts_at (E := fun i => (f i).1) hlt hss
      have HE := Lib.hid (encS_at (E := fun i => (f i).1) hat)
      have hlk : (starts (fun i => (f i).1) k).length < (starts (fun i => (f i).1) n).length := (List.getElem?_eq_some_iff.1 hat).1
      obtain ⟨fn, tmps, assign, body, hy, hR⟩ := HY.out _ _ HJ2.out hlk
      rw [HE.out] at hy
      have HLK := Lib.hid hlk
      clear hst hss hat hlk
      gi_wp2
      refine hR.mono ?_
      rintro e W' (⟨rfl, hJ', hk'⟩ | ⟨rfl, hJ'⟩)
      · have HJ3 := Lib.hid hJ'
        have HK3 := Lib.hid hk'
        clear hy hJ' hk' hR c0 c1 c2 c3 c4 c5 hk0
        gi_wp2
        go_roundw
        case rel => exact ⟨k + 1, by omega, by go_num, by rw [lastTo_succ], by rw [HN.out, List.length_append]; exact HJ3.out, Nat.le_trans (Nat.le_trans HK.out.1 HK2.out.1) HK3.out.1, fun x e hb => ((HK3.out.2 x e hb).trans (HK2.out.2 x e hb)).trans (HK.out.2 x e hb)⟩
        case measure => simp [intOf]; omega
      · have HJ3 := Lib.hid hJ'
        clear hy hJ' hR c0 c1 c2 c3 c4 c5 hk0
        gi_wp2
        refine bodyPost_ret (results_none rfl _ _ _) rfl ?_
        exact ⟨⟨_, rfl⟩, .inr ⟨_, HLK.out, HJ3.out⟩⟩
end Go.Proofs.Ytabbkghnijebpaa
