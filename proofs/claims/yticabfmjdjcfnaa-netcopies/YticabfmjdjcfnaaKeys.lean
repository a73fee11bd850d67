/-
  The numbers of a map's messages, rising: what slices.Sorted(maps.Keys(m)) answers at a map of messages. Conditions: at most 1000000 messages.
-/
import Derived.Test.YticabfmjdjcfnaaShelf
import Derived.Test.YticabfmjdjcfnaaSend
namespace Go.Proofs
open Go.RowKit Go.Maps Go.Sort Go.Shelf
theorem Try.sorts53 (m : Nat) : AnyZI.SortsIn Try.prog Try.sorted53_ren Fence.wide m :=
  ⟨fun blk off cap ss W hH hblk hsz => callsIn_wide.2 (AnyM.slices_Sort_int Try.sort56 blk off cap ss W hH hblk hsz),
   fun p cap W => callsIn_wide.2 (AnyM.slices_Sort_int_none Try.sort56 p cap W)⟩
theorem Try.maps_Keys_54 (mb : Option Nat) (W : World) : CallsIn Fence.wide 5 Try.prog 54 #[.map mb] W fun e w' => e = .returned (.func (.func 57) #[] #[.pointer (some ⟨W.heap.size, 0, none⟩)]) ∧ w' = W.alloc (.cells #[.map mb] 69) :=
  AnyZI.keys_in Try.keys54 Fence.wide 5 trivial rfl mb W
set_option maxHeartbeats 1000000 in
theorem Try.slices_Sorted_keys_53 {H : Type} (b nn : Nat) (D0 : DataW H) (R : Value → Option (DataW H × List MemPlace)) (w : World) (hown : w.ownsMap Try.prog 3 R b nn D0) (hmax : Maps.size D0 ≤ maxLen) (hbytes : Maps.size D0 * 8 ≤ 140737488355328) :
    CallsIn Fence.wide 5 Try.prog 53 #[.func (.func 57) #[] #[.pointer (some ⟨w.heap.size, 0, none⟩)]] (w.alloc (.cells #[.map (some b)] 69)) fun e w' => ∃ (v : Value) (ss : List Int), e = .returned v ∧ ss.Perm (intKeys D0) ∧
      w'.ownsRow (w.alloc (.cells #[.map (some b)] 69)).heap.size 3 1 v ss.length ((ss.mergeSort (fun x y => decide (x ≤ y))).map encZ) ∧ (v = .slice none 0 0 ↔ ss = []) ∧ Below (w.alloc (.cells #[.map (some b)] 69)).heap.size (w.alloc (.cells #[.map (some b)] 69)) w' := by
  have hbl := hown.lt
  have hseq : SeqGives Fence.wide 2 Try.prog 57 #[.pointer (some ⟨w.heap.size, 0, none⟩)] encZ (fun ss => ss.Perm (intKeys D0)) (Maps.size D0) (w.alloc (.cells #[.map (some b)] 69)) :=
    AnyZI.keys_gives (ρ := Try.keys54_ren) { Try.keys54 with } Fence.wide _ trivial rfl (by omega) w.heap.size b nn D0 _ (by simp) (by simp) (by
      obtain ⟨es, clock, hb, Ft, hs, hD⟩ := hown
      exact ⟨es, clock, (Below.heap_alloc _ _ b hbl).trans hb, Ft, hs, hD⟩)
  exact AnyZI.sorted_in Try.sorted53 Fence.wide 5 trivial trivial trivial trivial rfl (by omega) (Try.sorts53 _) (enters_of Try.func56 (by kernel_rfl) rfl) 57 #[.pointer (some ⟨w.heap.size, 0, none⟩)] trivial (enters_of Try.func57 (by kernel_rfl) rfl) _ _ hmax hbytes _ hseq
end Go.Proofs
namespace Go.Proofs.Yticabfmjdjcfnaa
open Go.RowKit Go.Maps Go.Sort Go.Shelf
/-- The value v is a row that holds these numbers, with its block for itself. -/
def OwnN (w : World) (v : Value) (ns : List Int) : Prop := w.ownsRow 0 3 1 v ns.length (ns.map encZ)
theorem OwnN.lt {w : World} {v : Value} {ns : List Int} (h : OwnN w v ns) {g : Nat} (e : v.ownBlock = some g) : g < w.heap.size := (World.ownsRow.lt h g e).2
theorem OwnN.keepB {w w' : World} {v : Value} {ns : List Int} (h : OwnN w v ns) (hk : ∀ g, v.ownBlock = some g → w'.heap[g]? = w.heap[g]?) : OwnN w' v ns := by
  refine ⟨h.1, ?_⟩
  rcases h.2 with h | ⟨g, cap, cur, h1, h2, h3, h4⟩
  · exact .inl h
  · exact .inr ⟨g, cap, cur, h1, h2, (hk g (by rw [h1]; rfl)).trans h3, h4⟩
theorem OwnN.form {w : World} {v : Value} {ns : List Int} (h : OwnN w v ns) : ∃ A q c, v = .slice A q c ∧ q = ns.length ∧ q ≤ c ∧ c ≤ maxLen := by
  rcases h.2 with ⟨rfl, h0⟩ | ⟨g, cap, cur, rfl, _, _, h1, h2, _⟩
  · exact ⟨none, 0, 0, rfl, by rw [h0], by omega, by unfold maxLen; omega⟩
  · exact ⟨_, _, _, rfl, rfl, h1, h2⟩
theorem OwnN.at_ {w : World} {A : Option Addr} {q c : Nat} {ns : List Int} (h : OwnN w (.slice A q c) ns) {i : Nat} (hi : i < ns.length) : ∃ g, A = some ⟨g, 0, none⟩ ∧ g < w.heap.size ∧ w.cell? ⟨g, i, none⟩ = some (.int .i64 ns[i]) := by
  rcases h.2 with ⟨e, h0⟩ | ⟨g, cap, cur, e, hg, hh, h1, h2, h3, h4⟩
  · omega
  · injection e with e1 e2 e3
    subst e1 e2 e3
    refine ⟨g, rfl, lt_of_heap hh, ?_⟩
    rw [cell_of_row w g i cur 3 (0, 0) hh]
    have h5 := congrArg (fun z => z[i]?) h4
    simp only [Nat.mul_one] at h5
    rw [List.getElem?_take, if_pos hi, Array.getElem?_toList, List.getElem?_map, List.getElem?_eq_getElem hi] at h5
    exact h5
theorem mergeSort_rises {l : Row} (h : Rises l) : (l.map (·.1)).mergeSort leI = l.map (·.1) := by
  refine List.mergeSort_of_pairwise ?_
  refine List.pairwise_map.2 (h.imp fun {a b} hab => ?_)
  simp only [leI, decide_eq_true_eq]
  omega
set_option maxHeartbeats 1000000 in
/-- net.messages.numbers. -/
theorem numbers_any {w : World} {X : Nat → Prop} {m : Nat} {l : Row} (h : NM w X m l) :
    Calls Try.prog 48 #[.map (some m)] w fun e w' => ∃ v, e = .returned v ∧ OwnN w' v (l.map (·.1)) ∧ (∀ r, v.ownBlock = some r → w.heap.size ≤ r) ∧ Below w.heap.size w w' := by
  have hlen := h.len
  have hr := h.rises
  obtain ⟨D, hown, hsz, hpm⟩ := h.size
  refine (callsIn_wide (n := 6)).1 ?_
  have hfK : Fence.wide.fn 54 := trivial
  have hfS : Fence.wide.fn 53 := trivial
  refine callsIn_of_wp Try.func48 rfl trivial ?_ rfl
  simp only [Try.ntmps48, List.size_toArray, List.length_cons, List.length_nil, Nat.reduceAdd, Nat.reduceSub, Array.replicate_succ, Array.replicate_zero, List.push_toArray, List.append_toArray, List.nil_append, List.cons_append]
  have H1 := Lib.hid hsz
  have H2 := Lib.hid hpm
  have H3 := Lib.hid hr
  clear hsz hpm hr h
  gi_wp2_with (first
    | (gi_at_call 54; refine (Try.maps_Keys_54 _ _).mono ?_; rintro e w' ⟨rfl, rfl⟩)
    | (gi_at_call 53; refine (Try.slices_Sorted_keys_53 m (Maps.size D) D hv w hown (by rw [H1.out]; unfold maxLen; omega) (by rw [H1.out]; omega)).mono ?_; rintro e w' ⟨v, ss, rfl, hS, hrow, hnil, hb⟩))
  go_ret
  have e1 : ss.mergeSort leI = l.map (·.1) := by rw [mergeSort_of_perm_i (hS.trans H2.out.symm), mergeSort_rises H3.out]
  have e2 : ss.length = (l.map (·.1)).length := by rw [(hS.trans H2.out.symm).length_eq]
  have hb' : Below w.heap.size w w' := ((Below.refl _ w).alloc (Nat.le_refl _) _).trans (hb.mono (by simp))
  refine ⟨v, rfl, ?_, fun r e => ?_, hb'⟩
  · unfold OwnN
    have hrow' : w'.ownsRow (w.alloc (.cells #[.map (some m)] 69)).heap.size 3 1 v ss.length ((ss.mergeSort leI).map encZ) := hrow
    rw [e1] at hrow'
    rw [← e2]
    refine ⟨hrow'.1, ?_⟩
    rcases hrow'.2 with h | ⟨g, cap, cur, q1, q2, q3⟩
    · exact .inl h
    · exact .inr ⟨g, cap, cur, q1, Nat.zero_le _, q3⟩
  · have := (World.ownsRow.lt hrow r e).1
    simp at this
    omega
end Go.Proofs.Yticabfmjdjcfnaa
