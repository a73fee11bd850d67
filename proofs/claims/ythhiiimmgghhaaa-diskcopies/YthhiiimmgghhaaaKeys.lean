/-
  The names of a map's files, rising: what slices.Sorted(maps.Keys(m)) answers at a map of files. Conditions: at most 1000000 files.
-/
import Derived.Test.YthhiiimmgghhaaaShelf
import Derived.Test.YthhiiimmgghhaaaByte
namespace Go.Proofs
open Go.RowKit Go.Maps Go.Sort Go.Shelf
/-- slices.Sort's two contracts at this dump, at the fence that asks nothing. -/
theorem Try.sorts74 (m : Nat) : AnyZ.SortsIn Try.prog Try.sorted74_ren Fence.wide m :=
  ⟨fun blk off cap ss W hH hblk hsz => callsIn_wide.2 (AnyM.slices_Sort_string Try.laysSlM6_f82 blk off cap ss W hH hblk hsz),
   fun p cap W => callsIn_wide.2 (AnyM.slices_Sort_string_none Try.laysSlM6_f82 p cap W)⟩

/-- **maps.Keys[map[string][]byte,string,[]byte], at whatever map, the nil one too:** a function value over ONE NEW BLOCK, which holds the map. -/
theorem Try.maps_Keys_75 (mb : Option Nat) (W : World) : CallsIn Fence.wide 5 Try.prog 75 #[.map mb] W fun e w' => e = .returned (.func (.func 83) #[] #[.pointer (some ⟨W.heap.size, 0, none⟩)]) ∧ w' = W.alloc (.cells #[.map mb] 76) :=
  AnyZ.keys_in Try.keys75 Fence.wide 5 trivial rfl mb W

set_option maxHeartbeats 1000000 in
/-- **slices.Sorted[string] AT WHAT maps.Keys[map[string][]byte,string,[]byte] HANDED BACK FOR A MAP THAT IS NOT nil** ('w': the world AHEAD of maps.Keys' call): A NEW SLICE THAT HOLDS THE MAP's KEYS, SORTED; nil just where it has none; nothing that lay before has turned. -/
theorem Try.slices_Sorted_keys_74_75 {H : Type} (b nn : Nat) (D0 : DataW H) (R : Value → Option (DataW H × List MemPlace)) (w : World) (hown : w.ownsMap Try.prog 9 R b nn D0) (hmax : Maps.size D0 ≤ maxLen) (hbytes : Maps.size D0 * 16 ≤ 140737488355328) :
    CallsIn Fence.wide 5 Try.prog 74 #[.func (.func 83) #[] #[.pointer (some ⟨w.heap.size, 0, none⟩)]] (w.alloc (.cells #[.map (some b)] 76)) fun e w' => ∃ (v : Value) (ss : List (List UInt8)), e = .returned v ∧ ss.Perm (strKeys D0) ∧
      w'.ownsRow (w.alloc (.cells #[.map (some b)] 76)).heap.size 9 1 v ss.length ((ss.mergeSort (fun x y => decide (x ≤ y))).map encStr) ∧ (v = .slice none 0 0 ↔ ss = []) ∧ Below (w.alloc (.cells #[.map (some b)] 76)).heap.size (w.alloc (.cells #[.map (some b)] 76)) w' := by
  have hbl := hown.lt
  have hseq : SeqGives Fence.wide 2 Try.prog 83 #[.pointer (some ⟨w.heap.size, 0, none⟩)] encStr (fun ss => ss.Perm (strKeys D0)) (Maps.size D0) (w.alloc (.cells #[.map (some b)] 76)) :=
    AnyZ.keys_gives (ρ := Try.keys75_ren) { Try.keys75 with } Fence.wide _ trivial rfl (by omega) w.heap.size b nn D0 _ (by simp) (by simp) (by
      obtain ⟨es, clock, hb, Ft, hs, hD⟩ := hown
      exact ⟨es, clock, (Below.heap_alloc _ _ b hbl).trans hb, Ft, hs, hD⟩)
  exact AnyZ.sorted_in Try.sorted74 Fence.wide 5 trivial trivial trivial trivial rfl (by omega) (Try.sorts74 _) (enters_of Try.func82 (by kernel_rfl) rfl) 83 #[.pointer (some ⟨w.heap.size, 0, none⟩)] trivial (enters_of Try.func83 (by kernel_rfl) rfl) _ _ hmax hbytes _ hseq

set_option maxHeartbeats 1000000 in
/-- **.. AND FOR THE nil MAP: nil.** -/
theorem Try.slices_Sorted_keys_nil_74_75 (w : World) :
    CallsIn Fence.wide 5 Try.prog 74 #[.func (.func 83) #[] #[.pointer (some ⟨w.heap.size, 0, none⟩)]] (w.alloc (.cells #[.map none] 76)) fun e w' => ∃ (v : Value) (ss : List (List UInt8)), e = .returned v ∧ ss = [] ∧
      w'.ownsRow (w.alloc (.cells #[.map none] 76)).heap.size 9 1 v ss.length ((ss.mergeSort (fun x y => decide (x ≤ y))).map encStr) ∧ (v = .slice none 0 0 ↔ ss = []) ∧ Below (w.alloc (.cells #[.map none] 76)).heap.size (w.alloc (.cells #[.map none] 76)) w' := by
  have hseq : SeqGives Fence.wide 2 Try.prog 83 #[.pointer (some ⟨w.heap.size, 0, none⟩)] encStr (fun ss : List (List UInt8) => ss = []) 0 (w.alloc (.cells #[.map none] 76)) :=
    AnyZ.keys_gives_nil (ρ := Try.keys75_ren) { Try.keys75 with } Fence.wide _ trivial rfl w.heap.size _ (by simp) (by simp)
  exact AnyZ.sorted_in Try.sorted74 Fence.wide 5 trivial trivial trivial trivial rfl (by omega) (Try.sorts74 _) (enters_of Try.func82 (by kernel_rfl) rfl) 83 #[.pointer (some ⟨w.heap.size, 0, none⟩)] trivial (enters_of Try.func83 (by kernel_rfl) rfl) _ 0 (Nat.zero_le _) (by omega) _ hseq


end Go.Proofs
namespace Go.Proofs.Ythhiiimmgghhaaa
open Go.RowKit Go.Maps Go.Sort Go.Shelf
/-- The value v is a row that holds these texts, with its block for itself. -/
def OwnS (w : World) (v : Value) (ns : List Bs) : Prop := w.ownsRow 0 9 1 v ns.length (ns.map fun n => .string (str n))
theorem OwnS.lt {w : World} {v : Value} {ns : List Bs} (h : OwnS w v ns) {g : Nat} (e : v.ownBlock = some g) : g < w.heap.size := (World.ownsRow.lt h g e).2
theorem OwnS.keepB {w w' : World} {v : Value} {ns : List Bs} (h : OwnS w v ns) (hk : ∀ g, v.ownBlock = some g → w'.heap[g]? = w.heap[g]?) : OwnS w' v ns := by
  refine ⟨h.1, ?_⟩
  rcases h.2 with h | ⟨g, cap, cur, h1, h2, h3, h4⟩
  · exact .inl h
  · exact .inr ⟨g, cap, cur, h1, h2, (hk g (by rw [h1]; rfl)).trans h3, h4⟩
theorem OwnS.form {w : World} {v : Value} {ns : List Bs} (h : OwnS w v ns) : ∃ A q c, v = .slice A q c ∧ q = ns.length ∧ q ≤ c ∧ c ≤ maxLen := by
  rcases h.2 with ⟨rfl, h0⟩ | ⟨g, cap, cur, rfl, _, _, h1, h2, _⟩
  · exact ⟨none, 0, 0, rfl, by rw [h0], by omega, by unfold maxLen; omega⟩
  · exact ⟨_, _, _, rfl, rfl, h1, h2⟩
theorem OwnS.at_ {w : World} {A : Option Addr} {q c : Nat} {ns : List Bs} (h : OwnS w (.slice A q c) ns) {i : Nat} (hi : i < ns.length) : ∃ g, A = some ⟨g, 0, none⟩ ∧ g < w.heap.size ∧ w.cell? ⟨g, i, none⟩ = some (.string (str ns[i])) := by
  rcases h.2 with ⟨e, h0⟩ | ⟨g, cap, cur, e, hg, hh, h1, h2, h3, h4⟩
  · omega
  · injection e with e1 e2 e3
    subst e1 e2 e3
    refine ⟨g, rfl, lt_of_heap hh, ?_⟩
    rw [cell_of_row w g i cur 9 (0, 0) hh]
    have h5 := congrArg (fun z => z[i]?) h4
    simp only [Nat.mul_one] at h5
    rw [List.getElem?_take, if_pos hi, Array.getElem?_toList, List.getElem?_map, List.getElem?_eq_getElem hi] at h5
    exact h5
theorem mergeSort_rises {l : FL} (h : Rises l) : (l.map (·.1)).mergeSort leB = l.map (·.1) := by
  refine List.mergeSort_of_pairwise ?_
  have := (rises_iff l).1 h
  exact this.imp fun {a b} hab => by simp only [leB, decide_eq_true_eq]; exact List.le_of_lt hab
set_option maxHeartbeats 1000000 in
/-- disk.(*files).names. -/
theorem names_any {w : World} {S : Nat → Prop} {m : Nat} {l : FL} (h : FM w S m l) (g o : Nat) (hc : w.cell? ⟨g, o, none⟩ = some (.map (some m))) :
    Calls Try.prog 55 #[.pointer (some ⟨g, o, none⟩)] w fun e w' => ∃ v, e = .returned v ∧ OwnS w' v (l.map (·.1)) ∧ (∀ r, v.ownBlock = some r → w.heap.size ≤ r) ∧ Below w.heap.size w w' := by
  have hlen := h.len
  have hr := h.rises
  obtain ⟨vs, ⟨D, hown, hag⟩, _⟩ := h
  have hag' : ∀ k, Maps.has D (.string k) = (find l k).isSome := fun k => (hag k).1.trans (by simp)
  have hsz := size_of_keys hown hr hag'
  have hpm := keys_perm_of hown hr hag'
  refine (callsIn_wide (n := 6)).1 ?_
  have hfK : Fence.wide.fn 75 := trivial
  have hfS : Fence.wide.fn 74 := trivial
  refine callsIn_of_wp Try.func55 rfl trivial ?_ rfl
  simp only [Try.ntmps55, List.size_toArray, List.length_cons, List.length_nil, Nat.reduceAdd, Nat.reduceSub, Array.replicate_succ, Array.replicate_zero, List.push_toArray, List.append_toArray, List.nil_append, List.cons_append]
  have H1 := Lib.hid hsz
  have H2 := Lib.hid hpm
  have H3 := Lib.hid hr
  clear hsz hpm hag hag' hr
  gi_wp2_with (first
    | (gi_at_call 75; refine (Try.maps_Keys_75 _ _).mono ?_; rintro e w' ⟨rfl, rfl⟩)
    | (gi_at_call 74; refine (Try.slices_Sorted_keys_74_75 m (Maps.size D) D hv w hown (by rw [H1.out]; unfold maxLen; omega) (by rw [H1.out]; omega)).mono ?_; rintro e w' ⟨v, ss, rfl, hS, hrow, hnil, hb⟩))
  go_ret
  have e1 : ss.mergeSort leB = l.map (·.1) := by rw [mergeSort_of_perm (hS.trans H2.out.symm), mergeSort_rises H3.out]
  have e2 : ss.length = (l.map (·.1)).length := by rw [(hS.trans H2.out.symm).length_eq]
  have hb' : Below w.heap.size w w' := ((Below.refl _ w).alloc (Nat.le_refl _) _).trans (hb.mono (by simp))
  refine ⟨v, rfl, ?_, fun r e => ?_, hb'⟩
  · unfold OwnS
    have hrow' : w'.ownsRow (w.alloc (.cells #[.map (some m)] 76)).heap.size 9 1 v ss.length ((ss.mergeSort leB).map encStr) := hrow
    rw [e1] at hrow'
    rw [← e2]
    refine ⟨hrow'.1, ?_⟩
    rcases hrow'.2 with h | ⟨g, cap, cur, q1, q2, q3⟩
    · exact .inl h
    · exact .inr ⟨g, cap, cur, q1, Nat.zero_le _, q3⟩
  · have := (World.ownsRow.lt hrow r e).1
    simp at this
    omega
end Go.Proofs.Ythhiiimmgghhaaa
