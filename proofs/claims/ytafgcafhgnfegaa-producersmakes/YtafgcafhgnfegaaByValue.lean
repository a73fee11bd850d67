/-
  The keys of a map of open transactions, by their firsts, rising. Conditions: at most 5000 keys.
-/
import Derived.Test.YtafgcafhgnfegaaShelf
import Derived.Test.YtafgcafhgnfegaaStable
namespace Go.Proofs.Ytafgcafhgnfegaa
open Go.RowKit Go.Maps Go.Shelf
set_option linter.unusedVariables false
/-- A number that has 64 bits, else 0. -/
def cl (x : Int) : Int := if -9223372036854775808 ≤ x ∧ x ≤ 9223372036854775807 then x else 0
theorem cl_in (x : Int) : In64 (cl x) := by unfold cl In64; split <;> omega
theorem cl_of {x : Int} (h : In64 x) : cl x = x := if_pos h
def encC (x : Int) : Value := .int .i64 (cl x)
theorem encC_one : OneCell encC := fun x => rfl
def at0 (o : List (Int × Nat)) (x : Int) : Nat := (find o (cl x)).getD 0
def cmpO (o : List (Int × Nat)) (x y : Int) : Int := Lib.compareInt (at0 o x : Int) (at0 o y : Int)
theorem compareInt_lt (a b : Int) : Lib.compareInt a b < 0 ↔ a < b := by
  unfold Lib.compareInt
  repeat' split
  all_goals omega
theorem lt_cmpO (o : List (Int × Nat)) (x y : Int) : ltOf (cmpO o) x y = decide (at0 o x < at0 o y) := by
  unfold ltOf cmpO
  exact decide_eq_decide.2 (by rw [compareInt_lt]; omega)
theorem swo_cmpO (o : List (Int × Nat)) : Go.Sort.SWO (ltOf (cmpO o)) := by
  refine ⟨fun x => ?_, fun x y z => ?_, fun x y z => ?_⟩ <;> simp only [lt_cmpO, decide_eq_true_eq, decide_eq_false_iff_not] <;> omega
section
variable {w w' : World} {m : Nat} {o : List (Int × Nat)}
/-- The comparing closure. -/
theorem closure66 {b : Nat} (hb : w.cell? ⟨b, 0, none⟩ = some (.map (some m))) (h : OM w m o) (x y : Int) :
    Calls Try.prog 66 (#[encC x, encC y] ++ #[.pointer (some ⟨b, 0, none⟩)]) w fun e w' => e = .returned (.int .i64 (cmpO o x y)) ∧ ∃ q os', w' = Go.Sort.grow (w.drewN q) os' := by
  have l1 := h.look (cl_in x)
  have l2 := h.look (cl_in y)
  have hc := fun a b W => AnyG.cmp_Compare_int (ρ := Try.cmp67_ren) Try.cmp67 a b W
  clear h
  unfold encC cmpO at0
  show Calls Try.prog 66 #[.int .i64 (cl x), .int .i64 (cl y), .pointer (some ⟨b, 0, none⟩)] w _
  go_enter Try.func66, Try.ntmps66
  go_wp2_with fail
  refine (hc _ _ _).mono ?_
  rintro e w1 ⟨rfl, hw⟩
  subst hw
  clear l1 l2 hb hc
  go_wp2_with fail
  go_ret
  exact ⟨rfl, 0, #[], by rw [Go.Sort.grow_empty]; rfl⟩
/-- What the sort passes through turns the row's block alone, and makes memory. -/
theorem sortWorld_turn (enc : Int → Value) (w : World) (blk off n : Nat) (d : Array Int) (os : Array Obj) : Turn (fun b => b = blk) w (sortWorld enc w blk off n d os) := by
  refine ⟨rfl, rfl, rfl, ?_, fun k hk hn => ?_⟩
  · unfold sortWorld
    rw [Go.Sort.size_grow]
    show _ ≤ (w.heap.modify blk _).size + _
    simp
  · unfold sortWorld
    rw [Go.Sort.heap_grow_old _ _ (by show k < (w.heap.modify blk _).size; simpa using hk)]
    show (w.heap.modify blk _)[k]? = _
    rw [Array.getElem?_modify, if_neg (fun e => hn e.symm)]
/-- The keys by their firsts. -/
def keyRow (o : List (Int × Nat)) : List (Array Value) := o.map fun p => #[.int .i64 p.1]
theorem at0_of {k : Int} {i : Nat} (hp : o.Pairwise (fun a b => a.1 ≠ b.1)) (hm : (k, i) ∈ o) (hk : In64 k) : at0 o k = i := by
  unfold at0
  rw [cl_of hk, mem_find hp hm]; rfl
/-- Whatever permutation of the keys is sorted is the keys in their order. -/
theorem keys_unique {n : Nat} (ho : Ordered o n) (h64 : ∀ p ∈ o, In64 p.1) {d : Array Int} (hperm : d.toList.Perm (keys o)) (hs : Go.Sort.SortedIn (ltOf (cmpO o)) 0 d.size d) : d.toList = keys o := by
  have hp : o.Pairwise (fun a b => a.1 ≠ b.1) := ho.1.imp fun h => h.2
  refine List.Perm.eq_of_pairwise (le := fun a b => at0 o a ≤ at0 o b) ?_ ?_ ?_ hperm
  · intro a b ha hb h1 h2
    have ha' := hperm.mem_iff.1 ha
    obtain ⟨⟨ka, ia⟩, hma, rfl⟩ := List.mem_map.1 ha'
    obtain ⟨⟨kb, ib⟩, hmb, rfl⟩ := List.mem_map.1 hb
    dsimp only at *
    rw [at0_of hp hma (h64 _ hma), at0_of hp hmb (h64 _ hmb)] at h1 h2
    have : ia = ib := by omega
    subst this
    by_cases e : ka = kb
    · exact e
    · exfalso
      have hfst := ho.1
      obtain ⟨i, hi, e1⟩ := List.getElem_of_mem hma
      obtain ⟨j, hj, e2⟩ := List.getElem_of_mem hmb
      have hpw := List.pairwise_iff_getElem.1 hfst
      rcases Nat.lt_trichotomy i j with q | q | q
      · have := (hpw i j hi hj q).1
        rw [e1, e2] at this
        exact Nat.lt_irrefl _ this
      · subst q
        rw [e1] at e2
        injection e2 with e2
        exact e e2
      · have := (hpw j i hj hi q).1
        rw [e1, e2] at this
        exact Nat.lt_irrefl _ this
  · rw [List.pairwise_iff_getElem]
    intro i j hi hj hij
    have := hs i j (by omega) hij (by simpa using hj)
    rw [lt_cmpO, decide_eq_false_iff_not] at this
    rw [getElem!_pos d i (by simpa using hi), getElem!_pos d j (by simpa using hj)] at this
    simpa using this
  · unfold keys
    rw [List.pairwise_map]
    refine List.Pairwise.imp_of_mem ?_ ho.1
    intro a b ha hb hab
    rw [at0_of (k := a.1) (i := a.2) hp ha (h64 _ ha), at0_of (k := b.1) (i := b.2) hp hb (h64 _ hb)]
    omega
theorem OwnN_row {g n c : Nat} {ks : List Int} (h : w.ownsRow 0 2 1 (.slice (some ⟨g, 0, none⟩) n c) ks.length (ks.map encC)) : Go.Sort.Holds encC w g 0 ks.toArray ∧ g < w.heap.size ∧ n = ks.length := by
  rcases h.2 with ⟨e, _⟩ | ⟨g', cap, cur, e, _, hh, h1, h2, h3, h4⟩
  · cases e
  · injection e with e1 e2 e3
    injection e1 with e1
    injection e1 with e1
    subst e1 e2 e3
    refine ⟨fun j hj => ?_, lt_of_heap hh, rfl⟩
    have hj' : j < ks.length := by simpa using hj
    have hb : Blk w g 2 cur := hh
    rw [Nat.zero_add, hb.cell j, hb.frozen j]
    refine ⟨?_, rfl⟩
    have h5 := congrArg (fun z => z[j]?) h4
    simp only [Nat.mul_one] at h5
    rw [List.getElem?_take, if_pos hj', Array.getElem?_toList, List.getElem?_map, List.getElem?_eq_getElem hj'] at h5
    rw [h5, getElem!_pos _ j (by simpa using hj)]
    simp
/-- What is known behind slices.SortedFunc. -/
def SortK (w : World) (o : List (Int × Nat)) (e : Ending) (w' : World) : Prop :=
  ∃ A c, e = .returned (.slice A o.length c) ∧ Rd w' (fun b => b < w.heap.size) 1 A o.length (keyRow o) ∧ Below w.heap.size w w'
theorem sizedK (o : List (Int × Nat)) : Sized 1 (keyRow o) := fun c hc => by
  obtain ⟨f, _, rfl⟩ := List.mem_map.1 hc
  exact ⟨rfl, by simp [Value.oneCell']⟩
theorem flatK' (o : List (Int × Nat)) : flatA (keyRow o) = o.map fun p => .int .i64 p.1 := by
  unfold flatA keyRow
  induction o with
  | nil => rfl
  | cons f fs ih => simp only [List.map_cons, List.flatMap_cons, ih]; rfl
set_option maxHeartbeats 1000000 in
theorem sorted_any {b1 b2 n : Nat} (h : OM w m o) (ho : Ordered o n) (hb1 : w.cell? ⟨b1, 0, none⟩ = some (.map (some m))) (hb2 : w.cell? ⟨b2, 0, none⟩ = some (.map (some m))) :
    Calls Try.prog 64 #[.func (.func 77) #[] #[.pointer (some ⟨b2, 0, none⟩)], .func (.func 66) #[] #[.pointer (some ⟨b1, 0, none⟩)]] w (SortK w o) := by
  have h64 := h.2.2.2
  have hlen := h.2.2.1
  obtain ⟨D, hown, hsz, hpm⟩ := h.size
  have hseq : SeqGives Fence.wide 3 Try.prog 77 #[.pointer (some ⟨b2, 0, none⟩)] encZ (fun ss => ss.Perm (intKeys D)) (Maps.size D) w :=
    AnyZI.keys_gives (ρ := Try.keys65_ren) { Try.keys65 with } Fence.wide _ trivial rfl (by omega) b2 m _ D w (block_lt_of_cell hb2) hb2 hown
  have hcoll := AnyZI.collect_in (ρ := Try.coll75_ren) Try.coll75 Fence.wide 5 trivial trivial rfl (by omega) 77 #[.pointer (some ⟨b2, 0, none⟩)] trivial (enters_of Try.func77 (by kernel_rfl) rfl) _ (Maps.size D) (by rw [hsz]; unfold maxLen; omega) (by rw [hsz]; omega) w hseq
  have HC := Lib.hid hcoll
  have HH := Lib.hid h
  have HO := Lib.hid ho
  have H64 := Lib.hid h64
  have HPM := Lib.hid hpm
  clear h ho h64 hcoll hseq hpm hown hsz
  refine (callsIn_wide (n := 6)).1 ?_
  refine callsIn_of_wp Try.func64 rfl trivial ?_ rfl
  simp only [Try.ntmps64, List.size_toArray, List.length_cons, List.length_nil, Nat.reduceAdd, Nat.reduceSub, Array.replicate_succ, Array.replicate_zero, List.push_toArray, List.append_toArray, List.nil_append, List.cons_append]
  gi_wp2_with fail
  refine ⟨trivial, HC.out.mono ?_⟩
  rintro e w1 ⟨v, ss, rfl, hperm, hrow, hnil, hb⟩
  have hks : ss.Perm (keys o) := hperm.trans HPM.out.1.symm
  have hl : ss.length = o.length := by rw [hks.length_eq]; simp [keys]
  have HB := Lib.hid hb
  have HKS := Lib.hid hks
  have HL := Lib.hid hl
  by_cases h0 : ss = []
  · obtain rfl := hnil.2 h0
    have ho0 : o = [] := List.eq_nil_of_length_eq_zero (by rw [← hl, h0]; rfl)
    have hs := fun W => AnyF.slices_SortFunc_none (ρ := Try.sort76_ren) { Try.sort76 with } none 0 (.func (.func 66) #[] #[.pointer (some ⟨b1, 0, none⟩)]) W
    have HF : Hid (SortK w o (.returned (.slice none 0 0)) w1) := Lib.hid ⟨none, 0, by rw [ho0]; rfl, by rw [ho0]; exact Rd.none_, hb⟩
    clear hperm hrow hnil hb hks hl h0 ho0
    gi_wp2_with fail
    refine ⟨trivial, (callsIn_wide.2 (hs _)).mono ?_⟩
    rintro e w2 ⟨rfl, hw⟩
    subst hw
    clear hs
    gi_wp2_with fail
    go_ret
    exact HF.out
  · have h64' : ∀ k ∈ ss, In64 k := fun k hk => by
      obtain ⟨p, hp, rfl⟩ := List.mem_map.1 (hks.mem_iff.1 hk)
      exact H64.out p hp
    have henc : ss.map encZ = ss.map encC := List.map_congr_left fun k hk => by
      show Value.int .i64 k = .int .i64 (cl k)
      rw [cl_of (h64' k hk)]
    have hrow0 : w1.ownsRow w.heap.size 2 1 v ss.length (ss.map encZ) := hrow
    rw [henc] at hrow0
    obtain ⟨g, n', c, rfl, hbase⟩ : ∃ g n' c, v = .slice (some ⟨g, 0, none⟩) n' c ∧ w.heap.size ≤ g := by
      rcases hrow0.2 with ⟨e, hz⟩ | ⟨g, cap, cur, e, hh, _⟩
      · exact absurd (hnil.1 e) h0
      · exact ⟨g, _, _, e, hh⟩
    have hrow1 : w1.ownsRow 0 2 1 (.slice (some ⟨g, 0, none⟩) n' c) ss.length (ss.map encC) := by
      refine ⟨hrow0.1, ?_⟩
      rcases hrow0.2 with h | ⟨g', cap, cur, q1, q2, q3⟩
      · exact .inl h
      · exact .inr ⟨g', cap, cur, q1, Nat.zero_le _, q3⟩
    obtain ⟨hH, hgl, rfl⟩ := OwnN_row hrow1
    have hsz : ss.toArray.size = ss.length := by simp
    have hcmp : CmpLays1 Try.prog 66 #[.pointer (some ⟨b1, 0, none⟩)] encC (cmpO o) g 0 ss.toArray.size w1 := fun q os dk hs x y => by
      have hT := sortWorld_turn encC w1 g 0 q dk os
      have hb1l : b1 < w.heap.size := block_lt_of_cell hb1
      have hml := HH.out.lt
      have c1 : (sortWorld encC w1 g 0 q dk os).cell? ⟨b1, 0, none⟩ = some (.map (some m)) := (hT.cell (p := ⟨b1, 0, none⟩) (by show b1 < w1.heap.size; have := HB.out.size; omega) (by show ¬ b1 = g; omega)).trans ((HB.out.cell (p := ⟨b1, 0, none⟩) hb1l).trans hb1)
      have hm1 : OM (sortWorld encC w1 g 0 q dk os) m o := (HH.out.keepB (HB.out.block m hml)).keepB (hT.block m (by have := HB.out.size; omega) (by omega))
      exact closure66 c1 hm1 x y
    have hsort := Any.slices_SortFunc (ρ := Try.sort76_ren) Try.sort76 encC encC_one (cmpO o) (swo_cmpO o) 66 #[.pointer (some ⟨b1, 0, none⟩)] g 0 c ss.toArray w1 (enters_of Try.func66 (by kernel_rfl) rfl) hcmp hH hgl (by rw [hsz, hl]; omega)
    rw [hsz] at hsort
    have HS := Lib.hid hsort
    have HG := Lib.hid hgl
    have HBASE := Lib.hid hbase
    have HHH := Lib.hid hH
    clear hperm hrow hnil hb hks hl h0 h64' henc hrow0 hrow1 hcmp hsort hgl hbase hsz hH
    gi_wp2_with fail
    refine ⟨trivial, (callsIn_wide.2 HS.out).mono ?_⟩
    rintro e w2 ⟨rfl, d', q, os, hpi, hso, rfl⟩
    have hT := sortWorld_turn encC w1 g 0 q d' os
    have hsize : d'.size = ss.length := by rw [hpi.1]; simp
    have hperm2 : d'.toList.Perm ss := by
      have := hpi.2.2
      have e1 : d'.extract 0 ss.length = d' := by rw [← hsize]; exact Array.extract_size
      have e2 : ss.toArray.extract 0 ss.length = ss.toArray := by
        have : ss.length = ss.toArray.size := by simp
        rw [this]; exact Array.extract_size
      rw [e1, e2] at this
      simpa using this
    have hd := keys_unique HO.out H64.out (hperm2.trans HKS.out) (by rw [hsize]; exact hso)
    have hhold := holds_sortWorld encC w1 g 0 q ss.toArray d' os HG.out HHH.out (by rw [hsize]; simp)
    have hrd : Rd (sortWorld encC w1 g 0 q d' os) (fun b => b < w.heap.size) 1 (some ⟨g, 0, none⟩) o.length (keyRow o) := by
      refine ⟨by simp [keyRow], sizedK o, fun _ => ⟨_, rfl, Nat.lt_of_lt_of_le HG.out hT.size, by show ¬ g < w.heap.size; have := HBASE.out; omega, fun j u hu => ?_⟩⟩
      rw [flatK', List.getElem?_map] at hu
      obtain ⟨p, hp, rfl⟩ := Option.map_eq_some_iff.1 hu
      have hj : j < o.length := (List.getElem?_eq_some_iff.1 hp).1
      have hjd : j < d'.size := by rw [hsize, HL.out]; exact hj
      have hadd : (⟨g, 0, none⟩ : Addr).add j = ⟨g, j, none⟩ := by unfold Addr.add; split <;> simp_all
      have := (hhold j hjd).1
      rw [Nat.zero_add] at this
      rw [hadd, this, getElem!_pos d' j hjd]
      have hk : d'[j] = p.1 := by
        have e1 : d'.toList[j]? = some d'[j] := by rw [Array.getElem?_toList]; exact Array.getElem?_eq_getElem hjd
        rw [hd] at e1
        unfold keys at e1
        rw [List.getElem?_map, hp] at e1
        injection e1 with e1
        exact e1.symm
      rw [hk]
      show some (Value.int .i64 (cl p.1)) = _
      rw [cl_of (H64.out p (List.mem_of_getElem? hp))]
    have HF : Hid (SortK w o (.returned (.slice (some ⟨g, 0, none⟩) ss.length c)) (sortWorld encC w1 g 0 q d' os)) := Lib.hid ⟨_, c, by rw [HL.out], hrd, HB.out.trans (hT.below HB.out.size (fun b e => by have := HBASE.out; omega))⟩
    clear hT hsize hperm2 hd hhold hrd hpi hso HHH HS
    gi_wp2_with fail
    go_ret
    exact HF.out
end
end Go.Proofs.Ytafgcafhgnfegaa
