/-
  The document's controller in memory, and what is left of it where one broker, one view, one writing is another. Conditions: at most 4 of each.
-/
import Derived.Test.YtpmdicbhliclcaaGreatMNew
namespace Go.Proofs.YtpmdicbhliclcaaGreat
open Go.RowKit Go.Maps
set_option linter.unusedVariables false
def rowsOf (n : Nat) (f : Nat → Array Value) : List (Array Value) := (List.range n).map f
theorem rowsOf_len (n : Nat) (f : Nat → Array Value) : (rowsOf n f).length = n := by simp [rowsOf]
theorem rowsOf_at {n i : Nat} (f : Nat → Array Value) (h : i < n) : (rowsOf n f)[i]? = some (f i) := by
  unfold rowsOf
  rw [List.getElem?_map, List.getElem?_range h]
  rfl
theorem rowsOf_set {n i : Nat} (f : Nat → Array Value) (v : Array Value) : (rowsOf n f).set i v = rowsOf n (setAt f i v) := by
  refine List.ext_getElem? fun j => ?_
  rcases Nat.lt_or_ge j n with h | h
  · rw [rowsOf_at _ h, List.getElem?_set]
    by_cases hij : i = j
    · subst hij
      rw [if_pos rfl, if_pos (by rw [rowsOf_len]; exact h), setAt_self]
    · rw [if_neg hij, rowsOf_at _ h, setAt_ne _ (fun e => hij e.symm)]
  · rw [List.getElem?_eq_none (by rw [List.length_set, rowsOf_len]; exact h), List.getElem?_eq_none (by rw [rowsOf_len]; exact h)]
theorem rowsOf_congr {n : Nat} {f g : Nat → Array Value} (h : ∀ i, i < n → f i = g i) : rowsOf n f = rowsOf n g := by
  unfold rowsOf
  exact List.map_congr_left fun i hi => h i (List.mem_range.1 hi)
theorem rowsOf_succ (n : Nat) (f : Nat → Array Value) : rowsOf (n + 1) f = rowsOf n f ++ [f n] := by
  unfold rowsOf
  rw [List.range_succ, List.map_append]
  rfl
def vArr (V : Vw) (s : Value) : Array Value := #[.int .i64 V.leader, .int .i64 V.epoch, .int .i64 V.version, s]
def wArr (W : Wt) (s : Value) : Array Value := #[.int .i64 W.session, .int .i64 W.num, .int .i64 W.state, s, .int .i64 W.offset, .int .i64 W.next]
/-- The value s is a slice of these numbers, outside X. -/
def IsR (w : World) (X : Nat → Prop) (s : Value) (V : List Int) : Prop := ∃ A c, s = .slice A V.length c ∧ Rd w X 1 A V.length (intsOf V)
structure RfAt (w : World) (X : Nat → Prop) (M : Mt) (A1 A2 A3 : Option Addr) (rs : Nat → Value) : Prop where
  lv : Rd w X 1 A1 M.nb (rowsOf M.nb fun b => #[.bool (M.lives b)])
  vw : Rd w X 4 A2 M.np (rowsOf M.np fun p => vArr (M.views p) (rs p))
  wr : Rd w X 6 A3 M.ni (rowsOf M.ni fun i => wArr (M.wrs i) (rs (4 + i)))
  vr : ∀ p, p < M.np → IsR w X (rs p) (M.views p).isr
  wl : ∀ i, i < M.ni → IsR w X (rs (4 + i)) (M.wrs i).parts
/-- The document's controller as a value, its rows outside X. -/
def Rf (w : World) (X : Nat → Prop) (M : Mt) (v : Value) : Prop := ∃ A1 A2 A3 c1 c2 c3 rs, v = .agg #[.int .i64 (M.nb : Int), .int .i64 (M.np : Int), .int .i64 (M.ni : Int), .slice A1 M.nb c1, .slice A2 M.np c2, .slice A3 M.ni c3] ∧ RfAt w X M A1 A2 A3 rs
section
variable {w w' : World} {X Y S : Nat → Prop} {M : Mt} {v s : Value} {V : List Int} {A1 A2 A3 : Option Addr} {rs : Nat → Value}
theorem IsR.keep (h : IsR w X s V) (ht : Turn S w w') (hS : ∀ b, b < w.heap.size → S b → X b) : IsR w' X s V := by
  obtain ⟨A, c, e, h⟩ := h
  exact ⟨A, c, e, h.keep ht hS⟩
theorem IsR.wide (h : IsR w X s V) (hX : ∀ b, b < w.heap.size → Y b → X b) : IsR w Y s V := by
  obtain ⟨A, c, e, h⟩ := h
  exact ⟨A, c, e, h.wide hX⟩
theorem RfAt.keep (h : RfAt w X M A1 A2 A3 rs) (ht : Turn S w w') (hS : ∀ b, b < w.heap.size → S b → X b) : RfAt w' X M A1 A2 A3 rs :=
  ⟨h.lv.keep ht hS, h.vw.keep ht hS, h.wr.keep ht hS, fun p hp => (h.vr p hp).keep ht hS, fun i hi => (h.wl i hi).keep ht hS⟩
theorem RfAt.wide (h : RfAt w X M A1 A2 A3 rs) (hX : ∀ b, b < w.heap.size → Y b → X b) : RfAt w Y M A1 A2 A3 rs :=
  ⟨h.lv.wide hX, h.vw.wide hX, h.wr.wide hX, fun p hp => (h.vr p hp).wide hX, fun i hi => (h.wl i hi).wide hX⟩
theorem Rf.keep (h : Rf w X M v) (ht : Turn S w w') (hS : ∀ b, b < w.heap.size → S b → X b) : Rf w' X M v := by
  obtain ⟨A1, A2, A3, c1, c2, c3, rs, e, h⟩ := h
  exact ⟨A1, A2, A3, c1, c2, c3, rs, e, h.keep ht hS⟩
theorem Rf.wide (h : Rf w X M v) (hX : ∀ b, b < w.heap.size → Y b → X b) : Rf w Y M v := by
  obtain ⟨A1, A2, A3, c1, c2, c3, rs, e, h⟩ := h
  exact ⟨A1, A2, A3, c1, c2, c3, rs, e, h.wide hX⟩
theorem RfAt.below (h : RfAt w X M A1 A2 A3 rs) (hb : Below w.heap.size w w') : RfAt w' X M A1 A2 A3 rs := h.keep (S := No) (Turn.of_below hb No) (fun _ _ q => q.elim)
theorem Rf.below (h : Rf w X M v) (hb : Below w.heap.size w w') : Rf w' X M v := h.keep (S := No) (Turn.of_below hb No) (fun _ _ q => q.elim)
theorem IsR.below (h : IsR w X s V) (hb : Below w.heap.size w w') : IsR w' X s V := h.keep (S := No) (Turn.of_below hb No) (fun _ _ q => q.elim)
theorem IsR.one (h : IsR w X s V) : s.oneCell' = true := by
  obtain ⟨A, c, rfl, -⟩ := h
  rfl
/-- A row is a block. -/
theorem own_row {e k n c : Nat} {A : Option Addr} {css : List (Array Value)} (h : OwnK w e k (.slice A n c) css) (hn : 0 < n) : ∃ g cur, A = some ⟨g, 0, none⟩ ∧ Blk w g e cur ∧ n ≤ c ∧ c ≤ maxLen ∧ cur.size = c * k ∧ cur.toList.take (n * k) = flatA css ∧ n = css.length := by
  obtain ⟨A', q, c', he, hq, _⟩ := h.form
  injection he with e1 e2 e3
  subst e1 e2 e3
  rcases h.1.2 with ⟨he, h0⟩ | ⟨g, cap, cur, he, hg, hh, h1, h2, h3, h4⟩
  · omega
  · injection he with e1 e2 e3
    subst e1 e3
    exact ⟨g, cur, rfl, hh, by omega, h2, h3, by rw [hq]; exact h4, hq⟩
/-- One of its elements is overwritten. -/
theorem own_over {e k n c i g : Nat} {css : List (Array Value)} (h : OwnK w e k (.slice (some ⟨g, 0, none⟩) n c) css) (hi : i < n) (hk : 0 < k) (new : Array Value) (hn : new.size = k) (h1 : ∀ u ∈ new.toList, u.oneCell' = true) :
    OwnK (w.setCells g (i * k) new.toList) e k (.slice (some ⟨g, 0, none⟩) n c) (css.set i new) := by
  obtain ⟨g', cur, e1, hb, hnc, hcm, hsz, htk, hlen⟩ := own_row h (by omega)
  injection e1 with e1
  injection e1 with e1
  subst e1
  have hik : i * k + k ≤ n * k := by
    have : (i + 1) * k ≤ n * k := Nat.mul_le_mul_right _ hi
    rw [Nat.succ_mul] at this
    exact this
  have hnk : n * k ≤ c * k := Nat.mul_le_mul_right _ hnc
  obtain ⟨cur', hb', hu, hs, -⟩ := hb.over (i * k) new.toList (by rw [Array.length_toList, hn, hsz]; omega)
  rw [Array.length_toList, hn] at hu
  have hsized : Sized k (css.set i new) := fun x hx => by
    obtain ⟨j, hj⟩ := List.mem_iff_getElem?.1 hx
    rw [List.getElem?_set] at hj
    split at hj
    · split at hj
      · injection hj with hj
        subst hj
        exact ⟨hn, h1⟩
      · cases hj
    · exact h.2 x (List.mem_iff_getElem?.2 ⟨j, hj⟩)
  have hl2 : (css.set i new).length = css.length := List.length_set
  refine ⟨⟨by rw [length_flatA hsized], .inr ⟨g, c, cur', by rw [hl2, ← hlen], Nat.zero_le _, hb', by omega, hcm, by rw [hu.size, hsz], ?_⟩⟩, hsized⟩
  rw [hl2, ← hlen]
  refine List.ext_getElem? fun j => ?_
  rcases Nat.lt_or_ge j (n * k) with hj | hj
  · rw [List.getElem?_take, if_pos hj, Array.getElem?_toList]
    have hq : j / k < n := (Nat.div_lt_iff_lt_mul hk).2 hj
    have hr : j % k < k := Nat.mod_lt _ hk
    have hjq : j = (j / k) * k + j % k := by rw [Nat.mul_comm]; exact (Nat.div_add_mod j k).symm
    by_cases hqi : j / k = i
    · have hset : (css.set i new)[j / k]? = some new := by rw [hqi, List.getElem?_set, if_pos rfl, if_pos (by omega)]
      obtain ⟨u, hu2⟩ : ∃ u, new[j % k]? = some u := ⟨_, Array.getElem?_eq_getElem (by omega)⟩
      have h3 := flatA_at hsized hset hu2
      rw [← hjq] at h3
      rw [h3]
      have h4 := hs (j % k) u (by rw [Array.getElem?_toList]; exact hu2)
      rw [← hqi, ← hjq] at h4
      exact h4
    · obtain ⟨x, hx⟩ : ∃ x, css[j / k]? = some x := ⟨_, List.getElem?_eq_getElem (by omega)⟩
      have hset : (css.set i new)[j / k]? = some x := by rw [List.getElem?_set, if_neg (fun e => hqi e.symm)]; exact hx
      obtain ⟨u, hu2⟩ : ∃ u, x[j % k]? = some u := ⟨_, Array.getElem?_eq_getElem (by have := (h.2 x (List.mem_iff_getElem?.2 ⟨_, hx⟩)).1; omega)⟩
      have h3 := flatA_at hsized hset hu2
      have h5 := flatA_at h.2 hx hu2
      rw [← hjq] at h3 h5
      rw [h3]
      have h6 : (cur.toList.take (n * k))[j]? = some u := by rw [htk]; exact h5
      rw [List.getElem?_take, if_pos hj, Array.getElem?_toList] at h6
      rw [hu.out j ?_]
      · exact h6
      · rcases Nat.lt_or_gt_of_ne hqi with r | r
        · left
          have : (j / k + 1) * k ≤ i * k := Nat.mul_le_mul_right _ r
          rw [Nat.succ_mul] at this
          omega
        · right
          have : (i + 1) * k ≤ (j / k) * k := Nat.mul_le_mul_right _ r
          rw [Nat.succ_mul] at this
          omega
  · rw [List.getElem?_eq_none (by rw [List.length_take]; omega), List.getElem?_eq_none (by rw [length_flatA hsized, hl2, ← hlen]; exact hj)]
end
section
variable {ops : Array Oper} {rest : List Oper} {o : Oper} {a : Act} {w : World} {Q : Exit → Act → World → Prop}
/-- An element of a row of one's own is overwritten by a struct. -/
theorem wpList_store_own (hgd : o.guard = none) (hd : o.dst = none) (ty : TypeId) (x y : Operand) (ho : o.op = .store ty x y) (e k n c i g : Nat) (css : List (Array Value)) (own : OwnK w e k (.slice (some ⟨g, 0, none⟩) n c) css) (hi : i < n) (hk : 0 < k) (new : Array Value) (hx : a.eval x = .pointer (some ⟨g, i * k, none⟩)) (hy : a.eval y = .agg new) (hn : new.size = k)
    (hinfo : (Tryz.prog.info? ty).map (·.size) = some new.size) (h1 : new.all (·.oneCell') = true)
    (h : ∀ w', OwnK w' e k (.slice (some ⟨g, 0, none⟩) n c) (css.set i new) → Turn (fun b => b = g) w w' → wpList Tryz.prog ops Q rest a w') : wpList Tryz.prog ops Q (o :: rest) a w := by
  obtain ⟨g', cur, e1, hb, hnc, hcm, hsz, htk, hlen⟩ := own_row own (by omega)
  injection e1 with e1
  injection e1 with e1
  subst e1
  have hik : i * k + k ≤ c * k := by
    have : (i + 1) * k ≤ c * k := Nat.mul_le_mul_right _ (by omega)
    rw [Nat.succ_mul] at this
    exact this
  refine wpList_store_mid hgd ty x y ho g (i * k) new hx hy (fun j hj => ?_) hinfo h1 ?_
  · have := hb.there (i * k + j) (by omega)
    rwa [Nat.zero_add] at this
  · rw [hd]
    refine h _ (own_over own hi hk new hn (fun u hu => ?_)) (setCells_turn g new.toList _ _)
    rw [Array.all_eq_true_iff_forall_mem] at h1
    exact h1 u (Array.mem_toList_iff.1 hu)
end
theorem und36 : Tryz.prog.underlying 36 = some (.struct (Tryz.prog.fieldsOf 36)) := by kernel_rfl
theorem add0 (g j : Nat) : (⟨g, 0, none⟩ : Addr).add j = ⟨g, j, none⟩ := by unfold Addr.add; split <;> simp_all
theorem rd_own {w w1 : World} {X : Nat → Prop} {e k n c : Nat} {A : Option Addr} {css : List (Array Value)} (h : OwnK w1 e k (.slice A n c) css) (hn : ∀ b, (Value.slice A n c).ownBlock = some b → w.heap.size ≤ b) (hX : ∀ b, X b → b < w.heap.size) : Rd w1 X k A n css :=
  h.rd (fun b hb q => by have := hn b hb; have := hX b q; omega)
section
variable {w : World} {X : Nat → Prop} {M : Mt} {v : Value}
set_option maxRecDepth 100000 in
set_option maxHeartbeats 4000000 in
theorem live_any (h : Rf w X M v) (hX : ∀ b, X b → b < w.heap.size) (hk : M.nb ≤ 4) {b : Nat} (hb : b < M.nb) (x : Bool) : Calls Tryz.prog 101 #[v, .int .i64 (b : Int), .bool x] w fun r w' => ∃ v', r = .returned v' ∧ Rf w' X { M with lives := setAt M.lives b x } v' ∧ Below w.heap.size w w' := by
  obtain ⟨A1, A2, A3, c1, c2, c3, rs, rfl, hR⟩ := h
  have HR := Lib.hid hR
  have HX := Lib.hid hX
  have hal := ((Below.refl w.heap.size w).alloc (Nat.le_refl _) (.cells #[.int .i64 (M.nb : Int), .int .i64 (M.np : Int), .int .i64 (M.ni : Int), .slice A1 M.nb c1, .slice A2 M.np c2, .slice A3 M.ni c3] 36)).alloc (le_alloc (Nat.le_refl _) _) (.cells #[.int .i64 0, .int .i64 0, .int .i64 0, .slice none 0 0, .slice none 0 0, .slice none 0 0] 36)
  have hb0 : Blk ((w.alloc (.cells #[.int .i64 (M.nb : Int), .int .i64 (M.np : Int), .int .i64 (M.ni : Int), .slice A1 M.nb c1, .slice A2 M.np c2, .slice A3 M.ni c3] 36)).alloc (.cells #[.int .i64 0, .int .i64 0, .int .i64 0, .slice none 0 0, .slice none 0 0, .slice none 0 0] 36)) w.heap.size 36 #[.int .i64 (M.nb : Int), .int .i64 (M.np : Int), .int .i64 (M.ni : Int), .slice A1 M.nb c1, .slice A2 M.np c2, .slice A3 M.ni c3] := (Blk.new w 36 _).alloc _
  have hb1 : Blk ((w.alloc (.cells #[.int .i64 (M.nb : Int), .int .i64 (M.np : Int), .int .i64 (M.ni : Int), .slice A1 M.nb c1, .slice A2 M.np c2, .slice A3 M.ni c3] 36)).alloc (.cells #[.int .i64 0, .int .i64 0, .int .i64 0, .slice none 0 0, .slice none 0 0, .slice none 0 0] 36)) (w.heap.size + 1) 36 #[.int .i64 0, .int .i64 0, .int .i64 0, .slice none 0 0, .slice none 0 0, .slice none 0 0] := blk_new (w.alloc (.cells #[.int .i64 (M.nb : Int), .int .i64 (M.np : Int), .int .i64 (M.ni : Int), .slice A1 M.nb c1, .slice A2 M.np c2, .slice A3 M.ni c3] 36)) 36 _ (by simp)
  have HB := Lib.hid (And.intro hal (And.intro hb0 hb1))
  have HSZ : Hid (((w.alloc (.cells #[.int .i64 (M.nb : Int), .int .i64 (M.np : Int), .int .i64 (M.ni : Int), .slice A1 M.nb c1, .slice A2 M.np c2, .slice A3 M.ni c3] 36)).alloc (.cells #[.int .i64 0, .int .i64 0, .int .i64 0, .slice none 0 0, .slice none 0 0, .slice none 0 0] 36)).heap.size = w.heap.size + 2) := Lib.hid (by simp)
  clear hR hX hal hb0 hb1
  have hbi : (b : Int) < (M.nb : Int) := by omega
  go_enter Tryz.func101, Tryz.ntmps101
  go_upto_region 1 with fail
  generalize hw2 : ((w.alloc (.cells #[.int .i64 (M.nb : Int), .int .i64 (M.np : Int), .int .i64 (M.ni : Int), .slice A1 M.nb c1, .slice A2 M.np c2, .slice A3 M.ni c3] 36)).alloc (.cells #[.int .i64 0, .int .i64 0, .int .i64 0, .slice none 0 0, .slice none 0 0, .slice none 0 0] 36)) = w2 at *
  clear hw2
  have z3 : w2.cell? ⟨w.heap.size, 3, none⟩ = some (.slice A1 M.nb c1) := HB.out.2.1.cell 3
  go_wp2_with (at_builtin; refine stop ?_)
  refine Stop.go (wpList_append_k el32 _ (by rfl) _ _ (by rfl) (.slice none 0 0) [] (by rfl) (OwnK.nil w2 4 1) X A1 M.nb c1 _ (by rfl) (HR.out.lv.below HB.out.1) (by simp) (by omega) ?_)
  intro v9 w9 ho9 hg9
  rw [List.nil_append] at ho9
  have hl9 : (rowsOf M.nb fun b => #[Value.bool (M.lives b)]).length = M.nb := rowsOf_len _ _
  obtain ⟨A9, q9, k9, rfl, hq9, -⟩ := ho9.form
  rw [hl9] at hq9
  subst hq9
  have hv9 : ∀ b, (Value.slice A9 M.nb k9).ownBlock = some b → w2.heap.size ≤ b := fun b eb => by
    rcases hg9.2 b eb with h | h
    · cases h
    · exact h
  have hb9 : Below w2.heap.size w2 w9 := hg9.low (fun g hg => by cases hg)
  obtain ⟨g9, cur, e9, hblk9, -, -, hs9, ht9, -⟩ := own_row ho9 (by omega)
  subst e9
  have hg9w : w2.heap.size ≤ g9 := hv9 g9 rfl
  have y9 : w9.cell? ⟨g9, b, none⟩ = some (.bool (M.lives b)) := by
    obtain ⟨ad, e1, -, -, h2⟩ := (ho9.rd (X := No) (fun _ _ q => q)).at_ (rowsOf_at (fun b => #[Value.bool (M.lives b)]) hb)
    injection e1 with e1
    subst e1
    have := h2 0 _ rfl
    rwa [add0, show b * 1 + 0 = b by omega] at this
  have f9 := hblk9.frozen b
  have hown := own_over ho9 hb (by omega) #[.bool x] rfl (fun u hu => by simp at hu; subst hu; rfl)
  rw [rowsOf_set] at hown
  have hown2 : OwnK (w9.setCell ⟨g9, b, none⟩ (.bool x)) 4 1 (.slice (some ⟨g9, 0, none⟩) M.nb k9) (rowsOf M.nb fun q => #[.bool (setAt M.lives b x q)]) := by
    have e : (rowsOf M.nb (setAt (fun q => #[Value.bool (M.lives q)]) b #[.bool x])) = rowsOf M.nb fun q => #[.bool (setAt M.lives b x q)] := rowsOf_congr fun q _ => by
      unfold setAt
      split <;> rfl
    rw [e] at hown
    have e2 : w9.setCells g9 (b * 1) (#[Value.bool x] : Array Value).toList = w9.setCell ⟨g9, b, none⟩ (.bool x) := by rw [Nat.mul_one]; rfl
    rwa [e2] at hown
  have ht2 : Turn (fun z => z = g9) w9 (w9.setCell ⟨g9, b, none⟩ (.bool x)) := (Turn.refl (fun z => z = g9) w9).setCell (p := ⟨g9, b, none⟩) (fun _ => rfl) _
  have hlow : Below w2.heap.size w2 (w9.setCell ⟨g9, b, none⟩ (.bool x)) := hb9.trans (ht2.below hb9.size (fun z e => by omega))
  have HO := Lib.hid (And.intro hown2 hlow)
  have HV := Lib.hid hv9
  clear hown hown2 ht2 hlow ho9 hg9 hv9 hb9 hblk9 hs9 ht9 z3 hl9
  go_upto_region 3 with fail
  generalize w9.setCell ⟨g9, b, none⟩ (.bool x) = w3 at *
  clear y9 f9
  have hbx := HB.out.2.1.below HO.out.2 (by have := HSZ.out; omega)
  have hby := HB.out.2.2.below HO.out.2 (by have := HSZ.out; omega)
  have x3 : w3.cell? ⟨w.heap.size, 3, none⟩ = some (.slice A1 M.nb c1) := hbx.cell 3
  have fx := hbx.frozen 3
  have hbx2 := hbx.set_ 3 (.slice (some ⟨g9, 0, none⟩) M.nb k9)
  have hby2 : Blk (w3.setCell ⟨w.heap.size, 3, none⟩ (.slice (some ⟨g9, 0, none⟩) M.nb k9)) (w.heap.size + 1) 36 #[.int .i64 0, .int .i64 0, .int .i64 0, .slice none 0 0, .slice none 0 0, .slice none 0 0] := hby.far (p := ⟨w.heap.size, 3, none⟩) (by show w.heap.size + 1 ≠ w.heap.size; omega) _
  have hsz3 := HSZ.out
  have htx : Turn (fun z => z = w.heap.size) w3 (w3.setCell ⟨w.heap.size, 3, none⟩ (.slice (some ⟨g9, 0, none⟩) M.nb k9)) := (Turn.refl (fun z => z = w.heap.size) w3).setCell (p := ⟨w.heap.size, 3, none⟩) (fun _ => rfl) _
  have hlow2 : Below w.heap.size w (w3.setCell ⟨w.heap.size, 3, none⟩ (.slice (some ⟨g9, 0, none⟩) M.nb k9)) := (HB.out.1.trans (HO.out.2.mono HB.out.1.size)).trans (htx.below (Nat.le_trans HB.out.1.size HO.out.2.size) (fun z e => by omega))
  have ho3 := HO.out.1.keep htx (fun z hz e => by have := HV.out z hz; omega)
  have H3 := Lib.hid (And.intro hbx2 (And.intro hby2 (And.intro hlow2 ho3)))
  clear hbx hby hbx2 hby2 htx hlow2 ho3 hsz3
  go_upto_region 4 with fail
  generalize w3.setCell ⟨w.heap.size, 3, none⟩ (.slice (some ⟨g9, 0, none⟩) M.nb k9) = w4 at *
  clear x3 fx
  go_wp2_with (with_reducible refine at_load 36 rfl ?_)
  refine Stop.go (wpList_load_blk (by rfl) 36 _ (by rfl) w.heap.size (by rfl) 36 _ H3.out.1 _ und36 (by rfl) (by kernel_rfl) ?_)
  go_wp2_with (with_reducible refine at_store 36 rfl ?_)
  refine Stop.go (wpList_store_blk (by rfl) (by rfl) 36 _ _ (by rfl) (w.heap.size + 1) _ #[.int .i64 (M.nb : Int), .int .i64 (M.np : Int), .int .i64 (M.ni : Int), .slice (some ⟨g9, 0, none⟩) M.nb k9, .slice A2 M.np c2, .slice A3 M.ni c3] (by rfl) (by rfl) 36 H3.out.2.1 (by rfl) (by kernel_rfl) (by simp [Value.oneCell']) ?_)
  intro w5 hB5 hg5 hs5
  have hT5 : Turn (fun z => z = w.heap.size + 1) w4 w5 := Turn.of_grown hg5 (fun r e => by injection e with e; exact e.symm)
  have hb5 : Below w.heap.size w w5 := H3.out.2.2.1.trans (hT5.below H3.out.2.2.1.size (fun z e => by omega))
  have ho5 := H3.out.2.2.2.keep hT5 (fun z hz e => by have := HV.out z hz; have := HSZ.out; omega)
  have HF : Hid (Rf w5 X { M with lives := setAt M.lives b x } (.agg #[.int .i64 (M.nb : Int), .int .i64 (M.np : Int), .int .i64 (M.ni : Int), .slice (some ⟨g9, 0, none⟩) M.nb k9, .slice A2 M.np c2, .slice A3 M.ni c3]) ∧ Below w.heap.size w w5) := Lib.hid ⟨⟨_, _, _, _, _, _, rs, rfl, rd_own (w := w) ho5 (fun z hz => by have := HV.out z hz; have := HSZ.out; omega) HX.out, (HR.out.below hb5).vw, (HR.out.below hb5).wr, (HR.out.below hb5).vr, (HR.out.below hb5).wl⟩, hb5⟩
  have HB5 := Lib.hid hB5
  clear hB5 hg5 hs5 hT5 hb5 ho5
  go_wp2_with fail
  refine bodyPost_ret (results_cell (by rfl) _ _ (w.heap.size + 1) 36 _ (0, 0) _ (by rfl) HB5.out und36 (by rfl) (by kernel_rfl)) rfl ?_
  exact ⟨_, rfl, HF.out.1, HF.out.2⟩
end
end Go.Proofs.YtpmdicbhliclcaaGreat
