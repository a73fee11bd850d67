/-
  The document's controller with another view, another writing. Conditions: at most 4 of each.
-/
import Derived.Test.YtpmdicbhliclcaaGreatRefM
namespace Go.Proofs.YtpmdicbhliclcaaGreat
open Go.RowKit Go.Maps
set_option linter.unusedVariables false
section
variable {w : World} {X : Nat → Prop} {M : Mt} {v : Value}
set_option maxRecDepth 100000 in
set_option maxHeartbeats 4000000 in
theorem view103_any (h : Rf w X M v) (hX : ∀ b, X b → b < w.heap.size) (hk : M.np ≤ 4) (hk4 : M.np ≤ 4) {p : Nat} (hp : p < M.np) (V : Vw) {s : Value} (hs : IsR w X s V.isr) : Calls Tryz.prog 103 #[v, .int .i64 (p : Int), .agg (vArr V s)] w fun r w' => ∃ v', r = .returned v' ∧ Rf w' X (M.setV p V) v' ∧ Below w.heap.size w w' := by
  obtain ⟨A1, A2, A3, c1, c2, c3, rs, rfl, hR⟩ := h
  obtain ⟨As, cs0, rfl, hsr⟩ := hs
  have HR := Lib.hid hR
  have HX := Lib.hid hX
  have HS := Lib.hid hsr
  have hal := (((Below.refl w.heap.size w).alloc (Nat.le_refl _) (.cells #[.int .i64 (M.nb : Int), .int .i64 (M.np : Int), .int .i64 (M.ni : Int), .slice A1 M.nb c1, .slice A2 M.np c2, .slice A3 M.ni c3] 36)).alloc (le_alloc (Nat.le_refl _) _) (.cells #[.int .i64 V.leader, .int .i64 V.epoch, .int .i64 V.version, .slice As V.isr.length cs0] 47)).alloc (le_alloc (le_alloc (Nat.le_refl _) _) _) (.cells #[.int .i64 0, .int .i64 0, .int .i64 0, .slice none 0 0, .slice none 0 0, .slice none 0 0] 36)
  have hb0 : Blk (((w.alloc (.cells #[.int .i64 (M.nb : Int), .int .i64 (M.np : Int), .int .i64 (M.ni : Int), .slice A1 M.nb c1, .slice A2 M.np c2, .slice A3 M.ni c3] 36)).alloc (.cells #[.int .i64 V.leader, .int .i64 V.epoch, .int .i64 V.version, .slice As V.isr.length cs0] 47)).alloc (.cells #[.int .i64 0, .int .i64 0, .int .i64 0, .slice none 0 0, .slice none 0 0, .slice none 0 0] 36)) w.heap.size 36 #[.int .i64 (M.nb : Int), .int .i64 (M.np : Int), .int .i64 (M.ni : Int), .slice A1 M.nb c1, .slice A2 M.np c2, .slice A3 M.ni c3] := ((Blk.new w 36 _).alloc _).alloc _
  have hbv : Blk (((w.alloc (.cells #[.int .i64 (M.nb : Int), .int .i64 (M.np : Int), .int .i64 (M.ni : Int), .slice A1 M.nb c1, .slice A2 M.np c2, .slice A3 M.ni c3] 36)).alloc (.cells #[.int .i64 V.leader, .int .i64 V.epoch, .int .i64 V.version, .slice As V.isr.length cs0] 47)).alloc (.cells #[.int .i64 0, .int .i64 0, .int .i64 0, .slice none 0 0, .slice none 0 0, .slice none 0 0] 36)) (w.heap.size + 1) 47 #[.int .i64 V.leader, .int .i64 V.epoch, .int .i64 V.version, .slice As V.isr.length cs0] := (blk_new (w.alloc (.cells #[.int .i64 (M.nb : Int), .int .i64 (M.np : Int), .int .i64 (M.ni : Int), .slice A1 M.nb c1, .slice A2 M.np c2, .slice A3 M.ni c3] 36)) 47 _ (by simp)).alloc _
  have hb1 : Blk (((w.alloc (.cells #[.int .i64 (M.nb : Int), .int .i64 (M.np : Int), .int .i64 (M.ni : Int), .slice A1 M.nb c1, .slice A2 M.np c2, .slice A3 M.ni c3] 36)).alloc (.cells #[.int .i64 V.leader, .int .i64 V.epoch, .int .i64 V.version, .slice As V.isr.length cs0] 47)).alloc (.cells #[.int .i64 0, .int .i64 0, .int .i64 0, .slice none 0 0, .slice none 0 0, .slice none 0 0] 36)) (w.heap.size + 2) 36 #[.int .i64 0, .int .i64 0, .int .i64 0, .slice none 0 0, .slice none 0 0, .slice none 0 0] := blk_new ((w.alloc (.cells #[.int .i64 (M.nb : Int), .int .i64 (M.np : Int), .int .i64 (M.ni : Int), .slice A1 M.nb c1, .slice A2 M.np c2, .slice A3 M.ni c3] 36)).alloc (.cells #[.int .i64 V.leader, .int .i64 V.epoch, .int .i64 V.version, .slice As V.isr.length cs0] 47)) 36 _ (by simp)
  have HB := Lib.hid (And.intro hal (And.intro hb0 hb1))
  have HBV := Lib.hid hbv
  have HSZ : Hid ((((w.alloc (.cells #[.int .i64 (M.nb : Int), .int .i64 (M.np : Int), .int .i64 (M.ni : Int), .slice A1 M.nb c1, .slice A2 M.np c2, .slice A3 M.ni c3] 36)).alloc (.cells #[.int .i64 V.leader, .int .i64 V.epoch, .int .i64 V.version, .slice As V.isr.length cs0] 47)).alloc (.cells #[.int .i64 0, .int .i64 0, .int .i64 0, .slice none 0 0, .slice none 0 0, .slice none 0 0] 36)).heap.size = w.heap.size + 3) := Lib.hid (by simp)
  have HP := Lib.hid hp
  clear hR hX hal hb0 hb1 hbv hsr
  have hbi : (p : Int) < (M.np : Int) := by omega
  unfold vArr
  go_enter Tryz.func103, Tryz.ntmps103
  go_upto_region 1 with fail
  generalize hw2 : (((w.alloc (.cells #[.int .i64 (M.nb : Int), .int .i64 (M.np : Int), .int .i64 (M.ni : Int), .slice A1 M.nb c1, .slice A2 M.np c2, .slice A3 M.ni c3] 36)).alloc (.cells #[.int .i64 V.leader, .int .i64 V.epoch, .int .i64 V.version, .slice As V.isr.length cs0] 47)).alloc (.cells #[.int .i64 0, .int .i64 0, .int .i64 0, .slice none 0 0, .slice none 0 0, .slice none 0 0] 36)) = w2 at *
  clear hw2
  have z3 : w2.cell? ⟨w.heap.size, 4, none⟩ = some (.slice A2 M.np c2) := HB.out.2.1.cell 4
  go_wp2_with (at_builtin; refine stop ?_)
  refine Stop.go (wpList_append_k el33 _ (by rfl) _ _ (by rfl) (.slice none 0 0) [] (by rfl) (OwnK.nil w2 47 4) X A2 M.np c2 _ (by rfl) (HR.out.vw.below HB.out.1) (by simp) (by omega) ?_)
  intro v9 w9 ho9 hg9
  rw [List.nil_append] at ho9
  have hl9 : (rowsOf M.np fun p => vArr (M.views p) (rs p)).length = M.np := rowsOf_len _ _
  obtain ⟨A9, q9, k9, rfl, hq9, -⟩ := ho9.form
  rw [hl9] at hq9
  subst hq9
  have hv9 : ∀ b, (Value.slice A9 M.np k9).ownBlock = some b → w2.heap.size ≤ b := fun b eb => by
    rcases hg9.2 b eb with h | h
    · cases h
    · exact h
  have hb9 : Below w2.heap.size w2 w9 := hg9.low (fun g hg => by cases hg)
  obtain ⟨g9, cur, e9, hblk9, -, -, hs9, ht9, -⟩ := own_row ho9 (by omega)
  subst e9
  have HO9 := Lib.hid ho9
  have HV := Lib.hid hv9
  have HB9 := Lib.hid hb9
  have HG9 : Hid (w2.heap.size ≤ g9) := Lib.hid (hv9 g9 rfl)
  have hbv9 := HBV.out.below hb9 (by have := HSZ.out; omega)
  have HV9 := Lib.hid hbv9
  clear ho9 hg9 hv9 hb9 hblk9 hs9 ht9 z3 hl9 hbv9
  go_wp2_with (with_reducible refine at_load 47 rfl ?_)
  refine Stop.go (wpList_load_blk (by rfl) 47 _ (by rfl) (w.heap.size + 1) (by rfl) 47 _ HV9.out _ und47 (by rfl) (by kernel_rfl) ?_)
  go_wp2_with (with_reducible refine at_store 47 rfl ?_)
  refine Stop.go (wpList_store_own (by rfl) (by rfl) 47 _ _ (by rfl) 47 4 M.np k9 p g9 _ HO9.out HP.out (by omega) #[.int .i64 V.leader, .int .i64 V.epoch, .int .i64 V.version, .slice As V.isr.length cs0] (by rfl) (by rfl) rfl (by kernel_rfl) (by simp [Value.oneCell']) ?_)
  intro w3 hown ht2
  rw [rowsOf_set] at hown
  have hown2 : OwnK w3 47 4 (.slice (some ⟨g9, 0, none⟩) M.np k9) (rowsOf M.np fun q => vArr ((M.setV p V).views q) ((setAt rs p (.slice As V.isr.length cs0)) q)) := by
    have e : (rowsOf M.np (setAt (fun p => vArr (M.views p) (rs p)) p #[.int .i64 V.leader, .int .i64 V.epoch, .int .i64 V.version, .slice As V.isr.length cs0])) = rowsOf M.np fun q => vArr ((M.setV p V).views q) ((setAt rs p (.slice As V.isr.length cs0)) q) := rowsOf_congr fun q hq => by
      by_cases hqp : q = p
      · subst hqp
        rw [setAt_self, show (M.setV q V).views q = V from setAt_self _ _ _, setAt_self]
        rfl
      · rw [setAt_ne _ hqp, show (M.setV p V).views q = M.views q from setAt_ne _ hqp _, setAt_ne _ (by omega)]
    rw [e] at hown
    exact hown
  have hlow : Below w2.heap.size w2 w3 := HB9.out.trans (ht2.below HB9.out.size (fun z e => by have := HG9.out; omega))
  have HO := Lib.hid (And.intro hown2 hlow)
  clear hown hown2 ht2 hlow
  have hbx := HB.out.2.1.below HO.out.2 (by have := HSZ.out; omega)
  have hby := HB.out.2.2.below HO.out.2 (by have := HSZ.out; omega)
  have x3 : w3.cell? ⟨w.heap.size, 4, none⟩ = some (.slice A2 M.np c2) := hbx.cell 4
  have fx := hbx.frozen 4
  have hbx2 := hbx.set_ 4 (.slice (some ⟨g9, 0, none⟩) M.np k9)
  have hby2 : Blk (w3.setCell ⟨w.heap.size, 4, none⟩ (.slice (some ⟨g9, 0, none⟩) M.np k9)) (w.heap.size + 2) 36 #[.int .i64 0, .int .i64 0, .int .i64 0, .slice none 0 0, .slice none 0 0, .slice none 0 0] := hby.far (p := ⟨w.heap.size, 4, none⟩) (by show w.heap.size + 2 ≠ w.heap.size; omega) _
  have hsz3 := HSZ.out
  have htx : Turn (fun z => z = w.heap.size) w3 (w3.setCell ⟨w.heap.size, 4, none⟩ (.slice (some ⟨g9, 0, none⟩) M.np k9)) := (Turn.refl (fun z => z = w.heap.size) w3).setCell (p := ⟨w.heap.size, 4, none⟩) (fun _ => rfl) _
  have hlow2 : Below w.heap.size w (w3.setCell ⟨w.heap.size, 4, none⟩ (.slice (some ⟨g9, 0, none⟩) M.np k9)) := (HB.out.1.trans (HO.out.2.mono HB.out.1.size)).trans (htx.below (Nat.le_trans HB.out.1.size HO.out.2.size) (fun z e => by omega))
  have ho3 := HO.out.1.keep htx (fun z hz e => by have := HV.out z hz; omega)
  have H3 := Lib.hid (And.intro hbx2 (And.intro hby2 (And.intro hlow2 ho3)))
  clear hbx hby hbx2 hby2 htx hlow2 ho3 hsz3
  go_upto_region 4 with fail
  generalize w3.setCell ⟨w.heap.size, 4, none⟩ (.slice (some ⟨g9, 0, none⟩) M.np k9) = w4 at *
  clear x3 fx
  go_wp2_with (with_reducible refine at_load 36 rfl ?_)
  refine Stop.go (wpList_load_blk (by rfl) 36 _ (by rfl) w.heap.size (by rfl) 36 _ H3.out.1 _ und36 (by rfl) (by kernel_rfl) ?_)
  go_wp2_with (with_reducible refine at_store 36 rfl ?_)
  refine Stop.go (wpList_store_blk (by rfl) (by rfl) 36 _ _ (by rfl) (w.heap.size + 2) _ #[.int .i64 (M.nb : Int), .int .i64 (M.np : Int), .int .i64 (M.ni : Int), .slice A1 M.nb c1, .slice (some ⟨g9, 0, none⟩) M.np k9, .slice A3 M.ni c3] (by rfl) (by rfl) 36 H3.out.2.1 (by rfl) (by kernel_rfl) (by simp [Value.oneCell']) ?_)
  intro w5 hB5 hg5 hs5
  have hT5 : Turn (fun z => z = w.heap.size + 2) w4 w5 := Turn.of_grown hg5 (fun r e => by injection e with e; exact e.symm)
  have hb5 : Below w.heap.size w w5 := H3.out.2.2.1.trans (hT5.below H3.out.2.2.1.size (fun z e => by omega))
  have ho5 := H3.out.2.2.2.keep hT5 (fun z hz e => by have := HV.out z hz; have := HSZ.out; omega)
  have hR5 := HR.out.below hb5
  have hrd5 := rd_own (w := w) ho5 (fun z hz => by have := HV.out z hz; have := HSZ.out; omega) HX.out
  have HF : Hid (Rf w5 X (M.setV p V) (.agg #[.int .i64 (M.nb : Int), .int .i64 (M.np : Int), .int .i64 (M.ni : Int), .slice A1 M.nb c1, .slice (some ⟨g9, 0, none⟩) M.np k9, .slice A3 M.ni c3]) ∧ Below w.heap.size w w5) := Lib.hid ⟨⟨_, _, _, _, _, _, setAt rs p (.slice As V.isr.length cs0), rfl, hR5.lv, hrd5, (by
    have e : (rowsOf M.ni fun i => wArr ((M.setV p V).wrs i) ((setAt rs p (.slice As V.isr.length cs0)) (4 + i))) = rowsOf M.ni fun i => wArr (M.wrs i) (rs (4 + i)) := rowsOf_congr fun i _ => by rw [setAt_ne _ (by omega)]; rfl
    exact e ▸ hR5.wr), (fun q hq => by
    by_cases hqp : q = p
    · subst hqp
      rw [setAt_self, show (M.setV q V).views q = V from setAt_self _ _ _]
      exact ⟨As, cs0, rfl, HS.out.below hb5⟩
    · rw [setAt_ne _ hqp, show (M.setV p V).views q = M.views q from setAt_ne _ hqp _]
      exact hR5.vr q hq), (fun i hi => by
    rw [setAt_ne _ (by omega)]
    exact hR5.wl i hi)⟩, hb5⟩
  have HB5 := Lib.hid hB5
  clear hB5 hg5 hs5 hT5 hb5 ho5 hR5 hrd5
  go_wp2_with fail
  refine bodyPost_ret (results_cell (by rfl) _ _ (w.heap.size + 2) 36 _ (0, 0) _ (by rfl) HB5.out und36 (by rfl) (by kernel_rfl)) rfl ?_
  exact ⟨_, rfl, HF.out.1, HF.out.2⟩
set_option maxRecDepth 100000 in
set_option maxHeartbeats 4000000 in
theorem writing105_any (h : Rf w X M v) (hX : ∀ b, X b → b < w.heap.size) (hk : M.ni ≤ 4) (hk4 : M.np ≤ 4) {p : Nat} (hp : p < M.ni) (V : Wt) {s : Value} (hs : IsR w X s V.parts) : Calls Tryz.prog 105 #[v, .int .i64 (p : Int), .agg (wArr V s)] w fun r w' => ∃ v', r = .returned v' ∧ Rf w' X (M.setW p V) v' ∧ Below w.heap.size w w' := by
  obtain ⟨A1, A2, A3, c1, c2, c3, rs, rfl, hR⟩ := h
  obtain ⟨As, cs0, rfl, hsr⟩ := hs
  have HR := Lib.hid hR
  have HX := Lib.hid hX
  have HS := Lib.hid hsr
  have hal := (((Below.refl w.heap.size w).alloc (Nat.le_refl _) (.cells #[.int .i64 (M.nb : Int), .int .i64 (M.np : Int), .int .i64 (M.ni : Int), .slice A1 M.nb c1, .slice A2 M.np c2, .slice A3 M.ni c3] 36)).alloc (le_alloc (Nat.le_refl _) _) (.cells #[.int .i64 V.session, .int .i64 V.num, .int .i64 V.state, .slice As V.parts.length cs0, .int .i64 V.offset, .int .i64 V.next] 55)).alloc (le_alloc (le_alloc (Nat.le_refl _) _) _) (.cells #[.int .i64 0, .int .i64 0, .int .i64 0, .slice none 0 0, .slice none 0 0, .slice none 0 0] 36)
  have hb0 : Blk (((w.alloc (.cells #[.int .i64 (M.nb : Int), .int .i64 (M.np : Int), .int .i64 (M.ni : Int), .slice A1 M.nb c1, .slice A2 M.np c2, .slice A3 M.ni c3] 36)).alloc (.cells #[.int .i64 V.session, .int .i64 V.num, .int .i64 V.state, .slice As V.parts.length cs0, .int .i64 V.offset, .int .i64 V.next] 55)).alloc (.cells #[.int .i64 0, .int .i64 0, .int .i64 0, .slice none 0 0, .slice none 0 0, .slice none 0 0] 36)) w.heap.size 36 #[.int .i64 (M.nb : Int), .int .i64 (M.np : Int), .int .i64 (M.ni : Int), .slice A1 M.nb c1, .slice A2 M.np c2, .slice A3 M.ni c3] := ((Blk.new w 36 _).alloc _).alloc _
  have hbv : Blk (((w.alloc (.cells #[.int .i64 (M.nb : Int), .int .i64 (M.np : Int), .int .i64 (M.ni : Int), .slice A1 M.nb c1, .slice A2 M.np c2, .slice A3 M.ni c3] 36)).alloc (.cells #[.int .i64 V.session, .int .i64 V.num, .int .i64 V.state, .slice As V.parts.length cs0, .int .i64 V.offset, .int .i64 V.next] 55)).alloc (.cells #[.int .i64 0, .int .i64 0, .int .i64 0, .slice none 0 0, .slice none 0 0, .slice none 0 0] 36)) (w.heap.size + 1) 55 #[.int .i64 V.session, .int .i64 V.num, .int .i64 V.state, .slice As V.parts.length cs0, .int .i64 V.offset, .int .i64 V.next] := (blk_new (w.alloc (.cells #[.int .i64 (M.nb : Int), .int .i64 (M.np : Int), .int .i64 (M.ni : Int), .slice A1 M.nb c1, .slice A2 M.np c2, .slice A3 M.ni c3] 36)) 55 _ (by simp)).alloc _
  have hb1 : Blk (((w.alloc (.cells #[.int .i64 (M.nb : Int), .int .i64 (M.np : Int), .int .i64 (M.ni : Int), .slice A1 M.nb c1, .slice A2 M.np c2, .slice A3 M.ni c3] 36)).alloc (.cells #[.int .i64 V.session, .int .i64 V.num, .int .i64 V.state, .slice As V.parts.length cs0, .int .i64 V.offset, .int .i64 V.next] 55)).alloc (.cells #[.int .i64 0, .int .i64 0, .int .i64 0, .slice none 0 0, .slice none 0 0, .slice none 0 0] 36)) (w.heap.size + 2) 36 #[.int .i64 0, .int .i64 0, .int .i64 0, .slice none 0 0, .slice none 0 0, .slice none 0 0] := blk_new ((w.alloc (.cells #[.int .i64 (M.nb : Int), .int .i64 (M.np : Int), .int .i64 (M.ni : Int), .slice A1 M.nb c1, .slice A2 M.np c2, .slice A3 M.ni c3] 36)).alloc (.cells #[.int .i64 V.session, .int .i64 V.num, .int .i64 V.state, .slice As V.parts.length cs0, .int .i64 V.offset, .int .i64 V.next] 55)) 36 _ (by simp)
  have HB := Lib.hid (And.intro hal (And.intro hb0 hb1))
  have HBV := Lib.hid hbv
  have HSZ : Hid ((((w.alloc (.cells #[.int .i64 (M.nb : Int), .int .i64 (M.np : Int), .int .i64 (M.ni : Int), .slice A1 M.nb c1, .slice A2 M.np c2, .slice A3 M.ni c3] 36)).alloc (.cells #[.int .i64 V.session, .int .i64 V.num, .int .i64 V.state, .slice As V.parts.length cs0, .int .i64 V.offset, .int .i64 V.next] 55)).alloc (.cells #[.int .i64 0, .int .i64 0, .int .i64 0, .slice none 0 0, .slice none 0 0, .slice none 0 0] 36)).heap.size = w.heap.size + 3) := Lib.hid (by simp)
  have HP := Lib.hid hp
  clear hR hX hal hb0 hb1 hbv hsr
  have hbi : (p : Int) < (M.ni : Int) := by omega
  unfold wArr
  go_enter Tryz.func105, Tryz.ntmps105
  go_upto_region 1 with fail
  generalize hw2 : (((w.alloc (.cells #[.int .i64 (M.nb : Int), .int .i64 (M.np : Int), .int .i64 (M.ni : Int), .slice A1 M.nb c1, .slice A2 M.np c2, .slice A3 M.ni c3] 36)).alloc (.cells #[.int .i64 V.session, .int .i64 V.num, .int .i64 V.state, .slice As V.parts.length cs0, .int .i64 V.offset, .int .i64 V.next] 55)).alloc (.cells #[.int .i64 0, .int .i64 0, .int .i64 0, .slice none 0 0, .slice none 0 0, .slice none 0 0] 36)) = w2 at *
  clear hw2
  have z3 : w2.cell? ⟨w.heap.size, 5, none⟩ = some (.slice A3 M.ni c3) := HB.out.2.1.cell 5
  go_wp2_with (at_builtin; refine stop ?_)
  refine Stop.go (wpList_append_k el34 _ (by rfl) _ _ (by rfl) (.slice none 0 0) [] (by rfl) (OwnK.nil w2 55 6) X A3 M.ni c3 _ (by rfl) (HR.out.wr.below HB.out.1) (by simp) (by omega) ?_)
  intro v9 w9 ho9 hg9
  rw [List.nil_append] at ho9
  have hl9 : (rowsOf M.ni fun p => wArr (M.wrs p) (rs (4 + p))).length = M.ni := rowsOf_len _ _
  obtain ⟨A9, q9, k9, rfl, hq9, -⟩ := ho9.form
  rw [hl9] at hq9
  subst hq9
  have hv9 : ∀ b, (Value.slice A9 M.ni k9).ownBlock = some b → w2.heap.size ≤ b := fun b eb => by
    rcases hg9.2 b eb with h | h
    · cases h
    · exact h
  have hb9 : Below w2.heap.size w2 w9 := hg9.low (fun g hg => by cases hg)
  obtain ⟨g9, cur, e9, hblk9, -, -, hs9, ht9, -⟩ := own_row ho9 (by omega)
  subst e9
  have HO9 := Lib.hid ho9
  have HV := Lib.hid hv9
  have HB9 := Lib.hid hb9
  have HG9 : Hid (w2.heap.size ≤ g9) := Lib.hid (hv9 g9 rfl)
  have hbv9 := HBV.out.below hb9 (by have := HSZ.out; omega)
  have HV9 := Lib.hid hbv9
  clear ho9 hg9 hv9 hb9 hblk9 hs9 ht9 z3 hl9 hbv9
  go_wp2_with (with_reducible refine at_load 55 rfl ?_)
  refine Stop.go (wpList_load_blk (by rfl) 55 _ (by rfl) (w.heap.size + 1) (by rfl) 55 _ HV9.out _ und55 (by rfl) (by kernel_rfl) ?_)
  go_wp2_with (with_reducible refine at_store 55 rfl ?_)
  refine Stop.go (wpList_store_own (by rfl) (by rfl) 55 _ _ (by rfl) 55 6 M.ni k9 p g9 _ HO9.out HP.out (by omega) #[.int .i64 V.session, .int .i64 V.num, .int .i64 V.state, .slice As V.parts.length cs0, .int .i64 V.offset, .int .i64 V.next] (by rfl) (by rfl) rfl (by kernel_rfl) (by simp [Value.oneCell']) ?_)
  intro w3 hown ht2
  rw [rowsOf_set] at hown
  have hown2 : OwnK w3 55 6 (.slice (some ⟨g9, 0, none⟩) M.ni k9) (rowsOf M.ni fun q => wArr ((M.setW p V).wrs q) ((setAt rs (4 + p) (.slice As V.parts.length cs0)) (4 + q))) := by
    have e : (rowsOf M.ni (setAt (fun p => wArr (M.wrs p) (rs (4 + p))) p #[.int .i64 V.session, .int .i64 V.num, .int .i64 V.state, .slice As V.parts.length cs0, .int .i64 V.offset, .int .i64 V.next])) = rowsOf M.ni fun q => wArr ((M.setW p V).wrs q) ((setAt rs (4 + p) (.slice As V.parts.length cs0)) (4 + q)) := rowsOf_congr fun q hq => by
      by_cases hqp : q = p
      · subst hqp
        rw [setAt_self, show (M.setW q V).wrs q = V from setAt_self _ _ _, setAt_self]
        rfl
      · rw [setAt_ne _ hqp, show (M.setW p V).wrs q = M.wrs q from setAt_ne _ hqp _, setAt_ne _ (by omega)]
    rw [e] at hown
    exact hown
  have hlow : Below w2.heap.size w2 w3 := HB9.out.trans (ht2.below HB9.out.size (fun z e => by have := HG9.out; omega))
  have HO := Lib.hid (And.intro hown2 hlow)
  clear hown hown2 ht2 hlow
  have hbx := HB.out.2.1.below HO.out.2 (by have := HSZ.out; omega)
  have hby := HB.out.2.2.below HO.out.2 (by have := HSZ.out; omega)
  have x3 : w3.cell? ⟨w.heap.size, 5, none⟩ = some (.slice A3 M.ni c3) := hbx.cell 5
  have fx := hbx.frozen 5
  have hbx2 := hbx.set_ 5 (.slice (some ⟨g9, 0, none⟩) M.ni k9)
  have hby2 : Blk (w3.setCell ⟨w.heap.size, 5, none⟩ (.slice (some ⟨g9, 0, none⟩) M.ni k9)) (w.heap.size + 2) 36 #[.int .i64 0, .int .i64 0, .int .i64 0, .slice none 0 0, .slice none 0 0, .slice none 0 0] := hby.far (p := ⟨w.heap.size, 5, none⟩) (by show w.heap.size + 2 ≠ w.heap.size; omega) _
  have hsz3 := HSZ.out
  have htx : Turn (fun z => z = w.heap.size) w3 (w3.setCell ⟨w.heap.size, 5, none⟩ (.slice (some ⟨g9, 0, none⟩) M.ni k9)) := (Turn.refl (fun z => z = w.heap.size) w3).setCell (p := ⟨w.heap.size, 5, none⟩) (fun _ => rfl) _
  have hlow2 : Below w.heap.size w (w3.setCell ⟨w.heap.size, 5, none⟩ (.slice (some ⟨g9, 0, none⟩) M.ni k9)) := (HB.out.1.trans (HO.out.2.mono HB.out.1.size)).trans (htx.below (Nat.le_trans HB.out.1.size HO.out.2.size) (fun z e => by omega))
  have ho3 := HO.out.1.keep htx (fun z hz e => by have := HV.out z hz; omega)
  have H3 := Lib.hid (And.intro hbx2 (And.intro hby2 (And.intro hlow2 ho3)))
  clear hbx hby hbx2 hby2 htx hlow2 ho3 hsz3
  go_upto_region 4 with fail
  generalize w3.setCell ⟨w.heap.size, 5, none⟩ (.slice (some ⟨g9, 0, none⟩) M.ni k9) = w4 at *
  clear x3 fx
  go_wp2_with (with_reducible refine at_load 36 rfl ?_)
  refine Stop.go (wpList_load_blk (by rfl) 36 _ (by rfl) w.heap.size (by rfl) 36 _ H3.out.1 _ und36 (by rfl) (by kernel_rfl) ?_)
  go_wp2_with (with_reducible refine at_store 36 rfl ?_)
  refine Stop.go (wpList_store_blk (by rfl) (by rfl) 36 _ _ (by rfl) (w.heap.size + 2) _ #[.int .i64 (M.nb : Int), .int .i64 (M.np : Int), .int .i64 (M.ni : Int), .slice A1 M.nb c1, .slice A2 M.np c2, .slice (some ⟨g9, 0, none⟩) M.ni k9] (by rfl) (by rfl) 36 H3.out.2.1 (by rfl) (by kernel_rfl) (by simp [Value.oneCell']) ?_)
  intro w5 hB5 hg5 hs5
  have hT5 : Turn (fun z => z = w.heap.size + 2) w4 w5 := Turn.of_grown hg5 (fun r e => by injection e with e; exact e.symm)
  have hb5 : Below w.heap.size w w5 := H3.out.2.2.1.trans (hT5.below H3.out.2.2.1.size (fun z e => by omega))
  have ho5 := H3.out.2.2.2.keep hT5 (fun z hz e => by have := HV.out z hz; have := HSZ.out; omega)
  have hR5 := HR.out.below hb5
  have hrd5 := rd_own (w := w) ho5 (fun z hz => by have := HV.out z hz; have := HSZ.out; omega) HX.out
  have HF : Hid (Rf w5 X (M.setW p V) (.agg #[.int .i64 (M.nb : Int), .int .i64 (M.np : Int), .int .i64 (M.ni : Int), .slice A1 M.nb c1, .slice A2 M.np c2, .slice (some ⟨g9, 0, none⟩) M.ni k9]) ∧ Below w.heap.size w w5) := Lib.hid ⟨⟨_, _, _, _, _, _, setAt rs (4 + p) (.slice As V.parts.length cs0), rfl, hR5.lv, (by
    have e : (rowsOf M.np fun q => vArr ((M.setW p V).views q) ((setAt rs (4 + p) (.slice As V.parts.length cs0)) q)) = rowsOf M.np fun q => vArr (M.views q) (rs q) := rowsOf_congr fun q hq => by rw [setAt_ne _ (by omega)]; rfl
    exact e ▸ hR5.vw), hrd5, (fun q hq => by
    have hq2 : q < M.np := hq
    rw [setAt_ne _ (by omega)]
    exact hR5.vr q hq), (fun q hq => by
    by_cases hqp : q = p
    · subst hqp
      rw [setAt_self, show (M.setW q V).wrs q = V from setAt_self _ _ _]
      exact ⟨As, cs0, rfl, HS.out.below hb5⟩
    · rw [setAt_ne _ (by omega), show (M.setW p V).wrs q = M.wrs q from setAt_ne _ hqp _]
      exact hR5.wl q hq)⟩, hb5⟩
  have HB5 := Lib.hid hB5
  clear hB5 hg5 hs5 hT5 hb5 ho5 hR5 hrd5
  go_wp2_with fail
  refine bodyPost_ret (results_cell (by rfl) _ _ (w.heap.size + 2) 36 _ (0, 0) _ (by rfl) HB5.out und36 (by rfl) (by kernel_rfl)) rfl ?_
  exact ⟨_, rfl, HF.out.1, HF.out.2⟩
end
end Go.Proofs.YtpmdicbhliclcaaGreat
