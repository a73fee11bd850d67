/-
  A table is made of a log. Conditions: at most 4096 entries, all of which may be.
-/
import Derived.Test.YthcphoijanebhaaDoorTabOf
namespace Go.Proofs.YthcphoijanebhaaDoor
open Go.RowKit Go.Shelf Go.Maps
attribute [local go_sem] Oper.semAt_some
/-- What is known of a table that was just made, which keeps the slice v. -/
def NewT (w : World) (v : Value) (l : List Ent) (e : Ending) (w' : World) : Prop :=
  ∃ g mp, e = .returned (.pointer (some ⟨g, 0, none⟩)) ∧ TX w' g v (fun i => wr (i : Int) l) mp ∧ (w.heap.size ≤ g ∧ ∀ i, i < 8 → w.heap.size ≤ mp i) ∧ Below w.heap.size w w'
section
variable {ops : Array Oper} {o : Oper} {a : Act} {w : World} {K : Act → World → Prop} {Q : Exit → Act → World → Prop} {E : Prop}
theorem step_store_mid (hw : Region.wanted o (yielded ops a.tmps) = true) (hd : o.dst = none) (ty : TypeId) (x y : Operand) (ho : o.op = .store ty x y) (g off : Nat) (cells : Array Value) (hx : a.eval x = .pointer (some ⟨g, off, none⟩)) (hy : a.eval y = .agg cells)
    (ht : w.there g off cells.size) (hi : (Tryd.prog.info? ty).map (·.size) = some cells.size) (h1 : cells.all (·.oneCell') = true) (h : K a (w.setCells g off cells.toList)) : if Region.wanted o (yielded ops a.tmps) = true then Oper.wp Tryd.prog o a w K Q else E := by
  rw [if_pos hw]
  refine wp_store_mid ty x y ho g off cells hx hy ht hi h1 ?_
  rw [hd]
  exact h
end
theorem there_below {w w' : World} {g o n : Nat} (h : w.there g o n) (hb : Below w.heap.size w w') (hg : g < w.heap.size) : w'.there g o n := fun j hj => by
  rw [hb.cell (p := ⟨g, o + j, none⟩) hg, hb.frozen (p := ⟨g, o + j, none⟩) hg]
  exact h j hj
/-- Between two rounds of the first loop. -/
def Part (w : World) (v : Value) (k : Nat) (W : World) : Prop :=
  ∃ mp, TP w.heap.size W w.heap.size v k mp ∧ Blk W (w.heap.size + 1) 58 #[.pointer (some ⟨w.heap.size, 0, none⟩)] ∧ Below w.heap.size w W
/-- Between two rounds of the second loop. -/
def Noted (w : World) (B : Nat) (v : Value) (mp : Nat → Nat) (l : List Ent) (k : Nat) (W : World) : Prop :=
  TX W w.heap.size v (fun i => wr (i : Int) (l.take k)) mp ∧ Blk W (w.heap.size + 1) 58 #[.pointer (some ⟨w.heap.size, 0, none⟩)] ∧ (∀ i, i < 8 → w.heap.size ≤ mp i ∧ mp i < B) ∧ Below w.heap.size w W
theorem noted_abide {w : World} {B : Nat} {v : Value} {mp : Nat → Nat} {l : List Ent} (hB : w.heap.size + 1 < B) : AbideB B (Noted w B v mp l) := fun k A A' h ht => by
  obtain ⟨h1, h2, h3, h4⟩ := h
  refine ⟨h1.keepB fun b hb => ?_, h2.keep ht (fun e => by rcases e with e | e <;> omega), h3, h4.trans (ht.below h4.size (fun b e => by rcases e with e | e <;> omega))⟩
  have hb' : b < B := by
    rcases hb with rfl | ⟨i, hi, rfl⟩
    · omega
    · exact (h3 i hi).2
  exact ht.block b (h1.lt hb) (fun e => by rcases e with e | e <;> omega)
theorem lens5 {l : List Ent} (h : l.length ≤ 4096) : ∀ i : Nat, i < 4 → ((fun i : Nat => wr (i : Int) l) i).opens.length < 5000 ∧ ((fun i : Nat => wr (i : Int) l) i).ended.length < 5000 := fun i _ => by
  have := wr_lens (i : Int) l
  dsimp only
  omega
set_option maxRecDepth 100000 in
set_option maxHeartbeats 4000000 in
theorem tableOf_any {w : World} {X : Nat → Prop} {A : Option Addr} {n c : Nat} {l : List Ent} (h : Rd w X 6 A n (cellsOf l)) (hr : AllR l) (hn : n ≤ 4096) : Calls Tryd.prog 71 #[.slice A n c] w (NewT w (.slice A n c) l) := by
  have HH := Lib.hid h
  have HAD : Hid (0 < n → ∀ ad, A = some ad → ad.block < w.heap.size) := Lib.hid (fun h0 ad e => by
    obtain ⟨ad', e', hb, _⟩ := h.2.2 h0
    rw [e] at e'
    injection e' with e'
    subst e'
    exact hb)
  have HLEN := Lib.hid h.lenE
  clear h
  refine (callsIn_wide (n := 3)).1 ?_
  refine callsIn_of_wp_marks Tryd.func71 rfl trivial ?_ rfl
  simp only [Tryd.ntmps71, List.size_toArray, List.length_cons, List.length_nil, Nat.reduceAdd, Nat.reduceSub, Array.replicate_succ, Array.replicate_zero, List.push_toArray, List.append_toArray, List.nil_append, List.cons_append]
  gi_wp2_with fail
  have hP : Part w (.slice A n c) 0 ((w.alloc (.cells #[.slice A n c, .int .i64 0, .int .i64 0, .int .i64 0, .map none, .map none, .int .i64 0, .int .i64 0, .int .i64 0, .map none, .map none, .int .i64 0, .int .i64 0, .int .i64 0, .map none, .map none, .int .i64 0, .int .i64 0, .int .i64 0, .map none, .map none, .bool true] 108)).alloc (.cells #[.pointer (some ⟨w.heap.size, 0, none⟩)] 58)) :=
    ⟨_, TP.start ((Blk.new w 108 _).alloc _), by have := Blk.new (w.alloc (.cells #[.slice A n c, .int .i64 0, .int .i64 0, .int .i64 0, .map none, .map none, .int .i64 0, .int .i64 0, .int .i64 0, .map none, .map none, .int .i64 0, .int .i64 0, .int .i64 0, .map none, .map none, .int .i64 0, .int .i64 0, .int .i64 0, .map none, .map none, .bool true] 108)) 58 #[.pointer (some ⟨w.heap.size, 0, none⟩)]; simpa using this, ((Below.refl _ _).alloc (Nat.le_refl _) _).alloc (by simp) _⟩
  generalize ((w.alloc (.cells _ 108)).alloc (.cells _ 58)) = w1 at *
  gi_loopw [10] (fun i wr => ∃ k : Nat, k ≤ 4 ∧ i = .int .i64 k ∧ Part w (.slice A n c) k wr) (fun i _ => 4 - (iOf i).toNat)
  case atStart => exact ⟨0, by omega, rfl, hP⟩
  case round =>
    obtain ⟨k, hk, rfl, mp, hTP, hP0, hBW⟩ := hrel
    have HTP := Lib.hid hTP
    have HP0 := Lib.hid hP0
    have HBW := Lib.hid hBW
    clear hTP hP0 hBW hP
    by_cases hlt : k < 4
    case pos =>
      have hd1 : decide ((k : Int) < 4) = true := by simpa using (by omega : (k : Int) < 4)
      have hk4 : (k : Int) < 4 := by omega
      gi_wp2_with fail
      refine (wpIn_wide (n := 3)).2 ?_
      refine wp_region_np ?_
      refine wp_region_held_drew (S := fun W => Blk W (w.heap.size + 1) 58 #[.pointer (some ⟨w.heap.size, 0, none⟩)]) (by kernel_rfl) HP0.out (fun hHeld => ?_)
      refine wpAnyH_takeAt (i := 0) (d := 13) (v := ?vq0x) rfl rfl (by kernel_rfl) (by kernel_rfl) (by kernel_rfl) (fun _ _ _ h => h) (Or.inl ⟨by rfl, ?hyq0x⟩) hHeld ?_
      case hyq0x =>
        intro W hSw
        have hpc : W.cell? ⟨w.heap.size + 1, 0, none⟩ = some (.pointer (some ⟨w.heap.size, 0, none⟩)) := Blk.cell hSw 0; clear hSw
        (go_simp; try with_reducible rfl)
      simp only [List.setIfInBounds_toArray, List.set_cons_zero, List.set_cons_succ]
      refine wpAnyH_takeAt (i := 1) (d := 14) (v := ?vq1x) rfl rfl (by kernel_rfl) (by kernel_rfl) (by kernel_rfl) (fun _ _ _ h => h) (Or.inl ⟨by rfl, ?hyq1x⟩) hHeld ?_
      case hyq1x =>
        intro W hSw
        clear hSw
        (go_simp; try with_reducible rfl)
      simp only [List.setIfInBounds_toArray, List.set_cons_zero, List.set_cons_succ]
      refine wpAnyH_takeAt (i := 3) (d := 16) (v := ?vq2x) rfl rfl (by kernel_rfl) (by kernel_rfl) (by kernel_rfl) (fun _ _ _ h => h) (Or.inl ⟨by rfl, ?hyq2x⟩) hHeld ?_
      case hyq2x =>
        intro W hSw
        clear hSw
        (go_simp; try with_reducible rfl)
      simp only [List.setIfInBounds_toArray, List.set_cons_zero, List.set_cons_succ]
      refine wpAnyH_takeAt (i := 4) (d := 17) (v := ?vq3x) rfl rfl (by kernel_rfl) (by kernel_rfl) (by kernel_rfl) (fun _ _ _ h => h) (Or.inl ⟨by rfl, ?hyq3x⟩) hHeld ?_
      case hyq3x =>
        intro W hSw
        clear hSw
        (go_simp; try with_reducible rfl)
      simp only [List.setIfInBounds_toArray, List.set_cons_zero, List.set_cons_succ]
      refine wpAnyH_ready (rs := [2]) (by kernel_rfl) (by simp) (AllReadyH.cons rfl (fun K hK => ?_) AllReadyH.nil)
      go_simp
      refine (newWriter_any _).mono ?_
      rintro e w5 ⟨m1, m2, rfl, hm1, hm2, hO5, hE5, hb5⟩
      dsimp only
      have hc5 : Below wr.heap.size wr w5 := ((Below.refl _ _).drew).trans hb5
      refine hK.out _ _ (show Blk w5 (w.heap.size + 1) 58 #[.pointer (some ⟨w.heap.size, 0, none⟩)] from HP0.out.below hc5 HP0.out.lt) (fun hHeld => ?_)
      clear hK K
      try simp only [List.setIfInBounds_toArray, List.set_cons_zero, List.set_cons_succ]
      refine wpAnyH_takeAt (i := 5) (d := 18) (v := ?vq4x) rfl rfl (by kernel_rfl) (by kernel_rfl) (by kernel_rfl) (fun _ _ _ h => h) (Or.inl ⟨by rfl, ?hyq4x⟩) hHeld ?_
      case hyq4x =>
        intro W hSw
        clear hSw
        (go_simp; try with_reducible rfl)
      simp only [List.setIfInBounds_toArray, List.set_cons_zero, List.set_cons_succ]
      refine wpAnyH_ready (rs := [6]) (by kernel_rfl) (by simp) (AllReadyH.cons rfl (fun K hK => ?_) AllReadyH.nil)
      have hT6 := HTP.out.step hlt hc5 hm1 hm2 HBW.out.size hO5 hE5
      have hth : w5.there w.heap.size (1 + k * 5) 5 := there_below (HTP.out.there hlt) hc5 HTP.out.blk.lt
      refine step_store_mid (by rfl) (by rfl) 105 _ _ (by rfl) w.heap.size (1 + k * 5) #[.int .i64 0, .int .i64 0, .int .i64 0, .map (some m1), .map (some m2)] (by rfl) (by rfl) hth (by kernel_rfl) (by simp [Value.oneCell']) ?_
      clear hth
      have hP6 : Blk (w5.setCells w.heap.size (1 + k * 5) [.int .i64 0, .int .i64 0, .int .i64 0, .map (some m1), .map (some m2)]) (w.heap.size + 1) 58 #[.pointer (some ⟨w.heap.size, 0, none⟩)] := (setCells_other _ (by omega) _ _ _).trans (HP0.out.below hc5 HP0.out.lt)
      have hB6 : Below w.heap.size w (w5.setCells w.heap.size (1 + k * 5) [.int .i64 0, .int .i64 0, .int .i64 0, .map (some m1), .map (some m2)]) := below_grown (HBW.out.trans (hc5.mono HBW.out.size)) (setCells_grown _ _ _ _) (Nat.le_refl _) (Nat.le_refl _)
      refine hK.out _ _ hP6 (fun hHeld => ?_)
      clear hK K
      refine wpAnyH_done (by kernel_rfl) ?_ _
      have HR : Hid (Part w (.slice A n c) (k + 1) (w5.setCells w.heap.size (1 + k * 5) [.int .i64 0, .int .i64 0, .int .i64 0, .map (some m1), .map (some m2)])) := Lib.hid ⟨_, hT6, hP6, hB6⟩
      clear hT6 hP6 hB6 hO5 hE5 hb5 hc5 hm1 hm2 hHeld
      gi_wp2_with fail
      go_roundw
      case rel => exact ⟨k + 1, by omega, by go_num, HR.out⟩
      case measure => simp [iOf]; omega
    case neg =>
      have hd1 : decide ((k : Int) < 4) = false := by simpa using (by omega : ¬ (k : Int) < 4)
      gi_wp2_with fail
      obtain rfl : k = 4 := by omega
      refine ⟨trivial, (callsIn_wide.2 (log_all A n c wr)).mono ?_⟩
      rintro e w3 ⟨rfl, hw3⟩
      have hb3 : Below wr.heap.size wr w3 := by rw [← hw3]; exact (Below.refl _ _).alloc (Nat.le_refl _) _
      have hx3 : w3.cell? ⟨wr.heap.size, 0, none⟩ = some (.slice A n c) := by rw [← hw3]; exact (Blk.new _ _ _).cell 0
      have hz3 : wr.heap.size < w3.heap.size := by rw [← hw3]; simp
      have hbw : Below w.heap.size w w3 := HBW.out.trans (hb3.mono HBW.out.size)
      have hN0 : Noted w w3.heap.size (.slice A n c) mp l 0 w3 := ⟨HTP.out.tx.keepB fun b hb => hb3.block b (HTP.out.tx.lt hb), HP0.out.below hb3 HP0.out.lt, fun i hi => ⟨HTP.out.low i (by omega), Nat.lt_of_lt_of_le (HTP.out.tx.lt (.inr ⟨i, hi, rfl⟩)) hb3.size⟩, hbw⟩
      have hsp : w.heap.size + 1 < wr.heap.size := HP0.out.lt
      have hl3 : Rd w3 X 6 A n (cellsOf l) := HH.out.below hbw
      clear hw3
      gi_wp2_with fail
      refine range_n rfl (by omega) (gf := 90) (lb := #[.pointer (some ⟨wr.heap.size, 0, none⟩)]) rfl trivial (enters_of Tryd.func90 (by kernel_rfl) rfl)
        (all_in (3 - 1) (by omega) wr.heap.size A n c l w3 hx3 hl3 (by omega) w.heap.size HAD.out)
        (fun h h' => ⟨Nat.le_trans h.1 h'.1, fun r e hb => (h'.2 r e hb).trans (h.2 r e hb)⟩)
        (fun W W' ht hz => ⟨ht.size, fun r e hb => ht.block r.block (by omega) (fun e' => by rcases e' with e' | e' <;> omega)⟩) (fun _ => rfl)
        (Noted w w3.heap.size (.slice A n c) mp l) (fun _ _ _ => False) (noted_abide (by omega)) (fun _ _ _ _ h _ => h)
        hN0 (fun k => .cells (l.getD k .none_).cells 45)
        (fun k b => { tmps := #[.slice A n c, undef, .pointer none, .pointer (some ⟨w.heap.size + 1, 0, none⟩), u4, .int .i64 (k : Int), .pointer (some ⟨b, 0, none⟩), .slice A n c, .agg #[.slice A n c, .int .i64 0, .int .i64 0, .int .i64 0, .map none, .map none, .int .i64 0, .int .i64 0, .int .i64 0, .map none, .map none, .int .i64 0, .int .i64 0, .int .i64 0, .map none, .map none, .int .i64 0, .int .i64 0, .int .i64 0, .map none, .map none, .bool true], .pointer (some ⟨w.heap.size, 0, none⟩), .int .i64 ((4 : Nat) : Int), .bool false, u12, u13, u14, u15, u16, u17, u18, u19, .slice A n c, .func (.func 90) #[] #[.pointer (some ⟨wr.heap.size, 0, none⟩)], .int .i64 (k : Int), (l.getD k .none_).val, undef, undef, undef, undef, undef], defers := [] }) ?assign ?body ?done ?stop
      case assign =>
        intro lo k W K hk hK
        unfold encE
        generalize l.getD k .none_ = e at *
        unfold Ent.val at *
        unfold Ent.cells at *
        gi_wp2
        exact hK
      case body =>
        intro lo k W0 W hI0 hk hob hbB hTW
        have hgi : l[k]? = some (l.getD k .none_) := by
          rw [List.getD_eq_getElem?_getD, List.getElem?_eq_getElem (by rw [HLEN.out]; exact hk)]; rfl
        have hI := noted_abide (w := w) (B := w3.heap.size) (v := .slice A n c) (mp := mp) (l := l) (by omega) k W0 W hI0 hTW
        generalize l.getD k .none_ = e at *
        have hre : Right e := hr e (List.mem_of_getElem? hgi)
        have HTK : Hid (l.take (k + 1) = l.take k ++ [e]) := Lib.hid (by rw [List.take_add_one, hgi]; rfl)
        have hlk : (l.take k).length = k := by rw [List.length_take]; have := HLEN.out; omega
        have hsb : Blk W W0.heap.size 45 e.cells := hob
        have hWz : w3.heap.size + 2 ≤ W.heap.size := Nat.le_trans hbB hTW.size
        obtain ⟨q1, q2, q3, q4⟩ := hI
        have hlens := lens5 (l := l.take k) (by omega)
        have p0 : W.cell? ⟨w.heap.size + 1, 0, none⟩ = some (.pointer (some ⟨w.heap.size, 0, none⟩)) := q2.cell 0
        obtain ⟨s0, s1, s2, s3, s4, s5⟩ := hsb.six
        have hcall := note_any q1 (fun b hb => q1.lt hb) hre (p := k) hlens
        have HQ := Lib.hid (And.intro q1 (And.intro q2 (And.intro q3 q4)))
        have HE := Lib.hid hre
        have HLK := Lib.hid hlk
        clear q1 q2 q3 q4 hob hsb hI0 hTW hgi hlens hre hlk
        unfold Ent.val at *
        unfold Ent.cells at *
        try dsimp only
        gi_wp2_with fail
        refine ⟨trivial, (callsIn_wide.2 hcall).mono ?_⟩
        rintro r w9 ⟨rfl, hX9, hT9⟩
        obtain ⟨q1, q2, q3, q4⟩ := HQ.out
        have hlow : ∀ b, own w.heap.size mp b → w.heap.size ≤ b ∧ b < w3.heap.size ∧ b ≠ w.heap.size + 1 := fun b hb => by
          rcases hb with rfl | ⟨i, hi, rfl⟩
          · exact ⟨by omega, by omega, by omega⟩
          · refine ⟨(q3 i hi).1, (q3 i hi).2, fun e => ?_⟩
            have hm := q2
            rw [← e] at hm
            unfold Blk at hm
            rcases Nat.mod_two_eq_zero_or_one i with z | z
            · obtain ⟨es, c', ho⟩ := (q1.om (i / 2) (by omega)).1.obj
              rw [show 2 * (i / 2) = i by omega, hm] at ho
              cases ho
            · obtain ⟨es, c', ho⟩ := (q1.em (i / 2) (by omega)).1.obj
              rw [show 2 * (i / 2) + 1 = i by omega, hm] at ho
              cases ho
        have hBoth : Both w3.heap.size W w9 := Both.of_turn hT9 (by omega) (fun e => by have := hlow _ e; omega) (fun e => by have := hlow _ e; omega)
        have hKeep : KeepL A w.heap.size W w9 := ⟨hT9.size, fun ad e hb => hT9.block ad.block (by have := q4.size; omega) (fun e' => by have := hlow _ e'; omega)⟩
        have hN9 : Noted w w3.heap.size (.slice A n c) mp l (k + 1) w9 := by
          refine ⟨?_, q2.keep hT9 (fun e => (hlow _ e).2.2 rfl), q3, q4.trans (hT9.below q4.size (fun b e => (hlow b e).1))⟩
          rw [HTK.out]
          exact hX9.congr fun i hi => by rw [noted_wr _ HE.out hi, HLK.out]
        have HF := Lib.hid (And.intro hBoth (And.intro hKeep hN9))
        clear hBoth hKeep hN9 hX9 hT9 hlow q1 q2 q3 q4 p0 s0 s1 s2 s3 s4 s5 hcall
        gi_wp2
        exact HF.out
      case done =>
        intro W hI hK
        obtain ⟨q1, q2, q3, q4⟩ := hI
        rw [List.take_of_length_le (by rw [HLEN.out]; exact Nat.le_refl _)] at q1
        have m0 : W.cell? ⟨w.heap.size + 1, 0, none⟩ = some (.pointer (some ⟨w.heap.size, 0, none⟩)) := q2.cell 0
        have hT : Turn (two w3.heap.size) W (W.putObj w3.heap.size (.deferred none)) := turn_putObj _ _ _ (.inl rfl)
        have HF : Hid (NewT w (.slice A n c) l (.returned (.pointer (some ⟨w.heap.size, 0, none⟩))) (W.putObj w3.heap.size (.deferred none))) := Lib.hid ⟨w.heap.size, mp, rfl, q1.keepB (fun b hb => hT.block b (q1.lt hb) (fun e => by
          have hb' : b < w3.heap.size := by
            rcases hb with rfl | ⟨i, hi, rfl⟩
            · omega
            · exact (q3 i hi).2
          rcases e with e | e <;> omega)), ⟨Nat.le_refl _, fun i hi => (q3 i hi).1⟩, q4.trans (hT.below q4.size (fun b e => by rcases e with e | e <;> omega))⟩
        clear q1 q2 q3 q4 hT
        gi_wp2_with fail
        generalize hW2 : W.putObj w3.heap.size (.deferred none) = W2 at *
        refine ⟨by simp, .inl ⟨_, _, rfl, run_takeDeferred hK, ?_⟩⟩
        rw [hW2]
        exact ⟨_, results_tmp (t := 2) rfl _ _ _, HF.out⟩
      case stop => exact fun _ _ _ _ h => h.elim
end Go.Proofs.YthcphoijanebhaaDoor
