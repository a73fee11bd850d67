/-
  The document: Fence. Conditions: a controller as it is between two calls.
-/
import Derived.Test.YtpmdicbhliclcaaGreatRef43
import Derived.Test.YtpmdicbhliclcaaGreatMFence
namespace Go.Proofs.YtpmdicbhliclcaaGreat
open Go.RowKit Go.Maps
set_option linter.unusedVariables false
set_option linter.unusedSimpArgs false
/-- Between two rounds of the document's Fence. -/
structure FenR (w : World) (X : Nat → Prop) (M : Mt) (x : Int) (m z : Array Value) (ox k : Nat) (W : World) : Prop where
  wa : Wa w W w.heap.size (w.heap.size + 1) m z
  o : ∃ B1 B2 B3 d1 d2 d3, Blk W ox 36 #[.int .i64 (M.nb : Int), .int .i64 (M.np : Int), .int .i64 (M.ni : Int), .slice B1 M.nb d1, .slice B2 M.np d2, .slice B3 M.ni d3] ∧ Rf W (fun y => (X y ∨ y = w.heap.size + 1) ∨ y = ox) (M.fenceTo k x) (.agg #[.int .i64 (M.nb : Int), .int .i64 (M.np : Int), .int .i64 (M.ni : Int), .slice B1 M.nb d1, .slice B2 M.np d2, .slice B3 M.ni d3])
  ox : w.heap.size + 2 ≤ ox
  no : M.ends k x = false
theorem FenR.on {w W W' : World} {X : Nat → Prop} {M : Mt} {x : Int} {m z : Array Value} {ox k : Nat} (h : FenR w X M x m z ox k W) (hb : Below W.heap.size W W') : FenR w X M x m z ox k W' := by
  obtain ⟨h1, ⟨B1, B2, B3, d1, d2, d3, h2, h3⟩, h4, h5⟩ := h
  exact ⟨h1.below hb, ⟨B1, B2, B3, d1, d2, d3, h2.below hb h2.lt, h3.below hb⟩, h4, h5⟩
/-- A view that does not change. -/
theorem Mt.fenceTo_same {M : Mt} {k : Nat} {x : Int} (h : (M.views k).minds x = false) : M.fenceTo (k + 1) x = M.fenceTo k x := by
  rw [← Mt.fenceTo_succ]
  have hv : (M.fenceTo k x).views k = M.views k := if_neg (Nat.lt_irrefl _)
  rw [hv, show (M.views k).fence x = M.views k by unfold Vw.fence; rw [h]; simp]
  unfold Mt.setV Mt.fenceTo
  simp only [Mt.mk.injEq, true_and, and_true]
  funext p
  unfold setAt
  by_cases hp : p = k
  · subst hp; rw [if_pos rfl, if_neg (Nat.lt_irrefl _)]
  · rw [if_neg hp]
theorem Vw.minds_of {V : Vw} {x : Int} (h : V.leader = x ∨ (x ∈ V.isr ∧ 1 < V.isr.length)) : V.minds x = true := decide_eq_true h
theorem Vw.minds_no {V : Vw} {x : Int} (h : V.leader ≠ x) (h2 : ¬ (x ∈ V.isr ∧ 1 < V.isr.length)) : V.minds x = false := decide_eq_false (fun e => e.elim h h2)
theorem isr_same {V : Vw} {x : Int} (h : ¬ (x ∈ V.isr ∧ 1 < V.isr.length)) : (if 1 < V.isr.length then wout V.isr x else V.isr) = V.isr := by
  split
  · exact wout_no (fun e => h ⟨e, by assumption⟩)
  · rfl
section
variable {w : World} {X : Nat → Prop} {M : Mt} {v : Value}
set_option maxRecDepth 100000 in
set_option maxHeartbeats 8000000 in
theorem fence40_any (h : Rf w X M v) (hX : ∀ b, X b → b < w.heap.size) (hk : M.ok) (x : Int) : Calls Tryz.prog 40 #[v, .int .i64 x] w (RfP w X M (M.fenceTo M.np x) (M.fenceE x)) := by
  obtain ⟨A1, A2, A3, c1, c2, c3, rs, rfl, hR⟩ := h
  obtain ⟨M1, hM1⟩ : ∃ M1, (M.fenceTo M.np x) = M1 := ⟨_, rfl⟩
  obtain ⟨ee, hee⟩ : ∃ ee, M.fenceE x = ee := ⟨_, rfl⟩
  rw [hM1, hee]
  have HM1 := Lib.hid hM1
  have HE := Lib.hid hee
  have HR := Lib.hid hR
  have HX := Lib.hid hX
  have HK := Lib.hid hk
  have HA : Hid (Wa w ((w.alloc (.cells #[.int .i64 (M.nb : Int), .int .i64 (M.np : Int), .int .i64 (M.ni : Int), .slice A1 M.nb c1, .slice A2 M.np c2, .slice A3 M.ni c3] 36)).alloc (.cells #[.int .i64 0, .int .i64 0, .int .i64 0, .slice none 0 0, .slice none 0 0, .slice none 0 0] 36)) w.heap.size (w.heap.size + 1) #[.int .i64 (M.nb : Int), .int .i64 (M.np : Int), .int .i64 (M.ni : Int), .slice A1 M.nb c1, .slice A2 M.np c2, .slice A3 M.ni c3] #[.int .i64 0, .int .i64 0, .int .i64 0, .slice none 0 0, .slice none 0 0, .slice none 0 0]) := Lib.hid ⟨(((Below.refl w.heap.size w).alloc (Nat.le_refl _) (.cells #[.int .i64 (M.nb : Int), .int .i64 (M.np : Int), .int .i64 (M.ni : Int), .slice A1 M.nb c1, .slice A2 M.np c2, .slice A3 M.ni c3] 36)).alloc (le_alloc (Nat.le_refl _) _) (.cells #[.int .i64 0, .int .i64 0, .int .i64 0, .slice none 0 0, .slice none 0 0, .slice none 0 0] 36)), ((Blk.new w 36 _).alloc _), blk_new (w.alloc (.cells #[.int .i64 (M.nb : Int), .int .i64 (M.np : Int), .int .i64 (M.ni : Int), .slice A1 M.nb c1, .slice A2 M.np c2, .slice A3 M.ni c3] 36)) 36 _ (by simp)⟩
  have HSZ : Hid (((w.alloc (.cells #[.int .i64 (M.nb : Int), .int .i64 (M.np : Int), .int .i64 (M.ni : Int), .slice A1 M.nb c1, .slice A2 M.np c2, .slice A3 M.ni c3] 36)).alloc (.cells #[.int .i64 0, .int .i64 0, .int .i64 0, .slice none 0 0, .slice none 0 0, .slice none 0 0] 36)).heap.size = w.heap.size + 2) := Lib.hid (by simp)
  have HRX : Hid (Rf w (fun z => X z ∨ z = (w.heap.size + 1)) M (.agg #[.int .i64 (M.nb : Int), .int .i64 (M.np : Int), .int .i64 (M.ni : Int), .slice A1 M.nb c1, .slice A2 M.np c2, .slice A3 M.ni c3])) := Lib.hid (Rf.wide (X := X) ⟨_, _, _, _, _, _, _, rfl, hR⟩ (fun z hz e => e.elim id (fun e => by omega)))
  have HXX : ∀ (W : World), w.heap.size ≤ W.heap.size → (w.heap.size + 1) < W.heap.size → ∀ z, (X z ∨ z = (w.heap.size + 1)) → z < W.heap.size := fun W h1 h2 z e => e.elim (fun e => Nat.lt_of_lt_of_le (hX z e) h1) (fun e => e ▸ h2)
  have HXX := Lib.hid HXX
  clear hR hX hk hM1 hee
  go_enter Tryz.func40, Tryz.ntmps40
  go_upto_region 1 with fail
  generalize hw2 : ((w.alloc (.cells #[.int .i64 (M.nb : Int), .int .i64 (M.np : Int), .int .i64 (M.ni : Int), .slice A1 M.nb c1, .slice A2 M.np c2, .slice A3 M.ni c3] 36)).alloc (.cells #[.int .i64 0, .int .i64 0, .int .i64 0, .slice none 0 0, .slice none 0 0, .slice none 0 0] 36)) = w2 at *
  clear hw2
  have c0 : w2.cell? ⟨w.heap.size, 0, none⟩ = some (.int .i64 (M.nb : Int)) := HA.out.b.cell 0
  have c1' : w2.cell? ⟨w.heap.size, 1, none⟩ = some (.int .i64 (M.np : Int)) := HA.out.b.cell 1
  have c2' : w2.cell? ⟨w.heap.size, 2, none⟩ = some (.int .i64 (M.ni : Int)) := HA.out.b.cell 2
  have c3' : w2.cell? ⟨w.heap.size, 3, none⟩ = some (.slice A1 M.nb c1) := HA.out.b.cell 3
  have c4' : w2.cell? ⟨w.heap.size, 4, none⟩ = some (.slice A2 M.np c2) := HA.out.b.cell 4
  have c5' : w2.cell? ⟨w.heap.size, 5, none⟩ = some (.slice A3 M.ni c3) := HA.out.b.cell 5
  by_cases r0 : x < 0
  case pos =>
    have d0 : decide (x < 0) = true := decide_eq_true r0
    have R0 := Lib.hid r0
    clear r0
    go_wp2_with (with_reducible refine at_load 36 rfl ?_)
    refine Stop.go (wpList_load_blk (by rfl) 36 _ (by rfl) w.heap.size (by rfl) 36 _ HA.out.b _ und36 (by rfl) (by kernel_rfl) ?_)
    go_wp2_with (with_reducible refine at_store 36 rfl ?_)
    refine Stop.go (wpList_store_blk (by rfl) (by rfl) 36 _ _ (by rfl) (w.heap.size + 1) _ #[.int .i64 (M.nb : Int), .int .i64 (M.np : Int), .int .i64 (M.ni : Int), .slice A1 M.nb c1, .slice A2 M.np c2, .slice A3 M.ni c3] (by rfl) (by rfl) 36 HA.out.r (by rfl) (by kernel_rfl) (by simp [Value.oneCell']) ?_)
    intro w8 hB8 hg8 hs8
    have HB8 := Lib.hid hB8
    have hb8 : Below w.heap.size w w8 := below_grown HA.out.low hg8 (Nat.le_refl _) (by omega)
    have HF : Hid (Rf w8 X M (.agg #[.int .i64 (M.nb : Int), .int .i64 (M.np : Int), .int .i64 (M.ni : Int), .slice A1 M.nb c1, .slice A2 M.np c2, .slice A3 M.ni c3]) ∧ Below w.heap.size w w8) := Lib.hid ⟨⟨_, _, _, _, _, _, _, rfl, HR.out.below hb8⟩, hb8⟩
    have he : ee = 2 := by
      rw [← HE.out]
      unfold Mt.fenceE
      rw [if_pos]
      have := R0.out
      omega
    subst he
    clear hB8 hg8 hs8 hb8
    go_wp2_with fail
    refine bodyPost_ret (results_ct (by rfl) _ _ (w.heap.size + 1) 36 _ (0, 0) _ (by rfl) HB8.out und36 (by rfl) (by kernel_rfl) (by rfl)) rfl ?_
    exact ⟨_, rfl, by rw [if_neg (by decide)]; exact HF.out.1, HF.out.2⟩
  case neg =>
  have d0 : decide (x < 0) = false := decide_eq_false r0
  by_cases r1 : (M.nb : Int) ≤ x
  case pos =>
    have d1 : decide ((M.nb : Int) ≤ x) = true := decide_eq_true r1
    have R1 := Lib.hid r1
    clear r0 r1
    go_wp2_with (with_reducible refine at_load 36 rfl ?_)
    refine Stop.go (wpList_load_blk (by rfl) 36 _ (by rfl) w.heap.size (by rfl) 36 _ HA.out.b _ und36 (by rfl) (by kernel_rfl) ?_)
    go_wp2_with (with_reducible refine at_store 36 rfl ?_)
    refine Stop.go (wpList_store_blk (by rfl) (by rfl) 36 _ _ (by rfl) (w.heap.size + 1) _ #[.int .i64 (M.nb : Int), .int .i64 (M.np : Int), .int .i64 (M.ni : Int), .slice A1 M.nb c1, .slice A2 M.np c2, .slice A3 M.ni c3] (by rfl) (by rfl) 36 HA.out.r (by rfl) (by kernel_rfl) (by simp [Value.oneCell']) ?_)
    intro w8 hB8 hg8 hs8
    have HB8 := Lib.hid hB8
    have hb8 : Below w.heap.size w w8 := below_grown HA.out.low hg8 (Nat.le_refl _) (by omega)
    have HF : Hid (Rf w8 X M (.agg #[.int .i64 (M.nb : Int), .int .i64 (M.np : Int), .int .i64 (M.ni : Int), .slice A1 M.nb c1, .slice A2 M.np c2, .slice A3 M.ni c3]) ∧ Below w.heap.size w w8) := Lib.hid ⟨⟨_, _, _, _, _, _, _, rfl, HR.out.below hb8⟩, hb8⟩
    have he : ee = 2 := by
      rw [← HE.out]
      unfold Mt.fenceE
      rw [if_pos]
      have := R1.out
      omega
    subst he
    clear hB8 hg8 hs8 hb8
    go_wp2_with fail
    refine bodyPost_ret (results_ct (by rfl) _ _ (w.heap.size + 1) 36 _ (0, 0) _ (by rfl) HB8.out und36 (by rfl) (by kernel_rfl) (by rfl)) rfl ?_
    exact ⟨_, rfl, by rw [if_neg (by decide)]; exact HF.out.1, HF.out.2⟩
  case neg =>
  have d1 : decide ((M.nb : Int) ≤ x) = false := decide_eq_false r1
  obtain ⟨b, rfl⟩ : ∃ b : Nat, x = (b : Int) := ⟨x.toNat, by omega⟩
  have hp : b < M.nb := by omega
  have d9 : decide (M.nb ≤ b) = false := decide_eq_false (by omega)
  have HIN : Hid (¬ ¬ (0 ≤ (b : Int) ∧ (b : Int) < (M.nb : Int))) := Lib.hid (fun e => e ⟨by omega, by omega⟩)
  have HP := Lib.hid hp
  have hnp4 := HK.out.np.2
  clear r0 r1 hp
  go_wp2_with (with_reducible refine at_load 36 rfl ?_)
  refine Stop.go (wpList_load_blk (by rfl) 36 _ (by rfl) w.heap.size (by rfl) 36 _ HA.out.b _ und36 (by rfl) (by kernel_rfl) ?_)
  have hcall := live_any (HRX.out.below HA.out.low) (HXX.out _ HA.out.low.size HA.out.r.lt) HK.out.nb.2 HP.out false
  go_wp2_with fail
  refine hcall.mono ?_
  rintro r w7 ⟨v7, rfl, hrf, hb7⟩
  have HA7 := Lib.hid (HA.out.below hb7)
  have hrf7 := hrf
  obtain ⟨B1, B2, B3, d1x, d2x, d3x, rs7, rfl, hR7⟩ := hrf
  rw [Mt.fenceTo_zero] at hrf7
  have HRF := Lib.hid hrf7
  have HS7 : Hid (w.heap.size + 2 ≤ w7.heap.size) := Lib.hid (by have := HSZ.out; have := hb7.size; omega)
  clear hcall hrf7 hR7 hb7 c0 c1' c2' c3' c4' c5'
  go_wp2_with (with_reducible refine at_store 36 rfl ?_)
  refine Stop.go (wpList_store_blk (by rfl) (by rfl) 36 _ _ (by rfl) w7.heap.size _ #[.int .i64 (M.nb : Int), .int .i64 (M.np : Int), .int .i64 (M.ni : Int), .slice B1 M.nb d1x, .slice B2 M.np d2x, .slice B3 M.ni d3x] (by rfl) (by rfl) 36 (Blk.new w7 36 #[.int .i64 0, .int .i64 0, .int .i64 0, .slice none 0 0, .slice none 0 0, .slice none 0 0]) (by rfl) (by kernel_rfl) (by simp [Value.oneCell']) ?_)
  intro w8 hB8 hg8 hs8
  have hb78 : Below w7.heap.size w7 w8 := below_grown ((Below.refl w7.heap.size w7).alloc (Nat.le_refl _) (.cells #[.int .i64 0, .int .i64 0, .int .i64 0, .slice none 0 0, .slice none 0 0, .slice none 0 0] 36)) hg8 (Nat.le_refl _) (Nat.le_refl _)
  have HFR : Hid (FenR w X M (b : Int) #[.int .i64 (M.nb : Int), .int .i64 (M.np : Int), .int .i64 (M.ni : Int), .slice A1 M.nb c1, .slice A2 M.np c2, .slice A3 M.ni c3] #[.int .i64 0, .int .i64 0, .int .i64 0, .slice none 0 0, .slice none 0 0, .slice none 0 0] w7.heap.size 0 w8) := Lib.hid ⟨HA7.out.below hb78, ⟨_, _, _, _, _, _, hB8, (HRF.out.wide (Y := fun y => (X y ∨ y = w.heap.size + 1) ∨ y = w7.heap.size) (fun z hz e => e.elim id (fun e => by omega))).below hb78⟩, HS7.out, rfl⟩
  clear hB8 hg8 hs8 hb78 HRF HA7
  generalize w7.heap.size = ox at *
  go_wp2_with fail
  go_loopw [7] (fun i wv => ∃ q : Nat, q ≤ M.np ∧ i = .int .i64 q ∧ Hid (FenR w X M (b : Int) #[.int .i64 (M.nb : Int), .int .i64 (M.np : Int), .int .i64 (M.ni : Int), .slice A1 M.nb c1, .slice A2 M.np c2, .slice A3 M.ni c3] #[.int .i64 0, .int .i64 0, .int .i64 0, .slice none 0 0, .slice none 0 0, .slice none 0 0] ox q wv)) (fun i _ => M.np - (iOf i).toNat)
  case atStart => exact ⟨0, by omega, rfl, HFR⟩
  case round =>
    clear HFR
    obtain ⟨q, hq, rfl, HFR⟩ := hrel
    have c4' : wr.cell? ⟨w.heap.size, 4, none⟩ = some (.slice A2 M.np c2) := HFR.out.wa.b.cell 4
    by_cases hlt : q < M.np
    case neg =>
      have hd1 : decide (q < M.np) = false := decide_eq_false hlt
      have hqe : q = M.np := by omega
      rw [hqe] at HFR
      clear hlt hq hqe
      obtain ⟨h1, ⟨B1, B2, B3, d1, d2, d3, h2, h3⟩, h4, h5⟩ := HFR.out
      have HOB := Lib.hid h2
      have HOR := Lib.hid h3
      have HW := Lib.hid h1
      have HNO := Lib.hid h5
      clear h1 h2 h3 h4 h5
      go_wp2_with (with_reducible refine at_load 36 rfl ?_)
      refine Stop.go (wpList_load_blk (by rfl) 36 _ (by rfl) ox (by rfl) 36 _ HOB.out _ und36 (by rfl) (by kernel_rfl) ?_)
      go_wp2_with (with_reducible refine at_store 36 rfl ?_)
      refine Stop.go (wpList_store_blk (by rfl) (by rfl) 36 _ _ (by rfl) (w.heap.size + 1) _ #[.int .i64 (M.nb : Int), .int .i64 (M.np : Int), .int .i64 (M.ni : Int), .slice B1 M.nb d1, .slice B2 M.np d2, .slice B3 M.ni d3] (by rfl) (by rfl) 36 HW.out.r (by rfl) (by kernel_rfl) (by simp [Value.oneCell']) ?_)
      intro w8 hB8 hg8 hs8
      have HB8 := Lib.hid hB8
      have hb8 : Below w.heap.size w w8 := below_grown HW.out.low hg8 (Nat.le_refl _) (by omega)
      have hb78 : Turn (fun z => z = (w.heap.size + 1)) wr w8 := Turn.of_grown hg8 (fun r e => by injection e with e; exact e.symm)
      have HF : Hid (Rf w8 X (M.fenceTo M.np (b : Int)) (.agg #[.int .i64 (M.nb : Int), .int .i64 (M.np : Int), .int .i64 (M.ni : Int), .slice B1 M.nb d1, .slice B2 M.np d2, .slice B3 M.ni d3]) ∧ Below w.heap.size w w8) := Lib.hid ⟨(HOR.out.keep hb78 (fun z _ e => .inl (.inr e))).wide (fun z _ e => .inl (.inl e)), hb8⟩
      have he : ee = 0 := by
        rw [← HE.out]
        unfold Mt.fenceE
        rw [if_neg HIN.out]
        exact if_neg (by rw [HNO.out]; decide)
      subst he
      clear hB8 hg8 hs8 hb8 hb78
      go_wp2_with fail
      refine bodyPost_ret (results_ct (by rfl) _ _ (w.heap.size + 1) 36 _ (0, 0) _ (by rfl) HB8.out und36 (by rfl) (by kernel_rfl) (by rfl)) rfl ?_
      exact ⟨_, rfl, by rw [if_pos rfl, ← HM1.out]; exact HF.out.1, HF.out.2⟩
    case pos =>
    have hd1 : decide (q < M.np) = true := decide_eq_true hlt
    have HLT := Lib.hid hlt
    have HOK := Lib.hid (HK.out.vw q hlt)
    have hle := (HK.out.vw q hlt).len
    have hnb := HK.out.nb
    have HLE : Hid ((M.views q).isr.length ≤ 1000000) := Lib.hid (by omega)
    have HAr := Lib.hid HFR.out.wa
    have HSR : Hid (w.heap.size + 2 ≤ wr.heap.size) := Lib.hid (by have h1 := HFR.out.ox; obtain ⟨B1, B2, B3, d1, d2, d3, h2, -⟩ := HFR.out.o; have := h2.lt; omega)
    clear hle hnb
    obtain ⟨-, ⟨B1, B2, B3, d1, d2, d3, hO2, hO3⟩, hO4, hO5⟩ := HFR.out
    have HOBr := Lib.hid hO2
    have HORr := Lib.hid (hO3.wide (Y := fun y => ((X y ∨ y = w.heap.size + 1) ∨ y = ox) ∨ y = wr.heap.size) (fun z hz e => e.elim id (fun e => by omega)))
    have HNO := Lib.hid hO5
    have HOXW := Lib.hid hO4
    clear hO2 hO3 hO4 hO5
    obtain ⟨ad, eA, v0, v1, v2', v3⟩ := (HR.out.below HAr.out.low).viewCells HLT.out
    obtain ⟨As, ks, es, hrs⟩ := HR.out.vr q HLT.out
    rw [es] at v3
    have HS := Lib.hid hrs
    subst eA
    clear hrs es
    go_wp2_with (with_reducible refine at_store 47 rfl ?_)
    refine Stop.go (wpList_store_blk (by rfl) (by rfl) 47 _ _ (by rfl) wr.heap.size _ #[.int .i64 (M.views q).leader, .int .i64 (M.views q).epoch, .int .i64 (M.views q).version, .slice As (M.views q).isr.length ks] (by rfl) (by rfl) 47 (Blk.new wr 47 #[.int .i64 0, .int .i64 0, .int .i64 0, .slice none 0 0]) (by rfl) (by kernel_rfl) (by simp [Value.oneCell']) ?_)
    intro w3 hB3 hg3 hs3
    have hal3 : Below wr.heap.size wr w3 := below_grown ((Below.refl wr.heap.size wr).alloc (Nat.le_refl _) (.cells #[.int .i64 0, .int .i64 0, .int .i64 0, .slice none 0 0] 47)) hg3 (Nat.le_refl _) (Nat.le_refl _)
    have HA3 := Lib.hid (HAr.out.below hal3)
    have HL3 := Lib.hid hB3
    have HF3 := Lib.hid (HFR.out.on hal3)
    have HOB3 := Lib.hid (HOBr.out.below hal3 HOBr.out.lt)
    have HOR3 := Lib.hid (HORr.out.below hal3)
    have HLX : Hid (w.heap.size + 2 ≤ wr.heap.size) := Lib.hid HSR.out
    clear hB3 hg3 hs3 hal3 v0 v1 v2' v3 c4' HSR
    have HOXL : ox < wr.heap.size := by obtain ⟨B1, B2, B3, d1, d2, d3, h2, -⟩ := HFR.out.o; exact h2.lt
    generalize wr.heap.size = lx at *
    clear HAr
    have HOX := Lib.hid HOXL
    clear HOXL HFR
    by_cases hld : (M.views q).leader = (b : Int)
    case pos =>
      have ed := eqb hld
      have HLD := Lib.hid hld
      clear hld
      have hin : ∀ W, Below w3.heap.size w3 W → Calls Tryz.prog 22 #[.slice As (M.views q).isr.length ks, .int .i64 (b : Int)] W (fun r w' => r = .returned (.bool (decide ((b : Int) ∈ (M.views q).isr))) ∧ w' = W) := fun W hW => refIn_any (c := ks) ((HS.out.below HA3.out.low).below hW) HLE.out (b : Int)
      by_cases hm : (b : Int) ∈ (M.views q).isr
      case neg =>
        have HM := Lib.hid hm
        rw [decide_eq_false hm] at hin
        clear hm
        go_upto_region 8 with fail
        refine wp_region_np ?_
        refine wp_region_held_drew (S := fun W => Blk W lx 47 #[.int .i64 (M.views q).leader, .int .i64 (M.views q).epoch, .int .i64 (M.views q).version, .slice As (M.views q).isr.length ks]) (by kernel_rfl) (show (fun W => Blk W lx 47 #[.int .i64 (M.views q).leader, .int .i64 (M.views q).epoch, .int .i64 (M.views q).version, .slice As (M.views q).isr.length ks]) w3.drew from HL3.out.drew) (fun hHeld => ?_)
        have hb0 : Below w3.heap.size w3 w3.drew := (Below.refl _ _).drew
        generalize hv0 : w3.drew = V0 at *
        clear hv0
        refine wpAnyH_takeAt (i := 0) (d := 36) (v := ?vq0x) rfl rfl (by kernel_rfl) (by kernel_rfl) (by kernel_rfl) (fun _ _ _ h => h) (Or.inl ⟨by rfl, ?hyq0x⟩) hHeld ?_
        case hyq0x =>
          intro W hSw
          clear hSw
          (go_simp; try with_reducible rfl)
        simp only [List.setIfInBounds_toArray, List.set_cons_zero, List.set_cons_succ]
        refine wpAnyH_takeAt (i := 1) (d := 37) (v := ?vq1x) rfl rfl (by kernel_rfl) (by kernel_rfl) (by kernel_rfl) (fun _ _ _ h => h) (Or.inl ⟨by rfl, ?hyq1x⟩) hHeld ?_
        case hyq1x =>
          intro W hSw
          have kl := hSw; have s0 : W.cell? ⟨lx, 0, none⟩ = some (.int .i64 (M.views q).leader) := kl.cell 0; have s3 : W.cell? ⟨lx, 3, none⟩ = some (.slice As (M.views q).isr.length ks) := kl.cell 3; clear kl hSw
          (go_simp; try with_reducible rfl)
        simp only [List.setIfInBounds_toArray, List.set_cons_zero, List.set_cons_succ]
        refine wpAnyH_takeAt (i := 2) (d := 38) (v := ?vq2x) rfl rfl (by kernel_rfl) (by kernel_rfl) (by kernel_rfl) (fun _ _ _ h => h) (Or.inl ⟨by rfl, ?hyq2x⟩) hHeld ?_
        case hyq2x =>
          intro W hSw
          clear hSw
          (go_simp; try with_reducible rfl)
        simp only [List.setIfInBounds_toArray, List.set_cons_zero, List.set_cons_succ]
        refine wpAnyH_takeAt (i := 3) (d := 39) (v := ?vq3x) rfl rfl (by kernel_rfl) (by kernel_rfl) (by kernel_rfl) (fun _ _ _ h => h) (Or.inl ⟨by rfl, ?hyq3x⟩) hHeld ?_
        case hyq3x =>
          intro W hSw
          clear hSw
          (go_simp; try with_reducible rfl)
        simp only [List.setIfInBounds_toArray, List.set_cons_zero, List.set_cons_succ]
        refine wpAnyH_takeAt (i := 4) (d := 40) (v := ?vq4x) rfl rfl (by kernel_rfl) (by kernel_rfl) (by kernel_rfl) (fun _ _ _ h => h) (Or.inl ⟨by rfl, ?hyq4x⟩) hHeld ?_
        case hyq4x =>
          intro W hSw
          clear hSw
          (go_simp; try with_reducible rfl)
        simp only [List.setIfInBounds_toArray, List.set_cons_zero, List.set_cons_succ]
        refine wpAnyH_takeAt (i := 5) (d := 41) (v := ?vq5x) rfl rfl (by kernel_rfl) (by kernel_rfl) (by kernel_rfl) (fun _ _ _ h => h) (Or.inl ⟨by rfl, ?hyq5x⟩) hHeld ?_
        case hyq5x =>
          intro W hSw
          have kl := hSw; have s0 : W.cell? ⟨lx, 0, none⟩ = some (.int .i64 (M.views q).leader) := kl.cell 0; have s3 : W.cell? ⟨lx, 3, none⟩ = some (.slice As (M.views q).isr.length ks) := kl.cell 3; clear kl hSw
          (go_simp; try with_reducible rfl)
        simp only [List.setIfInBounds_toArray, List.set_cons_zero, List.set_cons_succ]
        refine wpAnyH_takeAt (i := 6) (d := 42) (v := ?vq6x) rfl rfl (by kernel_rfl) (by kernel_rfl) (by kernel_rfl) (fun _ _ _ h => h) (Or.inl ⟨by rfl, ?hyq6x⟩) hHeld ?_
        case hyq6x =>
          intro W hSw
          clear hSw
          (go_simp; try with_reducible rfl)
        simp only [List.setIfInBounds_toArray, List.set_cons_zero, List.set_cons_succ]
        refine wpAnyH_ready (rs := [7]) (by kernel_rfl) (by simp) (AllReadyH.cons rfl (fun K hK => ?_) AllReadyH.nil)
        go_simp
        refine (hin V0 hb0).mono ?_
        rintro r V1 ⟨rfl, hV1⟩
        rw [hV1]
        dsimp only
        refine hK.out _ _ hHeld (fun hHeld => ?_)
        clear hK K hin hV1
        try simp only [List.setIfInBounds_toArray, List.set_cons_zero, List.set_cons_succ]
        refine wpAnyH_takeAt (i := 8) (d := 44) (v := ?vq7x) rfl rfl (by kernel_rfl) (by kernel_rfl) (by kernel_rfl) (fun _ _ _ h => h) (Or.inl ⟨by rfl, ?hyq7x⟩) hHeld ?_
        case hyq7x =>
          intro W hSw
          clear hSw
          (go_simp; try with_reducible rfl)
        simp only [List.setIfInBounds_toArray, List.set_cons_zero, List.set_cons_succ]
        refine wpAnyH_takeAt (i := 9) (d := 45) (v := undef) rfl rfl (by kernel_rfl) (by kernel_rfl) (by kernel_rfl) (fun _ _ _ h => h) (Or.inr ⟨by rfl, rfl⟩) hHeld ?_
        simp only [List.setIfInBounds_toArray, List.set_cons_zero, List.set_cons_succ]
        refine wpAnyH_takeAt (i := 10) (d := 46) (v := undef) rfl rfl (by kernel_rfl) (by kernel_rfl) (by kernel_rfl) (fun _ _ _ h => h) (Or.inr ⟨by rfl, rfl⟩) hHeld ?_
        simp only [List.setIfInBounds_toArray, List.set_cons_zero, List.set_cons_succ]
        refine wpAnyH_takeAt (i := 11) (d := 47) (v := undef) rfl rfl (by kernel_rfl) (by kernel_rfl) (by kernel_rfl) (fun _ _ _ h => h) (Or.inr ⟨by rfl, rfl⟩) hHeld ?_
        simp only [List.setIfInBounds_toArray, List.set_cons_zero, List.set_cons_succ]
        refine wpAnyH_takeAt (i := 12) (d := 48) (v := undef) rfl rfl (by kernel_rfl) (by kernel_rfl) (by kernel_rfl) (fun _ _ _ h => h) (Or.inr ⟨by rfl, rfl⟩) hHeld ?_
        simp only [List.setIfInBounds_toArray, List.set_cons_zero, List.set_cons_succ]
        refine wpAnyH_takeAt (i := 13) (d := 49) (v := ?vq8x) rfl rfl (by kernel_rfl) (by kernel_rfl) (by kernel_rfl) (fun _ _ _ h => h) (Or.inl ⟨by rfl, ?hyq8x⟩) hHeld ?_
        case hyq8x =>
          intro W hSw
          clear hSw
          (go_simp; try with_reducible rfl)
        simp only [List.setIfInBounds_toArray, List.set_cons_zero, List.set_cons_succ]
        refine wpAnyH_takeAt (i := 14) (d := 9) (v := ?vq9x) rfl rfl (by kernel_rfl) (by kernel_rfl) (by kernel_rfl) (fun _ _ _ h => h) (Or.inl ⟨by rfl, ?hyq9x⟩) hHeld ?_
        case hyq9x =>
          intro W hSw
          clear hSw
          (go_simp; try with_reducible rfl)
        simp only [List.setIfInBounds_toArray, List.set_cons_zero, List.set_cons_succ]
        refine wpAnyH_takeAt (i := 15) (d := 10) (v := ?vq10x) rfl rfl (by kernel_rfl) (by kernel_rfl) (by kernel_rfl) (fun _ _ _ h => h) (Or.inl ⟨by rfl, ?hyq10x⟩) hHeld ?_
        case hyq10x =>
          intro W hSw
          clear hSw
          (go_simp; try with_reducible rfl)
        simp only [List.setIfInBounds_toArray, List.set_cons_zero, List.set_cons_succ]
        refine wpAnyH_done (by kernel_rfl) ?_ _
        have HA3 := Lib.hid (HA3.out.below hb0)
        have HL3 := Lib.hid hHeld
        have HF3 := Lib.hid (HF3.out.on hb0)
        have hb0' := hb0
        clear hHeld hb0
        have l1 : V0.cell? ⟨lx, 1, none⟩ = some (.int .i64 (M.views q).epoch) := HL3.out.cell 1
        have l2 : V0.cell? ⟨lx, 2, none⟩ = some (.int .i64 (M.views q).version) := HL3.out.cell 2
        have l3 : V0.cell? ⟨lx, 3, none⟩ = some (.slice As (M.views q).isr.length ks) := HL3.out.cell 3
        have HMI : Hid ((M.views q).minds (b : Int) = true) := Lib.hid (Vw.minds_of (.inl HLD.out))
        have HOB0 := Lib.hid (HOB3.out.below hb0' HOB3.out.lt)
        have HOR0 := Lib.hid (HOR3.out.below hb0')
        have HVQ : Hid ((M.fenceTo q (b : Int)).views q = M.views q) := Lib.hid (if_neg (Nat.lt_irrefl _))
        clear hb0'
        by_cases he0 : (M.views q).epoch = 2147483647
        case pos =>
          have e0 := eqb he0
          have HV9 := Lib.hid he0
          clear he0
          go_wp2_with (with_reducible refine at_load 36 rfl ?_)
          refine Stop.go (wpList_load_blk (by rfl) 36 _ (by rfl) w.heap.size (by rfl) 36 _ HA3.out.b _ und36 (by rfl) (by kernel_rfl) ?_)
          go_wp2_with (with_reducible refine at_store 36 rfl ?_)
          refine Stop.go (wpList_store_blk (by rfl) (by rfl) 36 _ _ (by rfl) (w.heap.size + 1) _ #[.int .i64 (M.nb : Int), .int .i64 (M.np : Int), .int .i64 (M.ni : Int), .slice A1 M.nb c1, .slice (some ad) M.np c2, .slice A3 M.ni c3] (by rfl) (by rfl) 36 HA3.out.r (by rfl) (by kernel_rfl) (by simp [Value.oneCell']) ?_)
          intro w8 hB8 hg8 hs8
          have HB8 := Lib.hid hB8
          have hb8 : Below w.heap.size w w8 := below_grown HA3.out.low hg8 (Nat.le_refl _) (by omega)
          have HF : Hid (Rf w8 X M (.agg #[.int .i64 (M.nb : Int), .int .i64 (M.np : Int), .int .i64 (M.ni : Int), .slice A1 M.nb c1, .slice (some ad) M.np c2, .slice A3 M.ni c3]) ∧ Below w.heap.size w w8) := Lib.hid ⟨⟨_, _, _, _, _, _, _, rfl, HR.out.below hb8⟩, hb8⟩
          have he : ee = 204 := by
            rw [← HE.out]
            unfold Mt.fenceE
            rw [if_neg HIN.out]
            exact if_pos (Mt.ends_of HLT.out HMI.out (by have h9 := HV9.out; have h8 := HOK.out.ev; have h7 := HOK.out.v1; omega))
          subst he
          clear hB8 hg8 hs8 hb8
          go_wp2_with fail
          refine bodyPost_ret (results_ct (by rfl) _ _ (w.heap.size + 1) 36 _ (0, 0) _ (by rfl) HB8.out und36 (by rfl) (by kernel_rfl) (by rfl)) rfl ?_
          exact ⟨_, rfl, by rw [if_neg (by decide)]; exact HF.out.1, HF.out.2⟩
        case neg =>
        have e0 := neb he0
        have we : IntKind.i64.wrap ((M.views q).epoch + 1) = (M.views q).epoch + 1 := by have := HOK.out.e0; have := HOK.out.ev; have := HOK.out.v1; rw [IntWalk.i64_in _ (by omega)]
        clear he0
        have l0 : V0.cell? ⟨lx, 0, none⟩ = some (.int .i64 (M.views q).leader) := HL3.out.cell 0
        have hS0 := HL3.out
        have k0 : (V0).cell? ⟨lx, 0, none⟩ = some (.int .i64 (M.views q).leader) := hS0.cell 0
        have g0 := hS0.frozen 0
        have hS1 : Blk ((V0).setCell ⟨lx, 0, none⟩ (.int .i64 (-1))) lx 47 #[.int .i64 (-1), .int .i64 (M.views q).epoch, .int .i64 (M.views q).version, .slice As (M.views q).isr.length ks] := hS0.set_ 0 (.int .i64 (-1))
        have k1 : ((V0).setCell ⟨lx, 0, none⟩ (.int .i64 (-1))).cell? ⟨lx, 1, none⟩ = some (.int .i64 (M.views q).epoch) := hS1.cell 1
        have g1 := hS1.frozen 1
        have hS2 : Blk (((V0).setCell ⟨lx, 0, none⟩ (.int .i64 (-1))).setCell ⟨lx, 1, none⟩ (.int .i64 ((M.views q).epoch + 1))) lx 47 #[.int .i64 (-1), .int .i64 ((M.views q).epoch + 1), .int .i64 (M.views q).version, .slice As (M.views q).isr.length ks] := hS1.set_ 1 (.int .i64 ((M.views q).epoch + 1))
        have hT9 : Turn (fun z => z = lx) (V0) (((V0).setCell ⟨lx, 0, none⟩ (.int .i64 (-1))).setCell ⟨lx, 1, none⟩ (.int .i64 ((M.views q).epoch + 1))) := (((Turn.refl (fun z => z = lx) (V0)).setCell (p := ⟨lx, 0, none⟩) (fun _ => rfl) (.int .i64 (-1))).setCell (p := ⟨lx, 1, none⟩) (fun _ => rfl) (.int .i64 ((M.views q).epoch + 1)))
        have HOB0 := Lib.hid (HOB0.out.keep hT9 (fun e => by have := HOX.out; omega))
        have HOR0 := Lib.hid (HOR0.out.keep hT9 (fun z _ e => .inr e))
        have HA4 := Lib.hid (HA3.out.on hT9 (fun z e => by have := HLX.out; omega) (fun e => by have := HLX.out; omega) (fun e => by have := HLX.out; omega))
        have HL4 := Lib.hid hS2
        clear hT9 hS0 hS1 hS2
        go_upto_region 13 with fail
        generalize ((V0).setCell ⟨lx, 0, none⟩ (.int .i64 (-1))).setCell ⟨lx, 1, none⟩ (.int .i64 ((M.views q).epoch + 1)) = w4 at *
        clear k0 g0 k1 g1
        clear l0 l1 l2 l3
        have l2 : w4.cell? ⟨lx, 2, none⟩ = some (.int .i64 (M.views q).version) := HL4.out.cell 2
        have l3 : w4.cell? ⟨lx, 3, none⟩ = some (.slice As (M.views q).isr.length ks) := HL4.out.cell 3
        by_cases hv0 : (M.views q).version = 2147483647
        case pos =>
          have e1 := eqb hv0
          have HV9 := Lib.hid hv0
          clear hv0
          go_wp2_with (with_reducible refine at_load 36 rfl ?_)
          refine Stop.go (wpList_load_blk (by rfl) 36 _ (by rfl) w.heap.size (by rfl) 36 _ HA4.out.b _ und36 (by rfl) (by kernel_rfl) ?_)
          go_wp2_with (with_reducible refine at_store 36 rfl ?_)
          refine Stop.go (wpList_store_blk (by rfl) (by rfl) 36 _ _ (by rfl) (w.heap.size + 1) _ #[.int .i64 (M.nb : Int), .int .i64 (M.np : Int), .int .i64 (M.ni : Int), .slice A1 M.nb c1, .slice (some ad) M.np c2, .slice A3 M.ni c3] (by rfl) (by rfl) 36 HA4.out.r (by rfl) (by kernel_rfl) (by simp [Value.oneCell']) ?_)
          intro w8 hB8 hg8 hs8
          have HB8 := Lib.hid hB8
          have hb8 : Below w.heap.size w w8 := below_grown HA4.out.low hg8 (Nat.le_refl _) (by omega)
          have HF : Hid (Rf w8 X M (.agg #[.int .i64 (M.nb : Int), .int .i64 (M.np : Int), .int .i64 (M.ni : Int), .slice A1 M.nb c1, .slice (some ad) M.np c2, .slice A3 M.ni c3]) ∧ Below w.heap.size w w8) := Lib.hid ⟨⟨_, _, _, _, _, _, _, rfl, HR.out.below hb8⟩, hb8⟩
          have he : ee = 204 := by
            rw [← HE.out]
            unfold Mt.fenceE
            rw [if_neg HIN.out]
            exact if_pos (Mt.ends_of HLT.out HMI.out (HV9.out))
          subst he
          clear hB8 hg8 hs8 hb8
          go_wp2_with fail
          refine bodyPost_ret (results_ct (by rfl) _ _ (w.heap.size + 1) 36 _ (0, 0) _ (by rfl) HB8.out und36 (by rfl) (by kernel_rfl) (by rfl)) rfl ?_
          exact ⟨_, rfl, by rw [if_neg (by decide)]; exact HF.out.1, HF.out.2⟩
        case neg =>
        have e1 := neb hv0
        have HNV := Lib.hid hv0
        clear hv0
        have HFV : Hid ((M.views q).fence (b : Int) = { leader := -1, epoch := (M.views q).epoch + 1, version := (M.views q).version + 1, isr := (M.views q).isr }) := Lib.hid (by
          have hI : (if 1 < (M.views q).isr.length then wout (M.views q).isr (b : Int) else (M.views q).isr) = (M.views q).isr := by exact isr_same (fun e => HM.out e.1)
          unfold Vw.fence
          rw [if_pos HMI.out, hI, if_pos HLD.out, if_pos HLD.out])
        have wv : IntKind.i64.wrap ((M.views q).version + 1) = (M.views q).version + 1 := by have := HOK.out.e0; have := HOK.out.ev; have := HOK.out.v1; rw [IntWalk.i64_in _ (by omega)]
        have hS0 := HL4.out
        have k0 : (w4).cell? ⟨lx, 2, none⟩ = some (.int .i64 (M.views q).version) := hS0.cell 2
        have g0 := hS0.frozen 2
        have hS1 : Blk ((w4).setCell ⟨lx, 2, none⟩ (.int .i64 ((M.views q).version + 1))) lx 47 #[.int .i64 (-1), .int .i64 ((M.views q).epoch + 1), .int .i64 ((M.views q).version + 1), .slice As (M.views q).isr.length ks] := hS0.set_ 2 (.int .i64 ((M.views q).version + 1))
        have hT9 : Turn (fun z => z = lx) (w4) ((w4).setCell ⟨lx, 2, none⟩ (.int .i64 ((M.views q).version + 1))) := ((Turn.refl (fun z => z = lx) (w4)).setCell (p := ⟨lx, 2, none⟩) (fun _ => rfl) (.int .i64 ((M.views q).version + 1)))
        have HOB := Lib.hid (HOB0.out.keep hT9 (fun e => by have := HOX.out; omega))
        have HOR := Lib.hid ((HOR0.out.keep hT9 (fun z _ e => .inr e)).wide (Y := fun y => (X y ∨ y = w.heap.size + 1) ∨ y = ox) (fun z _ e => .inl e))
        have HT6 := Lib.hid hT9
        have HA6 := Lib.hid (HA4.out.on hT9 (fun z e => by have := HLX.out; omega) (fun e => by have := HLX.out; omega) (fun e => by have := HLX.out; omega))
        have HL6 := Lib.hid hS1
        clear hT9 hS0 hS1
        go_upto_region 19 with fail
        generalize (w4).setCell ⟨lx, 2, none⟩ (.int .i64 ((M.views q).version + 1)) = w6 at *
        clear k0 g0
        go_wp2_with (with_reducible refine at_load 36 rfl ?_)
        refine Stop.go (wpList_load_blk (by rfl) 36 _ (by rfl) ox (by rfl) 36 _ HOB.out _ und36 (by rfl) (by kernel_rfl) ?_)
        go_wp2_with (with_reducible refine at_load 47 rfl ?_)
        refine Stop.go (wpList_load_blk (by rfl) 47 _ (by rfl) lx (by rfl) 47 _ HL6.out _ und47 (by rfl) (by kernel_rfl) ?_)
        have hcall := view103_any (M := M.fenceTo q (b : Int)) HOR.out (fun z e => by have h1 := HOB.out.lt; have h2 := HA6.out.r.lt; have h3 := HA6.out.low.size; exact e.elim (fun e => e.elim (fun e => by have := HX.out z e; omega) (fun e => by omega)) (fun e => by omega)) HK.out.np.2 HK.out.np.2 HLT.out ((M.views q).fence (b : Int)) (s := .slice As (M.views q).isr.length ks) ⟨As, ks, by rw [HFV.out], by rw [HFV.out]; exact (HS.out.wide (fun z hz e => e.elim (fun e => e.elim id (fun e => by omega)) (fun e => by have := HOXW.out; omega))).below HA6.out.low⟩
        rw [HFV.out] at hcall
        go_wp2_with fail
        refine hcall.mono ?_
        rintro r w7 ⟨v7, rfl, hrf, hb7⟩
        have HA7 := Lib.hid (HA6.out.below hb7)
        have HOB7 := Lib.hid (HOB.out.below hb7 HOB.out.lt)
        have hrf7 := hrf
        obtain ⟨E1, E2, E3, f1, f2, f3, rs7, rfl, hR7⟩ := hrf
        have HRF := Lib.hid hrf7
        clear hcall hrf7 hR7 hb7
        go_wp2_with (with_reducible refine at_store 36 rfl ?_)
        refine Stop.go (wpList_store_blk (by rfl) (by rfl) 36 _ _ (by rfl) ox _ #[.int .i64 (M.nb : Int), .int .i64 (M.np : Int), .int .i64 (M.ni : Int), .slice E1 M.nb f1, .slice E2 M.np f2, .slice E3 M.ni f3] (by rfl) (by rfl) 36 HOB7.out (by rfl) (by kernel_rfl) (by simp [Value.oneCell']) ?_)
        intro w8 hB8 hg8 hs8
        have hT8 : Turn (fun z => z = ox) w7 w8 := Turn.of_grown hg8 (fun r e => by injection e with e; exact e.symm)
        have HN : Hid (FenR w X M (b : Int) #[.int .i64 (M.nb : Int), .int .i64 (M.np : Int), .int .i64 (M.ni : Int), .slice A1 M.nb c1, .slice (some ad) M.np c2, .slice A3 M.ni c3] #[.int .i64 0, .int .i64 0, .int .i64 0, .slice none 0 0, .slice none 0 0, .slice none 0 0] ox (q + 1) w8) := Lib.hid ⟨HA7.out.on hT8 (fun z e => by have := HOXW.out; omega) (fun e => by have := HOXW.out; omega) (fun e => by have := HOXW.out; omega), ⟨_, _, _, _, _, _, hB8, by
          rw [← Mt.fenceTo_succ, HVQ.out, HFV.out]
          exact HRF.out.keep hT8 (fun z _ e => .inr e)⟩, HOXW.out, by rw [Mt.ends_succ, HNO.out, decide_eq_false HNV.out]; simp⟩
        clear hB8 hg8 hs8 hT8
        go_wp2_with fail
        go_round
        case rel => exact ⟨q + 1, HLT.out, by go_num, HN⟩
        case measure => simp [iOf]; omega
      case pos =>
      have HM := Lib.hid hm
      rw [decide_eq_true hm] at hin
      clear hm
      by_cases hl1 : 1 < (M.views q).isr.length
      case neg =>
        have dl : decide (1 < (M.views q).isr.length) = false := decide_eq_false hl1
        have dl2 : decide ((1 : Int) < ((M.views q).isr.length : Int)) = false := decide_eq_false (by omega)
        have HL1 := Lib.hid hl1
        clear hl1
        go_upto_region 8 with fail
        refine wp_region_np ?_
        refine wp_region_held_drew (S := fun W => Blk W lx 47 #[.int .i64 (M.views q).leader, .int .i64 (M.views q).epoch, .int .i64 (M.views q).version, .slice As (M.views q).isr.length ks]) (by kernel_rfl) (show (fun W => Blk W lx 47 #[.int .i64 (M.views q).leader, .int .i64 (M.views q).epoch, .int .i64 (M.views q).version, .slice As (M.views q).isr.length ks]) w3.drew from HL3.out.drew) (fun hHeld => ?_)
        have hb0 : Below w3.heap.size w3 w3.drew := (Below.refl _ _).drew
        generalize hv0 : w3.drew = V0 at *
        clear hv0
        refine wpAnyH_takeAt (i := 0) (d := 36) (v := ?vq11x) rfl rfl (by kernel_rfl) (by kernel_rfl) (by kernel_rfl) (fun _ _ _ h => h) (Or.inl ⟨by rfl, ?hyq11x⟩) hHeld ?_
        case hyq11x =>
          intro W hSw
          clear hSw
          (go_simp; try with_reducible rfl)
        simp only [List.setIfInBounds_toArray, List.set_cons_zero, List.set_cons_succ]
        refine wpAnyH_takeAt (i := 1) (d := 37) (v := ?vq12x) rfl rfl (by kernel_rfl) (by kernel_rfl) (by kernel_rfl) (fun _ _ _ h => h) (Or.inl ⟨by rfl, ?hyq12x⟩) hHeld ?_
        case hyq12x =>
          intro W hSw
          have kl := hSw; have s0 : W.cell? ⟨lx, 0, none⟩ = some (.int .i64 (M.views q).leader) := kl.cell 0; have s3 : W.cell? ⟨lx, 3, none⟩ = some (.slice As (M.views q).isr.length ks) := kl.cell 3; clear kl hSw
          (go_simp; try with_reducible rfl)
        simp only [List.setIfInBounds_toArray, List.set_cons_zero, List.set_cons_succ]
        refine wpAnyH_takeAt (i := 2) (d := 38) (v := ?vq13x) rfl rfl (by kernel_rfl) (by kernel_rfl) (by kernel_rfl) (fun _ _ _ h => h) (Or.inl ⟨by rfl, ?hyq13x⟩) hHeld ?_
        case hyq13x =>
          intro W hSw
          clear hSw
          (go_simp; try with_reducible rfl)
        simp only [List.setIfInBounds_toArray, List.set_cons_zero, List.set_cons_succ]
        refine wpAnyH_takeAt (i := 3) (d := 39) (v := ?vq14x) rfl rfl (by kernel_rfl) (by kernel_rfl) (by kernel_rfl) (fun _ _ _ h => h) (Or.inl ⟨by rfl, ?hyq14x⟩) hHeld ?_
        case hyq14x =>
          intro W hSw
          clear hSw
          (go_simp; try with_reducible rfl)
        simp only [List.setIfInBounds_toArray, List.set_cons_zero, List.set_cons_succ]
        refine wpAnyH_takeAt (i := 4) (d := 40) (v := ?vq15x) rfl rfl (by kernel_rfl) (by kernel_rfl) (by kernel_rfl) (fun _ _ _ h => h) (Or.inl ⟨by rfl, ?hyq15x⟩) hHeld ?_
        case hyq15x =>
          intro W hSw
          clear hSw
          (go_simp; try with_reducible rfl)
        simp only [List.setIfInBounds_toArray, List.set_cons_zero, List.set_cons_succ]
        refine wpAnyH_takeAt (i := 5) (d := 41) (v := ?vq16x) rfl rfl (by kernel_rfl) (by kernel_rfl) (by kernel_rfl) (fun _ _ _ h => h) (Or.inl ⟨by rfl, ?hyq16x⟩) hHeld ?_
        case hyq16x =>
          intro W hSw
          have kl := hSw; have s0 : W.cell? ⟨lx, 0, none⟩ = some (.int .i64 (M.views q).leader) := kl.cell 0; have s3 : W.cell? ⟨lx, 3, none⟩ = some (.slice As (M.views q).isr.length ks) := kl.cell 3; clear kl hSw
          (go_simp; try with_reducible rfl)
        simp only [List.setIfInBounds_toArray, List.set_cons_zero, List.set_cons_succ]
        refine wpAnyH_takeAt (i := 6) (d := 42) (v := ?vq17x) rfl rfl (by kernel_rfl) (by kernel_rfl) (by kernel_rfl) (fun _ _ _ h => h) (Or.inl ⟨by rfl, ?hyq17x⟩) hHeld ?_
        case hyq17x =>
          intro W hSw
          clear hSw
          (go_simp; try with_reducible rfl)
        simp only [List.setIfInBounds_toArray, List.set_cons_zero, List.set_cons_succ]
        refine wpAnyH_ready (rs := [7]) (by kernel_rfl) (by simp) (AllReadyH.cons rfl (fun K hK => ?_) AllReadyH.nil)
        go_simp
        refine (hin V0 hb0).mono ?_
        rintro r V1 ⟨rfl, hV1⟩
        rw [hV1]
        dsimp only
        refine hK.out _ _ hHeld (fun hHeld => ?_)
        clear hK K hin hV1
        try simp only [List.setIfInBounds_toArray, List.set_cons_zero, List.set_cons_succ]
        refine wpAnyH_takeAt (i := 8) (d := 44) (v := ?vq18x) rfl rfl (by kernel_rfl) (by kernel_rfl) (by kernel_rfl) (fun _ _ _ h => h) (Or.inl ⟨by rfl, ?hyq18x⟩) hHeld ?_
        case hyq18x =>
          intro W hSw
          clear hSw
          (go_simp; try with_reducible rfl)
        simp only [List.setIfInBounds_toArray, List.set_cons_zero, List.set_cons_succ]
        refine wpAnyH_takeAt (i := 9) (d := 45) (v := ?vq19x) rfl rfl (by kernel_rfl) (by kernel_rfl) (by kernel_rfl) (fun _ _ _ h => h) (Or.inl ⟨by rfl, ?hyq19x⟩) hHeld ?_
        case hyq19x =>
          intro W hSw
          clear hSw
          (go_simp; try with_reducible rfl)
        simp only [List.setIfInBounds_toArray, List.set_cons_zero, List.set_cons_succ]
        refine wpAnyH_takeAt (i := 10) (d := 46) (v := ?vq20x) rfl rfl (by kernel_rfl) (by kernel_rfl) (by kernel_rfl) (fun _ _ _ h => h) (Or.inl ⟨by rfl, ?hyq20x⟩) hHeld ?_
        case hyq20x =>
          intro W hSw
          have kl := hSw; have s0 : W.cell? ⟨lx, 0, none⟩ = some (.int .i64 (M.views q).leader) := kl.cell 0; have s3 : W.cell? ⟨lx, 3, none⟩ = some (.slice As (M.views q).isr.length ks) := kl.cell 3; clear kl hSw
          (go_simp; try with_reducible rfl)
        simp only [List.setIfInBounds_toArray, List.set_cons_zero, List.set_cons_succ]
        refine wpAnyH_takeAt (i := 11) (d := 47) (v := ?vq21x) rfl rfl (by kernel_rfl) (by kernel_rfl) (by kernel_rfl) (fun _ _ _ h => h) (Or.inl ⟨by rfl, ?hyq21x⟩) hHeld ?_
        case hyq21x =>
          intro W hSw
          clear hSw
          (go_simp; try with_reducible rfl)
        simp only [List.setIfInBounds_toArray, List.set_cons_zero, List.set_cons_succ]
        refine wpAnyH_takeAt (i := 12) (d := 48) (v := ?vq22x) rfl rfl (by kernel_rfl) (by kernel_rfl) (by kernel_rfl) (fun _ _ _ h => h) (Or.inl ⟨by rfl, ?hyq22x⟩) hHeld ?_
        case hyq22x =>
          intro W hSw
          clear hSw
          (go_simp; try with_reducible rfl)
        simp only [List.setIfInBounds_toArray, List.set_cons_zero, List.set_cons_succ]
        refine wpAnyH_takeAt (i := 13) (d := 49) (v := ?vq23x) rfl rfl (by kernel_rfl) (by kernel_rfl) (by kernel_rfl) (fun _ _ _ h => h) (Or.inl ⟨by rfl, ?hyq23x⟩) hHeld ?_
        case hyq23x =>
          intro W hSw
          clear hSw
          (go_simp; try with_reducible rfl)
        simp only [List.setIfInBounds_toArray, List.set_cons_zero, List.set_cons_succ]
        refine wpAnyH_takeAt (i := 14) (d := 9) (v := ?vq24x) rfl rfl (by kernel_rfl) (by kernel_rfl) (by kernel_rfl) (fun _ _ _ h => h) (Or.inl ⟨by rfl, ?hyq24x⟩) hHeld ?_
        case hyq24x =>
          intro W hSw
          clear hSw
          (go_simp; try with_reducible rfl)
        simp only [List.setIfInBounds_toArray, List.set_cons_zero, List.set_cons_succ]
        refine wpAnyH_takeAt (i := 15) (d := 10) (v := ?vq25x) rfl rfl (by kernel_rfl) (by kernel_rfl) (by kernel_rfl) (fun _ _ _ h => h) (Or.inl ⟨by rfl, ?hyq25x⟩) hHeld ?_
        case hyq25x =>
          intro W hSw
          clear hSw
          (go_simp; try with_reducible rfl)
        simp only [List.setIfInBounds_toArray, List.set_cons_zero, List.set_cons_succ]
        refine wpAnyH_done (by kernel_rfl) ?_ _
        have HA3 := Lib.hid (HA3.out.below hb0)
        have HL3 := Lib.hid hHeld
        have HF3 := Lib.hid (HF3.out.on hb0)
        have hb0' := hb0
        clear hHeld hb0
        have l1 : V0.cell? ⟨lx, 1, none⟩ = some (.int .i64 (M.views q).epoch) := HL3.out.cell 1
        have l2 : V0.cell? ⟨lx, 2, none⟩ = some (.int .i64 (M.views q).version) := HL3.out.cell 2
        have l3 : V0.cell? ⟨lx, 3, none⟩ = some (.slice As (M.views q).isr.length ks) := HL3.out.cell 3
        have HMI : Hid ((M.views q).minds (b : Int) = true) := Lib.hid (Vw.minds_of (.inl HLD.out))
        have HOB0 := Lib.hid (HOB3.out.below hb0' HOB3.out.lt)
        have HOR0 := Lib.hid (HOR3.out.below hb0')
        have HVQ : Hid ((M.fenceTo q (b : Int)).views q = M.views q) := Lib.hid (if_neg (Nat.lt_irrefl _))
        clear hb0'
        by_cases he0 : (M.views q).epoch = 2147483647
        case pos =>
          have e0 := eqb he0
          have HV9 := Lib.hid he0
          clear he0
          go_wp2_with (with_reducible refine at_load 36 rfl ?_)
          refine Stop.go (wpList_load_blk (by rfl) 36 _ (by rfl) w.heap.size (by rfl) 36 _ HA3.out.b _ und36 (by rfl) (by kernel_rfl) ?_)
          go_wp2_with (with_reducible refine at_store 36 rfl ?_)
          refine Stop.go (wpList_store_blk (by rfl) (by rfl) 36 _ _ (by rfl) (w.heap.size + 1) _ #[.int .i64 (M.nb : Int), .int .i64 (M.np : Int), .int .i64 (M.ni : Int), .slice A1 M.nb c1, .slice (some ad) M.np c2, .slice A3 M.ni c3] (by rfl) (by rfl) 36 HA3.out.r (by rfl) (by kernel_rfl) (by simp [Value.oneCell']) ?_)
          intro w8 hB8 hg8 hs8
          have HB8 := Lib.hid hB8
          have hb8 : Below w.heap.size w w8 := below_grown HA3.out.low hg8 (Nat.le_refl _) (by omega)
          have HF : Hid (Rf w8 X M (.agg #[.int .i64 (M.nb : Int), .int .i64 (M.np : Int), .int .i64 (M.ni : Int), .slice A1 M.nb c1, .slice (some ad) M.np c2, .slice A3 M.ni c3]) ∧ Below w.heap.size w w8) := Lib.hid ⟨⟨_, _, _, _, _, _, _, rfl, HR.out.below hb8⟩, hb8⟩
          have he : ee = 204 := by
            rw [← HE.out]
            unfold Mt.fenceE
            rw [if_neg HIN.out]
            exact if_pos (Mt.ends_of HLT.out HMI.out (by have h9 := HV9.out; have h8 := HOK.out.ev; have h7 := HOK.out.v1; omega))
          subst he
          clear hB8 hg8 hs8 hb8
          go_wp2_with fail
          refine bodyPost_ret (results_ct (by rfl) _ _ (w.heap.size + 1) 36 _ (0, 0) _ (by rfl) HB8.out und36 (by rfl) (by kernel_rfl) (by rfl)) rfl ?_
          exact ⟨_, rfl, by rw [if_neg (by decide)]; exact HF.out.1, HF.out.2⟩
        case neg =>
        have e0 := neb he0
        have we : IntKind.i64.wrap ((M.views q).epoch + 1) = (M.views q).epoch + 1 := by have := HOK.out.e0; have := HOK.out.ev; have := HOK.out.v1; rw [IntWalk.i64_in _ (by omega)]
        clear he0
        have l0 : V0.cell? ⟨lx, 0, none⟩ = some (.int .i64 (M.views q).leader) := HL3.out.cell 0
        have hS0 := HL3.out
        have k0 : (V0).cell? ⟨lx, 0, none⟩ = some (.int .i64 (M.views q).leader) := hS0.cell 0
        have g0 := hS0.frozen 0
        have hS1 : Blk ((V0).setCell ⟨lx, 0, none⟩ (.int .i64 (-1))) lx 47 #[.int .i64 (-1), .int .i64 (M.views q).epoch, .int .i64 (M.views q).version, .slice As (M.views q).isr.length ks] := hS0.set_ 0 (.int .i64 (-1))
        have k1 : ((V0).setCell ⟨lx, 0, none⟩ (.int .i64 (-1))).cell? ⟨lx, 1, none⟩ = some (.int .i64 (M.views q).epoch) := hS1.cell 1
        have g1 := hS1.frozen 1
        have hS2 : Blk (((V0).setCell ⟨lx, 0, none⟩ (.int .i64 (-1))).setCell ⟨lx, 1, none⟩ (.int .i64 ((M.views q).epoch + 1))) lx 47 #[.int .i64 (-1), .int .i64 ((M.views q).epoch + 1), .int .i64 (M.views q).version, .slice As (M.views q).isr.length ks] := hS1.set_ 1 (.int .i64 ((M.views q).epoch + 1))
        have hT9 : Turn (fun z => z = lx) (V0) (((V0).setCell ⟨lx, 0, none⟩ (.int .i64 (-1))).setCell ⟨lx, 1, none⟩ (.int .i64 ((M.views q).epoch + 1))) := (((Turn.refl (fun z => z = lx) (V0)).setCell (p := ⟨lx, 0, none⟩) (fun _ => rfl) (.int .i64 (-1))).setCell (p := ⟨lx, 1, none⟩) (fun _ => rfl) (.int .i64 ((M.views q).epoch + 1)))
        have HOB0 := Lib.hid (HOB0.out.keep hT9 (fun e => by have := HOX.out; omega))
        have HOR0 := Lib.hid (HOR0.out.keep hT9 (fun z _ e => .inr e))
        have HA4 := Lib.hid (HA3.out.on hT9 (fun z e => by have := HLX.out; omega) (fun e => by have := HLX.out; omega) (fun e => by have := HLX.out; omega))
        have HL4 := Lib.hid hS2
        clear hT9 hS0 hS1 hS2
        go_upto_region 13 with fail
        generalize ((V0).setCell ⟨lx, 0, none⟩ (.int .i64 (-1))).setCell ⟨lx, 1, none⟩ (.int .i64 ((M.views q).epoch + 1)) = w4 at *
        clear k0 g0 k1 g1
        clear l0 l1 l2 l3
        have l2 : w4.cell? ⟨lx, 2, none⟩ = some (.int .i64 (M.views q).version) := HL4.out.cell 2
        have l3 : w4.cell? ⟨lx, 3, none⟩ = some (.slice As (M.views q).isr.length ks) := HL4.out.cell 3
        by_cases hv0 : (M.views q).version = 2147483647
        case pos =>
          have e1 := eqb hv0
          have HV9 := Lib.hid hv0
          clear hv0
          go_wp2_with (with_reducible refine at_load 36 rfl ?_)
          refine Stop.go (wpList_load_blk (by rfl) 36 _ (by rfl) w.heap.size (by rfl) 36 _ HA4.out.b _ und36 (by rfl) (by kernel_rfl) ?_)
          go_wp2_with (with_reducible refine at_store 36 rfl ?_)
          refine Stop.go (wpList_store_blk (by rfl) (by rfl) 36 _ _ (by rfl) (w.heap.size + 1) _ #[.int .i64 (M.nb : Int), .int .i64 (M.np : Int), .int .i64 (M.ni : Int), .slice A1 M.nb c1, .slice (some ad) M.np c2, .slice A3 M.ni c3] (by rfl) (by rfl) 36 HA4.out.r (by rfl) (by kernel_rfl) (by simp [Value.oneCell']) ?_)
          intro w8 hB8 hg8 hs8
          have HB8 := Lib.hid hB8
          have hb8 : Below w.heap.size w w8 := below_grown HA4.out.low hg8 (Nat.le_refl _) (by omega)
          have HF : Hid (Rf w8 X M (.agg #[.int .i64 (M.nb : Int), .int .i64 (M.np : Int), .int .i64 (M.ni : Int), .slice A1 M.nb c1, .slice (some ad) M.np c2, .slice A3 M.ni c3]) ∧ Below w.heap.size w w8) := Lib.hid ⟨⟨_, _, _, _, _, _, _, rfl, HR.out.below hb8⟩, hb8⟩
          have he : ee = 204 := by
            rw [← HE.out]
            unfold Mt.fenceE
            rw [if_neg HIN.out]
            exact if_pos (Mt.ends_of HLT.out HMI.out (HV9.out))
          subst he
          clear hB8 hg8 hs8 hb8
          go_wp2_with fail
          refine bodyPost_ret (results_ct (by rfl) _ _ (w.heap.size + 1) 36 _ (0, 0) _ (by rfl) HB8.out und36 (by rfl) (by kernel_rfl) (by rfl)) rfl ?_
          exact ⟨_, rfl, by rw [if_neg (by decide)]; exact HF.out.1, HF.out.2⟩
        case neg =>
        have e1 := neb hv0
        have HNV := Lib.hid hv0
        clear hv0
        have HFV : Hid ((M.views q).fence (b : Int) = { leader := -1, epoch := (M.views q).epoch + 1, version := (M.views q).version + 1, isr := (M.views q).isr }) := Lib.hid (by
          have hI : (if 1 < (M.views q).isr.length then wout (M.views q).isr (b : Int) else (M.views q).isr) = (M.views q).isr := by exact isr_same (fun e => HL1.out e.2)
          unfold Vw.fence
          rw [if_pos HMI.out, hI, if_pos HLD.out, if_pos HLD.out])
        have wv : IntKind.i64.wrap ((M.views q).version + 1) = (M.views q).version + 1 := by have := HOK.out.e0; have := HOK.out.ev; have := HOK.out.v1; rw [IntWalk.i64_in _ (by omega)]
        have hS0 := HL4.out
        have k0 : (w4).cell? ⟨lx, 2, none⟩ = some (.int .i64 (M.views q).version) := hS0.cell 2
        have g0 := hS0.frozen 2
        have hS1 : Blk ((w4).setCell ⟨lx, 2, none⟩ (.int .i64 ((M.views q).version + 1))) lx 47 #[.int .i64 (-1), .int .i64 ((M.views q).epoch + 1), .int .i64 ((M.views q).version + 1), .slice As (M.views q).isr.length ks] := hS0.set_ 2 (.int .i64 ((M.views q).version + 1))
        have hT9 : Turn (fun z => z = lx) (w4) ((w4).setCell ⟨lx, 2, none⟩ (.int .i64 ((M.views q).version + 1))) := ((Turn.refl (fun z => z = lx) (w4)).setCell (p := ⟨lx, 2, none⟩) (fun _ => rfl) (.int .i64 ((M.views q).version + 1)))
        have HOB := Lib.hid (HOB0.out.keep hT9 (fun e => by have := HOX.out; omega))
        have HOR := Lib.hid ((HOR0.out.keep hT9 (fun z _ e => .inr e)).wide (Y := fun y => (X y ∨ y = w.heap.size + 1) ∨ y = ox) (fun z _ e => .inl e))
        have HT6 := Lib.hid hT9
        have HA6 := Lib.hid (HA4.out.on hT9 (fun z e => by have := HLX.out; omega) (fun e => by have := HLX.out; omega) (fun e => by have := HLX.out; omega))
        have HL6 := Lib.hid hS1
        clear hT9 hS0 hS1
        go_upto_region 19 with fail
        generalize (w4).setCell ⟨lx, 2, none⟩ (.int .i64 ((M.views q).version + 1)) = w6 at *
        clear k0 g0
        go_wp2_with (with_reducible refine at_load 36 rfl ?_)
        refine Stop.go (wpList_load_blk (by rfl) 36 _ (by rfl) ox (by rfl) 36 _ HOB.out _ und36 (by rfl) (by kernel_rfl) ?_)
        go_wp2_with (with_reducible refine at_load 47 rfl ?_)
        refine Stop.go (wpList_load_blk (by rfl) 47 _ (by rfl) lx (by rfl) 47 _ HL6.out _ und47 (by rfl) (by kernel_rfl) ?_)
        have hcall := view103_any (M := M.fenceTo q (b : Int)) HOR.out (fun z e => by have h1 := HOB.out.lt; have h2 := HA6.out.r.lt; have h3 := HA6.out.low.size; exact e.elim (fun e => e.elim (fun e => by have := HX.out z e; omega) (fun e => by omega)) (fun e => by omega)) HK.out.np.2 HK.out.np.2 HLT.out ((M.views q).fence (b : Int)) (s := .slice As (M.views q).isr.length ks) ⟨As, ks, by rw [HFV.out], by rw [HFV.out]; exact (HS.out.wide (fun z hz e => e.elim (fun e => e.elim id (fun e => by omega)) (fun e => by have := HOXW.out; omega))).below HA6.out.low⟩
        rw [HFV.out] at hcall
        go_wp2_with fail
        refine hcall.mono ?_
        rintro r w7 ⟨v7, rfl, hrf, hb7⟩
        have HA7 := Lib.hid (HA6.out.below hb7)
        have HOB7 := Lib.hid (HOB.out.below hb7 HOB.out.lt)
        have hrf7 := hrf
        obtain ⟨E1, E2, E3, f1, f2, f3, rs7, rfl, hR7⟩ := hrf
        have HRF := Lib.hid hrf7
        clear hcall hrf7 hR7 hb7
        go_wp2_with (with_reducible refine at_store 36 rfl ?_)
        refine Stop.go (wpList_store_blk (by rfl) (by rfl) 36 _ _ (by rfl) ox _ #[.int .i64 (M.nb : Int), .int .i64 (M.np : Int), .int .i64 (M.ni : Int), .slice E1 M.nb f1, .slice E2 M.np f2, .slice E3 M.ni f3] (by rfl) (by rfl) 36 HOB7.out (by rfl) (by kernel_rfl) (by simp [Value.oneCell']) ?_)
        intro w8 hB8 hg8 hs8
        have hT8 : Turn (fun z => z = ox) w7 w8 := Turn.of_grown hg8 (fun r e => by injection e with e; exact e.symm)
        have HN : Hid (FenR w X M (b : Int) #[.int .i64 (M.nb : Int), .int .i64 (M.np : Int), .int .i64 (M.ni : Int), .slice A1 M.nb c1, .slice (some ad) M.np c2, .slice A3 M.ni c3] #[.int .i64 0, .int .i64 0, .int .i64 0, .slice none 0 0, .slice none 0 0, .slice none 0 0] ox (q + 1) w8) := Lib.hid ⟨HA7.out.on hT8 (fun z e => by have := HOXW.out; omega) (fun e => by have := HOXW.out; omega) (fun e => by have := HOXW.out; omega), ⟨_, _, _, _, _, _, hB8, by
          rw [← Mt.fenceTo_succ, HVQ.out, HFV.out]
          exact HRF.out.keep hT8 (fun z _ e => .inr e)⟩, HOXW.out, by rw [Mt.ends_succ, HNO.out, decide_eq_false HNV.out]; simp⟩
        clear hB8 hg8 hs8 hT8
        go_wp2_with fail
        go_round
        case rel => exact ⟨q + 1, HLT.out, by go_num, HN⟩
        case measure => simp [iOf]; omega
      case pos =>
      have dl : decide (1 < (M.views q).isr.length) = true := decide_eq_true hl1
      have dl2 : decide ((1 : Int) < ((M.views q).isr.length : Int)) = true := decide_eq_true (by omega)
      have HL1 := Lib.hid hl1
      clear hl1
      go_upto_region 8 with fail
      refine wp_region_np ?_
      refine wp_region_held_drew (S := fun W => Blk W lx 47 #[.int .i64 (M.views q).leader, .int .i64 (M.views q).epoch, .int .i64 (M.views q).version, .slice As (M.views q).isr.length ks]) (by kernel_rfl) (show (fun W => Blk W lx 47 #[.int .i64 (M.views q).leader, .int .i64 (M.views q).epoch, .int .i64 (M.views q).version, .slice As (M.views q).isr.length ks]) w3.drew from HL3.out.drew) (fun hHeld => ?_)
      have hb0 : Below w3.heap.size w3 w3.drew := (Below.refl _ _).drew
      generalize hv0 : w3.drew = V0 at *
      clear hv0
      refine wpAnyH_takeAt (i := 0) (d := 36) (v := ?vq26x) rfl rfl (by kernel_rfl) (by kernel_rfl) (by kernel_rfl) (fun _ _ _ h => h) (Or.inl ⟨by rfl, ?hyq26x⟩) hHeld ?_
      case hyq26x =>
        intro W hSw
        clear hSw
        (go_simp; try with_reducible rfl)
      simp only [List.setIfInBounds_toArray, List.set_cons_zero, List.set_cons_succ]
      refine wpAnyH_takeAt (i := 1) (d := 37) (v := ?vq27x) rfl rfl (by kernel_rfl) (by kernel_rfl) (by kernel_rfl) (fun _ _ _ h => h) (Or.inl ⟨by rfl, ?hyq27x⟩) hHeld ?_
      case hyq27x =>
        intro W hSw
        have kl := hSw; have s0 : W.cell? ⟨lx, 0, none⟩ = some (.int .i64 (M.views q).leader) := kl.cell 0; have s3 : W.cell? ⟨lx, 3, none⟩ = some (.slice As (M.views q).isr.length ks) := kl.cell 3; clear kl hSw
        (go_simp; try with_reducible rfl)
      simp only [List.setIfInBounds_toArray, List.set_cons_zero, List.set_cons_succ]
      refine wpAnyH_takeAt (i := 2) (d := 38) (v := ?vq28x) rfl rfl (by kernel_rfl) (by kernel_rfl) (by kernel_rfl) (fun _ _ _ h => h) (Or.inl ⟨by rfl, ?hyq28x⟩) hHeld ?_
      case hyq28x =>
        intro W hSw
        clear hSw
        (go_simp; try with_reducible rfl)
      simp only [List.setIfInBounds_toArray, List.set_cons_zero, List.set_cons_succ]
      refine wpAnyH_takeAt (i := 3) (d := 39) (v := ?vq29x) rfl rfl (by kernel_rfl) (by kernel_rfl) (by kernel_rfl) (fun _ _ _ h => h) (Or.inl ⟨by rfl, ?hyq29x⟩) hHeld ?_
      case hyq29x =>
        intro W hSw
        clear hSw
        (go_simp; try with_reducible rfl)
      simp only [List.setIfInBounds_toArray, List.set_cons_zero, List.set_cons_succ]
      refine wpAnyH_takeAt (i := 4) (d := 40) (v := ?vq30x) rfl rfl (by kernel_rfl) (by kernel_rfl) (by kernel_rfl) (fun _ _ _ h => h) (Or.inl ⟨by rfl, ?hyq30x⟩) hHeld ?_
      case hyq30x =>
        intro W hSw
        clear hSw
        (go_simp; try with_reducible rfl)
      simp only [List.setIfInBounds_toArray, List.set_cons_zero, List.set_cons_succ]
      refine wpAnyH_takeAt (i := 5) (d := 41) (v := ?vq31x) rfl rfl (by kernel_rfl) (by kernel_rfl) (by kernel_rfl) (fun _ _ _ h => h) (Or.inl ⟨by rfl, ?hyq31x⟩) hHeld ?_
      case hyq31x =>
        intro W hSw
        have kl := hSw; have s0 : W.cell? ⟨lx, 0, none⟩ = some (.int .i64 (M.views q).leader) := kl.cell 0; have s3 : W.cell? ⟨lx, 3, none⟩ = some (.slice As (M.views q).isr.length ks) := kl.cell 3; clear kl hSw
        (go_simp; try with_reducible rfl)
      simp only [List.setIfInBounds_toArray, List.set_cons_zero, List.set_cons_succ]
      refine wpAnyH_takeAt (i := 6) (d := 42) (v := ?vq32x) rfl rfl (by kernel_rfl) (by kernel_rfl) (by kernel_rfl) (fun _ _ _ h => h) (Or.inl ⟨by rfl, ?hyq32x⟩) hHeld ?_
      case hyq32x =>
        intro W hSw
        clear hSw
        (go_simp; try with_reducible rfl)
      simp only [List.setIfInBounds_toArray, List.set_cons_zero, List.set_cons_succ]
      refine wpAnyH_ready (rs := [7]) (by kernel_rfl) (by simp) (AllReadyH.cons rfl (fun K hK => ?_) AllReadyH.nil)
      go_simp
      refine (hin V0 hb0).mono ?_
      rintro r V1 ⟨rfl, hV1⟩
      rw [hV1]
      dsimp only
      refine hK.out _ _ hHeld (fun hHeld => ?_)
      clear hK K hin hV1
      try simp only [List.setIfInBounds_toArray, List.set_cons_zero, List.set_cons_succ]
      refine wpAnyH_takeAt (i := 8) (d := 44) (v := ?vq33x) rfl rfl (by kernel_rfl) (by kernel_rfl) (by kernel_rfl) (fun _ _ _ h => h) (Or.inl ⟨by rfl, ?hyq33x⟩) hHeld ?_
      case hyq33x =>
        intro W hSw
        clear hSw
        (go_simp; try with_reducible rfl)
      simp only [List.setIfInBounds_toArray, List.set_cons_zero, List.set_cons_succ]
      refine wpAnyH_takeAt (i := 9) (d := 45) (v := ?vq34x) rfl rfl (by kernel_rfl) (by kernel_rfl) (by kernel_rfl) (fun _ _ _ h => h) (Or.inl ⟨by rfl, ?hyq34x⟩) hHeld ?_
      case hyq34x =>
        intro W hSw
        clear hSw
        (go_simp; try with_reducible rfl)
      simp only [List.setIfInBounds_toArray, List.set_cons_zero, List.set_cons_succ]
      refine wpAnyH_takeAt (i := 10) (d := 46) (v := ?vq35x) rfl rfl (by kernel_rfl) (by kernel_rfl) (by kernel_rfl) (fun _ _ _ h => h) (Or.inl ⟨by rfl, ?hyq35x⟩) hHeld ?_
      case hyq35x =>
        intro W hSw
        have kl := hSw; have s0 : W.cell? ⟨lx, 0, none⟩ = some (.int .i64 (M.views q).leader) := kl.cell 0; have s3 : W.cell? ⟨lx, 3, none⟩ = some (.slice As (M.views q).isr.length ks) := kl.cell 3; clear kl hSw
        (go_simp; try with_reducible rfl)
      simp only [List.setIfInBounds_toArray, List.set_cons_zero, List.set_cons_succ]
      refine wpAnyH_takeAt (i := 11) (d := 47) (v := ?vq36x) rfl rfl (by kernel_rfl) (by kernel_rfl) (by kernel_rfl) (fun _ _ _ h => h) (Or.inl ⟨by rfl, ?hyq36x⟩) hHeld ?_
      case hyq36x =>
        intro W hSw
        clear hSw
        (go_simp; try with_reducible rfl)
      simp only [List.setIfInBounds_toArray, List.set_cons_zero, List.set_cons_succ]
      refine wpAnyH_takeAt (i := 12) (d := 48) (v := ?vq37x) rfl rfl (by kernel_rfl) (by kernel_rfl) (by kernel_rfl) (fun _ _ _ h => h) (Or.inl ⟨by rfl, ?hyq37x⟩) hHeld ?_
      case hyq37x =>
        intro W hSw
        clear hSw
        (go_simp; try with_reducible rfl)
      simp only [List.setIfInBounds_toArray, List.set_cons_zero, List.set_cons_succ]
      refine wpAnyH_takeAt (i := 13) (d := 49) (v := ?vq38x) rfl rfl (by kernel_rfl) (by kernel_rfl) (by kernel_rfl) (fun _ _ _ h => h) (Or.inl ⟨by rfl, ?hyq38x⟩) hHeld ?_
      case hyq38x =>
        intro W hSw
        clear hSw
        (go_simp; try with_reducible rfl)
      simp only [List.setIfInBounds_toArray, List.set_cons_zero, List.set_cons_succ]
      refine wpAnyH_takeAt (i := 14) (d := 9) (v := ?vq39x) rfl rfl (by kernel_rfl) (by kernel_rfl) (by kernel_rfl) (fun _ _ _ h => h) (Or.inl ⟨by rfl, ?hyq39x⟩) hHeld ?_
      case hyq39x =>
        intro W hSw
        clear hSw
        (go_simp; try with_reducible rfl)
      simp only [List.setIfInBounds_toArray, List.set_cons_zero, List.set_cons_succ]
      refine wpAnyH_takeAt (i := 15) (d := 10) (v := ?vq40x) rfl rfl (by kernel_rfl) (by kernel_rfl) (by kernel_rfl) (fun _ _ _ h => h) (Or.inl ⟨by rfl, ?hyq40x⟩) hHeld ?_
      case hyq40x =>
        intro W hSw
        clear hSw
        (go_simp; try with_reducible rfl)
      simp only [List.setIfInBounds_toArray, List.set_cons_zero, List.set_cons_succ]
      refine wpAnyH_done (by kernel_rfl) ?_ _
      have HA3 := Lib.hid (HA3.out.below hb0)
      have HL3 := Lib.hid hHeld
      have HF3 := Lib.hid (HF3.out.on hb0)
      have hb0' := hb0
      clear hHeld hb0
      have l1 : V0.cell? ⟨lx, 1, none⟩ = some (.int .i64 (M.views q).epoch) := HL3.out.cell 1
      have l2 : V0.cell? ⟨lx, 2, none⟩ = some (.int .i64 (M.views q).version) := HL3.out.cell 2
      have l3 : V0.cell? ⟨lx, 3, none⟩ = some (.slice As (M.views q).isr.length ks) := HL3.out.cell 3
      have HMI : Hid ((M.views q).minds (b : Int) = true) := Lib.hid (Vw.minds_of (.inl HLD.out))
      have HOB0 := Lib.hid (HOB3.out.below hb0' HOB3.out.lt)
      have HOR0 := Lib.hid (HOR3.out.below hb0')
      have HVQ : Hid ((M.fenceTo q (b : Int)).views q = M.views q) := Lib.hid (if_neg (Nat.lt_irrefl _))
      clear hb0'
      by_cases he0 : (M.views q).epoch = 2147483647
      case pos =>
        have e0 := eqb he0
        have HV9 := Lib.hid he0
        clear he0
        go_wp2_with (with_reducible refine at_load 36 rfl ?_)
        refine Stop.go (wpList_load_blk (by rfl) 36 _ (by rfl) w.heap.size (by rfl) 36 _ HA3.out.b _ und36 (by rfl) (by kernel_rfl) ?_)
        go_wp2_with (with_reducible refine at_store 36 rfl ?_)
        refine Stop.go (wpList_store_blk (by rfl) (by rfl) 36 _ _ (by rfl) (w.heap.size + 1) _ #[.int .i64 (M.nb : Int), .int .i64 (M.np : Int), .int .i64 (M.ni : Int), .slice A1 M.nb c1, .slice (some ad) M.np c2, .slice A3 M.ni c3] (by rfl) (by rfl) 36 HA3.out.r (by rfl) (by kernel_rfl) (by simp [Value.oneCell']) ?_)
        intro w8 hB8 hg8 hs8
        have HB8 := Lib.hid hB8
        have hb8 : Below w.heap.size w w8 := below_grown HA3.out.low hg8 (Nat.le_refl _) (by omega)
        have HF : Hid (Rf w8 X M (.agg #[.int .i64 (M.nb : Int), .int .i64 (M.np : Int), .int .i64 (M.ni : Int), .slice A1 M.nb c1, .slice (some ad) M.np c2, .slice A3 M.ni c3]) ∧ Below w.heap.size w w8) := Lib.hid ⟨⟨_, _, _, _, _, _, _, rfl, HR.out.below hb8⟩, hb8⟩
        have he : ee = 204 := by
          rw [← HE.out]
          unfold Mt.fenceE
          rw [if_neg HIN.out]
          exact if_pos (Mt.ends_of HLT.out HMI.out (by have h9 := HV9.out; have h8 := HOK.out.ev; have h7 := HOK.out.v1; omega))
        subst he
        clear hB8 hg8 hs8 hb8
        go_wp2_with fail
        refine bodyPost_ret (results_ct (by rfl) _ _ (w.heap.size + 1) 36 _ (0, 0) _ (by rfl) HB8.out und36 (by rfl) (by kernel_rfl) (by rfl)) rfl ?_
        exact ⟨_, rfl, by rw [if_neg (by decide)]; exact HF.out.1, HF.out.2⟩
      case neg =>
      have e0 := neb he0
      have we : IntKind.i64.wrap ((M.views q).epoch + 1) = (M.views q).epoch + 1 := by have := HOK.out.e0; have := HOK.out.ev; have := HOK.out.v1; rw [IntWalk.i64_in _ (by omega)]
      clear he0
      have l0 : V0.cell? ⟨lx, 0, none⟩ = some (.int .i64 (M.views q).leader) := HL3.out.cell 0
      have hS0 := HL3.out
      have k0 : (V0).cell? ⟨lx, 0, none⟩ = some (.int .i64 (M.views q).leader) := hS0.cell 0
      have g0 := hS0.frozen 0
      have hS1 : Blk ((V0).setCell ⟨lx, 0, none⟩ (.int .i64 (-1))) lx 47 #[.int .i64 (-1), .int .i64 (M.views q).epoch, .int .i64 (M.views q).version, .slice As (M.views q).isr.length ks] := hS0.set_ 0 (.int .i64 (-1))
      have k1 : ((V0).setCell ⟨lx, 0, none⟩ (.int .i64 (-1))).cell? ⟨lx, 1, none⟩ = some (.int .i64 (M.views q).epoch) := hS1.cell 1
      have g1 := hS1.frozen 1
      have hS2 : Blk (((V0).setCell ⟨lx, 0, none⟩ (.int .i64 (-1))).setCell ⟨lx, 1, none⟩ (.int .i64 ((M.views q).epoch + 1))) lx 47 #[.int .i64 (-1), .int .i64 ((M.views q).epoch + 1), .int .i64 (M.views q).version, .slice As (M.views q).isr.length ks] := hS1.set_ 1 (.int .i64 ((M.views q).epoch + 1))
      have hT9 : Turn (fun z => z = lx) (V0) (((V0).setCell ⟨lx, 0, none⟩ (.int .i64 (-1))).setCell ⟨lx, 1, none⟩ (.int .i64 ((M.views q).epoch + 1))) := (((Turn.refl (fun z => z = lx) (V0)).setCell (p := ⟨lx, 0, none⟩) (fun _ => rfl) (.int .i64 (-1))).setCell (p := ⟨lx, 1, none⟩) (fun _ => rfl) (.int .i64 ((M.views q).epoch + 1)))
      have HOB0 := Lib.hid (HOB0.out.keep hT9 (fun e => by have := HOX.out; omega))
      have HOR0 := Lib.hid (HOR0.out.keep hT9 (fun z _ e => .inr e))
      have HA4 := Lib.hid (HA3.out.on hT9 (fun z e => by have := HLX.out; omega) (fun e => by have := HLX.out; omega) (fun e => by have := HLX.out; omega))
      have HL4 := Lib.hid hS2
      clear hT9 hS0 hS1 hS2
      go_upto_region 13 with fail
      generalize ((V0).setCell ⟨lx, 0, none⟩ (.int .i64 (-1))).setCell ⟨lx, 1, none⟩ (.int .i64 ((M.views q).epoch + 1)) = w4 at *
      clear k0 g0 k1 g1
      clear l0 l1 l2 l3
      have l2 : w4.cell? ⟨lx, 2, none⟩ = some (.int .i64 (M.views q).version) := HL4.out.cell 2
      have l3 : w4.cell? ⟨lx, 3, none⟩ = some (.slice As (M.views q).isr.length ks) := HL4.out.cell 3
      have hwo := refWithout_any (c := ks) (HS.out.below HA4.out.low) HLE.out (b : Int)
      go_wp2_with fail
      refine hwo.mono ?_
      rintro r w5 ⟨v5, rfl, ho5, hv5, hb5⟩
      clear hwo l2 l3
      obtain ⟨U, hU⟩ : ∃ U, wout (M.views q).isr (b : Int) = U := ⟨_, rfl⟩
      rw [hU] at ho5
      obtain ⟨A5, k5, rfl, -⟩ := ints_form ho5
      have HU := Lib.hid hU
      have HA5 := Lib.hid (HA4.out.below hb5)
      have HL5 := Lib.hid (HL4.out.below hb5 HL4.out.lt)
      have HOB0 := Lib.hid (HOB0.out.below hb5 HOB0.out.lt)
      have HOR0 := Lib.hid (HOR0.out.below hb5)
      have HV5 : Hid (∀ z, (Value.slice A5 U.length k5).ownBlock = some z → lx < z) := Lib.hid (fun z e => by have := hv5 z e; have := HL4.out.lt; omega)
      have HO5 := Lib.hid ho5
      have m3 : w5.cell? ⟨lx, 3, none⟩ = some (.slice As (M.views q).isr.length ks) := HL5.out.cell 3
      clear hU ho5 hv5 hb5
      have hS0 := HL5.out
      have k0 : (w5).cell? ⟨lx, 3, none⟩ = some (.slice As (M.views q).isr.length ks) := hS0.cell 3
      have g0 := hS0.frozen 3
      have hS1 : Blk ((w5).setCell ⟨lx, 3, none⟩ (.slice A5 U.length k5)) lx 47 #[.int .i64 (-1), .int .i64 ((M.views q).epoch + 1), .int .i64 (M.views q).version, .slice A5 U.length k5] := hS0.set_ 3 (.slice A5 U.length k5)
      have hT9 : Turn (fun z => z = lx) (w5) ((w5).setCell ⟨lx, 3, none⟩ (.slice A5 U.length k5)) := ((Turn.refl (fun z => z = lx) (w5)).setCell (p := ⟨lx, 3, none⟩) (fun _ => rfl) (.slice A5 U.length k5))
      have HOB0 := Lib.hid (HOB0.out.keep hT9 (fun e => by have := HOX.out; omega))
      have HOR0 := Lib.hid (HOR0.out.keep hT9 (fun z _ e => .inr e))
      have HO5b := Lib.hid (HO5.out.keep hT9 (fun z hz e => by have := HV5.out z hz; omega))
      have HA5b := Lib.hid (HA5.out.on hT9 (fun z e => by have := HLX.out; omega) (fun e => by have := HLX.out; omega) (fun e => by have := HLX.out; omega))
      have HL5b := Lib.hid hS1
      clear hT9 hS0 hS1
      go_upto_region 15 with fail
      generalize (w5).setCell ⟨lx, 3, none⟩ (.slice A5 U.length k5) = w5b at *
      clear k0 g0
      clear m3
      have l2 : w5b.cell? ⟨lx, 2, none⟩ = some (.int .i64 (M.views q).version) := HL5b.out.cell 2
      by_cases hv0 : (M.views q).version = 2147483647
      case pos =>
        have e1 := eqb hv0
        have HV9 := Lib.hid hv0
        clear hv0
        go_wp2_with (with_reducible refine at_load 36 rfl ?_)
        refine Stop.go (wpList_load_blk (by rfl) 36 _ (by rfl) w.heap.size (by rfl) 36 _ HA5b.out.b _ und36 (by rfl) (by kernel_rfl) ?_)
        go_wp2_with (with_reducible refine at_store 36 rfl ?_)
        refine Stop.go (wpList_store_blk (by rfl) (by rfl) 36 _ _ (by rfl) (w.heap.size + 1) _ #[.int .i64 (M.nb : Int), .int .i64 (M.np : Int), .int .i64 (M.ni : Int), .slice A1 M.nb c1, .slice (some ad) M.np c2, .slice A3 M.ni c3] (by rfl) (by rfl) 36 HA5b.out.r (by rfl) (by kernel_rfl) (by simp [Value.oneCell']) ?_)
        intro w8 hB8 hg8 hs8
        have HB8 := Lib.hid hB8
        have hb8 : Below w.heap.size w w8 := below_grown HA5b.out.low hg8 (Nat.le_refl _) (by omega)
        have HF : Hid (Rf w8 X M (.agg #[.int .i64 (M.nb : Int), .int .i64 (M.np : Int), .int .i64 (M.ni : Int), .slice A1 M.nb c1, .slice (some ad) M.np c2, .slice A3 M.ni c3]) ∧ Below w.heap.size w w8) := Lib.hid ⟨⟨_, _, _, _, _, _, _, rfl, HR.out.below hb8⟩, hb8⟩
        have he : ee = 204 := by
          rw [← HE.out]
          unfold Mt.fenceE
          rw [if_neg HIN.out]
          exact if_pos (Mt.ends_of HLT.out HMI.out (HV9.out))
        subst he
        clear hB8 hg8 hs8 hb8
        go_wp2_with fail
        refine bodyPost_ret (results_ct (by rfl) _ _ (w.heap.size + 1) 36 _ (0, 0) _ (by rfl) HB8.out und36 (by rfl) (by kernel_rfl) (by rfl)) rfl ?_
        exact ⟨_, rfl, by rw [if_neg (by decide)]; exact HF.out.1, HF.out.2⟩
      case neg =>
      have e1 := neb hv0
      have HNV := Lib.hid hv0
      clear hv0
      have HFV : Hid ((M.views q).fence (b : Int) = { leader := -1, epoch := (M.views q).epoch + 1, version := (M.views q).version + 1, isr := U }) := Lib.hid (by
        have hI : (if 1 < (M.views q).isr.length then wout (M.views q).isr (b : Int) else (M.views q).isr) = U := by rw [if_pos (show 1 < (M.views q).isr.length from (And.intro HM.out HL1.out).2), HU.out]
        unfold Vw.fence
        rw [if_pos HMI.out, hI, if_pos HLD.out, if_pos HLD.out])
      have wv : IntKind.i64.wrap ((M.views q).version + 1) = (M.views q).version + 1 := by have := HOK.out.e0; have := HOK.out.ev; have := HOK.out.v1; rw [IntWalk.i64_in _ (by omega)]
      have hS0 := HL5b.out
      have k0 : (w5b).cell? ⟨lx, 2, none⟩ = some (.int .i64 (M.views q).version) := hS0.cell 2
      have g0 := hS0.frozen 2
      have hS1 : Blk ((w5b).setCell ⟨lx, 2, none⟩ (.int .i64 ((M.views q).version + 1))) lx 47 #[.int .i64 (-1), .int .i64 ((M.views q).epoch + 1), .int .i64 ((M.views q).version + 1), .slice A5 U.length k5] := hS0.set_ 2 (.int .i64 ((M.views q).version + 1))
      have hT9 : Turn (fun z => z = lx) (w5b) ((w5b).setCell ⟨lx, 2, none⟩ (.int .i64 ((M.views q).version + 1))) := ((Turn.refl (fun z => z = lx) (w5b)).setCell (p := ⟨lx, 2, none⟩) (fun _ => rfl) (.int .i64 ((M.views q).version + 1)))
      have HOB := Lib.hid (HOB0.out.keep hT9 (fun e => by have := HOX.out; omega))
      have HOR := Lib.hid ((HOR0.out.keep hT9 (fun z _ e => .inr e)).wide (Y := fun y => (X y ∨ y = w.heap.size + 1) ∨ y = ox) (fun z _ e => .inl e))
      have HT6 := Lib.hid hT9
      have HA6 := Lib.hid (HA5b.out.on hT9 (fun z e => by have := HLX.out; omega) (fun e => by have := HLX.out; omega) (fun e => by have := HLX.out; omega))
      have HL6 := Lib.hid hS1
      clear hT9 hS0 hS1
      go_upto_region 19 with fail
      generalize (w5b).setCell ⟨lx, 2, none⟩ (.int .i64 ((M.views q).version + 1)) = w6 at *
      clear k0 g0
      go_wp2_with (with_reducible refine at_load 36 rfl ?_)
      refine Stop.go (wpList_load_blk (by rfl) 36 _ (by rfl) ox (by rfl) 36 _ HOB.out _ und36 (by rfl) (by kernel_rfl) ?_)
      go_wp2_with (with_reducible refine at_load 47 rfl ?_)
      refine Stop.go (wpList_load_blk (by rfl) 47 _ (by rfl) lx (by rfl) 47 _ HL6.out _ und47 (by rfl) (by kernel_rfl) ?_)
      have hcall := view103_any (M := M.fenceTo q (b : Int)) HOR.out (fun z e => by have h1 := HOB.out.lt; have h2 := HA6.out.r.lt; have h3 := HA6.out.low.size; exact e.elim (fun e => e.elim (fun e => by have := HX.out z e; omega) (fun e => by omega)) (fun e => by omega)) HK.out.np.2 HK.out.np.2 HLT.out ((M.views q).fence (b : Int)) (s := .slice A5 U.length k5) ⟨A5, k5, by rw [HFV.out], by rw [HFV.out]; exact ((HO5b.out.keep HT6.out (fun z hz e => by have := HV5.out z hz; omega)).rd (fun z hz e => e.elim (fun e => e.elim (fun e => by have := HX.out z e; have := HV5.out z hz; have := HLX.out; omega) (fun e => by have := HV5.out z hz; have := HLX.out; omega)) (fun e => by have := HV5.out z hz; have := HOX.out; omega)))⟩
      rw [HFV.out] at hcall
      go_wp2_with fail
      refine hcall.mono ?_
      rintro r w7 ⟨v7, rfl, hrf, hb7⟩
      have HA7 := Lib.hid (HA6.out.below hb7)
      have HOB7 := Lib.hid (HOB.out.below hb7 HOB.out.lt)
      have hrf7 := hrf
      obtain ⟨E1, E2, E3, f1, f2, f3, rs7, rfl, hR7⟩ := hrf
      have HRF := Lib.hid hrf7
      clear hcall hrf7 hR7 hb7
      go_wp2_with (with_reducible refine at_store 36 rfl ?_)
      refine Stop.go (wpList_store_blk (by rfl) (by rfl) 36 _ _ (by rfl) ox _ #[.int .i64 (M.nb : Int), .int .i64 (M.np : Int), .int .i64 (M.ni : Int), .slice E1 M.nb f1, .slice E2 M.np f2, .slice E3 M.ni f3] (by rfl) (by rfl) 36 HOB7.out (by rfl) (by kernel_rfl) (by simp [Value.oneCell']) ?_)
      intro w8 hB8 hg8 hs8
      have hT8 : Turn (fun z => z = ox) w7 w8 := Turn.of_grown hg8 (fun r e => by injection e with e; exact e.symm)
      have HN : Hid (FenR w X M (b : Int) #[.int .i64 (M.nb : Int), .int .i64 (M.np : Int), .int .i64 (M.ni : Int), .slice A1 M.nb c1, .slice (some ad) M.np c2, .slice A3 M.ni c3] #[.int .i64 0, .int .i64 0, .int .i64 0, .slice none 0 0, .slice none 0 0, .slice none 0 0] ox (q + 1) w8) := Lib.hid ⟨HA7.out.on hT8 (fun z e => by have := HOXW.out; omega) (fun e => by have := HOXW.out; omega) (fun e => by have := HOXW.out; omega), ⟨_, _, _, _, _, _, hB8, by
        rw [← Mt.fenceTo_succ, HVQ.out, HFV.out]
        exact HRF.out.keep hT8 (fun z _ e => .inr e)⟩, HOXW.out, by rw [Mt.ends_succ, HNO.out, decide_eq_false HNV.out]; simp⟩
      clear hB8 hg8 hs8 hT8
      go_wp2_with fail
      go_round
      case rel => exact ⟨q + 1, HLT.out, by go_num, HN⟩
      case measure => simp [iOf]; omega
    case neg =>
    have ed := neb hld
    have HLD := Lib.hid hld
    clear hld
    have hin : ∀ W, Below w3.heap.size w3 W → Calls Tryz.prog 22 #[.slice As (M.views q).isr.length ks, .int .i64 (b : Int)] W (fun r w' => r = .returned (.bool (decide ((b : Int) ∈ (M.views q).isr))) ∧ w' = W) := fun W hW => refIn_any (c := ks) ((HS.out.below HA3.out.low).below hW) HLE.out (b : Int)
    by_cases hm : (b : Int) ∈ (M.views q).isr
    case neg =>
      have HM := Lib.hid hm
      rw [decide_eq_false hm] at hin
      clear hm
      go_upto_region 8 with fail
      refine wp_region_np ?_
      refine wp_region_held_drew (S := fun W => Blk W lx 47 #[.int .i64 (M.views q).leader, .int .i64 (M.views q).epoch, .int .i64 (M.views q).version, .slice As (M.views q).isr.length ks]) (by kernel_rfl) (show (fun W => Blk W lx 47 #[.int .i64 (M.views q).leader, .int .i64 (M.views q).epoch, .int .i64 (M.views q).version, .slice As (M.views q).isr.length ks]) w3.drew from HL3.out.drew) (fun hHeld => ?_)
      have hb0 : Below w3.heap.size w3 w3.drew := (Below.refl _ _).drew
      generalize hv0 : w3.drew = V0 at *
      clear hv0
      refine wpAnyH_takeAt (i := 0) (d := 36) (v := ?vq41x) rfl rfl (by kernel_rfl) (by kernel_rfl) (by kernel_rfl) (fun _ _ _ h => h) (Or.inl ⟨by rfl, ?hyq41x⟩) hHeld ?_
      case hyq41x =>
        intro W hSw
        clear hSw
        (go_simp; try with_reducible rfl)
      simp only [List.setIfInBounds_toArray, List.set_cons_zero, List.set_cons_succ]
      refine wpAnyH_takeAt (i := 1) (d := 37) (v := ?vq42x) rfl rfl (by kernel_rfl) (by kernel_rfl) (by kernel_rfl) (fun _ _ _ h => h) (Or.inl ⟨by rfl, ?hyq42x⟩) hHeld ?_
      case hyq42x =>
        intro W hSw
        have kl := hSw; have s0 : W.cell? ⟨lx, 0, none⟩ = some (.int .i64 (M.views q).leader) := kl.cell 0; have s3 : W.cell? ⟨lx, 3, none⟩ = some (.slice As (M.views q).isr.length ks) := kl.cell 3; clear kl hSw
        (go_simp; try with_reducible rfl)
      simp only [List.setIfInBounds_toArray, List.set_cons_zero, List.set_cons_succ]
      refine wpAnyH_takeAt (i := 2) (d := 38) (v := ?vq43x) rfl rfl (by kernel_rfl) (by kernel_rfl) (by kernel_rfl) (fun _ _ _ h => h) (Or.inl ⟨by rfl, ?hyq43x⟩) hHeld ?_
      case hyq43x =>
        intro W hSw
        clear hSw
        (go_simp; try with_reducible rfl)
      simp only [List.setIfInBounds_toArray, List.set_cons_zero, List.set_cons_succ]
      refine wpAnyH_takeAt (i := 3) (d := 39) (v := ?vq44x) rfl rfl (by kernel_rfl) (by kernel_rfl) (by kernel_rfl) (fun _ _ _ h => h) (Or.inl ⟨by rfl, ?hyq44x⟩) hHeld ?_
      case hyq44x =>
        intro W hSw
        clear hSw
        (go_simp; try with_reducible rfl)
      simp only [List.setIfInBounds_toArray, List.set_cons_zero, List.set_cons_succ]
      refine wpAnyH_takeAt (i := 4) (d := 40) (v := ?vq45x) rfl rfl (by kernel_rfl) (by kernel_rfl) (by kernel_rfl) (fun _ _ _ h => h) (Or.inl ⟨by rfl, ?hyq45x⟩) hHeld ?_
      case hyq45x =>
        intro W hSw
        clear hSw
        (go_simp; try with_reducible rfl)
      simp only [List.setIfInBounds_toArray, List.set_cons_zero, List.set_cons_succ]
      refine wpAnyH_takeAt (i := 5) (d := 41) (v := ?vq46x) rfl rfl (by kernel_rfl) (by kernel_rfl) (by kernel_rfl) (fun _ _ _ h => h) (Or.inl ⟨by rfl, ?hyq46x⟩) hHeld ?_
      case hyq46x =>
        intro W hSw
        have kl := hSw; have s0 : W.cell? ⟨lx, 0, none⟩ = some (.int .i64 (M.views q).leader) := kl.cell 0; have s3 : W.cell? ⟨lx, 3, none⟩ = some (.slice As (M.views q).isr.length ks) := kl.cell 3; clear kl hSw
        (go_simp; try with_reducible rfl)
      simp only [List.setIfInBounds_toArray, List.set_cons_zero, List.set_cons_succ]
      refine wpAnyH_takeAt (i := 6) (d := 42) (v := ?vq47x) rfl rfl (by kernel_rfl) (by kernel_rfl) (by kernel_rfl) (fun _ _ _ h => h) (Or.inl ⟨by rfl, ?hyq47x⟩) hHeld ?_
      case hyq47x =>
        intro W hSw
        clear hSw
        (go_simp; try with_reducible rfl)
      simp only [List.setIfInBounds_toArray, List.set_cons_zero, List.set_cons_succ]
      refine wpAnyH_ready (rs := [7]) (by kernel_rfl) (by simp) (AllReadyH.cons rfl (fun K hK => ?_) AllReadyH.nil)
      go_simp
      refine (hin V0 hb0).mono ?_
      rintro r V1 ⟨rfl, hV1⟩
      rw [hV1]
      dsimp only
      refine hK.out _ _ hHeld (fun hHeld => ?_)
      clear hK K hin hV1
      try simp only [List.setIfInBounds_toArray, List.set_cons_zero, List.set_cons_succ]
      refine wpAnyH_takeAt (i := 8) (d := 44) (v := ?vq48x) rfl rfl (by kernel_rfl) (by kernel_rfl) (by kernel_rfl) (fun _ _ _ h => h) (Or.inl ⟨by rfl, ?hyq48x⟩) hHeld ?_
      case hyq48x =>
        intro W hSw
        clear hSw
        (go_simp; try with_reducible rfl)
      simp only [List.setIfInBounds_toArray, List.set_cons_zero, List.set_cons_succ]
      refine wpAnyH_takeAt (i := 9) (d := 45) (v := undef) rfl rfl (by kernel_rfl) (by kernel_rfl) (by kernel_rfl) (fun _ _ _ h => h) (Or.inr ⟨by rfl, rfl⟩) hHeld ?_
      simp only [List.setIfInBounds_toArray, List.set_cons_zero, List.set_cons_succ]
      refine wpAnyH_takeAt (i := 10) (d := 46) (v := undef) rfl rfl (by kernel_rfl) (by kernel_rfl) (by kernel_rfl) (fun _ _ _ h => h) (Or.inr ⟨by rfl, rfl⟩) hHeld ?_
      simp only [List.setIfInBounds_toArray, List.set_cons_zero, List.set_cons_succ]
      refine wpAnyH_takeAt (i := 11) (d := 47) (v := undef) rfl rfl (by kernel_rfl) (by kernel_rfl) (by kernel_rfl) (fun _ _ _ h => h) (Or.inr ⟨by rfl, rfl⟩) hHeld ?_
      simp only [List.setIfInBounds_toArray, List.set_cons_zero, List.set_cons_succ]
      refine wpAnyH_takeAt (i := 12) (d := 48) (v := undef) rfl rfl (by kernel_rfl) (by kernel_rfl) (by kernel_rfl) (fun _ _ _ h => h) (Or.inr ⟨by rfl, rfl⟩) hHeld ?_
      simp only [List.setIfInBounds_toArray, List.set_cons_zero, List.set_cons_succ]
      refine wpAnyH_takeAt (i := 13) (d := 49) (v := ?vq49x) rfl rfl (by kernel_rfl) (by kernel_rfl) (by kernel_rfl) (fun _ _ _ h => h) (Or.inl ⟨by rfl, ?hyq49x⟩) hHeld ?_
      case hyq49x =>
        intro W hSw
        clear hSw
        (go_simp; try with_reducible rfl)
      simp only [List.setIfInBounds_toArray, List.set_cons_zero, List.set_cons_succ]
      refine wpAnyH_takeAt (i := 14) (d := 9) (v := ?vq50x) rfl rfl (by kernel_rfl) (by kernel_rfl) (by kernel_rfl) (fun _ _ _ h => h) (Or.inl ⟨by rfl, ?hyq50x⟩) hHeld ?_
      case hyq50x =>
        intro W hSw
        clear hSw
        (go_simp; try with_reducible rfl)
      simp only [List.setIfInBounds_toArray, List.set_cons_zero, List.set_cons_succ]
      refine wpAnyH_takeAt (i := 15) (d := 10) (v := ?vq51x) rfl rfl (by kernel_rfl) (by kernel_rfl) (by kernel_rfl) (fun _ _ _ h => h) (Or.inl ⟨by rfl, ?hyq51x⟩) hHeld ?_
      case hyq51x =>
        intro W hSw
        clear hSw
        (go_simp; try with_reducible rfl)
      simp only [List.setIfInBounds_toArray, List.set_cons_zero, List.set_cons_succ]
      refine wpAnyH_done (by kernel_rfl) ?_ _
      have HA3 := Lib.hid (HA3.out.below hb0)
      have HL3 := Lib.hid hHeld
      have HF3 := Lib.hid (HF3.out.on hb0)
      have hb0' := hb0
      clear hHeld hb0
      have l1 : V0.cell? ⟨lx, 1, none⟩ = some (.int .i64 (M.views q).epoch) := HL3.out.cell 1
      have l2 : V0.cell? ⟨lx, 2, none⟩ = some (.int .i64 (M.views q).version) := HL3.out.cell 2
      have l3 : V0.cell? ⟨lx, 3, none⟩ = some (.slice As (M.views q).isr.length ks) := HL3.out.cell 3
      have HMI : Hid ((M.views q).minds (b : Int) = false) := Lib.hid (Vw.minds_no HLD.out (fun e => HM.out e.1))
      have HN : Hid (FenR w X M (b : Int) #[.int .i64 (M.nb : Int), .int .i64 (M.np : Int), .int .i64 (M.ni : Int), .slice A1 M.nb c1, .slice (some ad) M.np c2, .slice A3 M.ni c3] #[.int .i64 0, .int .i64 0, .int .i64 0, .slice none 0 0, .slice none 0 0, .slice none 0 0] ox (q + 1) V0) := Lib.hid (by
        obtain ⟨h1, ⟨B1, B2, B3, d1, d2, d3, h2, h3⟩, h4, h5⟩ := HF3.out
        exact ⟨h1, ⟨B1, B2, B3, d1, d2, d3, h2, by rw [Mt.fenceTo_same HMI.out]; exact h3⟩, h4, by rw [Mt.ends_succ, h5, HMI.out]; rfl⟩)
      clear l1 l2 l3
      go_wp2_with fail
      go_round
      case rel => exact ⟨q + 1, HLT.out, by go_num, HN⟩
      case measure => simp [iOf]; omega
    case pos =>
    have HM := Lib.hid hm
    rw [decide_eq_true hm] at hin
    clear hm
    by_cases hl1 : 1 < (M.views q).isr.length
    case neg =>
      have dl : decide (1 < (M.views q).isr.length) = false := decide_eq_false hl1
      have dl2 : decide ((1 : Int) < ((M.views q).isr.length : Int)) = false := decide_eq_false (by omega)
      have HL1 := Lib.hid hl1
      clear hl1
      go_upto_region 8 with fail
      refine wp_region_np ?_
      refine wp_region_held_drew (S := fun W => Blk W lx 47 #[.int .i64 (M.views q).leader, .int .i64 (M.views q).epoch, .int .i64 (M.views q).version, .slice As (M.views q).isr.length ks]) (by kernel_rfl) (show (fun W => Blk W lx 47 #[.int .i64 (M.views q).leader, .int .i64 (M.views q).epoch, .int .i64 (M.views q).version, .slice As (M.views q).isr.length ks]) w3.drew from HL3.out.drew) (fun hHeld => ?_)
      have hb0 : Below w3.heap.size w3 w3.drew := (Below.refl _ _).drew
      generalize hv0 : w3.drew = V0 at *
      clear hv0
      refine wpAnyH_takeAt (i := 0) (d := 36) (v := ?vq52x) rfl rfl (by kernel_rfl) (by kernel_rfl) (by kernel_rfl) (fun _ _ _ h => h) (Or.inl ⟨by rfl, ?hyq52x⟩) hHeld ?_
      case hyq52x =>
        intro W hSw
        clear hSw
        (go_simp; try with_reducible rfl)
      simp only [List.setIfInBounds_toArray, List.set_cons_zero, List.set_cons_succ]
      refine wpAnyH_takeAt (i := 1) (d := 37) (v := ?vq53x) rfl rfl (by kernel_rfl) (by kernel_rfl) (by kernel_rfl) (fun _ _ _ h => h) (Or.inl ⟨by rfl, ?hyq53x⟩) hHeld ?_
      case hyq53x =>
        intro W hSw
        have kl := hSw; have s0 : W.cell? ⟨lx, 0, none⟩ = some (.int .i64 (M.views q).leader) := kl.cell 0; have s3 : W.cell? ⟨lx, 3, none⟩ = some (.slice As (M.views q).isr.length ks) := kl.cell 3; clear kl hSw
        (go_simp; try with_reducible rfl)
      simp only [List.setIfInBounds_toArray, List.set_cons_zero, List.set_cons_succ]
      refine wpAnyH_takeAt (i := 2) (d := 38) (v := ?vq54x) rfl rfl (by kernel_rfl) (by kernel_rfl) (by kernel_rfl) (fun _ _ _ h => h) (Or.inl ⟨by rfl, ?hyq54x⟩) hHeld ?_
      case hyq54x =>
        intro W hSw
        clear hSw
        (go_simp; try with_reducible rfl)
      simp only [List.setIfInBounds_toArray, List.set_cons_zero, List.set_cons_succ]
      refine wpAnyH_takeAt (i := 3) (d := 39) (v := ?vq55x) rfl rfl (by kernel_rfl) (by kernel_rfl) (by kernel_rfl) (fun _ _ _ h => h) (Or.inl ⟨by rfl, ?hyq55x⟩) hHeld ?_
      case hyq55x =>
        intro W hSw
        clear hSw
        (go_simp; try with_reducible rfl)
      simp only [List.setIfInBounds_toArray, List.set_cons_zero, List.set_cons_succ]
      refine wpAnyH_takeAt (i := 4) (d := 40) (v := ?vq56x) rfl rfl (by kernel_rfl) (by kernel_rfl) (by kernel_rfl) (fun _ _ _ h => h) (Or.inl ⟨by rfl, ?hyq56x⟩) hHeld ?_
      case hyq56x =>
        intro W hSw
        clear hSw
        (go_simp; try with_reducible rfl)
      simp only [List.setIfInBounds_toArray, List.set_cons_zero, List.set_cons_succ]
      refine wpAnyH_takeAt (i := 5) (d := 41) (v := ?vq57x) rfl rfl (by kernel_rfl) (by kernel_rfl) (by kernel_rfl) (fun _ _ _ h => h) (Or.inl ⟨by rfl, ?hyq57x⟩) hHeld ?_
      case hyq57x =>
        intro W hSw
        have kl := hSw; have s0 : W.cell? ⟨lx, 0, none⟩ = some (.int .i64 (M.views q).leader) := kl.cell 0; have s3 : W.cell? ⟨lx, 3, none⟩ = some (.slice As (M.views q).isr.length ks) := kl.cell 3; clear kl hSw
        (go_simp; try with_reducible rfl)
      simp only [List.setIfInBounds_toArray, List.set_cons_zero, List.set_cons_succ]
      refine wpAnyH_takeAt (i := 6) (d := 42) (v := ?vq58x) rfl rfl (by kernel_rfl) (by kernel_rfl) (by kernel_rfl) (fun _ _ _ h => h) (Or.inl ⟨by rfl, ?hyq58x⟩) hHeld ?_
      case hyq58x =>
        intro W hSw
        clear hSw
        (go_simp; try with_reducible rfl)
      simp only [List.setIfInBounds_toArray, List.set_cons_zero, List.set_cons_succ]
      refine wpAnyH_ready (rs := [7]) (by kernel_rfl) (by simp) (AllReadyH.cons rfl (fun K hK => ?_) AllReadyH.nil)
      go_simp
      refine (hin V0 hb0).mono ?_
      rintro r V1 ⟨rfl, hV1⟩
      rw [hV1]
      dsimp only
      refine hK.out _ _ hHeld (fun hHeld => ?_)
      clear hK K hin hV1
      try simp only [List.setIfInBounds_toArray, List.set_cons_zero, List.set_cons_succ]
      refine wpAnyH_takeAt (i := 8) (d := 44) (v := ?vq59x) rfl rfl (by kernel_rfl) (by kernel_rfl) (by kernel_rfl) (fun _ _ _ h => h) (Or.inl ⟨by rfl, ?hyq59x⟩) hHeld ?_
      case hyq59x =>
        intro W hSw
        clear hSw
        (go_simp; try with_reducible rfl)
      simp only [List.setIfInBounds_toArray, List.set_cons_zero, List.set_cons_succ]
      refine wpAnyH_takeAt (i := 9) (d := 45) (v := ?vq60x) rfl rfl (by kernel_rfl) (by kernel_rfl) (by kernel_rfl) (fun _ _ _ h => h) (Or.inl ⟨by rfl, ?hyq60x⟩) hHeld ?_
      case hyq60x =>
        intro W hSw
        clear hSw
        (go_simp; try with_reducible rfl)
      simp only [List.setIfInBounds_toArray, List.set_cons_zero, List.set_cons_succ]
      refine wpAnyH_takeAt (i := 10) (d := 46) (v := ?vq61x) rfl rfl (by kernel_rfl) (by kernel_rfl) (by kernel_rfl) (fun _ _ _ h => h) (Or.inl ⟨by rfl, ?hyq61x⟩) hHeld ?_
      case hyq61x =>
        intro W hSw
        have kl := hSw; have s0 : W.cell? ⟨lx, 0, none⟩ = some (.int .i64 (M.views q).leader) := kl.cell 0; have s3 : W.cell? ⟨lx, 3, none⟩ = some (.slice As (M.views q).isr.length ks) := kl.cell 3; clear kl hSw
        (go_simp; try with_reducible rfl)
      simp only [List.setIfInBounds_toArray, List.set_cons_zero, List.set_cons_succ]
      refine wpAnyH_takeAt (i := 11) (d := 47) (v := ?vq62x) rfl rfl (by kernel_rfl) (by kernel_rfl) (by kernel_rfl) (fun _ _ _ h => h) (Or.inl ⟨by rfl, ?hyq62x⟩) hHeld ?_
      case hyq62x =>
        intro W hSw
        clear hSw
        (go_simp; try with_reducible rfl)
      simp only [List.setIfInBounds_toArray, List.set_cons_zero, List.set_cons_succ]
      refine wpAnyH_takeAt (i := 12) (d := 48) (v := ?vq63x) rfl rfl (by kernel_rfl) (by kernel_rfl) (by kernel_rfl) (fun _ _ _ h => h) (Or.inl ⟨by rfl, ?hyq63x⟩) hHeld ?_
      case hyq63x =>
        intro W hSw
        clear hSw
        (go_simp; try with_reducible rfl)
      simp only [List.setIfInBounds_toArray, List.set_cons_zero, List.set_cons_succ]
      refine wpAnyH_takeAt (i := 13) (d := 49) (v := ?vq64x) rfl rfl (by kernel_rfl) (by kernel_rfl) (by kernel_rfl) (fun _ _ _ h => h) (Or.inl ⟨by rfl, ?hyq64x⟩) hHeld ?_
      case hyq64x =>
        intro W hSw
        clear hSw
        (go_simp; try with_reducible rfl)
      simp only [List.setIfInBounds_toArray, List.set_cons_zero, List.set_cons_succ]
      refine wpAnyH_takeAt (i := 14) (d := 9) (v := ?vq65x) rfl rfl (by kernel_rfl) (by kernel_rfl) (by kernel_rfl) (fun _ _ _ h => h) (Or.inl ⟨by rfl, ?hyq65x⟩) hHeld ?_
      case hyq65x =>
        intro W hSw
        clear hSw
        (go_simp; try with_reducible rfl)
      simp only [List.setIfInBounds_toArray, List.set_cons_zero, List.set_cons_succ]
      refine wpAnyH_takeAt (i := 15) (d := 10) (v := ?vq66x) rfl rfl (by kernel_rfl) (by kernel_rfl) (by kernel_rfl) (fun _ _ _ h => h) (Or.inl ⟨by rfl, ?hyq66x⟩) hHeld ?_
      case hyq66x =>
        intro W hSw
        clear hSw
        (go_simp; try with_reducible rfl)
      simp only [List.setIfInBounds_toArray, List.set_cons_zero, List.set_cons_succ]
      refine wpAnyH_done (by kernel_rfl) ?_ _
      have HA3 := Lib.hid (HA3.out.below hb0)
      have HL3 := Lib.hid hHeld
      have HF3 := Lib.hid (HF3.out.on hb0)
      have hb0' := hb0
      clear hHeld hb0
      have l1 : V0.cell? ⟨lx, 1, none⟩ = some (.int .i64 (M.views q).epoch) := HL3.out.cell 1
      have l2 : V0.cell? ⟨lx, 2, none⟩ = some (.int .i64 (M.views q).version) := HL3.out.cell 2
      have l3 : V0.cell? ⟨lx, 3, none⟩ = some (.slice As (M.views q).isr.length ks) := HL3.out.cell 3
      have HMI : Hid ((M.views q).minds (b : Int) = false) := Lib.hid (Vw.minds_no HLD.out (fun e => HL1.out e.2))
      have HN : Hid (FenR w X M (b : Int) #[.int .i64 (M.nb : Int), .int .i64 (M.np : Int), .int .i64 (M.ni : Int), .slice A1 M.nb c1, .slice (some ad) M.np c2, .slice A3 M.ni c3] #[.int .i64 0, .int .i64 0, .int .i64 0, .slice none 0 0, .slice none 0 0, .slice none 0 0] ox (q + 1) V0) := Lib.hid (by
        obtain ⟨h1, ⟨B1, B2, B3, d1, d2, d3, h2, h3⟩, h4, h5⟩ := HF3.out
        exact ⟨h1, ⟨B1, B2, B3, d1, d2, d3, h2, by rw [Mt.fenceTo_same HMI.out]; exact h3⟩, h4, by rw [Mt.ends_succ, h5, HMI.out]; rfl⟩)
      clear l1 l2 l3
      go_wp2_with fail
      go_round
      case rel => exact ⟨q + 1, HLT.out, by go_num, HN⟩
      case measure => simp [iOf]; omega
    case pos =>
    have dl : decide (1 < (M.views q).isr.length) = true := decide_eq_true hl1
    have dl2 : decide ((1 : Int) < ((M.views q).isr.length : Int)) = true := decide_eq_true (by omega)
    have HL1 := Lib.hid hl1
    clear hl1
    go_upto_region 8 with fail
    refine wp_region_np ?_
    refine wp_region_held_drew (S := fun W => Blk W lx 47 #[.int .i64 (M.views q).leader, .int .i64 (M.views q).epoch, .int .i64 (M.views q).version, .slice As (M.views q).isr.length ks]) (by kernel_rfl) (show (fun W => Blk W lx 47 #[.int .i64 (M.views q).leader, .int .i64 (M.views q).epoch, .int .i64 (M.views q).version, .slice As (M.views q).isr.length ks]) w3.drew from HL3.out.drew) (fun hHeld => ?_)
    have hb0 : Below w3.heap.size w3 w3.drew := (Below.refl _ _).drew
    generalize hv0 : w3.drew = V0 at *
    clear hv0
    refine wpAnyH_takeAt (i := 0) (d := 36) (v := ?vq67x) rfl rfl (by kernel_rfl) (by kernel_rfl) (by kernel_rfl) (fun _ _ _ h => h) (Or.inl ⟨by rfl, ?hyq67x⟩) hHeld ?_
    case hyq67x =>
      intro W hSw
      clear hSw
      (go_simp; try with_reducible rfl)
    simp only [List.setIfInBounds_toArray, List.set_cons_zero, List.set_cons_succ]
    refine wpAnyH_takeAt (i := 1) (d := 37) (v := ?vq68x) rfl rfl (by kernel_rfl) (by kernel_rfl) (by kernel_rfl) (fun _ _ _ h => h) (Or.inl ⟨by rfl, ?hyq68x⟩) hHeld ?_
    case hyq68x =>
      intro W hSw
      have kl := hSw; have s0 : W.cell? ⟨lx, 0, none⟩ = some (.int .i64 (M.views q).leader) := kl.cell 0; have s3 : W.cell? ⟨lx, 3, none⟩ = some (.slice As (M.views q).isr.length ks) := kl.cell 3; clear kl hSw
      (go_simp; try with_reducible rfl)
    simp only [List.setIfInBounds_toArray, List.set_cons_zero, List.set_cons_succ]
    refine wpAnyH_takeAt (i := 2) (d := 38) (v := ?vq69x) rfl rfl (by kernel_rfl) (by kernel_rfl) (by kernel_rfl) (fun _ _ _ h => h) (Or.inl ⟨by rfl, ?hyq69x⟩) hHeld ?_
    case hyq69x =>
      intro W hSw
      clear hSw
      (go_simp; try with_reducible rfl)
    simp only [List.setIfInBounds_toArray, List.set_cons_zero, List.set_cons_succ]
    refine wpAnyH_takeAt (i := 3) (d := 39) (v := ?vq70x) rfl rfl (by kernel_rfl) (by kernel_rfl) (by kernel_rfl) (fun _ _ _ h => h) (Or.inl ⟨by rfl, ?hyq70x⟩) hHeld ?_
    case hyq70x =>
      intro W hSw
      clear hSw
      (go_simp; try with_reducible rfl)
    simp only [List.setIfInBounds_toArray, List.set_cons_zero, List.set_cons_succ]
    refine wpAnyH_takeAt (i := 4) (d := 40) (v := ?vq71x) rfl rfl (by kernel_rfl) (by kernel_rfl) (by kernel_rfl) (fun _ _ _ h => h) (Or.inl ⟨by rfl, ?hyq71x⟩) hHeld ?_
    case hyq71x =>
      intro W hSw
      clear hSw
      (go_simp; try with_reducible rfl)
    simp only [List.setIfInBounds_toArray, List.set_cons_zero, List.set_cons_succ]
    refine wpAnyH_takeAt (i := 5) (d := 41) (v := ?vq72x) rfl rfl (by kernel_rfl) (by kernel_rfl) (by kernel_rfl) (fun _ _ _ h => h) (Or.inl ⟨by rfl, ?hyq72x⟩) hHeld ?_
    case hyq72x =>
      intro W hSw
      have kl := hSw; have s0 : W.cell? ⟨lx, 0, none⟩ = some (.int .i64 (M.views q).leader) := kl.cell 0; have s3 : W.cell? ⟨lx, 3, none⟩ = some (.slice As (M.views q).isr.length ks) := kl.cell 3; clear kl hSw
      (go_simp; try with_reducible rfl)
    simp only [List.setIfInBounds_toArray, List.set_cons_zero, List.set_cons_succ]
    refine wpAnyH_takeAt (i := 6) (d := 42) (v := ?vq73x) rfl rfl (by kernel_rfl) (by kernel_rfl) (by kernel_rfl) (fun _ _ _ h => h) (Or.inl ⟨by rfl, ?hyq73x⟩) hHeld ?_
    case hyq73x =>
      intro W hSw
      clear hSw
      (go_simp; try with_reducible rfl)
    simp only [List.setIfInBounds_toArray, List.set_cons_zero, List.set_cons_succ]
    refine wpAnyH_ready (rs := [7]) (by kernel_rfl) (by simp) (AllReadyH.cons rfl (fun K hK => ?_) AllReadyH.nil)
    go_simp
    refine (hin V0 hb0).mono ?_
    rintro r V1 ⟨rfl, hV1⟩
    rw [hV1]
    dsimp only
    refine hK.out _ _ hHeld (fun hHeld => ?_)
    clear hK K hin hV1
    try simp only [List.setIfInBounds_toArray, List.set_cons_zero, List.set_cons_succ]
    refine wpAnyH_takeAt (i := 8) (d := 44) (v := ?vq74x) rfl rfl (by kernel_rfl) (by kernel_rfl) (by kernel_rfl) (fun _ _ _ h => h) (Or.inl ⟨by rfl, ?hyq74x⟩) hHeld ?_
    case hyq74x =>
      intro W hSw
      clear hSw
      (go_simp; try with_reducible rfl)
    simp only [List.setIfInBounds_toArray, List.set_cons_zero, List.set_cons_succ]
    refine wpAnyH_takeAt (i := 9) (d := 45) (v := ?vq75x) rfl rfl (by kernel_rfl) (by kernel_rfl) (by kernel_rfl) (fun _ _ _ h => h) (Or.inl ⟨by rfl, ?hyq75x⟩) hHeld ?_
    case hyq75x =>
      intro W hSw
      clear hSw
      (go_simp; try with_reducible rfl)
    simp only [List.setIfInBounds_toArray, List.set_cons_zero, List.set_cons_succ]
    refine wpAnyH_takeAt (i := 10) (d := 46) (v := ?vq76x) rfl rfl (by kernel_rfl) (by kernel_rfl) (by kernel_rfl) (fun _ _ _ h => h) (Or.inl ⟨by rfl, ?hyq76x⟩) hHeld ?_
    case hyq76x =>
      intro W hSw
      have kl := hSw; have s0 : W.cell? ⟨lx, 0, none⟩ = some (.int .i64 (M.views q).leader) := kl.cell 0; have s3 : W.cell? ⟨lx, 3, none⟩ = some (.slice As (M.views q).isr.length ks) := kl.cell 3; clear kl hSw
      (go_simp; try with_reducible rfl)
    simp only [List.setIfInBounds_toArray, List.set_cons_zero, List.set_cons_succ]
    refine wpAnyH_takeAt (i := 11) (d := 47) (v := ?vq77x) rfl rfl (by kernel_rfl) (by kernel_rfl) (by kernel_rfl) (fun _ _ _ h => h) (Or.inl ⟨by rfl, ?hyq77x⟩) hHeld ?_
    case hyq77x =>
      intro W hSw
      clear hSw
      (go_simp; try with_reducible rfl)
    simp only [List.setIfInBounds_toArray, List.set_cons_zero, List.set_cons_succ]
    refine wpAnyH_takeAt (i := 12) (d := 48) (v := ?vq78x) rfl rfl (by kernel_rfl) (by kernel_rfl) (by kernel_rfl) (fun _ _ _ h => h) (Or.inl ⟨by rfl, ?hyq78x⟩) hHeld ?_
    case hyq78x =>
      intro W hSw
      clear hSw
      (go_simp; try with_reducible rfl)
    simp only [List.setIfInBounds_toArray, List.set_cons_zero, List.set_cons_succ]
    refine wpAnyH_takeAt (i := 13) (d := 49) (v := ?vq79x) rfl rfl (by kernel_rfl) (by kernel_rfl) (by kernel_rfl) (fun _ _ _ h => h) (Or.inl ⟨by rfl, ?hyq79x⟩) hHeld ?_
    case hyq79x =>
      intro W hSw
      clear hSw
      (go_simp; try with_reducible rfl)
    simp only [List.setIfInBounds_toArray, List.set_cons_zero, List.set_cons_succ]
    refine wpAnyH_takeAt (i := 14) (d := 9) (v := ?vq80x) rfl rfl (by kernel_rfl) (by kernel_rfl) (by kernel_rfl) (fun _ _ _ h => h) (Or.inl ⟨by rfl, ?hyq80x⟩) hHeld ?_
    case hyq80x =>
      intro W hSw
      clear hSw
      (go_simp; try with_reducible rfl)
    simp only [List.setIfInBounds_toArray, List.set_cons_zero, List.set_cons_succ]
    refine wpAnyH_takeAt (i := 15) (d := 10) (v := ?vq81x) rfl rfl (by kernel_rfl) (by kernel_rfl) (by kernel_rfl) (fun _ _ _ h => h) (Or.inl ⟨by rfl, ?hyq81x⟩) hHeld ?_
    case hyq81x =>
      intro W hSw
      clear hSw
      (go_simp; try with_reducible rfl)
    simp only [List.setIfInBounds_toArray, List.set_cons_zero, List.set_cons_succ]
    refine wpAnyH_done (by kernel_rfl) ?_ _
    have HA3 := Lib.hid (HA3.out.below hb0)
    have HL3 := Lib.hid hHeld
    have HF3 := Lib.hid (HF3.out.on hb0)
    have hb0' := hb0
    clear hHeld hb0
    have l1 : V0.cell? ⟨lx, 1, none⟩ = some (.int .i64 (M.views q).epoch) := HL3.out.cell 1
    have l2 : V0.cell? ⟨lx, 2, none⟩ = some (.int .i64 (M.views q).version) := HL3.out.cell 2
    have l3 : V0.cell? ⟨lx, 3, none⟩ = some (.slice As (M.views q).isr.length ks) := HL3.out.cell 3
    have HMI : Hid ((M.views q).minds (b : Int) = true) := Lib.hid (Vw.minds_of (.inr (And.intro HM.out HL1.out)))
    have HOB0 := Lib.hid (HOB3.out.below hb0' HOB3.out.lt)
    have HOR0 := Lib.hid (HOR3.out.below hb0')
    have HVQ : Hid ((M.fenceTo q (b : Int)).views q = M.views q) := Lib.hid (if_neg (Nat.lt_irrefl _))
    clear hb0'
    have hwo := refWithout_any (c := ks) (HS.out.below HA3.out.low) HLE.out (b : Int)
    go_wp2_with fail
    refine hwo.mono ?_
    rintro r w5 ⟨v5, rfl, ho5, hv5, hb5⟩
    clear hwo l2 l3
    obtain ⟨U, hU⟩ : ∃ U, wout (M.views q).isr (b : Int) = U := ⟨_, rfl⟩
    rw [hU] at ho5
    obtain ⟨A5, k5, rfl, -⟩ := ints_form ho5
    have HU := Lib.hid hU
    have HA5 := Lib.hid (HA3.out.below hb5)
    have HL5 := Lib.hid (HL3.out.below hb5 HL3.out.lt)
    have HOB0 := Lib.hid (HOB0.out.below hb5 HOB0.out.lt)
    have HOR0 := Lib.hid (HOR0.out.below hb5)
    have HV5 : Hid (∀ z, (Value.slice A5 U.length k5).ownBlock = some z → lx < z) := Lib.hid (fun z e => by have := hv5 z e; have := HL3.out.lt; omega)
    have HO5 := Lib.hid ho5
    have m3 : w5.cell? ⟨lx, 3, none⟩ = some (.slice As (M.views q).isr.length ks) := HL5.out.cell 3
    clear hU ho5 hv5 hb5
    have hS0 := HL5.out
    have k0 : (w5).cell? ⟨lx, 3, none⟩ = some (.slice As (M.views q).isr.length ks) := hS0.cell 3
    have g0 := hS0.frozen 3
    have hS1 : Blk ((w5).setCell ⟨lx, 3, none⟩ (.slice A5 U.length k5)) lx 47 #[.int .i64 (M.views q).leader, .int .i64 (M.views q).epoch, .int .i64 (M.views q).version, .slice A5 U.length k5] := hS0.set_ 3 (.slice A5 U.length k5)
    have hT9 : Turn (fun z => z = lx) (w5) ((w5).setCell ⟨lx, 3, none⟩ (.slice A5 U.length k5)) := ((Turn.refl (fun z => z = lx) (w5)).setCell (p := ⟨lx, 3, none⟩) (fun _ => rfl) (.slice A5 U.length k5))
    have HOB0 := Lib.hid (HOB0.out.keep hT9 (fun e => by have := HOX.out; omega))
    have HOR0 := Lib.hid (HOR0.out.keep hT9 (fun z _ e => .inr e))
    have HO5b := Lib.hid (HO5.out.keep hT9 (fun z hz e => by have := HV5.out z hz; omega))
    have HA5b := Lib.hid (HA5.out.on hT9 (fun z e => by have := HLX.out; omega) (fun e => by have := HLX.out; omega) (fun e => by have := HLX.out; omega))
    have HL5b := Lib.hid hS1
    clear hT9 hS0 hS1
    go_upto_region 15 with fail
    generalize (w5).setCell ⟨lx, 3, none⟩ (.slice A5 U.length k5) = w5b at *
    clear k0 g0
    clear m3
    have l2 : w5b.cell? ⟨lx, 2, none⟩ = some (.int .i64 (M.views q).version) := HL5b.out.cell 2
    by_cases hv0 : (M.views q).version = 2147483647
    case pos =>
      have e1 := eqb hv0
      have HV9 := Lib.hid hv0
      clear hv0
      go_wp2_with (with_reducible refine at_load 36 rfl ?_)
      refine Stop.go (wpList_load_blk (by rfl) 36 _ (by rfl) w.heap.size (by rfl) 36 _ HA5b.out.b _ und36 (by rfl) (by kernel_rfl) ?_)
      go_wp2_with (with_reducible refine at_store 36 rfl ?_)
      refine Stop.go (wpList_store_blk (by rfl) (by rfl) 36 _ _ (by rfl) (w.heap.size + 1) _ #[.int .i64 (M.nb : Int), .int .i64 (M.np : Int), .int .i64 (M.ni : Int), .slice A1 M.nb c1, .slice (some ad) M.np c2, .slice A3 M.ni c3] (by rfl) (by rfl) 36 HA5b.out.r (by rfl) (by kernel_rfl) (by simp [Value.oneCell']) ?_)
      intro w8 hB8 hg8 hs8
      have HB8 := Lib.hid hB8
      have hb8 : Below w.heap.size w w8 := below_grown HA5b.out.low hg8 (Nat.le_refl _) (by omega)
      have HF : Hid (Rf w8 X M (.agg #[.int .i64 (M.nb : Int), .int .i64 (M.np : Int), .int .i64 (M.ni : Int), .slice A1 M.nb c1, .slice (some ad) M.np c2, .slice A3 M.ni c3]) ∧ Below w.heap.size w w8) := Lib.hid ⟨⟨_, _, _, _, _, _, _, rfl, HR.out.below hb8⟩, hb8⟩
      have he : ee = 204 := by
        rw [← HE.out]
        unfold Mt.fenceE
        rw [if_neg HIN.out]
        exact if_pos (Mt.ends_of HLT.out HMI.out (HV9.out))
      subst he
      clear hB8 hg8 hs8 hb8
      go_wp2_with fail
      refine bodyPost_ret (results_ct (by rfl) _ _ (w.heap.size + 1) 36 _ (0, 0) _ (by rfl) HB8.out und36 (by rfl) (by kernel_rfl) (by rfl)) rfl ?_
      exact ⟨_, rfl, by rw [if_neg (by decide)]; exact HF.out.1, HF.out.2⟩
    case neg =>
    have e1 := neb hv0
    have HNV := Lib.hid hv0
    clear hv0
    have HFV : Hid ((M.views q).fence (b : Int) = { leader := (M.views q).leader, epoch := (M.views q).epoch, version := (M.views q).version + 1, isr := U }) := Lib.hid (by
      have hI : (if 1 < (M.views q).isr.length then wout (M.views q).isr (b : Int) else (M.views q).isr) = U := by rw [if_pos (show 1 < (M.views q).isr.length from (And.intro HM.out HL1.out).2), HU.out]
      unfold Vw.fence
      rw [if_pos HMI.out, hI, if_neg HLD.out, if_neg HLD.out])
    have wv : IntKind.i64.wrap ((M.views q).version + 1) = (M.views q).version + 1 := by have := HOK.out.e0; have := HOK.out.ev; have := HOK.out.v1; rw [IntWalk.i64_in _ (by omega)]
    have hS0 := HL5b.out
    have k0 : (w5b).cell? ⟨lx, 2, none⟩ = some (.int .i64 (M.views q).version) := hS0.cell 2
    have g0 := hS0.frozen 2
    have hS1 : Blk ((w5b).setCell ⟨lx, 2, none⟩ (.int .i64 ((M.views q).version + 1))) lx 47 #[.int .i64 (M.views q).leader, .int .i64 (M.views q).epoch, .int .i64 ((M.views q).version + 1), .slice A5 U.length k5] := hS0.set_ 2 (.int .i64 ((M.views q).version + 1))
    have hT9 : Turn (fun z => z = lx) (w5b) ((w5b).setCell ⟨lx, 2, none⟩ (.int .i64 ((M.views q).version + 1))) := ((Turn.refl (fun z => z = lx) (w5b)).setCell (p := ⟨lx, 2, none⟩) (fun _ => rfl) (.int .i64 ((M.views q).version + 1)))
    have HOB := Lib.hid (HOB0.out.keep hT9 (fun e => by have := HOX.out; omega))
    have HOR := Lib.hid ((HOR0.out.keep hT9 (fun z _ e => .inr e)).wide (Y := fun y => (X y ∨ y = w.heap.size + 1) ∨ y = ox) (fun z _ e => .inl e))
    have HT6 := Lib.hid hT9
    have HA6 := Lib.hid (HA5b.out.on hT9 (fun z e => by have := HLX.out; omega) (fun e => by have := HLX.out; omega) (fun e => by have := HLX.out; omega))
    have HL6 := Lib.hid hS1
    clear hT9 hS0 hS1
    go_upto_region 19 with fail
    generalize (w5b).setCell ⟨lx, 2, none⟩ (.int .i64 ((M.views q).version + 1)) = w6 at *
    clear k0 g0
    go_wp2_with (with_reducible refine at_load 36 rfl ?_)
    refine Stop.go (wpList_load_blk (by rfl) 36 _ (by rfl) ox (by rfl) 36 _ HOB.out _ und36 (by rfl) (by kernel_rfl) ?_)
    go_wp2_with (with_reducible refine at_load 47 rfl ?_)
    refine Stop.go (wpList_load_blk (by rfl) 47 _ (by rfl) lx (by rfl) 47 _ HL6.out _ und47 (by rfl) (by kernel_rfl) ?_)
    have hcall := view103_any (M := M.fenceTo q (b : Int)) HOR.out (fun z e => by have h1 := HOB.out.lt; have h2 := HA6.out.r.lt; have h3 := HA6.out.low.size; exact e.elim (fun e => e.elim (fun e => by have := HX.out z e; omega) (fun e => by omega)) (fun e => by omega)) HK.out.np.2 HK.out.np.2 HLT.out ((M.views q).fence (b : Int)) (s := .slice A5 U.length k5) ⟨A5, k5, by rw [HFV.out], by rw [HFV.out]; exact ((HO5b.out.keep HT6.out (fun z hz e => by have := HV5.out z hz; omega)).rd (fun z hz e => e.elim (fun e => e.elim (fun e => by have := HX.out z e; have := HV5.out z hz; have := HLX.out; omega) (fun e => by have := HV5.out z hz; have := HLX.out; omega)) (fun e => by have := HV5.out z hz; have := HOX.out; omega)))⟩
    rw [HFV.out] at hcall
    go_wp2_with fail
    refine hcall.mono ?_
    rintro r w7 ⟨v7, rfl, hrf, hb7⟩
    have HA7 := Lib.hid (HA6.out.below hb7)
    have HOB7 := Lib.hid (HOB.out.below hb7 HOB.out.lt)
    have hrf7 := hrf
    obtain ⟨E1, E2, E3, f1, f2, f3, rs7, rfl, hR7⟩ := hrf
    have HRF := Lib.hid hrf7
    clear hcall hrf7 hR7 hb7
    go_wp2_with (with_reducible refine at_store 36 rfl ?_)
    refine Stop.go (wpList_store_blk (by rfl) (by rfl) 36 _ _ (by rfl) ox _ #[.int .i64 (M.nb : Int), .int .i64 (M.np : Int), .int .i64 (M.ni : Int), .slice E1 M.nb f1, .slice E2 M.np f2, .slice E3 M.ni f3] (by rfl) (by rfl) 36 HOB7.out (by rfl) (by kernel_rfl) (by simp [Value.oneCell']) ?_)
    intro w8 hB8 hg8 hs8
    have hT8 : Turn (fun z => z = ox) w7 w8 := Turn.of_grown hg8 (fun r e => by injection e with e; exact e.symm)
    have HN : Hid (FenR w X M (b : Int) #[.int .i64 (M.nb : Int), .int .i64 (M.np : Int), .int .i64 (M.ni : Int), .slice A1 M.nb c1, .slice (some ad) M.np c2, .slice A3 M.ni c3] #[.int .i64 0, .int .i64 0, .int .i64 0, .slice none 0 0, .slice none 0 0, .slice none 0 0] ox (q + 1) w8) := Lib.hid ⟨HA7.out.on hT8 (fun z e => by have := HOXW.out; omega) (fun e => by have := HOXW.out; omega) (fun e => by have := HOXW.out; omega), ⟨_, _, _, _, _, _, hB8, by
      rw [← Mt.fenceTo_succ, HVQ.out, HFV.out]
      exact HRF.out.keep hT8 (fun z _ e => .inr e)⟩, HOXW.out, by rw [Mt.ends_succ, HNO.out, decide_eq_false HNV.out]; simp⟩
    clear hB8 hg8 hs8 hT8
    go_wp2_with fail
    go_round
    case rel => exact ⟨q + 1, HLT.out, by go_num, HN⟩
    case measure => simp [iOf]; omega
end
end Go.Proofs.YtpmdicbhliclcaaGreat
