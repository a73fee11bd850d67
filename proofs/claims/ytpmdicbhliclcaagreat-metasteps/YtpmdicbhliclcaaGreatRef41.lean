/-
  The document: Register. Conditions: a controller as it is between two calls.
-/
import Derived.Test.YtpmdicbhliclcaaGreatRefC
namespace Go.Proofs.YtpmdicbhliclcaaGreat
open Go.RowKit Go.Maps
set_option linter.unusedVariables false
def Mt.regE (M : Mt) (x : Int) : Int := if ¬ (0 ≤ x ∧ x < (M.nb : Int)) then 2 else 0
section
variable {w : World} {X : Nat → Prop} {M : Mt} {v : Value}
set_option maxRecDepth 100000 in
set_option maxHeartbeats 8000000 in
theorem reg41_any (h : Rf w X M v) (hX : ∀ b, X b → b < w.heap.size) (hk : M.ok) (x : Int) : Calls Tryz.prog 41 #[v, .int .i64 x] w (RfP w X M ({ M with lives := setAt M.lives x.toNat true }) (M.regE x)) := by
  obtain ⟨A1, A2, A3, c1, c2, c3, rs, rfl, hR⟩ := h
  obtain ⟨M1, hM1⟩ : ∃ M1, ({ M with lives := setAt M.lives x.toNat true }) = M1 := ⟨_, rfl⟩
  obtain ⟨ee, hee⟩ : ∃ ee, M.regE x = ee := ⟨_, rfl⟩
  rw [hM1, hee]
  have HM1 := Lib.hid hM1
  have HE := Lib.hid hee
  have HR := Lib.hid hR
  have HX := Lib.hid hX
  have HK := Lib.hid hk
  have HA : Hid (Wa w ((w.alloc (.cells #[.int .i64 (M.nb : Int), .int .i64 (M.np : Int), .int .i64 (M.ni : Int), .slice A1 M.nb c1, .slice A2 M.np c2, .slice A3 M.ni c3] 36)).alloc (.cells #[.int .i64 0, .int .i64 0, .int .i64 0, .slice none 0 0, .slice none 0 0, .slice none 0 0] 36)) w.heap.size (w.heap.size + 1) #[.int .i64 (M.nb : Int), .int .i64 (M.np : Int), .int .i64 (M.ni : Int), .slice A1 M.nb c1, .slice A2 M.np c2, .slice A3 M.ni c3] #[.int .i64 0, .int .i64 0, .int .i64 0, .slice none 0 0, .slice none 0 0, .slice none 0 0]) := Lib.hid ⟨(((Below.refl w.heap.size w).alloc (Nat.le_refl _) (.cells #[.int .i64 (M.nb : Int), .int .i64 (M.np : Int), .int .i64 (M.ni : Int), .slice A1 M.nb c1, .slice A2 M.np c2, .slice A3 M.ni c3] 36)).alloc (le_alloc (Nat.le_refl _) _) (.cells #[.int .i64 0, .int .i64 0, .int .i64 0, .slice none 0 0, .slice none 0 0, .slice none 0 0] 36)), ((Blk.new w 36 _).alloc _), blk_new (w.alloc (.cells #[.int .i64 (M.nb : Int), .int .i64 (M.np : Int), .int .i64 (M.ni : Int), .slice A1 M.nb c1, .slice A2 M.np c2, .slice A3 M.ni c3] 36)) 36 _ (by simp)⟩
  have HSZ : Hid (((w.alloc (.cells #[.int .i64 (M.nb : Int), .int .i64 (M.np : Int), .int .i64 (M.ni : Int), .slice A1 M.nb c1, .slice A2 M.np c2, .slice A3 M.ni c3] 36)).alloc (.cells #[.int .i64 0, .int .i64 0, .int .i64 0, .slice none 0 0, .slice none 0 0, .slice none 0 0] 36)).heap.size = w.heap.size + 2) := Lib.hid (by simp)
  have HRX : Hid (Rf w (fun z => X z ∨ z = (w.heap.size + 1)) M (.agg #[.int .i64 (M.nb : Int), .int .i64 (M.np : Int), .int .i64 (M.ni : Int), .slice A1 M.nb c1, .slice A2 M.np c2, .slice A3 M.ni c3])) := Lib.hid (Rf.wide (X := X) ⟨_, _, _, _, _, _, _, rfl, hR⟩ (fun z hz e => e.elim id (fun e => by omega)))
  have HXX : ∀ (W : World), w.heap.size ≤ W.heap.size → (w.heap.size + 1) < W.heap.size → ∀ z, (X z ∨ z = (w.heap.size + 1)) → z < W.heap.size := fun W h1 h2 z e => e.elim (fun e => Nat.lt_of_lt_of_le (hX z e) h1) (fun e => e ▸ h2)
  have HXX := Lib.hid HXX
  clear hR hX hk hM1 hee
  go_enter Tryz.func41, Tryz.ntmps41
  go_upto_region 1 with fail
  generalize hw2 : ((w.alloc (.cells #[.int .i64 (M.nb : Int), .int .i64 (M.np : Int), .int .i64 (M.ni : Int), .slice A1 M.nb c1, .slice A2 M.np c2, .slice A3 M.ni c3] 36)).alloc (.cells #[.int .i64 0, .int .i64 0, .int .i64 0, .slice none 0 0, .slice none 0 0, .slice none 0 0] 36)) = w2 at *
  clear hw2
  have c0 : w2.cell? ⟨w.heap.size, 0, none⟩ = some (.int .i64 (M.nb : Int)) := HA.out.b.cell 0
  have c1' : w2.cell? ⟨w.heap.size, 1, none⟩ = some (.int .i64 (M.np : Int)) := HA.out.b.cell 1
  have c2' : w2.cell? ⟨w.heap.size, 2, none⟩ = some (.int .i64 (M.ni : Int)) := HA.out.b.cell 2
  have c3' : w2.cell? ⟨w.heap.size, 3, none⟩ = some (.slice A1 M.nb c1) := HA.out.b.cell 3
  have c4' : w2.cell? ⟨w.heap.size, 4, none⟩ = some (.slice A2 M.np c2) := HA.out.b.cell 4
  have c5' : w2.cell? ⟨w.heap.size, 5, none⟩ = some (.slice A3 M.ni c3) := HA.out.b.cell 5
  by_cases h0 : x < 0
  case pos =>
    have d0 : decide (x < 0) = true := decide_eq_true h0
    have H0 := Lib.hid h0
    clear h0
    go_wp2_with (with_reducible refine at_load 36 rfl ?_)
    refine Stop.go (wpList_load_blk (by rfl) 36 _ (by rfl) w.heap.size (by rfl) 36 _ HA.out.b _ und36 (by rfl) (by kernel_rfl) ?_)
    go_wp2_with (with_reducible refine at_store 36 rfl ?_)
    refine Stop.go (wpList_store_blk (by rfl) (by rfl) 36 _ _ (by rfl) (w.heap.size + 1) _ #[.int .i64 (M.nb : Int), .int .i64 (M.np : Int), .int .i64 (M.ni : Int), .slice A1 M.nb c1, .slice A2 M.np c2, .slice A3 M.ni c3] (by rfl) (by rfl) 36 HA.out.r (by rfl) (by kernel_rfl) (by simp [Value.oneCell']) ?_)
    intro w8 hB8 hg8 hs8
    have HB8 := Lib.hid hB8
    have hb8 : Below w.heap.size w w8 := below_grown HA.out.low hg8 (Nat.le_refl _) (by omega)
    have HF : Hid (Rf w8 X M (.agg #[.int .i64 (M.nb : Int), .int .i64 (M.np : Int), .int .i64 (M.ni : Int), .slice A1 M.nb c1, .slice A2 M.np c2, .slice A3 M.ni c3]) ∧ Below w.heap.size w w8) := Lib.hid ⟨⟨_, _, _, _, _, _, _, rfl, HR.out.below hb8⟩, hb8⟩
    have he : ee = 2 := by
      rw [← HE.out]
      unfold Mt.regE
      rw [if_pos]
      have := H0.out
      omega
    subst he
    clear hB8 hg8 hs8 hb8
    go_wp2_with fail
    refine bodyPost_ret (results_ct (by rfl) _ _ (w.heap.size + 1) 36 _ (0, 0) _ (by rfl) HB8.out und36 (by rfl) (by kernel_rfl) (by rfl)) rfl ?_
    exact ⟨_, rfl, by rw [if_neg (by decide)]; exact HF.out.1, HF.out.2⟩
  case neg =>
  have d0 : decide (x < 0) = false := decide_eq_false h0
  by_cases h1 : (M.nb : Int) ≤ x
  case pos =>
    have d1 : decide ((M.nb : Int) ≤ x) = true := decide_eq_true h1
    have H1 := Lib.hid h1
    clear h0 h1
    go_wp2_with (with_reducible refine at_load 36 rfl ?_)
    refine Stop.go (wpList_load_blk (by rfl) 36 _ (by rfl) w.heap.size (by rfl) 36 _ HA.out.b _ und36 (by rfl) (by kernel_rfl) ?_)
    go_wp2_with (with_reducible refine at_store 36 rfl ?_)
    refine Stop.go (wpList_store_blk (by rfl) (by rfl) 36 _ _ (by rfl) (w.heap.size + 1) _ #[.int .i64 (M.nb : Int), .int .i64 (M.np : Int), .int .i64 (M.ni : Int), .slice A1 M.nb c1, .slice A2 M.np c2, .slice A3 M.ni c3] (by rfl) (by rfl) 36 HA.out.r (by rfl) (by kernel_rfl) (by simp [Value.oneCell']) ?_)
    intro w8 hB8 hg8 hs8
    have HB8 := Lib.hid hB8
    have hb8 : Below w.heap.size w w8 := below_grown HA.out.low hg8 (Nat.le_refl _) (by omega)
    have HF : Hid (Rf w8 X M (.agg #[.int .i64 (M.nb : Int), .int .i64 (M.np : Int), .int .i64 (M.ni : Int), .slice A1 M.nb c1, .slice A2 M.np c2, .slice A3 M.ni c3]) ∧ Below w.heap.size w w8) := Lib.hid ⟨⟨_, _, _, _, _, _, _, rfl, HR.out.below hb8⟩, hb8⟩
    have he : ee = 2 := by
      rw [← HE.out]
      unfold Mt.regE
      rw [if_pos]
      have := H1.out
      omega
    subst he
    clear hB8 hg8 hs8 hb8
    go_wp2_with fail
    refine bodyPost_ret (results_ct (by rfl) _ _ (w.heap.size + 1) 36 _ (0, 0) _ (by rfl) HB8.out und36 (by rfl) (by kernel_rfl) (by rfl)) rfl ?_
    exact ⟨_, rfl, by rw [if_neg (by decide)]; exact HF.out.1, HF.out.2⟩
  case neg =>
  obtain ⟨p, rfl⟩ : ∃ p : Nat, x = (p : Int) := ⟨x.toNat, by omega⟩
  have d1 : decide ((M.nb : Int) ≤ (p : Int)) = false := decide_eq_false h1
  have d2 : decide (M.nb ≤ p) = false := decide_eq_false (by omega)
  have hp : p < M.nb := by omega
  have HP := Lib.hid hp
  clear h0 h1 hp
  go_wp2_with (with_reducible refine at_load 36 rfl ?_)
  refine Stop.go (wpList_load_blk (by rfl) 36 _ (by rfl) w.heap.size (by rfl) 36 _ HA.out.b _ und36 (by rfl) (by kernel_rfl) ?_)
  have hrx9 := HRX.out.below HA.out.low
  have hxx9 := HXX.out _ HA.out.low.size HA.out.r.lt
  have hcall := live_any hrx9 hxx9 HK.out.nb.2 HP.out true
  clear hrx9 hxx9
  go_wp2_with fail
  refine hcall.mono ?_
  rintro r w7 ⟨v7, rfl, hrf, hb7⟩
  have HA7 := Lib.hid (HA.out.below hb7)
  have hrf7 := hrf
  obtain ⟨B1, B2, B3, d1, d2, d3, rs7, rfl, hR7⟩ := hrf
  have HRF := Lib.hid hrf7
  clear hcall hrf7 hR7 hb7
  go_wp2_with (with_reducible refine at_store 36 rfl ?_)
  refine Stop.go (wpList_store_blk (by rfl) (by rfl) 36 _ _ (by rfl) (w.heap.size + 1) _ #[.int .i64 (M.nb : Int), .int .i64 (M.np : Int), .int .i64 (M.ni : Int), .slice B1 M.nb d1, .slice B2 M.np d2, .slice B3 M.ni d3] (by rfl) (by rfl) 36 HA7.out.r (by rfl) (by kernel_rfl) (by simp [Value.oneCell']) ?_)
  intro w8 hB8 hg8 hs8
  have HB8 := Lib.hid hB8
  have hb8 : Below w.heap.size w w8 := below_grown HA7.out.low hg8 (Nat.le_refl _) (by omega)
  have hb78 : Turn (fun z => z = (w.heap.size + 1)) w7 w8 := Turn.of_grown hg8 (fun r e => by injection e with e; exact e.symm)
  have HF : Hid (Rf w8 X ({ M with lives := setAt M.lives p true }) (.agg #[.int .i64 (M.nb : Int), .int .i64 (M.np : Int), .int .i64 (M.ni : Int), .slice B1 M.nb d1, .slice B2 M.np d2, .slice B3 M.ni d3]) ∧ Below w.heap.size w w8) := Lib.hid ⟨(HRF.out.keep hb78 (fun z _ e => .inr e)).wide (fun z _ e => .inl e), hb8⟩
  have he : ee = 0 := by
    rw [← HE.out]
    unfold Mt.regE
    rw [if_neg]
    have := HP.out
    omega
  subst he
  clear hB8 hg8 hs8 hb8 hb78
  go_wp2_with fail
  refine bodyPost_ret (results_ct (by rfl) _ _ (w.heap.size + 1) 36 _ (0, 0) _ (by rfl) HB8.out und36 (by rfl) (by kernel_rfl) (by rfl)) rfl ?_
  exact ⟨_, rfl, by rw [if_pos rfl, ← HM1.out]; exact HF.out.1, HF.out.2⟩
end
end Go.Proofs.YtpmdicbhliclcaaGreat
