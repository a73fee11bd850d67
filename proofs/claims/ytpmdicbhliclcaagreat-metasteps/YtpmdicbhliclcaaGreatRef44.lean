/-
  The document: Init. Conditions: a controller as it is between two calls.
-/
import Derived.Test.YtpmdicbhliclcaaGreatRef42
namespace Go.Proofs.YtpmdicbhliclcaaGreat
open Go.RowKit Go.Maps
set_option linter.unusedVariables false
set_option linter.unusedSimpArgs false
/-- What Init answers: a number and an error. -/
def Mt.initN (M : Mt) (x : Int) : Int := if M.initE x = 0 then (if (M.wrs x.toNat).state = 2 then 0 else (M.wrs x.toNat).session + 1) else 0
def Mt.initF (M : Mt) (x : Int) : Int := if M.initE x = 0 then (if (M.wrs x.toNat).state = 2 then 203 else 0) else M.initE x
theorem Mt.init_err {M : Mt} {x e : Int} (h : M.initE x = e) (he : e ≠ 0) : M.initF x = e ∧ M.initN x = 0 := by
  unfold Mt.initF Mt.initN
  rw [if_neg (by rw [h]; exact he), if_neg (by rw [h]; exact he)]
  exact ⟨h, rfl⟩
section
variable {w : World} {X : Nat → Prop} {M : Mt} {v : Value}
set_option maxRecDepth 100000 in
set_option maxHeartbeats 8000000 in
theorem init44_any (h : Rf w X M v) (hX : ∀ b, X b → b < w.heap.size) (hk : M.ok) (x : Int) : Calls Tryz.prog 44 #[v, .int .i64 x] w (RfQ w X M (if M.initE x = 0 then M.setW x.toNat (M.wrs x.toNat).begin else M) (M.initN x) (M.initF x)) := by
  obtain ⟨A1, A2, A3, c1, c2, c3, rs, rfl, hR⟩ := h
  obtain ⟨M1, hM1⟩ : ∃ M1, ((if M.initE x = 0 then M.setW x.toNat (M.wrs x.toNat).begin else M)) = M1 := ⟨_, rfl⟩
  obtain ⟨ee, hee⟩ : ∃ ee, M.initF x = ee := ⟨_, rfl⟩
  rw [hM1, hee]
  have HM1 := Lib.hid hM1
  have HE := Lib.hid hee
  obtain ⟨nn, hnn⟩ : ∃ nn, M.initN x = nn := ⟨_, rfl⟩
  rw [hnn]
  have HNN := Lib.hid hnn
  clear hnn
  have HR := Lib.hid hR
  have HX := Lib.hid hX
  have HK := Lib.hid hk
  have HA : Hid (Wa w ((w.alloc (.cells #[.int .i64 (M.nb : Int), .int .i64 (M.np : Int), .int .i64 (M.ni : Int), .slice A1 M.nb c1, .slice A2 M.np c2, .slice A3 M.ni c3] 36)).alloc (.cells #[.int .i64 0, .int .i64 0, .int .i64 0, .slice none 0 0, .slice none 0 0, .slice none 0 0] 36)) w.heap.size (w.heap.size + 1) #[.int .i64 (M.nb : Int), .int .i64 (M.np : Int), .int .i64 (M.ni : Int), .slice A1 M.nb c1, .slice A2 M.np c2, .slice A3 M.ni c3] #[.int .i64 0, .int .i64 0, .int .i64 0, .slice none 0 0, .slice none 0 0, .slice none 0 0]) := Lib.hid ⟨(((Below.refl w.heap.size w).alloc (Nat.le_refl _) (.cells #[.int .i64 (M.nb : Int), .int .i64 (M.np : Int), .int .i64 (M.ni : Int), .slice A1 M.nb c1, .slice A2 M.np c2, .slice A3 M.ni c3] 36)).alloc (le_alloc (Nat.le_refl _) _) (.cells #[.int .i64 0, .int .i64 0, .int .i64 0, .slice none 0 0, .slice none 0 0, .slice none 0 0] 36)), ((Blk.new w 36 _).alloc _), blk_new (w.alloc (.cells #[.int .i64 (M.nb : Int), .int .i64 (M.np : Int), .int .i64 (M.ni : Int), .slice A1 M.nb c1, .slice A2 M.np c2, .slice A3 M.ni c3] 36)) 36 _ (by simp)⟩
  have HSZ : Hid (((w.alloc (.cells #[.int .i64 (M.nb : Int), .int .i64 (M.np : Int), .int .i64 (M.ni : Int), .slice A1 M.nb c1, .slice A2 M.np c2, .slice A3 M.ni c3] 36)).alloc (.cells #[.int .i64 0, .int .i64 0, .int .i64 0, .slice none 0 0, .slice none 0 0, .slice none 0 0] 36)).heap.size = w.heap.size + 2) := Lib.hid (by simp)
  have HRX : Hid (Rf w (fun z => X z ∨ z = (w.heap.size + 1)) M (.agg #[.int .i64 (M.nb : Int), .int .i64 (M.np : Int), .int .i64 (M.ni : Int), .slice A1 M.nb c1, .slice A2 M.np c2, .slice A3 M.ni c3])) := Lib.hid (Rf.wide (X := X) ⟨_, _, _, _, _, _, _, rfl, hR⟩ (fun z hz e => e.elim id (fun e => by omega)))
  have HXX : ∀ (W : World), w.heap.size ≤ W.heap.size → (w.heap.size + 1) < W.heap.size → ∀ z, (X z ∨ z = (w.heap.size + 1)) → z < W.heap.size := fun W h1 h2 z e => e.elim (fun e => Nat.lt_of_lt_of_le (hX z e) h1) (fun e => e ▸ h2)
  have HXX := Lib.hid HXX
  clear hR hX hk hM1 hee
  go_enter Tryz.func44, Tryz.ntmps44
  go_upto_region 1 with fail
  generalize hw2 : ((w.alloc (.cells #[.int .i64 (M.nb : Int), .int .i64 (M.np : Int), .int .i64 (M.ni : Int), .slice A1 M.nb c1, .slice A2 M.np c2, .slice A3 M.ni c3] 36)).alloc (.cells #[.int .i64 0, .int .i64 0, .int .i64 0, .slice none 0 0, .slice none 0 0, .slice none 0 0] 36)) = w2 at *
  clear hw2
  have c0 : w2.cell? ⟨w.heap.size, 0, none⟩ = some (.int .i64 (M.nb : Int)) := HA.out.b.cell 0
  have c1' : w2.cell? ⟨w.heap.size, 1, none⟩ = some (.int .i64 (M.np : Int)) := HA.out.b.cell 1
  have c2' : w2.cell? ⟨w.heap.size, 2, none⟩ = some (.int .i64 (M.ni : Int)) := HA.out.b.cell 2
  have c3' : w2.cell? ⟨w.heap.size, 3, none⟩ = some (.slice A1 M.nb c1) := HA.out.b.cell 3
  have c4' : w2.cell? ⟨w.heap.size, 4, none⟩ = some (.slice A2 M.np c2) := HA.out.b.cell 4
  have c5' : w2.cell? ⟨w.heap.size, 5, none⟩ = some (.slice A3 M.ni c3) := HA.out.b.cell 5
  by_cases r0 : x < 0
  case pos =>
    have d0 : decide (x < 0) = true := decide_eq_true r0
    have R0 := Lib.hid r0
    clear r0
    have hie : M.initE x = 2 := by
      unfold Mt.initE
      rw [if_pos]
      have := R0.out
      omega
    go_wp2_with (with_reducible refine at_load 36 rfl ?_)
    refine Stop.go (wpList_load_blk (by rfl) 36 _ (by rfl) w.heap.size (by rfl) 36 _ HA.out.b _ und36 (by rfl) (by kernel_rfl) ?_)
    go_wp2_with (with_reducible refine at_store 36 rfl ?_)
    refine Stop.go (wpList_store_blk (by rfl) (by rfl) 36 _ _ (by rfl) (w.heap.size + 1) _ #[.int .i64 (M.nb : Int), .int .i64 (M.np : Int), .int .i64 (M.ni : Int), .slice A1 M.nb c1, .slice A2 M.np c2, .slice A3 M.ni c3] (by rfl) (by rfl) 36 HA.out.r (by rfl) (by kernel_rfl) (by simp [Value.oneCell']) ?_)
    intro w8 hB8 hg8 hs8
    have HB8 := Lib.hid hB8
    have hb8 : Below w.heap.size w w8 := below_grown HA.out.low hg8 (Nat.le_refl _) (by omega)
    have HF : Hid (Rf w8 X M (.agg #[.int .i64 (M.nb : Int), .int .i64 (M.np : Int), .int .i64 (M.ni : Int), .slice A1 M.nb c1, .slice A2 M.np c2, .slice A3 M.ni c3]) ∧ Below w.heap.size w w8) := Lib.hid ⟨⟨_, _, _, _, _, _, _, rfl, HR.out.below hb8⟩, hb8⟩
    have he : ee = 2 := by
      rw [← HE.out]
      exact (Mt.init_err hie (by decide)).1
    subst he
    clear hB8 hg8 hs8 hb8
    go_wp2_with fail
    refine bodyPost_ret (results_ctt (by rfl) _ _ (w.heap.size + 1) 36 _ (0, 0) _ (by rfl) HB8.out und36 (by rfl) (by kernel_rfl) (by rfl) (by rfl)) rfl ?_
    exact ⟨_, by rw [show nn = 0 by rw [← HNN.out]; exact (Mt.init_err hie (by decide)).2]; rfl, by rw [← HM1.out, if_neg (by rw [hie]; decide)]; exact HF.out.1, HF.out.2⟩
  case neg =>
  have d0 : decide (x < 0) = false := decide_eq_false r0
  by_cases r1 : (M.ni : Int) ≤ x
  case pos =>
    have d1 : decide ((M.ni : Int) ≤ x) = true := decide_eq_true r1
    have R1 := Lib.hid r1
    clear r0 r1
    have hie : M.initE x = 2 := by
      unfold Mt.initE
      rw [if_pos]
      have := R1.out
      omega
    go_wp2_with (with_reducible refine at_load 36 rfl ?_)
    refine Stop.go (wpList_load_blk (by rfl) 36 _ (by rfl) w.heap.size (by rfl) 36 _ HA.out.b _ und36 (by rfl) (by kernel_rfl) ?_)
    go_wp2_with (with_reducible refine at_store 36 rfl ?_)
    refine Stop.go (wpList_store_blk (by rfl) (by rfl) 36 _ _ (by rfl) (w.heap.size + 1) _ #[.int .i64 (M.nb : Int), .int .i64 (M.np : Int), .int .i64 (M.ni : Int), .slice A1 M.nb c1, .slice A2 M.np c2, .slice A3 M.ni c3] (by rfl) (by rfl) 36 HA.out.r (by rfl) (by kernel_rfl) (by simp [Value.oneCell']) ?_)
    intro w8 hB8 hg8 hs8
    have HB8 := Lib.hid hB8
    have hb8 : Below w.heap.size w w8 := below_grown HA.out.low hg8 (Nat.le_refl _) (by omega)
    have HF : Hid (Rf w8 X M (.agg #[.int .i64 (M.nb : Int), .int .i64 (M.np : Int), .int .i64 (M.ni : Int), .slice A1 M.nb c1, .slice A2 M.np c2, .slice A3 M.ni c3]) ∧ Below w.heap.size w w8) := Lib.hid ⟨⟨_, _, _, _, _, _, _, rfl, HR.out.below hb8⟩, hb8⟩
    have he : ee = 2 := by
      rw [← HE.out]
      exact (Mt.init_err hie (by decide)).1
    subst he
    clear hB8 hg8 hs8 hb8
    go_wp2_with fail
    refine bodyPost_ret (results_ctt (by rfl) _ _ (w.heap.size + 1) 36 _ (0, 0) _ (by rfl) HB8.out und36 (by rfl) (by kernel_rfl) (by rfl) (by rfl)) rfl ?_
    exact ⟨_, by rw [show nn = 0 by rw [← HNN.out]; exact (Mt.init_err hie (by decide)).2]; rfl, by rw [← HM1.out, if_neg (by rw [hie]; decide)]; exact HF.out.1, HF.out.2⟩
  case neg =>
  have d1 : decide ((M.ni : Int) ≤ x) = false := decide_eq_false r1
  obtain ⟨p, rfl⟩ : ∃ p : Nat, x = (p : Int) := ⟨x.toNat, by omega⟩
  have hp : p < M.ni := by omega
  have d9 : decide (M.ni ≤ p) = false := decide_eq_false (by omega)
  have HIN : Hid (¬ ¬ (0 ≤ (p : Int) ∧ (p : Int) < (M.ni : Int))) := Lib.hid (fun e => e ⟨by omega, by omega⟩)
  have HP := Lib.hid hp
  have hok := HK.out.wr p hp
  have HOK := Lib.hid hok
  clear r0 r1 hok
  obtain ⟨ad, eA, v0, v1, v2', v3, v4, v5⟩ := (HR.out.below HA.out.low).wrCells HP.out
  obtain ⟨As, ks, es, hrs⟩ := HR.out.wl p HP.out
  rw [es] at v3
  have HS := Lib.hid hrs
  subst eA
  clear hrs es
  go_wp2_with (with_reducible refine at_store 55 rfl ?_)
  refine Stop.go (wpList_store_blk (by rfl) (by rfl) 55 _ _ (by rfl) w2.heap.size _ #[.int .i64 (M.wrs p).session, .int .i64 (M.wrs p).num, .int .i64 (M.wrs p).state, .slice As (M.wrs p).parts.length ks, .int .i64 (M.wrs p).offset, .int .i64 (M.wrs p).next] (by rfl) (by rfl) 55 (Blk.new w2 55 #[.int .i64 0, .int .i64 0, .int .i64 0, .slice none 0 0, .int .i64 0, .int .i64 0]) (by rfl) (by kernel_rfl) (by simp [Value.oneCell']) ?_)
  intro w3 hB3 hg3 hs3
  have hal3 : Below w2.heap.size w2 w3 := below_grown ((Below.refl w2.heap.size w2).alloc (Nat.le_refl _) (.cells #[.int .i64 0, .int .i64 0, .int .i64 0, .slice none 0 0, .int .i64 0, .int .i64 0] 55)) hg3 (Nat.le_refl _) (Nat.le_refl _)
  have HA3 := Lib.hid (HA.out.below hal3)
  have HL3 := Lib.hid hB3
  have HLX : Hid (w.heap.size + 2 ≤ w2.heap.size) := Lib.hid (by have := HSZ.out; omega)
  clear hB3 hg3 hs3 hal3 v0 v1 v2' v3 v4 v5 c0 c1' c2' c3' c4' c5' HSZ
  generalize w2.heap.size = lx at *
  clear HA
  have l0 : w3.cell? ⟨lx, 0, none⟩ = some (.int .i64 (M.wrs p).session) := HL3.out.cell 0
  have l2 : w3.cell? ⟨lx, 2, none⟩ = some (.int .i64 (M.wrs p).state) := HL3.out.cell 2
  have HEN : Hid ((M.wrs p).ending = decide (3 ≤ (M.wrs p).state)) := Lib.hid (by
    have h1 := HOK.out.t1
    exact decide_eq_decide.2 ⟨fun q => by omega, fun q => by omega⟩)
  by_cases hs3 : 3 ≤ (M.wrs p).state
  case pos =>
    have e3 : decide (3 ≤ (M.wrs p).state) = true := decide_eq_true hs3
    have HS3 := Lib.hid hs3
    clear hs3
    have hie : M.initE (p : Int) = 203 := by
      unfold Mt.initE
      rw [if_neg HIN.out]
      simp only [Int.toNat_natCast]
      rw [if_pos (by rw [HEN.out]; exact decide_eq_true HS3.out)]
    go_wp2_with (with_reducible refine at_load 36 rfl ?_)
    refine Stop.go (wpList_load_blk (by rfl) 36 _ (by rfl) w.heap.size (by rfl) 36 _ HA3.out.b _ und36 (by rfl) (by kernel_rfl) ?_)
    go_wp2_with (with_reducible refine at_store 36 rfl ?_)
    refine Stop.go (wpList_store_blk (by rfl) (by rfl) 36 _ _ (by rfl) (w.heap.size + 1) _ #[.int .i64 (M.nb : Int), .int .i64 (M.np : Int), .int .i64 (M.ni : Int), .slice A1 M.nb c1, .slice A2 M.np c2, .slice (some ad) M.ni c3] (by rfl) (by rfl) 36 HA3.out.r (by rfl) (by kernel_rfl) (by simp [Value.oneCell']) ?_)
    intro w8 hB8 hg8 hs8
    have HB8 := Lib.hid hB8
    have hb8 : Below w.heap.size w w8 := below_grown HA3.out.low hg8 (Nat.le_refl _) (by omega)
    have HF : Hid (Rf w8 X M (.agg #[.int .i64 (M.nb : Int), .int .i64 (M.np : Int), .int .i64 (M.ni : Int), .slice A1 M.nb c1, .slice A2 M.np c2, .slice (some ad) M.ni c3]) ∧ Below w.heap.size w w8) := Lib.hid ⟨⟨_, _, _, _, _, _, _, rfl, HR.out.below hb8⟩, hb8⟩
    have he : ee = 203 := by
      rw [← HE.out]
      exact (Mt.init_err hie (by decide)).1
    subst he
    clear hB8 hg8 hs8 hb8
    go_wp2_with fail
    refine bodyPost_ret (results_ctt (by rfl) _ _ (w.heap.size + 1) 36 _ (0, 0) _ (by rfl) HB8.out und36 (by rfl) (by kernel_rfl) (by rfl) (by rfl)) rfl ?_
    exact ⟨_, by rw [show nn = 0 by rw [← HNN.out]; exact (Mt.init_err hie (by decide)).2]; rfl, by rw [← HM1.out, if_neg (by rw [hie]; decide)]; exact HF.out.1, HF.out.2⟩
  case neg =>
  have e3 : decide (3 ≤ (M.wrs p).state) = false := decide_eq_false hs3
  have HS3 := Lib.hid hs3
  clear hs3
  by_cases hm : (M.wrs p).session = 2147483647
  case pos =>
    have em := eqb hm
    have HM := Lib.hid hm
    clear hm
    have hie : M.initE (p : Int) = 204 := by
      unfold Mt.initE
      rw [if_neg HIN.out]
      simp only [Int.toNat_natCast]
      rw [if_neg (by rw [HEN.out, decide_eq_false HS3.out]; decide)]
      exact if_pos HM.out
    go_wp2_with (with_reducible refine at_load 36 rfl ?_)
    refine Stop.go (wpList_load_blk (by rfl) 36 _ (by rfl) w.heap.size (by rfl) 36 _ HA3.out.b _ und36 (by rfl) (by kernel_rfl) ?_)
    go_wp2_with (with_reducible refine at_store 36 rfl ?_)
    refine Stop.go (wpList_store_blk (by rfl) (by rfl) 36 _ _ (by rfl) (w.heap.size + 1) _ #[.int .i64 (M.nb : Int), .int .i64 (M.np : Int), .int .i64 (M.ni : Int), .slice A1 M.nb c1, .slice A2 M.np c2, .slice (some ad) M.ni c3] (by rfl) (by rfl) 36 HA3.out.r (by rfl) (by kernel_rfl) (by simp [Value.oneCell']) ?_)
    intro w8 hB8 hg8 hs8
    have HB8 := Lib.hid hB8
    have hb8 : Below w.heap.size w w8 := below_grown HA3.out.low hg8 (Nat.le_refl _) (by omega)
    have HF : Hid (Rf w8 X M (.agg #[.int .i64 (M.nb : Int), .int .i64 (M.np : Int), .int .i64 (M.ni : Int), .slice A1 M.nb c1, .slice A2 M.np c2, .slice (some ad) M.ni c3]) ∧ Below w.heap.size w w8) := Lib.hid ⟨⟨_, _, _, _, _, _, _, rfl, HR.out.below hb8⟩, hb8⟩
    have he : ee = 204 := by
      rw [← HE.out]
      exact (Mt.init_err hie (by decide)).1
    subst he
    clear hB8 hg8 hs8 hb8
    go_wp2_with fail
    refine bodyPost_ret (results_ctt (by rfl) _ _ (w.heap.size + 1) 36 _ (0, 0) _ (by rfl) HB8.out und36 (by rfl) (by kernel_rfl) (by rfl) (by rfl)) rfl ?_
    exact ⟨_, by rw [show nn = 0 by rw [← HNN.out]; exact (Mt.init_err hie (by decide)).2]; rfl, by rw [← HM1.out, if_neg (by rw [hie]; decide)]; exact HF.out.1, HF.out.2⟩
  case neg =>
  have em := neb hm
  have HM := Lib.hid hm
  clear hm
  have hie : M.initE (p : Int) = 0 := by
    unfold Mt.initE
    rw [if_neg HIN.out]
    simp only [Int.toNat_natCast]
    rw [if_neg (by rw [HEN.out, decide_eq_false HS3.out]; decide)]
    exact if_neg HM.out
  have HIE := Lib.hid hie
  clear hie
  have we : IntKind.i64.wrap ((M.wrs p).session + 1) = (M.wrs p).session + 1 := by have := HOK.out.s0; have := HOK.out.s1; rw [IntWalk.i64_in _ (by omega)]
  by_cases h2 : (M.wrs p).state = 2
  case pos =>
    have e2 := eqb h2
    have H2 := Lib.hid h2
    have HBP : Hid ((M.wrs p).begin.parts = (M.wrs p).parts) := Lib.hid (by unfold Wt.begin; rw [if_pos h2])
    have HBG : Hid ((M.wrs p).begin = { (M.wrs p) with session := (M.wrs p).session + 1, state := 4 }) := Lib.hid (by unfold Wt.begin; rw [if_pos h2])
    clear h2
    have hS0 := HL3.out
    have k0 : (w3).cell? ⟨lx, 0, none⟩ = some (.int .i64 (M.wrs p).session) := hS0.cell 0
    have g0 := hS0.frozen 0
    have hS1 : Blk ((w3).setCell ⟨lx, 0, none⟩ (.int .i64 ((M.wrs p).session + 1))) lx 55 #[.int .i64 ((M.wrs p).session + 1), .int .i64 (M.wrs p).num, .int .i64 (M.wrs p).state, .slice As (M.wrs p).parts.length ks, .int .i64 (M.wrs p).offset, .int .i64 (M.wrs p).next] := hS0.set_ 0 (.int .i64 ((M.wrs p).session + 1))
    have k1 : ((w3).setCell ⟨lx, 0, none⟩ (.int .i64 ((M.wrs p).session + 1))).cell? ⟨lx, 2, none⟩ = some (.int .i64 (M.wrs p).state) := hS1.cell 2
    have g1 := hS1.frozen 2
    have hS2 : Blk (((w3).setCell ⟨lx, 0, none⟩ (.int .i64 ((M.wrs p).session + 1))).setCell ⟨lx, 2, none⟩ (.int .i64 4)) lx 55 #[.int .i64 ((M.wrs p).session + 1), .int .i64 (M.wrs p).num, .int .i64 4, .slice As (M.wrs p).parts.length ks, .int .i64 (M.wrs p).offset, .int .i64 (M.wrs p).next] := hS1.set_ 2 (.int .i64 4)
    have hT9 : Turn (fun z => z = lx) (w3) (((w3).setCell ⟨lx, 0, none⟩ (.int .i64 ((M.wrs p).session + 1))).setCell ⟨lx, 2, none⟩ (.int .i64 4)) := (((Turn.refl (fun z => z = lx) (w3)).setCell (p := ⟨lx, 0, none⟩) (fun _ => rfl) (.int .i64 ((M.wrs p).session + 1))).setCell (p := ⟨lx, 2, none⟩) (fun _ => rfl) (.int .i64 4))
    have HA5 := Lib.hid (HA3.out.on hT9 (fun z e => by have := HLX.out; omega) (fun e => by have := HLX.out; omega) (fun e => by have := HLX.out; omega))
    have HL5 := Lib.hid hS2
    clear hT9 hS0 hS1 hS2
    go_upto_region 11 with fail
    generalize ((w3).setCell ⟨lx, 0, none⟩ (.int .i64 ((M.wrs p).session + 1))).setCell ⟨lx, 2, none⟩ (.int .i64 4) = w5 at *
    clear k0 g0 k1 g1
    go_wp2_with (with_reducible refine at_load 36 rfl ?_)
    refine Stop.go (wpList_load_blk (by rfl) 36 _ (by rfl) w.heap.size (by rfl) 36 _ HA5.out.b _ und36 (by rfl) (by kernel_rfl) ?_)
    go_wp2_with (with_reducible refine at_load 55 rfl ?_)
    refine Stop.go (wpList_load_blk (by rfl) 55 _ (by rfl) lx (by rfl) 55 _ HL5.out _ und55 (by rfl) (by kernel_rfl) ?_)
    have hrx9 := HRX.out.below HA5.out.low
    have hxx9 := HXX.out _ HA5.out.low.size HA5.out.r.lt
    have hcall := (show _ from by have hc := writing105_any hrx9 hxx9 HK.out.ni.2 HK.out.np.2 HP.out (M.wrs p).begin (s := .slice As (M.wrs p).parts.length ks) ⟨As, ks, by rw [HBP.out], by rw [HBP.out]; exact (HS.out.wide (fun z hz e => e.elim id (fun e => by omega))).below HA5.out.low⟩; rw [HBG.out] at hc; exact hc)
    clear hrx9 hxx9
    go_wp2_with fail
    refine hcall.mono ?_
    rintro r w7 ⟨v7, rfl, hrf, hb7⟩
    have HA7 := Lib.hid (HA5.out.below hb7)
    have hrf7 := hrf
    obtain ⟨B1, B2, B3, d1, d2, d3, rs7, rfl, hR7⟩ := hrf
    have HRF := Lib.hid hrf7
    clear hcall hrf7 hR7 hb7
    go_wp2_with (with_reducible refine at_store 36 rfl ?_)
    refine Stop.go (wpList_store_blk (by rfl) (by rfl) 36 _ _ (by rfl) (w.heap.size + 1) _ #[.int .i64 (M.nb : Int), .int .i64 (M.np : Int), .int .i64 (M.ni : Int), .slice B1 M.nb d1, .slice B2 M.np d2, .slice B3 M.ni d3] (by rfl) (by rfl) 36 HA7.out.r (by rfl) (by kernel_rfl) (by simp [Value.oneCell']) ?_)
    intro w8 hB8 hg8 hs8
    have HB8 := Lib.hid hB8
    have hb8 : Below w.heap.size w w8 := below_grown HA7.out.low hg8 (Nat.le_refl _) (by omega)
    have hb78 : Turn (fun z => z = (w.heap.size + 1)) w7 w8 := Turn.of_grown hg8 (fun r e => by injection e with e; exact e.symm)
    have HF : Hid (Rf w8 X (M.setW p { (M.wrs p) with session := (M.wrs p).session + 1, state := 4 }) (.agg #[.int .i64 (M.nb : Int), .int .i64 (M.np : Int), .int .i64 (M.ni : Int), .slice B1 M.nb d1, .slice B2 M.np d2, .slice B3 M.ni d3]) ∧ Below w.heap.size w w8) := Lib.hid ⟨(HRF.out.keep hb78 (fun z _ e => .inr e)).wide (fun z _ e => .inl e), hb8⟩
    have he : ee = 203 := by
      rw [← HE.out]
      unfold Mt.initF
      rw [if_pos HIE.out]
      exact if_pos H2.out
    have hn : nn = 0 := by
      rw [← HNN.out]
      unfold Mt.initN
      rw [if_pos HIE.out]
      exact if_pos H2.out
    subst he hn
    clear hB8 hg8 hs8 hb8 hb78
    go_wp2_with fail
    refine bodyPost_ret (results_ctt (by rfl) _ _ (w.heap.size + 1) 36 _ (0, 0) _ (by rfl) HB8.out und36 (by rfl) (by kernel_rfl) (by rfl) (by rfl)) rfl ?_
    exact ⟨_, rfl, by rw [← HM1.out, if_pos HIE.out]; simp only [Int.toNat_natCast]; rw [HBG.out]; exact HF.out.1, HF.out.2⟩
  case neg =>
  have e2 := neb h2
  have H2 := Lib.hid h2
  have HBP : Hid ((M.wrs p).begin.parts = (M.wrs p).parts) := Lib.hid (by unfold Wt.begin; rw [if_neg h2])
  have HBG : Hid ((M.wrs p).begin = { (M.wrs p) with session := (M.wrs p).session + 1 }) := Lib.hid (by unfold Wt.begin; rw [if_neg h2])
  clear h2
  have hS0 := HL3.out
  have k0 : (w3).cell? ⟨lx, 0, none⟩ = some (.int .i64 (M.wrs p).session) := hS0.cell 0
  have g0 := hS0.frozen 0
  have hS1 : Blk ((w3).setCell ⟨lx, 0, none⟩ (.int .i64 ((M.wrs p).session + 1))) lx 55 #[.int .i64 ((M.wrs p).session + 1), .int .i64 (M.wrs p).num, .int .i64 (M.wrs p).state, .slice As (M.wrs p).parts.length ks, .int .i64 (M.wrs p).offset, .int .i64 (M.wrs p).next] := hS0.set_ 0 (.int .i64 ((M.wrs p).session + 1))
  have hT9 : Turn (fun z => z = lx) (w3) ((w3).setCell ⟨lx, 0, none⟩ (.int .i64 ((M.wrs p).session + 1))) := ((Turn.refl (fun z => z = lx) (w3)).setCell (p := ⟨lx, 0, none⟩) (fun _ => rfl) (.int .i64 ((M.wrs p).session + 1)))
  have HA5 := Lib.hid (HA3.out.on hT9 (fun z e => by have := HLX.out; omega) (fun e => by have := HLX.out; omega) (fun e => by have := HLX.out; omega))
  have HL5 := Lib.hid hS1
  clear hT9 hS0 hS1
  go_upto_region 12 with fail
  generalize (w3).setCell ⟨lx, 0, none⟩ (.int .i64 ((M.wrs p).session + 1)) = w5 at *
  clear k0 g0
  have hrx9 := HRX.out.below ((HA5.out.below (Below.refl _ _).drew).low)
  have hxx9 := HXX.out _ (HA5.out.below (Below.refl _ _).drew).low.size (HA5.out.below (Below.refl _ _).drew).r.lt
  have hcall := (show _ from by have hc := writing105_any hrx9 hxx9 HK.out.ni.2 HK.out.np.2 HP.out (M.wrs p).begin (s := .slice As (M.wrs p).parts.length ks) ⟨As, ks, by rw [HBP.out], by rw [HBP.out]; exact (HS.out.wide (fun z hz e => e.elim id (fun e => by omega))).below (HA5.out.below (Below.refl _ _).drew).low⟩; rw [HBG.out] at hc; exact hc)
  clear hrx9 hxx9
  have hA0 := HA5.out.below (Below.refl _ _).drew
  refine wp_region_np ?_
  refine wp_region_held_drew (S := fun W => Blk W w.heap.size 36 #[.int .i64 (M.nb : Int), .int .i64 (M.np : Int), .int .i64 (M.ni : Int), .slice A1 M.nb c1, .slice A2 M.np c2, .slice (some ad) M.ni c3] ∧ Blk W lx 55 #[.int .i64 ((M.wrs p).session + 1), .int .i64 (M.wrs p).num, .int .i64 (M.wrs p).state, .slice As (M.wrs p).parts.length ks, .int .i64 (M.wrs p).offset, .int .i64 (M.wrs p).next]) (by kernel_rfl) (show (fun W => Blk W w.heap.size 36 #[.int .i64 (M.nb : Int), .int .i64 (M.np : Int), .int .i64 (M.ni : Int), .slice A1 M.nb c1, .slice A2 M.np c2, .slice (some ad) M.ni c3] ∧ Blk W lx 55 #[.int .i64 ((M.wrs p).session + 1), .int .i64 (M.wrs p).num, .int .i64 (M.wrs p).state, .slice As (M.wrs p).parts.length ks, .int .i64 (M.wrs p).offset, .int .i64 (M.wrs p).next]) w5.drew from ⟨hA0.b, HL5.out.drew⟩) (fun hHeld => ?_)
  generalize hv0 : w5.drew = V0 at *
  clear hv0
  refine wpAnyH_takeAt (i := 0) (d := 43) (v := ?vq0x) rfl rfl (by kernel_rfl) (by kernel_rfl) (by kernel_rfl) (fun _ _ _ h => h) (Or.inl ⟨by rfl, ?hyq0x⟩) hHeld ?_
  case hyq0x =>
    intro W hSw
    obtain ⟨kb, kl⟩ := hSw; have q0 : W.cell? ⟨w.heap.size, 0, none⟩ = some (.int .i64 (M.nb : Int)) := kb.cell 0; have q1 : W.cell? ⟨w.heap.size, 1, none⟩ = some (.int .i64 (M.np : Int)) := kb.cell 1; have q2 : W.cell? ⟨w.heap.size, 2, none⟩ = some (.int .i64 (M.ni : Int)) := kb.cell 2; have q3 : W.cell? ⟨w.heap.size, 3, none⟩ = some (.slice A1 M.nb c1) := kb.cell 3; have q4 : W.cell? ⟨w.heap.size, 4, none⟩ = some (.slice A2 M.np c2) := kb.cell 4; have q5 : W.cell? ⟨w.heap.size, 5, none⟩ = some (.slice (some ad) M.ni c3) := kb.cell 5; have s0 : W.cell? ⟨lx, 0, none⟩ = some (.int .i64 ((M.wrs p).session + 1)) := kl.cell 0; have s1 : W.cell? ⟨lx, 1, none⟩ = some (.int .i64 (M.wrs p).num) := kl.cell 1; have s2 : W.cell? ⟨lx, 2, none⟩ = some (.int .i64 (M.wrs p).state) := kl.cell 2; have s3 : W.cell? ⟨lx, 3, none⟩ = some (.slice As (M.wrs p).parts.length ks) := kl.cell 3; have s4 : W.cell? ⟨lx, 4, none⟩ = some (.int .i64 (M.wrs p).offset) := kl.cell 4; have s5 : W.cell? ⟨lx, 5, none⟩ = some (.int .i64 (M.wrs p).next) := kl.cell 5; clear kb kl
    (go_simp; try with_reducible rfl)
  simp only [List.setIfInBounds_toArray, List.set_cons_zero, List.set_cons_succ]
  refine wpAnyH_takeAt (i := 1) (d := 44) (v := ?vq1x) rfl rfl (by kernel_rfl) (by kernel_rfl) (by kernel_rfl) (fun _ _ _ h => h) (Or.inl ⟨by rfl, ?hyq1x⟩) hHeld ?_
  case hyq1x =>
    intro W hSw
    clear hSw
    (go_simp; try with_reducible rfl)
  simp only [List.setIfInBounds_toArray, List.set_cons_zero, List.set_cons_succ]
  refine wpAnyH_takeAt (i := 2) (d := 45) (v := ?vq2x) rfl rfl (by kernel_rfl) (by kernel_rfl) (by kernel_rfl) (fun _ _ _ h => h) (Or.inl ⟨by rfl, ?hyq2x⟩) hHeld ?_
  case hyq2x =>
    intro W hSw
    obtain ⟨kb, kl⟩ := hSw; have q0 : W.cell? ⟨w.heap.size, 0, none⟩ = some (.int .i64 (M.nb : Int)) := kb.cell 0; have q1 : W.cell? ⟨w.heap.size, 1, none⟩ = some (.int .i64 (M.np : Int)) := kb.cell 1; have q2 : W.cell? ⟨w.heap.size, 2, none⟩ = some (.int .i64 (M.ni : Int)) := kb.cell 2; have q3 : W.cell? ⟨w.heap.size, 3, none⟩ = some (.slice A1 M.nb c1) := kb.cell 3; have q4 : W.cell? ⟨w.heap.size, 4, none⟩ = some (.slice A2 M.np c2) := kb.cell 4; have q5 : W.cell? ⟨w.heap.size, 5, none⟩ = some (.slice (some ad) M.ni c3) := kb.cell 5; have s0 : W.cell? ⟨lx, 0, none⟩ = some (.int .i64 ((M.wrs p).session + 1)) := kl.cell 0; have s1 : W.cell? ⟨lx, 1, none⟩ = some (.int .i64 (M.wrs p).num) := kl.cell 1; have s2 : W.cell? ⟨lx, 2, none⟩ = some (.int .i64 (M.wrs p).state) := kl.cell 2; have s3 : W.cell? ⟨lx, 3, none⟩ = some (.slice As (M.wrs p).parts.length ks) := kl.cell 3; have s4 : W.cell? ⟨lx, 4, none⟩ = some (.int .i64 (M.wrs p).offset) := kl.cell 4; have s5 : W.cell? ⟨lx, 5, none⟩ = some (.int .i64 (M.wrs p).next) := kl.cell 5; clear kb kl
    (go_simp; try with_reducible rfl)
  simp only [List.setIfInBounds_toArray, List.set_cons_zero, List.set_cons_succ]
  refine wpAnyH_takeAt (i := 4) (d := 47) (v := ?vq3x) rfl rfl (by kernel_rfl) (by kernel_rfl) (by kernel_rfl) (fun _ _ _ h => h) (Or.inl ⟨by rfl, ?hyq3x⟩) hHeld ?_
  case hyq3x =>
    intro W hSw
    clear hSw
    (go_simp; try with_reducible rfl)
  simp only [List.setIfInBounds_toArray, List.set_cons_zero, List.set_cons_succ]
  refine wpAnyH_takeAt (i := 5) (d := 48) (v := ?vq4x) rfl rfl (by kernel_rfl) (by kernel_rfl) (by kernel_rfl) (fun _ _ _ h => h) (Or.inl ⟨by rfl, ?hyq4x⟩) hHeld ?_
  case hyq4x =>
    intro W hSw
    obtain ⟨kb, kl⟩ := hSw; have q0 : W.cell? ⟨w.heap.size, 0, none⟩ = some (.int .i64 (M.nb : Int)) := kb.cell 0; have q1 : W.cell? ⟨w.heap.size, 1, none⟩ = some (.int .i64 (M.np : Int)) := kb.cell 1; have q2 : W.cell? ⟨w.heap.size, 2, none⟩ = some (.int .i64 (M.ni : Int)) := kb.cell 2; have q3 : W.cell? ⟨w.heap.size, 3, none⟩ = some (.slice A1 M.nb c1) := kb.cell 3; have q4 : W.cell? ⟨w.heap.size, 4, none⟩ = some (.slice A2 M.np c2) := kb.cell 4; have q5 : W.cell? ⟨w.heap.size, 5, none⟩ = some (.slice (some ad) M.ni c3) := kb.cell 5; have s0 : W.cell? ⟨lx, 0, none⟩ = some (.int .i64 ((M.wrs p).session + 1)) := kl.cell 0; have s1 : W.cell? ⟨lx, 1, none⟩ = some (.int .i64 (M.wrs p).num) := kl.cell 1; have s2 : W.cell? ⟨lx, 2, none⟩ = some (.int .i64 (M.wrs p).state) := kl.cell 2; have s3 : W.cell? ⟨lx, 3, none⟩ = some (.slice As (M.wrs p).parts.length ks) := kl.cell 3; have s4 : W.cell? ⟨lx, 4, none⟩ = some (.int .i64 (M.wrs p).offset) := kl.cell 4; have s5 : W.cell? ⟨lx, 5, none⟩ = some (.int .i64 (M.wrs p).next) := kl.cell 5; clear kb kl
    (go_simp; try with_reducible rfl)
  simp only [List.setIfInBounds_toArray, List.set_cons_zero, List.set_cons_succ]
  refine wpAnyH_ready (rs := [3]) (by kernel_rfl) (by simp) (AllReadyH.cons rfl (fun K hK => ?_) AllReadyH.nil)
  go_simp
  refine hcall.mono ?_
  rintro r w7 ⟨v7, rfl, hrf, hb7⟩
  dsimp only
  have hA7 := hA0.below hb7
  obtain ⟨B1, B2, B3, d1', d2', d3', rs7, e7, hR7⟩ := hrf
  subst e7
  have hHeld2 : (fun W => Blk W w.heap.size 36 #[.int .i64 (M.nb : Int), .int .i64 (M.np : Int), .int .i64 (M.ni : Int), .slice A1 M.nb c1, .slice A2 M.np c2, .slice (some ad) M.ni c3] ∧ Blk W lx 55 #[.int .i64 ((M.wrs p).session + 1), .int .i64 (M.wrs p).num, .int .i64 (M.wrs p).state, .slice As (M.wrs p).parts.length ks, .int .i64 (M.wrs p).offset, .int .i64 (M.wrs p).next]) w7 := ⟨hHeld.1.below hb7 hHeld.1.lt, hHeld.2.below hb7 hHeld.2.lt⟩
  refine hK.out _ _ hHeld2 (fun hHeld => ?_)
  clear hK K hcall hHeld2 hb7
  try simp only [List.setIfInBounds_toArray, List.set_cons_zero, List.set_cons_succ]
  refine wpAnyH_ready (rs := [6]) (by kernel_rfl) (by simp) (AllReadyH.cons rfl (fun K hK => ?_) AllReadyH.nil)
  refine step_store_blk (by rfl) rfl 36 _ _ rfl (w.heap.size + 1) _ #[.int .i64 (M.nb : Int), .int .i64 (M.np : Int), .int .i64 (M.ni : Int), .slice B1 M.nb d1', .slice B2 M.np d2', .slice B3 M.ni d3'] rfl rfl 36 hA7.r rfl (by kernel_rfl) (by simp [Value.oneCell']) ?_
  intro w8 hB8 hg8 hs8
  have HB8 := Lib.hid hB8
  have hb8 : Below w.heap.size w w8 := below_grown hA7.low hg8 (Nat.le_refl _) (by omega)
  have hb78 : Turn (fun z => z = (w.heap.size + 1)) w7 w8 := Turn.of_grown hg8 (fun r e => by injection e with e; exact e.symm)
  have HF : Hid (Rf w8 X (M.setW p { (M.wrs p) with session := (M.wrs p).session + 1 }) (.agg #[.int .i64 (M.nb : Int), .int .i64 (M.np : Int), .int .i64 (M.ni : Int), .slice B1 M.nb d1', .slice B2 M.np d2', .slice B3 M.ni d3']) ∧ Below w.heap.size w w8) := Lib.hid ⟨((Rf.keep (X := fun z => X z ∨ z = (w.heap.size + 1)) ⟨_, _, _, _, _, _, _, rfl, hR7⟩ hb78 (fun z _ e => .inr e)).wide (fun z _ e => .inl e)), hb8⟩
  have hHeld2 : (fun W => Blk W w.heap.size 36 #[.int .i64 (M.nb : Int), .int .i64 (M.np : Int), .int .i64 (M.ni : Int), .slice A1 M.nb c1, .slice A2 M.np c2, .slice (some ad) M.ni c3] ∧ Blk W lx 55 #[.int .i64 ((M.wrs p).session + 1), .int .i64 (M.wrs p).num, .int .i64 (M.wrs p).state, .slice As (M.wrs p).parts.length ks, .int .i64 (M.wrs p).offset, .int .i64 (M.wrs p).next]) w8 := ⟨hHeld.1.keep hb78 (fun e => by omega), hHeld.2.keep hb78 (fun e => by have := HLX.out; omega)⟩
  refine hK.out _ _ hHeld2 (fun hHeld => ?_)
  clear hK K hHeld2 hb78 hb8 hR7 hA7 hB8 hg8 hs8
  try simp only [List.setIfInBounds_toArray, List.set_cons_zero, List.set_cons_succ]
  refine wpAnyH_takeAt (i := 7) (d := 5) (v := ?vq5x) rfl rfl (by kernel_rfl) (by kernel_rfl) (by kernel_rfl) (fun _ _ _ h => h) (Or.inl ⟨by rfl, ?hyq5x⟩) hHeld ?_
  case hyq5x =>
    intro W hSw
    clear hSw
    (go_simp; try with_reducible rfl)
  simp only [List.setIfInBounds_toArray, List.set_cons_zero, List.set_cons_succ]
  refine wpAnyH_takeAt (i := 8) (d := 6) (v := ?vq6x) rfl rfl (by kernel_rfl) (by kernel_rfl) (by kernel_rfl) (fun _ _ _ h => h) (Or.inl ⟨by rfl, ?hyq6x⟩) hHeld ?_
  case hyq6x =>
    intro W hSw
    clear hSw
    (go_simp; try with_reducible rfl)
  simp only [List.setIfInBounds_toArray, List.set_cons_zero, List.set_cons_succ]
  refine wpAnyH_done (by kernel_rfl) ?_ _
  clear hHeld
  have he : ee = 0 := by
    rw [← HE.out]
    unfold Mt.initF
    rw [if_pos HIE.out]
    exact if_neg H2.out
  have hn : nn = (M.wrs p).session + 1 := by
    rw [← HNN.out]
    unfold Mt.initN
    rw [if_pos HIE.out]
    exact if_neg H2.out
  subst he hn
  go_wp2_with fail
  refine bodyPost_ret (results_ctt (by rfl) _ _ (w.heap.size + 1) 36 _ (0, 0) _ (by rfl) HB8.out und36 (by rfl) (by kernel_rfl) (by rfl) (by rfl)) rfl ?_
  exact ⟨_, rfl, by rw [← HM1.out, if_pos HIE.out]; simp only [Int.toNat_natCast]; rw [HBG.out]; exact HF.out.1, HF.out.2⟩
end
end Go.Proofs.YtpmdicbhliclcaaGreat
