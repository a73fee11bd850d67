/-
  The document: Elect. Conditions: a controller as it is between two calls.
-/
import Derived.Test.YtpmdicbhliclcaaGreatRef41
namespace Go.Proofs.YtpmdicbhliclcaaGreat
open Go.RowKit Go.Maps
set_option linter.unusedVariables false
section
variable {w : World} {X : Nat → Prop} {M : Mt} {v : Value}
theorem rd_blk {w : World} {X : Nat → Prop} {g : Nat} {x : Int} (h : Blk w g 3 #[.int .i64 x]) (hX : ¬ X g) : Rd w X 1 (some ⟨g, 0, none⟩) [x].length (intsOf [x]) := by
  refine ⟨rfl, fun c hc => by simp [intsOf] at hc; subst hc; exact ⟨rfl, fun u hu => by simp at hu; subst hu; rfl⟩, fun _ => ⟨_, rfl, h.lt, hX, fun j u hu => ?_⟩⟩
  rw [add0, h.cell j]
  rw [flat_ints] at hu
  rcases j with _ | j
  · exact hu
  · simp [vals] at hu
set_option maxRecDepth 100000 in
set_option maxHeartbeats 8000000 in
theorem elect42_any (h : Rf w X M v) (hX : ∀ b, X b → b < w.heap.size) (hk : M.ok) (x y : Int) (un : Bool) : Calls Tryz.prog 42 #[v, .int .i64 x, .int .i64 y, .bool un] w (RfP w X M (M.setV x.toNat ((M.views x.toNat).elect y)) (M.electE x y un)) := by
  obtain ⟨A1, A2, A3, c1, c2, c3, rs, rfl, hR⟩ := h
  obtain ⟨M1, hM1⟩ : ∃ M1, (M.setV x.toNat ((M.views x.toNat).elect y)) = M1 := ⟨_, rfl⟩
  obtain ⟨ee, hee⟩ : ∃ ee, M.electE x y un = ee := ⟨_, rfl⟩
  rw [hM1, hee]
  have HM1 := Lib.hid hM1
  have HE := Lib.hid hee
  have HR := Lib.hid hR
  have HX := Lib.hid hX
  have HK := Lib.hid hk
  have HA : Hid (Wa w ((w.alloc (.cells #[.int .i64 (M.nb : Int), .int .i64 (M.np : Int), .int .i64 (M.ni : Int), .slice A1 M.nb c1, .slice A2 M.np c2, .slice A3 M.ni c3] 36)).alloc (.cells #[.int .i64 0, .int .i64 0, .int .i64 0, .slice none 0 0, .slice none 0 0, .slice none 0 0] 36)) w.heap.size (w.heap.size + 1) #[.int .i64 (M.nb : Int), .int .i64 (M.np : Int), .int .i64 (M.ni : Int), .slice A1 M.nb c1, .slice A2 M.np c2, .slice A3 M.ni c3] #[.int .i64 0, .int .i64 0, .int .i64 0, .slice none 0 0, .slice none 0 0, .slice none 0 0]) := Lib.hid ⟨(((Below.refl w.heap.size w).alloc (Nat.le_refl _) (.cells #[.int .i64 (M.nb : Int), .int .i64 (M.np : Int), .int .i64 (M.ni : Int), .slice A1 M.nb c1, .slice A2 M.np c2, .slice A3 M.ni c3] 36)).alloc (le_alloc (Nat.le_refl _) _) (.cells #[.int .i64 0, .int .i64 0, .int .i64 0, .slice none 0 0, .slice none 0 0, .slice none 0 0] 36)), ((Blk.new w 36 _).alloc _), blk_new (w.alloc (.cells #[.int .i64 (M.nb : Int), .int .i64 (M.np : Int), .int .i64 (M.ni : Int), .slice A1 M.nb c1, .slice A2 M.np c2, .slice A3 M.ni c3] 36)) 36 _ (by simp)⟩
  have HSZ : Hid (((w.alloc (.cells #[.int .i64 (M.nb : Int), .int .i64 (M.np : Int), .int .i64 (M.ni : Int), .slice A1 M.nb c1, .slice A2 M.np c2, .slice A3 M.ni c3] 36)).alloc (.cells #[.int .i64 0, .int .i64 0, .int .i64 0, .slice none 0 0, .slice none 0 0, .slice none 0 0] 36)).heap.size = w.heap.size + 2) := Lib.hid (by simp)
  have HRX : Hid (Rf w (fun z => X z ∨ z = (w.heap.size + 1)) M (.agg #[.int .i64 (M.nb : Int), .int .i64 (M.np : Int), .int .i64 (M.ni : Int), .slice A1 M.nb c1, .slice A2 M.np c2, .slice A3 M.ni c3])) := Lib.hid (Rf.wide (X := X) ⟨_, _, _, _, _, _, _, rfl, hR⟩ (fun z hz e => e.elim id (fun e => by omega)))
  have HXX : ∀ (W : World), w.heap.size ≤ W.heap.size → (w.heap.size + 1) < W.heap.size → ∀ z, (X z ∨ z = (w.heap.size + 1)) → z < W.heap.size := fun W h1 h2 z e => e.elim (fun e => Nat.lt_of_lt_of_le (hX z e) h1) (fun e => e ▸ h2)
  have HXX := Lib.hid HXX
  clear hR hX hk hM1 hee
  go_enter Tryz.func42, Tryz.ntmps42
  go_upto_region 1 with fail
  generalize hw2 : ((w.alloc (.cells #[.int .i64 (M.nb : Int), .int .i64 (M.np : Int), .int .i64 (M.ni : Int), .slice A1 M.nb c1, .slice A2 M.np c2, .slice A3 M.ni c3] 36)).alloc (.cells #[.int .i64 0, .int .i64 0, .int .i64 0, .slice none 0 0, .slice none 0 0, .slice none 0 0] 36)) = w2 at *
  clear hw2
  have c0 : w2.cell? ⟨w.heap.size, 0, none⟩ = some (.int .i64 (M.nb : Int)) := HA.out.b.cell 0
  have c1' : w2.cell? ⟨w.heap.size, 1, none⟩ = some (.int .i64 (M.np : Int)) := HA.out.b.cell 1
  have c2' : w2.cell? ⟨w.heap.size, 2, none⟩ = some (.int .i64 (M.ni : Int)) := HA.out.b.cell 2
  have c3' : w2.cell? ⟨w.heap.size, 3, none⟩ = some (.slice A1 M.nb c1) := HA.out.b.cell 3
  have c4' : w2.cell? ⟨w.heap.size, 4, none⟩ = some (.slice A2 M.np c2) := HA.out.b.cell 4
  have c5' : w2.cell? ⟨w.heap.size, 5, none⟩ = some (.slice A3 M.ni c3) := HA.out.b.cell 5
  by_cases r0 : x < 0
  case pos =>
    have d0 : decide (x < 0) = true := decide_eq_true r0
    have R0 := Lib.hid r0
    clear r0
    go_wp2_with (with_reducible refine at_load 36 rfl ?_)
    refine Stop.go (wpList_load_blk (by rfl) 36 _ (by rfl) w.heap.size (by rfl) 36 _ HA.out.b _ und36 (by rfl) (by kernel_rfl) ?_)
    go_wp2_with (with_reducible refine at_store 36 rfl ?_)
    refine Stop.go (wpList_store_blk (by rfl) (by rfl) 36 _ _ (by rfl) (w.heap.size + 1) _ #[.int .i64 (M.nb : Int), .int .i64 (M.np : Int), .int .i64 (M.ni : Int), .slice A1 M.nb c1, .slice A2 M.np c2, .slice A3 M.ni c3] (by rfl) (by rfl) 36 HA.out.r (by rfl) (by kernel_rfl) (by simp [Value.oneCell']) ?_)
    intro w8 hB8 hg8 hs8
    have HB8 := Lib.hid hB8
    have hb8 : Below w.heap.size w w8 := below_grown HA.out.low hg8 (Nat.le_refl _) (by omega)
    have HF : Hid (Rf w8 X M (.agg #[.int .i64 (M.nb : Int), .int .i64 (M.np : Int), .int .i64 (M.ni : Int), .slice A1 M.nb c1, .slice A2 M.np c2, .slice A3 M.ni c3]) ∧ Below w.heap.size w w8) := Lib.hid ⟨⟨_, _, _, _, _, _, _, rfl, HR.out.below hb8⟩, hb8⟩
    have he : ee = 2 := by
      rw [← HE.out]
      unfold Mt.electE
      rw [if_pos]
      have := R0.out
      omega
    subst he
    clear hB8 hg8 hs8 hb8
    go_wp2_with fail
    refine bodyPost_ret (results_ct (by rfl) _ _ (w.heap.size + 1) 36 _ (0, 0) _ (by rfl) HB8.out und36 (by rfl) (by kernel_rfl) (by rfl)) rfl ?_
    exact ⟨_, rfl, by rw [if_neg (by decide)]; exact HF.out.1, HF.out.2⟩
  case neg =>
  have d0 : decide (x < 0) = false := decide_eq_false r0
  by_cases r1 : (M.np : Int) ≤ x
  case pos =>
    have d1 : decide ((M.np : Int) ≤ x) = true := decide_eq_true r1
    have R1 := Lib.hid r1
    clear r0 r1
    go_wp2_with (with_reducible refine at_load 36 rfl ?_)
    refine Stop.go (wpList_load_blk (by rfl) 36 _ (by rfl) w.heap.size (by rfl) 36 _ HA.out.b _ und36 (by rfl) (by kernel_rfl) ?_)
    go_wp2_with (with_reducible refine at_store 36 rfl ?_)
    refine Stop.go (wpList_store_blk (by rfl) (by rfl) 36 _ _ (by rfl) (w.heap.size + 1) _ #[.int .i64 (M.nb : Int), .int .i64 (M.np : Int), .int .i64 (M.ni : Int), .slice A1 M.nb c1, .slice A2 M.np c2, .slice A3 M.ni c3] (by rfl) (by rfl) 36 HA.out.r (by rfl) (by kernel_rfl) (by simp [Value.oneCell']) ?_)
    intro w8 hB8 hg8 hs8
    have HB8 := Lib.hid hB8
    have hb8 : Below w.heap.size w w8 := below_grown HA.out.low hg8 (Nat.le_refl _) (by omega)
    have HF : Hid (Rf w8 X M (.agg #[.int .i64 (M.nb : Int), .int .i64 (M.np : Int), .int .i64 (M.ni : Int), .slice A1 M.nb c1, .slice A2 M.np c2, .slice A3 M.ni c3]) ∧ Below w.heap.size w w8) := Lib.hid ⟨⟨_, _, _, _, _, _, _, rfl, HR.out.below hb8⟩, hb8⟩
    have he : ee = 2 := by
      rw [← HE.out]
      unfold Mt.electE
      rw [if_pos]
      have := R1.out
      omega
    subst he
    clear hB8 hg8 hs8 hb8
    go_wp2_with fail
    refine bodyPost_ret (results_ct (by rfl) _ _ (w.heap.size + 1) 36 _ (0, 0) _ (by rfl) HB8.out und36 (by rfl) (by kernel_rfl) (by rfl)) rfl ?_
    exact ⟨_, rfl, by rw [if_neg (by decide)]; exact HF.out.1, HF.out.2⟩
  case neg =>
  have d1 : decide ((M.np : Int) ≤ x) = false := decide_eq_false r1
  by_cases r2 : y < 0
  case pos =>
    have d2 : decide (y < 0) = true := decide_eq_true r2
    have R2 := Lib.hid r2
    clear r0 r1 r2
    go_wp2_with (with_reducible refine at_load 36 rfl ?_)
    refine Stop.go (wpList_load_blk (by rfl) 36 _ (by rfl) w.heap.size (by rfl) 36 _ HA.out.b _ und36 (by rfl) (by kernel_rfl) ?_)
    go_wp2_with (with_reducible refine at_store 36 rfl ?_)
    refine Stop.go (wpList_store_blk (by rfl) (by rfl) 36 _ _ (by rfl) (w.heap.size + 1) _ #[.int .i64 (M.nb : Int), .int .i64 (M.np : Int), .int .i64 (M.ni : Int), .slice A1 M.nb c1, .slice A2 M.np c2, .slice A3 M.ni c3] (by rfl) (by rfl) 36 HA.out.r (by rfl) (by kernel_rfl) (by simp [Value.oneCell']) ?_)
    intro w8 hB8 hg8 hs8
    have HB8 := Lib.hid hB8
    have hb8 : Below w.heap.size w w8 := below_grown HA.out.low hg8 (Nat.le_refl _) (by omega)
    have HF : Hid (Rf w8 X M (.agg #[.int .i64 (M.nb : Int), .int .i64 (M.np : Int), .int .i64 (M.ni : Int), .slice A1 M.nb c1, .slice A2 M.np c2, .slice A3 M.ni c3]) ∧ Below w.heap.size w w8) := Lib.hid ⟨⟨_, _, _, _, _, _, _, rfl, HR.out.below hb8⟩, hb8⟩
    have he : ee = 2 := by
      rw [← HE.out]
      unfold Mt.electE
      rw [if_pos]
      have := R2.out
      omega
    subst he
    clear hB8 hg8 hs8 hb8
    go_wp2_with fail
    refine bodyPost_ret (results_ct (by rfl) _ _ (w.heap.size + 1) 36 _ (0, 0) _ (by rfl) HB8.out und36 (by rfl) (by kernel_rfl) (by rfl)) rfl ?_
    exact ⟨_, rfl, by rw [if_neg (by decide)]; exact HF.out.1, HF.out.2⟩
  case neg =>
  have d2 : decide (y < 0) = false := decide_eq_false r2
  by_cases r3 : (M.nb : Int) ≤ y
  case pos =>
    have d3 : decide ((M.nb : Int) ≤ y) = true := decide_eq_true r3
    have R3 := Lib.hid r3
    clear r0 r1 r2 r3
    go_wp2_with (with_reducible refine at_load 36 rfl ?_)
    refine Stop.go (wpList_load_blk (by rfl) 36 _ (by rfl) w.heap.size (by rfl) 36 _ HA.out.b _ und36 (by rfl) (by kernel_rfl) ?_)
    go_wp2_with (with_reducible refine at_store 36 rfl ?_)
    refine Stop.go (wpList_store_blk (by rfl) (by rfl) 36 _ _ (by rfl) (w.heap.size + 1) _ #[.int .i64 (M.nb : Int), .int .i64 (M.np : Int), .int .i64 (M.ni : Int), .slice A1 M.nb c1, .slice A2 M.np c2, .slice A3 M.ni c3] (by rfl) (by rfl) 36 HA.out.r (by rfl) (by kernel_rfl) (by simp [Value.oneCell']) ?_)
    intro w8 hB8 hg8 hs8
    have HB8 := Lib.hid hB8
    have hb8 : Below w.heap.size w w8 := below_grown HA.out.low hg8 (Nat.le_refl _) (by omega)
    have HF : Hid (Rf w8 X M (.agg #[.int .i64 (M.nb : Int), .int .i64 (M.np : Int), .int .i64 (M.ni : Int), .slice A1 M.nb c1, .slice A2 M.np c2, .slice A3 M.ni c3]) ∧ Below w.heap.size w w8) := Lib.hid ⟨⟨_, _, _, _, _, _, _, rfl, HR.out.below hb8⟩, hb8⟩
    have he : ee = 2 := by
      rw [← HE.out]
      unfold Mt.electE
      rw [if_pos]
      have := R3.out
      omega
    subst he
    clear hB8 hg8 hs8 hb8
    go_wp2_with fail
    refine bodyPost_ret (results_ct (by rfl) _ _ (w.heap.size + 1) 36 _ (0, 0) _ (by rfl) HB8.out und36 (by rfl) (by kernel_rfl) (by rfl)) rfl ?_
    exact ⟨_, rfl, by rw [if_neg (by decide)]; exact HF.out.1, HF.out.2⟩
  case neg =>
  have d3 : decide ((M.nb : Int) ≤ y) = false := decide_eq_false r3
  obtain ⟨p, rfl⟩ : ∃ p : Nat, x = (p : Int) := ⟨x.toNat, by omega⟩
  obtain ⟨q, rfl⟩ : ∃ q : Nat, y = (q : Int) := ⟨y.toNat, by omega⟩
  have hp : p < M.np := by omega
  have hq : q < M.nb := by omega
  have d9 : decide (M.np ≤ p) = false := decide_eq_false (by omega)
  have d8 : decide (M.nb ≤ q) = false := decide_eq_false (by omega)
  have HIN : Hid (¬ ¬ ((0 ≤ (p : Int) ∧ (p : Int) < (M.np : Int)) ∧ 0 ≤ (q : Int) ∧ (q : Int) < (M.nb : Int))) := Lib.hid (fun e => e ⟨⟨by omega, by omega⟩, by omega, by omega⟩)
  have HP := Lib.hid hp
  have HQ := Lib.hid hq
  have hok := HK.out.vw p hp
  have hle := hok.len
  have hnb := HK.out.nb
  have HEV : Hid ((M.views p).isr.length ≤ 1000000 ∧ 0 ≤ (M.views p).epoch ∧ (M.views p).epoch ≤ (M.views p).version ∧ (M.views p).version ≤ 2147483647) := Lib.hid ⟨by omega, hok.e0, hok.ev, hok.v1⟩
  clear r0 r1 r2 r3 hok hle hnb
  obtain ⟨ad, eA, v0, v1, v2', v3⟩ := (HR.out.below HA.out.low).viewCells HP.out
  obtain ⟨As, ks, es, hrs⟩ := HR.out.vr p HP.out
  rw [es] at v3
  have HS := Lib.hid hrs
  subst eA
  clear hrs es
  go_wp2_with (with_reducible refine at_store 47 rfl ?_)
  refine Stop.go (wpList_store_blk (by rfl) (by rfl) 47 _ _ (by rfl) w2.heap.size _ #[.int .i64 (M.views p).leader, .int .i64 (M.views p).epoch, .int .i64 (M.views p).version, .slice As (M.views p).isr.length ks] (by rfl) (by rfl) 47 (Blk.new w2 47 #[.int .i64 0, .int .i64 0, .int .i64 0, .slice none 0 0]) (by rfl) (by kernel_rfl) (by simp [Value.oneCell']) ?_)
  intro w3 hB3 hg3 hs3
  have hal3 : Below w2.heap.size w2 w3 := below_grown ((Below.refl w2.heap.size w2).alloc (Nat.le_refl _) (.cells #[.int .i64 0, .int .i64 0, .int .i64 0, .slice none 0 0] 47)) hg3 (Nat.le_refl _) (Nat.le_refl _)
  have HA3 := Lib.hid (HA.out.below hal3)
  have HL3 := Lib.hid hB3
  have HLX : Hid (w.heap.size + 2 ≤ w2.heap.size) := Lib.hid (by have := HSZ.out; omega)
  clear hB3 hg3 hs3 hal3 v0 v1 v2' v3 c0 c1' c2' c3' c4' c5' HSZ
  generalize w2.heap.size = lx at *
  clear HA
  obtain ⟨ad1, eA1, life⟩ := (HR.out.below HA3.out.low).lifeCell HQ.out
  subst eA1
  have b3 : w3.cell? ⟨w.heap.size, 3, none⟩ = some (.slice (some ad1) M.nb c1) := HA3.out.b.cell 3
  have l3 : w3.cell? ⟨lx, 3, none⟩ = some (.slice As (M.views p).isr.length ks) := HL3.out.cell 3
  cases hlf : M.lives q with
  | false =>
    have HLF := Lib.hid hlf
    rw [hlf] at life
    clear hlf
    go_wp2_with (with_reducible refine at_load 36 rfl ?_)
    refine Stop.go (wpList_load_blk (by rfl) 36 _ (by rfl) w.heap.size (by rfl) 36 _ HA3.out.b _ und36 (by rfl) (by kernel_rfl) ?_)
    go_wp2_with (with_reducible refine at_store 36 rfl ?_)
    refine Stop.go (wpList_store_blk (by rfl) (by rfl) 36 _ _ (by rfl) (w.heap.size + 1) _ #[.int .i64 (M.nb : Int), .int .i64 (M.np : Int), .int .i64 (M.ni : Int), .slice (some ad1) M.nb c1, .slice (some ad) M.np c2, .slice A3 M.ni c3] (by rfl) (by rfl) 36 HA3.out.r (by rfl) (by kernel_rfl) (by simp [Value.oneCell']) ?_)
    intro w8 hB8 hg8 hs8
    have HB8 := Lib.hid hB8
    have hb8 : Below w.heap.size w w8 := below_grown HA3.out.low hg8 (Nat.le_refl _) (by omega)
    have HF : Hid (Rf w8 X M (.agg #[.int .i64 (M.nb : Int), .int .i64 (M.np : Int), .int .i64 (M.ni : Int), .slice (some ad1) M.nb c1, .slice (some ad) M.np c2, .slice A3 M.ni c3]) ∧ Below w.heap.size w w8) := Lib.hid ⟨⟨_, _, _, _, _, _, _, rfl, HR.out.below hb8⟩, hb8⟩
    have he : ee = 201 := by
      rw [← HE.out]
      unfold Mt.electE
      rw [if_neg HIN.out]
      simp only [Int.toNat_natCast]
      rw [if_pos HLF.out]
    subst he
    clear hB8 hg8 hs8 hb8
    go_wp2_with fail
    refine bodyPost_ret (results_ct (by rfl) _ _ (w.heap.size + 1) 36 _ (0, 0) _ (by rfl) HB8.out und36 (by rfl) (by kernel_rfl) (by rfl)) rfl ?_
    exact ⟨_, rfl, by rw [if_neg (by decide)]; exact HF.out.1, HF.out.2⟩
  | true =>
  have HLF := Lib.hid hlf
  rw [hlf] at life
  clear hlf
  have hin := refIn_any (c := ks) (HS.out.below HA3.out.low) HEV.out.1 (q : Int)
  by_cases hmem : (q : Int) ∈ (M.views p).isr
  case pos =>
    have HM := Lib.hid hmem
    have HEI : Hid (((M.views p).elect (q : Int)).isr = (M.views p).isr) := Lib.hid (if_pos hmem)
    rw [decide_eq_true hmem] at hin
    clear hmem
    go_upto_region 6 with fail
    have hin2 := hin
    go_wp2_with fail
    refine hin2.mono ?_
    rintro r w9 ⟨rfl, hw9⟩
    rw [hw9]
    clear hin2 hw9
    have l1 : w3.cell? ⟨lx, 1, none⟩ = some (.int .i64 (M.views p).epoch) := HL3.out.cell 1
    have l2 : w3.cell? ⟨lx, 2, none⟩ = some (.int .i64 (M.views p).version) := HL3.out.cell 2
    by_cases he : (M.views p).epoch = 2147483647
    case pos =>
      have de := eqb he
      have HV : Hid ((M.views p).version = 2147483647) := Lib.hid (by have := HEV.out; omega)
      clear he

      go_wp2_with (with_reducible refine at_load 36 rfl ?_)
      refine Stop.go (wpList_load_blk (by rfl) 36 _ (by rfl) w.heap.size (by rfl) 36 _ HA3.out.b _ und36 (by rfl) (by kernel_rfl) ?_)
      go_wp2_with (with_reducible refine at_store 36 rfl ?_)
      refine Stop.go (wpList_store_blk (by rfl) (by rfl) 36 _ _ (by rfl) (w.heap.size + 1) _ #[.int .i64 (M.nb : Int), .int .i64 (M.np : Int), .int .i64 (M.ni : Int), .slice (some ad1) M.nb c1, .slice (some ad) M.np c2, .slice A3 M.ni c3] (by rfl) (by rfl) 36 HA3.out.r (by rfl) (by kernel_rfl) (by simp [Value.oneCell']) ?_)
      intro w8 hB8 hg8 hs8
      have HB8 := Lib.hid hB8
      have hb8 : Below w.heap.size w w8 := below_grown HA3.out.low hg8 (Nat.le_refl _) (by omega)
      have HF : Hid (Rf w8 X M (.agg #[.int .i64 (M.nb : Int), .int .i64 (M.np : Int), .int .i64 (M.ni : Int), .slice (some ad1) M.nb c1, .slice (some ad) M.np c2, .slice A3 M.ni c3]) ∧ Below w.heap.size w w8) := Lib.hid ⟨⟨_, _, _, _, _, _, _, rfl, HR.out.below hb8⟩, hb8⟩
      have he : ee = 204 := by
        rw [← HE.out]
        unfold Mt.electE
        rw [if_neg HIN.out]
        simp only [Int.toNat_natCast]
        rw [if_neg (c := M.lives q = false) (by rw [HLF.out]; decide)]
        rw [if_neg (fun e => e.2 HM.out)]
        exact if_pos HV.out
      subst he
      clear hB8 hg8 hs8 hb8
      go_wp2_with fail
      refine bodyPost_ret (results_ct (by rfl) _ _ (w.heap.size + 1) 36 _ (0, 0) _ (by rfl) HB8.out und36 (by rfl) (by kernel_rfl) (by rfl)) rfl ?_
      exact ⟨_, rfl, by rw [if_neg (by decide)]; exact HF.out.1, HF.out.2⟩
    case neg =>
    have de := neb he
    by_cases hv : (M.views p).version = 2147483647
    case pos =>
      have dv := eqb hv
      have HV : Hid ((M.views p).version = 2147483647) := Lib.hid (by have := HEV.out; omega)
      clear hv

      go_wp2_with (with_reducible refine at_load 36 rfl ?_)
      refine Stop.go (wpList_load_blk (by rfl) 36 _ (by rfl) w.heap.size (by rfl) 36 _ HA3.out.b _ und36 (by rfl) (by kernel_rfl) ?_)
      go_wp2_with (with_reducible refine at_store 36 rfl ?_)
      refine Stop.go (wpList_store_blk (by rfl) (by rfl) 36 _ _ (by rfl) (w.heap.size + 1) _ #[.int .i64 (M.nb : Int), .int .i64 (M.np : Int), .int .i64 (M.ni : Int), .slice (some ad1) M.nb c1, .slice (some ad) M.np c2, .slice A3 M.ni c3] (by rfl) (by rfl) 36 HA3.out.r (by rfl) (by kernel_rfl) (by simp [Value.oneCell']) ?_)
      intro w8 hB8 hg8 hs8
      have HB8 := Lib.hid hB8
      have hb8 : Below w.heap.size w w8 := below_grown HA3.out.low hg8 (Nat.le_refl _) (by omega)
      have HF : Hid (Rf w8 X M (.agg #[.int .i64 (M.nb : Int), .int .i64 (M.np : Int), .int .i64 (M.ni : Int), .slice (some ad1) M.nb c1, .slice (some ad) M.np c2, .slice A3 M.ni c3]) ∧ Below w.heap.size w w8) := Lib.hid ⟨⟨_, _, _, _, _, _, _, rfl, HR.out.below hb8⟩, hb8⟩
      have he : ee = 204 := by
        rw [← HE.out]
        unfold Mt.electE
        rw [if_neg HIN.out]
        simp only [Int.toNat_natCast]
        rw [if_neg (c := M.lives q = false) (by rw [HLF.out]; decide)]
        rw [if_neg (fun e => e.2 HM.out)]
        exact if_pos HV.out
      subst he
      clear hB8 hg8 hs8 hb8
      go_wp2_with fail
      refine bodyPost_ret (results_ct (by rfl) _ _ (w.heap.size + 1) 36 _ (0, 0) _ (by rfl) HB8.out und36 (by rfl) (by kernel_rfl) (by rfl)) rfl ?_
      exact ⟨_, rfl, by rw [if_neg (by decide)]; exact HF.out.1, HF.out.2⟩
    case neg =>
    have dv := neb hv
    have HNE := Lib.hid (And.intro he hv)
    clear he hv
    go_wp2_with fail
    refine hin.mono ?_
    rintro r w9 ⟨rfl, hw9⟩
    rw [hw9]
    clear hin hw9
    have we : IntKind.i64.wrap ((M.views p).epoch + 1) = (M.views p).epoch + 1 := by have := HEV.out; rw [IntWalk.i64_in _ (by omega)]
    have wv : IntKind.i64.wrap ((M.views p).version + 1) = (M.views p).version + 1 := by have := HEV.out; rw [IntWalk.i64_in _ (by omega)]
    have hS0 := HL3.out
    have k0 : (w3).cell? ⟨lx, 0, none⟩ = some (.int .i64 (M.views p).leader) := hS0.cell 0
    have g0 := hS0.frozen 0
    have hS1 : Blk ((w3).setCell ⟨lx, 0, none⟩ (.int .i64 (q : Int))) lx 47 #[.int .i64 (q : Int), .int .i64 (M.views p).epoch, .int .i64 (M.views p).version, .slice As (M.views p).isr.length ks] := hS0.set_ 0 (.int .i64 (q : Int))
    have k1 : ((w3).setCell ⟨lx, 0, none⟩ (.int .i64 (q : Int))).cell? ⟨lx, 1, none⟩ = some (.int .i64 (M.views p).epoch) := hS1.cell 1
    have g1 := hS1.frozen 1
    have hS2 : Blk (((w3).setCell ⟨lx, 0, none⟩ (.int .i64 (q : Int))).setCell ⟨lx, 1, none⟩ (.int .i64 ((M.views p).epoch + 1))) lx 47 #[.int .i64 (q : Int), .int .i64 ((M.views p).epoch + 1), .int .i64 (M.views p).version, .slice As (M.views p).isr.length ks] := hS1.set_ 1 (.int .i64 ((M.views p).epoch + 1))
    have k2 : (((w3).setCell ⟨lx, 0, none⟩ (.int .i64 (q : Int))).setCell ⟨lx, 1, none⟩ (.int .i64 ((M.views p).epoch + 1))).cell? ⟨lx, 2, none⟩ = some (.int .i64 (M.views p).version) := hS2.cell 2
    have g2 := hS2.frozen 2
    have hS3 : Blk ((((w3).setCell ⟨lx, 0, none⟩ (.int .i64 (q : Int))).setCell ⟨lx, 1, none⟩ (.int .i64 ((M.views p).epoch + 1))).setCell ⟨lx, 2, none⟩ (.int .i64 ((M.views p).version + 1))) lx 47 #[.int .i64 (q : Int), .int .i64 ((M.views p).epoch + 1), .int .i64 ((M.views p).version + 1), .slice As (M.views p).isr.length ks] := hS2.set_ 2 (.int .i64 ((M.views p).version + 1))
    have hT9 : Turn (fun z => z = lx) (w3) ((((w3).setCell ⟨lx, 0, none⟩ (.int .i64 (q : Int))).setCell ⟨lx, 1, none⟩ (.int .i64 ((M.views p).epoch + 1))).setCell ⟨lx, 2, none⟩ (.int .i64 ((M.views p).version + 1))) := ((((Turn.refl (fun z => z = lx) (w3)).setCell (p := ⟨lx, 0, none⟩) (fun _ => rfl) (.int .i64 (q : Int))).setCell (p := ⟨lx, 1, none⟩) (fun _ => rfl) (.int .i64 ((M.views p).epoch + 1))).setCell (p := ⟨lx, 2, none⟩) (fun _ => rfl) (.int .i64 ((M.views p).version + 1)))
    have HA5 := Lib.hid (HA3.out.on hT9 (fun z e => by have := HLX.out; omega) (fun e => by have := HLX.out; omega) (fun e => by have := HLX.out; omega))
    have HL5 := Lib.hid hS3
    clear hT9 hS0 hS1 hS2 hS3
    go_upto_region 13 with fail
    generalize (((w3).setCell ⟨lx, 0, none⟩ (.int .i64 (q : Int))).setCell ⟨lx, 1, none⟩ (.int .i64 ((M.views p).epoch + 1))).setCell ⟨lx, 2, none⟩ (.int .i64 ((M.views p).version + 1)) = w5 at *
    clear k0 g0 k1 g1 k2 g2
    go_wp2_with (with_reducible refine at_load 36 rfl ?_)
    refine Stop.go (wpList_load_blk (by rfl) 36 _ (by rfl) w.heap.size (by rfl) 36 _ HA5.out.b _ und36 (by rfl) (by kernel_rfl) ?_)
    go_wp2_with (with_reducible refine at_load 47 rfl ?_)
    refine Stop.go (wpList_load_blk (by rfl) 47 _ (by rfl) lx (by rfl) 47 _ HL5.out _ und47 (by rfl) (by kernel_rfl) ?_)
    have hrx9 := HRX.out.below HA5.out.low
    have hxx9 := HXX.out _ HA5.out.low.size HA5.out.r.lt
    have hcall := view103_any hrx9 hxx9 HK.out.np.2 HK.out.np.2 HP.out ((M.views p).elect (q : Int)) (s := .slice As (M.views p).isr.length ks) ⟨As, ks, by rw [HEI.out], by rw [HEI.out]; exact (HS.out.wide (fun z hz e => e.elim id (fun e => by omega))).below HA5.out.low⟩
    clear hrx9 hxx9
    go_wp2_with fail
    refine hcall.mono ?_
    rintro r w7 ⟨v7, rfl, hrf, hb7⟩
    have HA7 := Lib.hid (HA5.out.below hb7)
    have hrf7 := hrf
    obtain ⟨B1, B2, B3, d1, d2, d3, rs7, rfl, hR7⟩ := hrf
    have HRF := Lib.hid hrf7
    clear hcall hrf7 hR7 hb7
    go_wp2_with (with_reducible refine at_store 36 rfl ?_)
    refine Stop.go (wpList_store_blk (by rfl) (by rfl) 36 _ _ (by rfl) (w.heap.size + 1) _ #[.int .i64 (M.nb : Int), .int .i64 (M.np : Int), .int .i64 (M.ni : Int), .slice B1 M.nb d1, .slice B2 M.np d2, .slice B3 M.ni d3] (by rfl) (by rfl) 36 HA7.out.r (by rfl) (by kernel_rfl) (by simp [Value.oneCell']) ?_)
    intro w8 hB8 hg8 hs8
    have HB8 := Lib.hid hB8
    have hb8 : Below w.heap.size w w8 := below_grown HA7.out.low hg8 (Nat.le_refl _) (by omega)
    have hb78 : Turn (fun z => z = (w.heap.size + 1)) w7 w8 := Turn.of_grown hg8 (fun r e => by injection e with e; exact e.symm)
    have HF : Hid (Rf w8 X (M.setV p ((M.views p).elect (q : Int))) (.agg #[.int .i64 (M.nb : Int), .int .i64 (M.np : Int), .int .i64 (M.ni : Int), .slice B1 M.nb d1, .slice B2 M.np d2, .slice B3 M.ni d3]) ∧ Below w.heap.size w w8) := Lib.hid ⟨(HRF.out.keep hb78 (fun z _ e => .inr e)).wide (fun z _ e => .inl e), hb8⟩
    have he : ee = 0 := by
      rw [← HE.out]
      unfold Mt.electE
      rw [if_neg HIN.out]
      simp only [Int.toNat_natCast]
      rw [if_neg (c := M.lives q = false) (by rw [HLF.out]; decide)]
      rw [if_neg (fun e => e.2 HM.out), if_neg HNE.out.2]
    subst he
    clear hB8 hg8 hs8 hb8 hb78
    go_wp2_with fail
    refine bodyPost_ret (results_ct (by rfl) _ _ (w.heap.size + 1) 36 _ (0, 0) _ (by rfl) HB8.out und36 (by rfl) (by kernel_rfl) (by rfl)) rfl ?_
    exact ⟨_, rfl, by rw [if_pos rfl, ← HM1.out]; exact HF.out.1, HF.out.2⟩
  case neg =>
    have HM := Lib.hid hmem
    have HEI : Hid (((M.views p).elect (q : Int)).isr = [(q : Int)]) := Lib.hid (if_neg hmem)
    rw [decide_eq_false hmem] at hin
    clear hmem
    go_upto_region 6 with fail
    have hin2 := hin
    go_wp2_with fail
    refine hin2.mono ?_
    rintro r w9 ⟨rfl, hw9⟩
    rw [hw9]
    clear hin2 hw9
    cases un with
    | false =>
      go_wp2_with (with_reducible refine at_load 36 rfl ?_)
      refine Stop.go (wpList_load_blk (by rfl) 36 _ (by rfl) w.heap.size (by rfl) 36 _ HA3.out.b _ und36 (by rfl) (by kernel_rfl) ?_)
      go_wp2_with (with_reducible refine at_store 36 rfl ?_)
      refine Stop.go (wpList_store_blk (by rfl) (by rfl) 36 _ _ (by rfl) (w.heap.size + 1) _ #[.int .i64 (M.nb : Int), .int .i64 (M.np : Int), .int .i64 (M.ni : Int), .slice (some ad1) M.nb c1, .slice (some ad) M.np c2, .slice A3 M.ni c3] (by rfl) (by rfl) 36 HA3.out.r (by rfl) (by kernel_rfl) (by simp [Value.oneCell']) ?_)
      intro w8 hB8 hg8 hs8
      have HB8 := Lib.hid hB8
      have hb8 : Below w.heap.size w w8 := below_grown HA3.out.low hg8 (Nat.le_refl _) (by omega)
      have HF : Hid (Rf w8 X M (.agg #[.int .i64 (M.nb : Int), .int .i64 (M.np : Int), .int .i64 (M.ni : Int), .slice (some ad1) M.nb c1, .slice (some ad) M.np c2, .slice A3 M.ni c3]) ∧ Below w.heap.size w w8) := Lib.hid ⟨⟨_, _, _, _, _, _, _, rfl, HR.out.below hb8⟩, hb8⟩
      have he : ee = 202 := by
        rw [← HE.out]
        unfold Mt.electE
        rw [if_neg HIN.out]
        simp only [Int.toNat_natCast]
        rw [if_neg (c := M.lives q = false) (by rw [HLF.out]; decide)]
        simp [HM.out]
      subst he
      clear hB8 hg8 hs8 hb8
      go_wp2_with fail
      refine bodyPost_ret (results_ct (by rfl) _ _ (w.heap.size + 1) 36 _ (0, 0) _ (by rfl) HB8.out und36 (by rfl) (by kernel_rfl) (by rfl)) rfl ?_
      exact ⟨_, rfl, by rw [if_neg (by decide)]; exact HF.out.1, HF.out.2⟩
    | true =>
      have l1 : w3.cell? ⟨lx, 1, none⟩ = some (.int .i64 (M.views p).epoch) := HL3.out.cell 1
      have l2 : w3.cell? ⟨lx, 2, none⟩ = some (.int .i64 (M.views p).version) := HL3.out.cell 2
      by_cases he : (M.views p).epoch = 2147483647
      case pos =>
        have de := eqb he
        have HV : Hid ((M.views p).version = 2147483647) := Lib.hid (by have := HEV.out; omega)
        clear he

        go_wp2_with (with_reducible refine at_load 36 rfl ?_)
        refine Stop.go (wpList_load_blk (by rfl) 36 _ (by rfl) w.heap.size (by rfl) 36 _ HA3.out.b _ und36 (by rfl) (by kernel_rfl) ?_)
        go_wp2_with (with_reducible refine at_store 36 rfl ?_)
        refine Stop.go (wpList_store_blk (by rfl) (by rfl) 36 _ _ (by rfl) (w.heap.size + 1) _ #[.int .i64 (M.nb : Int), .int .i64 (M.np : Int), .int .i64 (M.ni : Int), .slice (some ad1) M.nb c1, .slice (some ad) M.np c2, .slice A3 M.ni c3] (by rfl) (by rfl) 36 HA3.out.r (by rfl) (by kernel_rfl) (by simp [Value.oneCell']) ?_)
        intro w8 hB8 hg8 hs8
        have HB8 := Lib.hid hB8
        have hb8 : Below w.heap.size w w8 := below_grown HA3.out.low hg8 (Nat.le_refl _) (by omega)
        have HF : Hid (Rf w8 X M (.agg #[.int .i64 (M.nb : Int), .int .i64 (M.np : Int), .int .i64 (M.ni : Int), .slice (some ad1) M.nb c1, .slice (some ad) M.np c2, .slice A3 M.ni c3]) ∧ Below w.heap.size w w8) := Lib.hid ⟨⟨_, _, _, _, _, _, _, rfl, HR.out.below hb8⟩, hb8⟩
        have he : ee = 204 := by
          rw [← HE.out]
          unfold Mt.electE
          rw [if_neg HIN.out]
          simp only [Int.toNat_natCast]
          rw [if_neg (c := M.lives q = false) (by rw [HLF.out]; decide)]
          rw [if_neg (fun e => nomatch e.1)]
          exact if_pos HV.out
        subst he
        clear hB8 hg8 hs8 hb8
        go_wp2_with fail
        refine bodyPost_ret (results_ct (by rfl) _ _ (w.heap.size + 1) 36 _ (0, 0) _ (by rfl) HB8.out und36 (by rfl) (by kernel_rfl) (by rfl)) rfl ?_
        exact ⟨_, rfl, by rw [if_neg (by decide)]; exact HF.out.1, HF.out.2⟩
      case neg =>
      have de := neb he
      by_cases hv : (M.views p).version = 2147483647
      case pos =>
        have dv := eqb hv
        have HV : Hid ((M.views p).version = 2147483647) := Lib.hid (by have := HEV.out; omega)
        clear hv

        go_wp2_with (with_reducible refine at_load 36 rfl ?_)
        refine Stop.go (wpList_load_blk (by rfl) 36 _ (by rfl) w.heap.size (by rfl) 36 _ HA3.out.b _ und36 (by rfl) (by kernel_rfl) ?_)
        go_wp2_with (with_reducible refine at_store 36 rfl ?_)
        refine Stop.go (wpList_store_blk (by rfl) (by rfl) 36 _ _ (by rfl) (w.heap.size + 1) _ #[.int .i64 (M.nb : Int), .int .i64 (M.np : Int), .int .i64 (M.ni : Int), .slice (some ad1) M.nb c1, .slice (some ad) M.np c2, .slice A3 M.ni c3] (by rfl) (by rfl) 36 HA3.out.r (by rfl) (by kernel_rfl) (by simp [Value.oneCell']) ?_)
        intro w8 hB8 hg8 hs8
        have HB8 := Lib.hid hB8
        have hb8 : Below w.heap.size w w8 := below_grown HA3.out.low hg8 (Nat.le_refl _) (by omega)
        have HF : Hid (Rf w8 X M (.agg #[.int .i64 (M.nb : Int), .int .i64 (M.np : Int), .int .i64 (M.ni : Int), .slice (some ad1) M.nb c1, .slice (some ad) M.np c2, .slice A3 M.ni c3]) ∧ Below w.heap.size w w8) := Lib.hid ⟨⟨_, _, _, _, _, _, _, rfl, HR.out.below hb8⟩, hb8⟩
        have he : ee = 204 := by
          rw [← HE.out]
          unfold Mt.electE
          rw [if_neg HIN.out]
          simp only [Int.toNat_natCast]
          rw [if_neg (c := M.lives q = false) (by rw [HLF.out]; decide)]
          rw [if_neg (fun e => nomatch e.1)]
          exact if_pos HV.out
        subst he
        clear hB8 hg8 hs8 hb8
        go_wp2_with fail
        refine bodyPost_ret (results_ct (by rfl) _ _ (w.heap.size + 1) 36 _ (0, 0) _ (by rfl) HB8.out und36 (by rfl) (by kernel_rfl) (by rfl)) rfl ?_
        exact ⟨_, rfl, by rw [if_neg (by decide)]; exact HF.out.1, HF.out.2⟩
      case neg =>
      have dv := neb hv
      have HNE := Lib.hid (And.intro he hv)
      clear he hv
      go_wp2_with fail
      refine hin.mono ?_
      rintro r w9 ⟨rfl, hw9⟩
      rw [hw9]
      clear hin hw9
      have we : IntKind.i64.wrap ((M.views p).epoch + 1) = (M.views p).epoch + 1 := by have := HEV.out; rw [IntWalk.i64_in _ (by omega)]
      have wv : IntKind.i64.wrap ((M.views p).version + 1) = (M.views p).version + 1 := by have := HEV.out; rw [IntWalk.i64_in _ (by omega)]
      have hal4 := (Below.refl w3.heap.size w3).alloc (Nat.le_refl _) (.cells #[.int .i64 (q : Int)] 3)
      have hrow : Blk (w3.alloc (.cells #[.int .i64 (q : Int)] 3)) w3.heap.size 3 #[.int .i64 (q : Int)] := Blk.new w3 3 _
      have HA4 := Lib.hid (HA3.out.below hal4)
      have HL4 := Lib.hid (HL3.out.below hal4 HL3.out.lt)
      have HROW := Lib.hid hrow
      have HLT4 := Lib.hid HL3.out.lt
      clear hal4 hrow
      have hS0 := HL4.out
      have k0 : (w3.alloc (.cells #[.int .i64 (q : Int)] 3)).cell? ⟨lx, 3, none⟩ = some (.slice As (M.views p).isr.length ks) := hS0.cell 3
      have g0 := hS0.frozen 3
      have hS1 : Blk ((w3.alloc (.cells #[.int .i64 (q : Int)] 3)).setCell ⟨lx, 3, none⟩ (.slice (some ⟨w3.heap.size, 0, none⟩) 1 1)) lx 47 #[.int .i64 (M.views p).leader, .int .i64 (M.views p).epoch, .int .i64 (M.views p).version, .slice (some ⟨w3.heap.size, 0, none⟩) 1 1] := hS0.set_ 3 (.slice (some ⟨w3.heap.size, 0, none⟩) 1 1)
      have hT9 : Turn (fun z => z = lx) (w3.alloc (.cells #[.int .i64 (q : Int)] 3)) ((w3.alloc (.cells #[.int .i64 (q : Int)] 3)).setCell ⟨lx, 3, none⟩ (.slice (some ⟨w3.heap.size, 0, none⟩) 1 1)) := ((Turn.refl (fun z => z = lx) (w3.alloc (.cells #[.int .i64 (q : Int)] 3))).setCell (p := ⟨lx, 3, none⟩) (fun _ => rfl) (.slice (some ⟨w3.heap.size, 0, none⟩) 1 1))
      have HROW6 := Lib.hid (HROW.out.keep hT9 (fun e => by have := HLT4.out; omega))
      have HA6 := Lib.hid (HA4.out.on hT9 (fun z e => by have := HLX.out; omega) (fun e => by have := HLX.out; omega) (fun e => by have := HLX.out; omega))
      have HL6 := Lib.hid hS1
      clear hT9 hS0 hS1
      go_upto_region 12 with fail
      generalize (w3.alloc (.cells #[.int .i64 (q : Int)] 3)).setCell ⟨lx, 3, none⟩ (.slice (some ⟨w3.heap.size, 0, none⟩) 1 1) = w6 at *
      clear k0 g0
      have m1 : w6.cell? ⟨lx, 1, none⟩ = some (.int .i64 (M.views p).epoch) := HL6.out.cell 1
      have m2 : w6.cell? ⟨lx, 2, none⟩ = some (.int .i64 (M.views p).version) := HL6.out.cell 2
      clear life b3 l1 l2 l3
      have hS0 := HL6.out
      have k0 : (w6).cell? ⟨lx, 0, none⟩ = some (.int .i64 (M.views p).leader) := hS0.cell 0
      have g0 := hS0.frozen 0
      have hS1 : Blk ((w6).setCell ⟨lx, 0, none⟩ (.int .i64 (q : Int))) lx 47 #[.int .i64 (q : Int), .int .i64 (M.views p).epoch, .int .i64 (M.views p).version, .slice (some ⟨w3.heap.size, 0, none⟩) 1 1] := hS0.set_ 0 (.int .i64 (q : Int))
      have k1 : ((w6).setCell ⟨lx, 0, none⟩ (.int .i64 (q : Int))).cell? ⟨lx, 1, none⟩ = some (.int .i64 (M.views p).epoch) := hS1.cell 1
      have g1 := hS1.frozen 1
      have hS2 : Blk (((w6).setCell ⟨lx, 0, none⟩ (.int .i64 (q : Int))).setCell ⟨lx, 1, none⟩ (.int .i64 ((M.views p).epoch + 1))) lx 47 #[.int .i64 (q : Int), .int .i64 ((M.views p).epoch + 1), .int .i64 (M.views p).version, .slice (some ⟨w3.heap.size, 0, none⟩) 1 1] := hS1.set_ 1 (.int .i64 ((M.views p).epoch + 1))
      have k2 : (((w6).setCell ⟨lx, 0, none⟩ (.int .i64 (q : Int))).setCell ⟨lx, 1, none⟩ (.int .i64 ((M.views p).epoch + 1))).cell? ⟨lx, 2, none⟩ = some (.int .i64 (M.views p).version) := hS2.cell 2
      have g2 := hS2.frozen 2
      have hS3 : Blk ((((w6).setCell ⟨lx, 0, none⟩ (.int .i64 (q : Int))).setCell ⟨lx, 1, none⟩ (.int .i64 ((M.views p).epoch + 1))).setCell ⟨lx, 2, none⟩ (.int .i64 ((M.views p).version + 1))) lx 47 #[.int .i64 (q : Int), .int .i64 ((M.views p).epoch + 1), .int .i64 ((M.views p).version + 1), .slice (some ⟨w3.heap.size, 0, none⟩) 1 1] := hS2.set_ 2 (.int .i64 ((M.views p).version + 1))
      have hT9 : Turn (fun z => z = lx) (w6) ((((w6).setCell ⟨lx, 0, none⟩ (.int .i64 (q : Int))).setCell ⟨lx, 1, none⟩ (.int .i64 ((M.views p).epoch + 1))).setCell ⟨lx, 2, none⟩ (.int .i64 ((M.views p).version + 1))) := ((((Turn.refl (fun z => z = lx) (w6)).setCell (p := ⟨lx, 0, none⟩) (fun _ => rfl) (.int .i64 (q : Int))).setCell (p := ⟨lx, 1, none⟩) (fun _ => rfl) (.int .i64 ((M.views p).epoch + 1))).setCell (p := ⟨lx, 2, none⟩) (fun _ => rfl) (.int .i64 ((M.views p).version + 1)))
      have HROW5 := Lib.hid (HROW6.out.keep hT9 (fun e => by have := HLT4.out; omega))
      have HA5 := Lib.hid (HA6.out.on hT9 (fun z e => by have := HLX.out; omega) (fun e => by have := HLX.out; omega) (fun e => by have := HLX.out; omega))
      have HL5 := Lib.hid hS3
      clear hT9 hS0 hS1 hS2 hS3
      go_upto_region 13 with fail
      generalize (((w6).setCell ⟨lx, 0, none⟩ (.int .i64 (q : Int))).setCell ⟨lx, 1, none⟩ (.int .i64 ((M.views p).epoch + 1))).setCell ⟨lx, 2, none⟩ (.int .i64 ((M.views p).version + 1)) = w5 at *
      clear k0 g0 k1 g1 k2 g2
      go_wp2_with (with_reducible refine at_load 36 rfl ?_)
      refine Stop.go (wpList_load_blk (by rfl) 36 _ (by rfl) w.heap.size (by rfl) 36 _ HA5.out.b _ und36 (by rfl) (by kernel_rfl) ?_)
      go_wp2_with (with_reducible refine at_load 47 rfl ?_)
      refine Stop.go (wpList_load_blk (by rfl) 47 _ (by rfl) lx (by rfl) 47 _ HL5.out _ und47 (by rfl) (by kernel_rfl) ?_)
      have hrx9 := HRX.out.below HA5.out.low
      have hxx9 := HXX.out _ HA5.out.low.size HA5.out.r.lt
      have hcall := view103_any hrx9 hxx9 HK.out.np.2 HK.out.np.2 HP.out ((M.views p).elect (q : Int)) (s := .slice (some ⟨w3.heap.size, 0, none⟩) 1 1) ⟨some ⟨w3.heap.size, 0, none⟩, 1, by rw [HEI.out]; rfl, by rw [HEI.out]; exact rd_blk HROW5.out (fun e => e.elim (fun e => by have := HX.out _ e; have := HA3.out.low.size; omega) (fun e => by have := HA3.out.r.lt; omega))⟩
      clear hrx9 hxx9
      go_wp2_with fail
      refine hcall.mono ?_
      rintro r w7 ⟨v7, rfl, hrf, hb7⟩
      have HA7 := Lib.hid (HA5.out.below hb7)
      have hrf7 := hrf
      obtain ⟨B1, B2, B3, d1, d2, d3, rs7, rfl, hR7⟩ := hrf
      have HRF := Lib.hid hrf7
      clear hcall hrf7 hR7 hb7
      go_wp2_with (with_reducible refine at_store 36 rfl ?_)
      refine Stop.go (wpList_store_blk (by rfl) (by rfl) 36 _ _ (by rfl) (w.heap.size + 1) _ #[.int .i64 (M.nb : Int), .int .i64 (M.np : Int), .int .i64 (M.ni : Int), .slice B1 M.nb d1, .slice B2 M.np d2, .slice B3 M.ni d3] (by rfl) (by rfl) 36 HA7.out.r (by rfl) (by kernel_rfl) (by simp [Value.oneCell']) ?_)
      intro w8 hB8 hg8 hs8
      have HB8 := Lib.hid hB8
      have hb8 : Below w.heap.size w w8 := below_grown HA7.out.low hg8 (Nat.le_refl _) (by omega)
      have hb78 : Turn (fun z => z = (w.heap.size + 1)) w7 w8 := Turn.of_grown hg8 (fun r e => by injection e with e; exact e.symm)
      have HF : Hid (Rf w8 X (M.setV p ((M.views p).elect (q : Int))) (.agg #[.int .i64 (M.nb : Int), .int .i64 (M.np : Int), .int .i64 (M.ni : Int), .slice B1 M.nb d1, .slice B2 M.np d2, .slice B3 M.ni d3]) ∧ Below w.heap.size w w8) := Lib.hid ⟨(HRF.out.keep hb78 (fun z _ e => .inr e)).wide (fun z _ e => .inl e), hb8⟩
      have he : ee = 0 := by
        rw [← HE.out]
        unfold Mt.electE
        rw [if_neg HIN.out]
        simp only [Int.toNat_natCast]
        rw [if_neg (c := M.lives q = false) (by rw [HLF.out]; decide)]
        rw [if_neg (fun e => nomatch e.1), if_neg HNE.out.2]
      subst he
      clear hB8 hg8 hs8 hb8 hb78
      go_wp2_with fail
      refine bodyPost_ret (results_ct (by rfl) _ _ (w.heap.size + 1) 36 _ (0, 0) _ (by rfl) HB8.out und36 (by rfl) (by kernel_rfl) (by rfl)) rfl ?_
      exact ⟨_, rfl, by rw [if_pos rfl, ← HM1.out]; exact HF.out.1, HF.out.2⟩
end
end Go.Proofs.YtpmdicbhliclcaaGreat
