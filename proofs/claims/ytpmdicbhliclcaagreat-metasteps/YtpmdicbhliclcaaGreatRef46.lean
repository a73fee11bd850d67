/-
  The document: End, Marked. Conditions: a controller as it is between two calls.
-/
import Derived.Test.YtpmdicbhliclcaaGreatRef44
namespace Go.Proofs.YtpmdicbhliclcaaGreat
open Go.RowKit Go.Maps
set_option linter.unusedVariables false
set_option linter.unusedSimpArgs false
section
variable {w : World} {X : Nat → Prop} {M : Mt} {v : Value}
set_option maxRecDepth 100000 in
set_option maxHeartbeats 8000000 in
theorem end46_any (h : Rf w X M v) (hX : ∀ b, X b → b < w.heap.size) (hk : M.ok) (x s : Int) (commit : Bool) (off : Int) : Calls Tryz.prog 46 #[v, .int .i64 x, .int .i64 s, .bool commit, .int .i64 off] w (RfP w X M (M.setW x.toNat ((M.wrs x.toNat).end_ commit off)) (M.endE x s off)) := by
  obtain ⟨A1, A2, A3, c1, c2, c3, rs, rfl, hR⟩ := h
  obtain ⟨M1, hM1⟩ : ∃ M1, (M.setW x.toNat ((M.wrs x.toNat).end_ commit off)) = M1 := ⟨_, rfl⟩
  obtain ⟨ee, hee⟩ : ∃ ee, M.endE x s off = ee := ⟨_, rfl⟩
  rw [hM1, hee]
  have HM1 := Lib.hid hM1
  have HE := Lib.hid hee
  have HR := Lib.hid hR
  have HX := Lib.hid hX
  have HK := Lib.hid hk
  have HA : Hid (Wa w ((w.alloc (.cells #[.int .i64 (M.nb : Int), .int .i64 (M.np : Int), .int .i64 (M.ni : Int), .slice A1 M.nb c1, .slice A2 M.np c2, .slice A3 M.ni c3] 36)).alloc (.cells #[.int .i64 0, .int .i64 0, .int .i64 0, .slice none 0 0, .slice none 0 0, .slice none 0 0] 36)) w.heap.size (w.heap.size + 1) #[.int .i64 (M.nb : Int), .int .i64 (M.np : Int), .int .i64 (M.ni : Int), .slice A1 M.nb c1, .slice A2 M.np c2, .slice A3 M.ni c3] #[.int .i64 0, .int .i64 0, .int .i64 0, .slice none 0 0, .slice none 0 0, .slice none 0 0]) := Lib.hid ⟨(((Below.refl w.heap.size w).alloc (Nat.le_refl _) (.cells #[.int .i64 (M.nb : Int), .int .i64 (M.np : Int), .int .i64 (M.ni : Int), .slice A1 M.nb c1, .slice A2 M.np c2, .slice A3 M.ni c3] 36)).alloc (le_alloc (Nat.le_refl _) _) (.cells #[.int .i64 0, .int .i64 0, .int .i64 0, .slice none 0 0, .slice none 0 0, .slice none 0 0] 36)), ((Blk.new w 36 _).alloc _), blk_new (w.alloc (.cells #[.int .i64 (M.nb : Int), .int .i64 (M.np : Int), .int .i64 (M.ni : Int), .slice A1 M.nb c1, .slice A2 M.np c2, .slice A3 M.ni c3] 36)) 36 _ (by simp)⟩
  have HSZ : Hid (((w.alloc (.cells #[.int .i64 (M.nb : Int), .int .i64 (M.np : Int), .int .i64 (M.ni : Int), .slice A1 M.nb c1, .slice A2 M.np c2, .slice A3 M.ni c3] 36)).alloc (.cells #[.int .i64 0, .int .i64 0, .int .i64 0, .slice none 0 0, .slice none 0 0, .slice none 0 0] 36)).heap.size = w.heap.size + 2) := Lib.hid (by simp)
  have HRX : Hid (Rf w (fun z => X z ∨ z = (w.heap.size + 1)) M (.agg #[.int .i64 (M.nb : Int), .int .i64 (M.np : Int), .int .i64 (M.ni : Int), .slice A1 M.nb c1, .slice A2 M.np c2, .slice A3 M.ni c3])) := Lib.hid (Rf.wide (X := X) ⟨_, _, _, _, _, _, _, rfl, hR⟩ (fun z hz e => e.elim id (fun e => by omega)))
  have HXX : ∀ (W : World), w.heap.size ≤ W.heap.size → (w.heap.size + 1) < W.heap.size → ∀ z, (X z ∨ z = (w.heap.size + 1)) → z < W.heap.size := fun W h1 h2 z e => e.elim (fun e => Nat.lt_of_lt_of_le (hX z e) h1) (fun e => e ▸ h2)
  have HXX := Lib.hid HXX
  clear hR hX hk hM1 hee
  go_enter Tryz.func46, Tryz.ntmps46
  go_upto_region 1 with fail
  generalize hw2 : ((w.alloc (.cells #[.int .i64 (M.nb : Int), .int .i64 (M.np : Int), .int .i64 (M.ni : Int), .slice A1 M.nb c1, .slice A2 M.np c2, .slice A3 M.ni c3] 36)).alloc (.cells #[.int .i64 0, .int .i64 0, .int .i64 0, .slice none 0 0, .slice none 0 0, .slice none 0 0] 36)) = w2 at *
  clear hw2
  have c0 : w2.cell? ⟨w.heap.size, 0, none⟩ = some (.int .i64 (M.nb : Int)) := HA.out.b.cell 0
  have c1' : w2.cell? ⟨w.heap.size, 1, none⟩ = some (.int .i64 (M.np : Int)) := HA.out.b.cell 1
  have c2' : w2.cell? ⟨w.heap.size, 2, none⟩ = some (.int .i64 (M.ni : Int)) := HA.out.b.cell 2
  have c3' : w2.cell? ⟨w.heap.size, 3, none⟩ = some (.slice A1 M.nb c1) := HA.out.b.cell 3
  have c4' : w2.cell? ⟨w.heap.size, 4, none⟩ = some (.slice A2 M.np c2) := HA.out.b.cell 4
  have c5' : w2.cell? ⟨w.heap.size, 5, none⟩ = some (.slice A3 M.ni c3) := HA.out.b.cell 5
  by_cases r0 : x < 0
  case pos =>
    have d0 : decide (x < 0) = true := decide_eq_true r0
    have R0 := Lib.hid r0
    clear r0
    go_wp2_with (with_reducible refine at_load 36 rfl ?_)
    refine Stop.go (wpList_load_blk (by rfl) 36 _ (by rfl) w.heap.size (by rfl) 36 _ HA.out.b _ und36 (by rfl) (by kernel_rfl) ?_)
    go_wp2_with (with_reducible refine at_store 36 rfl ?_)
    refine Stop.go (wpList_store_blk (by rfl) (by rfl) 36 _ _ (by rfl) (w.heap.size + 1) _ #[.int .i64 (M.nb : Int), .int .i64 (M.np : Int), .int .i64 (M.ni : Int), .slice A1 M.nb c1, .slice A2 M.np c2, .slice A3 M.ni c3] (by rfl) (by rfl) 36 HA.out.r (by rfl) (by kernel_rfl) (by simp [Value.oneCell']) ?_)
    intro w8 hB8 hg8 hs8
    have HB8 := Lib.hid hB8
    have hb8 : Below w.heap.size w w8 := below_grown HA.out.low hg8 (Nat.le_refl _) (by omega)
    have HF : Hid (Rf w8 X M (.agg #[.int .i64 (M.nb : Int), .int .i64 (M.np : Int), .int .i64 (M.ni : Int), .slice A1 M.nb c1, .slice A2 M.np c2, .slice A3 M.ni c3]) ∧ Below w.heap.size w w8) := Lib.hid ⟨⟨_, _, _, _, _, _, _, rfl, HR.out.below hb8⟩, hb8⟩
    have he : ee = 2 := by
      rw [← HE.out]
      unfold Mt.endE
      rw [if_pos]
      have := R0.out
      omega
    subst he
    clear hB8 hg8 hs8 hb8
    go_wp2_with fail
    refine bodyPost_ret (results_ct (by rfl) _ _ (w.heap.size + 1) 36 _ (0, 0) _ (by rfl) HB8.out und36 (by rfl) (by kernel_rfl) (by rfl)) rfl ?_
    exact ⟨_, rfl, by rw [if_neg (by decide)]; exact HF.out.1, HF.out.2⟩
  case neg =>
  have d0 : decide (x < 0) = false := decide_eq_false r0
  by_cases r1 : (M.ni : Int) ≤ x
  case pos =>
    have d1 : decide ((M.ni : Int) ≤ x) = true := decide_eq_true r1
    have R1 := Lib.hid r1
    clear r0 r1
    go_wp2_with (with_reducible refine at_load 36 rfl ?_)
    refine Stop.go (wpList_load_blk (by rfl) 36 _ (by rfl) w.heap.size (by rfl) 36 _ HA.out.b _ und36 (by rfl) (by kernel_rfl) ?_)
    go_wp2_with (with_reducible refine at_store 36 rfl ?_)
    refine Stop.go (wpList_store_blk (by rfl) (by rfl) 36 _ _ (by rfl) (w.heap.size + 1) _ #[.int .i64 (M.nb : Int), .int .i64 (M.np : Int), .int .i64 (M.ni : Int), .slice A1 M.nb c1, .slice A2 M.np c2, .slice A3 M.ni c3] (by rfl) (by rfl) 36 HA.out.r (by rfl) (by kernel_rfl) (by simp [Value.oneCell']) ?_)
    intro w8 hB8 hg8 hs8
    have HB8 := Lib.hid hB8
    have hb8 : Below w.heap.size w w8 := below_grown HA.out.low hg8 (Nat.le_refl _) (by omega)
    have HF : Hid (Rf w8 X M (.agg #[.int .i64 (M.nb : Int), .int .i64 (M.np : Int), .int .i64 (M.ni : Int), .slice A1 M.nb c1, .slice A2 M.np c2, .slice A3 M.ni c3]) ∧ Below w.heap.size w w8) := Lib.hid ⟨⟨_, _, _, _, _, _, _, rfl, HR.out.below hb8⟩, hb8⟩
    have he : ee = 2 := by
      rw [← HE.out]
      unfold Mt.endE
      rw [if_pos]
      have := R1.out
      omega
    subst he
    clear hB8 hg8 hs8 hb8
    go_wp2_with fail
    refine bodyPost_ret (results_ct (by rfl) _ _ (w.heap.size + 1) 36 _ (0, 0) _ (by rfl) HB8.out und36 (by rfl) (by kernel_rfl) (by rfl)) rfl ?_
    exact ⟨_, rfl, by rw [if_neg (by decide)]; exact HF.out.1, HF.out.2⟩
  case neg =>
  have d1 : decide ((M.ni : Int) ≤ x) = false := decide_eq_false r1
  obtain ⟨p, rfl⟩ : ∃ p : Nat, x = (p : Int) := ⟨x.toNat, by omega⟩
  have hp : p < M.ni := by omega
  have d9 : decide (M.ni ≤ p) = false := decide_eq_false (by omega)
  have HI0 : Hid (0 ≤ (p : Int) ∧ (p : Int) < (M.ni : Int)) := Lib.hid ⟨by omega, by omega⟩
  have HP := Lib.hid hp
  have hok := HK.out.wr p hp
  have HOK := Lib.hid hok
  clear r0 r1 hok
  obtain ⟨ad, eA, v0, v1, v2', v3, v4, v5⟩ := (HR.out.below HA.out.low).wrCells HP.out
  obtain ⟨As, ks, es, hrs⟩ := HR.out.wl p HP.out
  rw [es] at v3
  have HS := Lib.hid hrs
  subst eA
  clear hrs es
  go_wp2_with (with_reducible refine at_store 55 rfl ?_)
  refine Stop.go (wpList_store_blk (by rfl) (by rfl) 55 _ _ (by rfl) w2.heap.size _ #[.int .i64 (M.wrs p).session, .int .i64 (M.wrs p).num, .int .i64 (M.wrs p).state, .slice As (M.wrs p).parts.length ks, .int .i64 (M.wrs p).offset, .int .i64 (M.wrs p).next] (by rfl) (by rfl) 55 (Blk.new w2 55 #[.int .i64 0, .int .i64 0, .int .i64 0, .slice none 0 0, .int .i64 0, .int .i64 0]) (by rfl) (by kernel_rfl) (by simp [Value.oneCell']) ?_)
  intro w3 hB3 hg3 hs3
  have hal3 : Below w2.heap.size w2 w3 := below_grown ((Below.refl w2.heap.size w2).alloc (Nat.le_refl _) (.cells #[.int .i64 0, .int .i64 0, .int .i64 0, .slice none 0 0, .int .i64 0, .int .i64 0] 55)) hg3 (Nat.le_refl _) (Nat.le_refl _)
  have HA3 := Lib.hid (HA.out.below hal3)
  have HL3 := Lib.hid hB3
  have HLX : Hid (w.heap.size + 2 ≤ w2.heap.size) := Lib.hid (by have := HSZ.out; omega)
  clear hB3 hg3 hs3 hal3 v0 v1 v2' v3 v4 v5 c0 c1' c2' c3' c4' c5' HSZ
  generalize w2.heap.size = lx at *
  clear HA
  have l0 : w3.cell? ⟨lx, 0, none⟩ = some (.int .i64 (M.wrs p).session) := HL3.out.cell 0
  have l2 : w3.cell? ⟨lx, 2, none⟩ = some (.int .i64 (M.wrs p).state) := HL3.out.cell 2
  have l4 : w3.cell? ⟨lx, 4, none⟩ = some (.int .i64 (M.wrs p).offset) := HL3.out.cell 4
  by_cases ha : off < 0
  case pos =>
    have ea : decide (off < 0) = true := decide_eq_true ha
    have Ha := Lib.hid ha
    clear ha
    go_wp2_with (with_reducible refine at_load 36 rfl ?_)
    refine Stop.go (wpList_load_blk (by rfl) 36 _ (by rfl) w.heap.size (by rfl) 36 _ HA3.out.b _ und36 (by rfl) (by kernel_rfl) ?_)
    go_wp2_with (with_reducible refine at_store 36 rfl ?_)
    refine Stop.go (wpList_store_blk (by rfl) (by rfl) 36 _ _ (by rfl) (w.heap.size + 1) _ #[.int .i64 (M.nb : Int), .int .i64 (M.np : Int), .int .i64 (M.ni : Int), .slice A1 M.nb c1, .slice A2 M.np c2, .slice (some ad) M.ni c3] (by rfl) (by rfl) 36 HA3.out.r (by rfl) (by kernel_rfl) (by simp [Value.oneCell']) ?_)
    intro w8 hB8 hg8 hs8
    have HB8 := Lib.hid hB8
    have hb8 : Below w.heap.size w w8 := below_grown HA3.out.low hg8 (Nat.le_refl _) (by omega)
    have HF : Hid (Rf w8 X M (.agg #[.int .i64 (M.nb : Int), .int .i64 (M.np : Int), .int .i64 (M.ni : Int), .slice A1 M.nb c1, .slice A2 M.np c2, .slice (some ad) M.ni c3]) ∧ Below w.heap.size w w8) := Lib.hid ⟨⟨_, _, _, _, _, _, _, rfl, HR.out.below hb8⟩, hb8⟩
    have he : ee = 2 := by
      rw [← HE.out]
      unfold Mt.endE
      rw [if_pos]
      rintro ⟨q1, q2, q3⟩
      simp only [Int.toNat_natCast] at q3
      have h9 := Ha.out
      have h8 := HOK.out.o0
      omega
    subst he
    clear hB8 hg8 hs8 hb8
    go_wp2_with fail
    refine bodyPost_ret (results_ct (by rfl) _ _ (w.heap.size + 1) 36 _ (0, 0) _ (by rfl) HB8.out und36 (by rfl) (by kernel_rfl) (by rfl)) rfl ?_
    exact ⟨_, rfl, by rw [if_neg (by decide)]; exact HF.out.1, HF.out.2⟩
  case neg =>
  have ea : decide (off < 0) = false := decide_eq_false ha
  have Na := Lib.hid ha
  clear ha
  by_cases hb : 2147483647 < off
  case pos =>
    have eb : decide (2147483647 < off) = true := decide_eq_true hb
    have Hb := Lib.hid hb
    clear hb
    go_wp2_with (with_reducible refine at_load 36 rfl ?_)
    refine Stop.go (wpList_load_blk (by rfl) 36 _ (by rfl) w.heap.size (by rfl) 36 _ HA3.out.b _ und36 (by rfl) (by kernel_rfl) ?_)
    go_wp2_with (with_reducible refine at_store 36 rfl ?_)
    refine Stop.go (wpList_store_blk (by rfl) (by rfl) 36 _ _ (by rfl) (w.heap.size + 1) _ #[.int .i64 (M.nb : Int), .int .i64 (M.np : Int), .int .i64 (M.ni : Int), .slice A1 M.nb c1, .slice A2 M.np c2, .slice (some ad) M.ni c3] (by rfl) (by rfl) 36 HA3.out.r (by rfl) (by kernel_rfl) (by simp [Value.oneCell']) ?_)
    intro w8 hB8 hg8 hs8
    have HB8 := Lib.hid hB8
    have hb8 : Below w.heap.size w w8 := below_grown HA3.out.low hg8 (Nat.le_refl _) (by omega)
    have HF : Hid (Rf w8 X M (.agg #[.int .i64 (M.nb : Int), .int .i64 (M.np : Int), .int .i64 (M.ni : Int), .slice A1 M.nb c1, .slice A2 M.np c2, .slice (some ad) M.ni c3]) ∧ Below w.heap.size w w8) := Lib.hid ⟨⟨_, _, _, _, _, _, _, rfl, HR.out.below hb8⟩, hb8⟩
    have he : ee = 2 := by
      rw [← HE.out]
      unfold Mt.endE
      rw [if_pos]
      rintro ⟨q1, q2, q3⟩
      simp only [Int.toNat_natCast] at q3
      have h9 := Hb.out
      have h8 := HOK.out.o0
      omega
    subst he
    clear hB8 hg8 hs8 hb8
    go_wp2_with fail
    refine bodyPost_ret (results_ct (by rfl) _ _ (w.heap.size + 1) 36 _ (0, 0) _ (by rfl) HB8.out und36 (by rfl) (by kernel_rfl) (by rfl)) rfl ?_
    exact ⟨_, rfl, by rw [if_neg (by decide)]; exact HF.out.1, HF.out.2⟩
  case neg =>
  have eb : decide (2147483647 < off) = false := decide_eq_false hb
  have Nb := Lib.hid hb
  clear hb
  by_cases hc : off < (M.wrs p).offset
  case pos =>
    have ec : decide (off < (M.wrs p).offset) = true := decide_eq_true hc
    have Hc := Lib.hid hc
    clear hc
    go_wp2_with (with_reducible refine at_load 36 rfl ?_)
    refine Stop.go (wpList_load_blk (by rfl) 36 _ (by rfl) w.heap.size (by rfl) 36 _ HA3.out.b _ und36 (by rfl) (by kernel_rfl) ?_)
    go_wp2_with (with_reducible refine at_store 36 rfl ?_)
    refine Stop.go (wpList_store_blk (by rfl) (by rfl) 36 _ _ (by rfl) (w.heap.size + 1) _ #[.int .i64 (M.nb : Int), .int .i64 (M.np : Int), .int .i64 (M.ni : Int), .slice A1 M.nb c1, .slice A2 M.np c2, .slice (some ad) M.ni c3] (by rfl) (by rfl) 36 HA3.out.r (by rfl) (by kernel_rfl) (by simp [Value.oneCell']) ?_)
    intro w8 hB8 hg8 hs8
    have HB8 := Lib.hid hB8
    have hb8 : Below w.heap.size w w8 := below_grown HA3.out.low hg8 (Nat.le_refl _) (by omega)
    have HF : Hid (Rf w8 X M (.agg #[.int .i64 (M.nb : Int), .int .i64 (M.np : Int), .int .i64 (M.ni : Int), .slice A1 M.nb c1, .slice A2 M.np c2, .slice (some ad) M.ni c3]) ∧ Below w.heap.size w w8) := Lib.hid ⟨⟨_, _, _, _, _, _, _, rfl, HR.out.below hb8⟩, hb8⟩
    have he : ee = 2 := by
      rw [← HE.out]
      unfold Mt.endE
      rw [if_pos]
      rintro ⟨q1, q2, q3⟩
      simp only [Int.toNat_natCast] at q3
      have h9 := Hc.out
      have h8 := HOK.out.o0
      omega
    subst he
    clear hB8 hg8 hs8 hb8
    go_wp2_with fail
    refine bodyPost_ret (results_ct (by rfl) _ _ (w.heap.size + 1) 36 _ (0, 0) _ (by rfl) HB8.out und36 (by rfl) (by kernel_rfl) (by rfl)) rfl ?_
    exact ⟨_, rfl, by rw [if_neg (by decide)]; exact HF.out.1, HF.out.2⟩
  case neg =>
  have ec : decide (off < (M.wrs p).offset) = false := decide_eq_false hc
  have Nc := Lib.hid hc
  clear hc
  have HIN : Hid (¬ ¬ ((0 ≤ (p : Int) ∧ (p : Int) < (M.ni : Int)) ∧ off ≤ 2147483647 ∧ (M.wrs (p : Int).toNat).offset ≤ off)) := Lib.hid (fun e => e ⟨HI0.out, by have := Nb.out; omega, by simp only [Int.toNat_natCast]; have := Nc.out; omega⟩)
  have HEN : Hid ((M.wrs p).ending = decide (3 ≤ (M.wrs p).state)) := Lib.hid (by
    have h1 := HOK.out.t1
    exact decide_eq_decide.2 ⟨fun q => by omega, fun q => by omega⟩)
  by_cases hs : (M.wrs p).session = s
  case neg =>
    have es := nen hs
    have HS0 := Lib.hid hs
    clear hs
    go_wp2_with (with_reducible refine at_load 36 rfl ?_)
    refine Stop.go (wpList_load_blk (by rfl) 36 _ (by rfl) w.heap.size (by rfl) 36 _ HA3.out.b _ und36 (by rfl) (by kernel_rfl) ?_)
    go_wp2_with (with_reducible refine at_store 36 rfl ?_)
    refine Stop.go (wpList_store_blk (by rfl) (by rfl) 36 _ _ (by rfl) (w.heap.size + 1) _ #[.int .i64 (M.nb : Int), .int .i64 (M.np : Int), .int .i64 (M.ni : Int), .slice A1 M.nb c1, .slice A2 M.np c2, .slice (some ad) M.ni c3] (by rfl) (by rfl) 36 HA3.out.r (by rfl) (by kernel_rfl) (by simp [Value.oneCell']) ?_)
    intro w8 hB8 hg8 hs8
    have HB8 := Lib.hid hB8
    have hb8 : Below w.heap.size w w8 := below_grown HA3.out.low hg8 (Nat.le_refl _) (by omega)
    have HF : Hid (Rf w8 X M (.agg #[.int .i64 (M.nb : Int), .int .i64 (M.np : Int), .int .i64 (M.ni : Int), .slice A1 M.nb c1, .slice A2 M.np c2, .slice (some ad) M.ni c3]) ∧ Below w.heap.size w w8) := Lib.hid ⟨⟨_, _, _, _, _, _, _, rfl, HR.out.below hb8⟩, hb8⟩
    have he : ee = 200 := by
      rw [← HE.out]
      unfold Mt.endE
      rw [if_neg HIN.out]
      simp only [Int.toNat_natCast]
      exact if_pos HS0.out
    subst he
    clear hB8 hg8 hs8 hb8
    go_wp2_with fail
    refine bodyPost_ret (results_ct (by rfl) _ _ (w.heap.size + 1) 36 _ (0, 0) _ (by rfl) HB8.out und36 (by rfl) (by kernel_rfl) (by rfl)) rfl ?_
    exact ⟨_, rfl, by rw [if_neg (by decide)]; exact HF.out.1, HF.out.2⟩
  case pos =>
  have es := eqn hs
  have HS0 := Lib.hid hs
  clear hs
  by_cases hs3 : 3 ≤ (M.wrs p).state
  case pos =>
    have e3 : decide (3 ≤ (M.wrs p).state) = true := decide_eq_true hs3
    have HS3 := Lib.hid hs3
    clear hs3
    go_wp2_with (with_reducible refine at_load 36 rfl ?_)
    refine Stop.go (wpList_load_blk (by rfl) 36 _ (by rfl) w.heap.size (by rfl) 36 _ HA3.out.b _ und36 (by rfl) (by kernel_rfl) ?_)
    go_wp2_with (with_reducible refine at_store 36 rfl ?_)
    refine Stop.go (wpList_store_blk (by rfl) (by rfl) 36 _ _ (by rfl) (w.heap.size + 1) _ #[.int .i64 (M.nb : Int), .int .i64 (M.np : Int), .int .i64 (M.ni : Int), .slice A1 M.nb c1, .slice A2 M.np c2, .slice (some ad) M.ni c3] (by rfl) (by rfl) 36 HA3.out.r (by rfl) (by kernel_rfl) (by simp [Value.oneCell']) ?_)
    intro w8 hB8 hg8 hs8
    have HB8 := Lib.hid hB8
    have hb8 : Below w.heap.size w w8 := below_grown HA3.out.low hg8 (Nat.le_refl _) (by omega)
    have HF : Hid (Rf w8 X M (.agg #[.int .i64 (M.nb : Int), .int .i64 (M.np : Int), .int .i64 (M.ni : Int), .slice A1 M.nb c1, .slice A2 M.np c2, .slice (some ad) M.ni c3]) ∧ Below w.heap.size w w8) := Lib.hid ⟨⟨_, _, _, _, _, _, _, rfl, HR.out.below hb8⟩, hb8⟩
    have he : ee = 203 := by
      rw [← HE.out]
      unfold Mt.endE
      rw [if_neg HIN.out]
      simp only [Int.toNat_natCast]
      rw [if_neg (fun e => e HS0.out)]
      exact if_pos (by rw [HEN.out]; exact decide_eq_true HS3.out)
    subst he
    clear hB8 hg8 hs8 hb8
    go_wp2_with fail
    refine bodyPost_ret (results_ct (by rfl) _ _ (w.heap.size + 1) 36 _ (0, 0) _ (by rfl) HB8.out und36 (by rfl) (by kernel_rfl) (by rfl)) rfl ?_
    exact ⟨_, rfl, by rw [if_neg (by decide)]; exact HF.out.1, HF.out.2⟩
  case neg =>
  have e3 : decide (3 ≤ (M.wrs p).state) = false := decide_eq_false hs3
  have HS3 := Lib.hid hs3
  clear hs3
  by_cases h2 : (M.wrs p).state = 2
  case pos =>
    have e2 := eqb h2
    have e1 : ((M.wrs p).state == 1) = false := neb (by omega)
    cases commit with
    | true =>
      have HBG : Hid ((M.wrs p).end_ true off = { (M.wrs p) with state := 3, next := off }) := Lib.hid (by unfold Wt.end_; rw [if_pos h2]; exact if_pos rfl)
      clear h2
      have hS0 := HL3.out
      have k0 : (w3).cell? ⟨lx, 2, none⟩ = some (.int .i64 (M.wrs p).state) := hS0.cell 2
      have g0 := hS0.frozen 2
      have hS1 : Blk ((w3).setCell ⟨lx, 2, none⟩ (.int .i64 4)) lx 55 #[.int .i64 (M.wrs p).session, .int .i64 (M.wrs p).num, .int .i64 4, .slice As (M.wrs p).parts.length ks, .int .i64 (M.wrs p).offset, .int .i64 (M.wrs p).next] := hS0.set_ 2 (.int .i64 4)
      have k1 : ((w3).setCell ⟨lx, 2, none⟩ (.int .i64 4)).cell? ⟨lx, 2, none⟩ = some (.int .i64 4) := hS1.cell 2
      have g1 := hS1.frozen 2
      have hS2 : Blk (((w3).setCell ⟨lx, 2, none⟩ (.int .i64 4)).setCell ⟨lx, 2, none⟩ (.int .i64 3)) lx 55 #[.int .i64 (M.wrs p).session, .int .i64 (M.wrs p).num, .int .i64 3, .slice As (M.wrs p).parts.length ks, .int .i64 (M.wrs p).offset, .int .i64 (M.wrs p).next] := hS1.set_ 2 (.int .i64 3)
      have k2 : (((w3).setCell ⟨lx, 2, none⟩ (.int .i64 4)).setCell ⟨lx, 2, none⟩ (.int .i64 3)).cell? ⟨lx, 5, none⟩ = some (.int .i64 (M.wrs p).next) := hS2.cell 5
      have g2 := hS2.frozen 5
      have hS3 : Blk ((((w3).setCell ⟨lx, 2, none⟩ (.int .i64 4)).setCell ⟨lx, 2, none⟩ (.int .i64 3)).setCell ⟨lx, 5, none⟩ (.int .i64 off)) lx 55 #[.int .i64 (M.wrs p).session, .int .i64 (M.wrs p).num, .int .i64 3, .slice As (M.wrs p).parts.length ks, .int .i64 (M.wrs p).offset, .int .i64 off] := hS2.set_ 5 (.int .i64 off)
      have hT9 : Turn (fun z => z = lx) (w3) ((((w3).setCell ⟨lx, 2, none⟩ (.int .i64 4)).setCell ⟨lx, 2, none⟩ (.int .i64 3)).setCell ⟨lx, 5, none⟩ (.int .i64 off)) := ((((Turn.refl (fun z => z = lx) (w3)).setCell (p := ⟨lx, 2, none⟩) (fun _ => rfl) (.int .i64 4)).setCell (p := ⟨lx, 2, none⟩) (fun _ => rfl) (.int .i64 3)).setCell (p := ⟨lx, 5, none⟩) (fun _ => rfl) (.int .i64 off))
      have HA5 := Lib.hid (HA3.out.on hT9 (fun z e => by have := HLX.out; omega) (fun e => by have := HLX.out; omega) (fun e => by have := HLX.out; omega))
      have HL5 := Lib.hid hS3
      clear hT9 hS0 hS1 hS2 hS3
      go_upto_region 16 with fail
      generalize (((w3).setCell ⟨lx, 2, none⟩ (.int .i64 4)).setCell ⟨lx, 2, none⟩ (.int .i64 3)).setCell ⟨lx, 5, none⟩ (.int .i64 off) = w5 at *
      clear k0 g0 k1 g1 k2 g2
      go_wp2_with (with_reducible refine at_load 36 rfl ?_)
      refine Stop.go (wpList_load_blk (by rfl) 36 _ (by rfl) w.heap.size (by rfl) 36 _ HA5.out.b _ und36 (by rfl) (by kernel_rfl) ?_)
      go_wp2_with (with_reducible refine at_load 55 rfl ?_)
      refine Stop.go (wpList_load_blk (by rfl) 55 _ (by rfl) lx (by rfl) 55 _ HL5.out _ und55 (by rfl) (by kernel_rfl) ?_)
      have hrx9 := HRX.out.below HA5.out.low
      have hxx9 := HXX.out _ HA5.out.low.size HA5.out.r.lt
      have hcall := writing105_any hrx9 hxx9 HK.out.ni.2 HK.out.np.2 HP.out ({ (M.wrs p) with state := 3, next := off }) (s := .slice As (M.wrs p).parts.length ks) ⟨As, ks, rfl, (HS.out.wide (fun z hz e => e.elim id (fun e => by omega))).below HA5.out.low⟩
      clear hrx9 hxx9
      go_wp2_with fail
      refine hcall.mono ?_
      rintro r w7 ⟨v7, rfl, hrf, hb7⟩
      have HA7 := Lib.hid (HA5.out.below hb7)
      have hrf7 := hrf
      obtain ⟨B1, B2, B3, d1, d2, d3, rs7, rfl, hR7⟩ := hrf
      have HRF := Lib.hid hrf7
      clear hcall hrf7 hR7 hb7
      go_wp2_with (with_reducible refine at_store 36 rfl ?_)
      refine Stop.go (wpList_store_blk (by rfl) (by rfl) 36 _ _ (by rfl) (w.heap.size + 1) _ #[.int .i64 (M.nb : Int), .int .i64 (M.np : Int), .int .i64 (M.ni : Int), .slice B1 M.nb d1, .slice B2 M.np d2, .slice B3 M.ni d3] (by rfl) (by rfl) 36 HA7.out.r (by rfl) (by kernel_rfl) (by simp [Value.oneCell']) ?_)
      intro w8 hB8 hg8 hs8
      have HB8 := Lib.hid hB8
      have hb8 : Below w.heap.size w w8 := below_grown HA7.out.low hg8 (Nat.le_refl _) (by omega)
      have hb78 : Turn (fun z => z = (w.heap.size + 1)) w7 w8 := Turn.of_grown hg8 (fun r e => by injection e with e; exact e.symm)
      have HF : Hid (Rf w8 X (M.setW p ({ (M.wrs p) with state := 3, next := off })) (.agg #[.int .i64 (M.nb : Int), .int .i64 (M.np : Int), .int .i64 (M.ni : Int), .slice B1 M.nb d1, .slice B2 M.np d2, .slice B3 M.ni d3]) ∧ Below w.heap.size w w8) := Lib.hid ⟨(HRF.out.keep hb78 (fun z _ e => .inr e)).wide (fun z _ e => .inl e), hb8⟩
      have he : ee = 0 := by
        rw [← HE.out]
        unfold Mt.endE
        rw [if_neg HIN.out]
        simp only [Int.toNat_natCast]
        rw [if_neg (fun e => e HS0.out)]
        exact if_neg (by rw [HEN.out, decide_eq_false (by have := HS3.out; omega)]; decide)
      subst he
      clear hB8 hg8 hs8 hb8 hb78
      go_wp2_with fail
      refine bodyPost_ret (results_ct (by rfl) _ _ (w.heap.size + 1) 36 _ (0, 0) _ (by rfl) HB8.out und36 (by rfl) (by kernel_rfl) (by rfl)) rfl ?_
      exact ⟨_, rfl, by rw [if_pos rfl, ← HM1.out]; simp only [Int.toNat_natCast]; rw [HBG.out]; exact HF.out.1, HF.out.2⟩
    | false =>
      have HBG : Hid ((M.wrs p).end_ false off = { (M.wrs p) with state := 4 }) := Lib.hid (by unfold Wt.end_; rw [if_pos h2]; exact if_neg (by decide))
      clear h2
      have hS0 := HL3.out
      have k0 : (w3).cell? ⟨lx, 2, none⟩ = some (.int .i64 (M.wrs p).state) := hS0.cell 2
      have g0 := hS0.frozen 2
      have hS1 : Blk ((w3).setCell ⟨lx, 2, none⟩ (.int .i64 4)) lx 55 #[.int .i64 (M.wrs p).session, .int .i64 (M.wrs p).num, .int .i64 4, .slice As (M.wrs p).parts.length ks, .int .i64 (M.wrs p).offset, .int .i64 (M.wrs p).next] := hS0.set_ 2 (.int .i64 4)
      have hT9 : Turn (fun z => z = lx) (w3) ((w3).setCell ⟨lx, 2, none⟩ (.int .i64 4)) := ((Turn.refl (fun z => z = lx) (w3)).setCell (p := ⟨lx, 2, none⟩) (fun _ => rfl) (.int .i64 4))
      have HA5 := Lib.hid (HA3.out.on hT9 (fun z e => by have := HLX.out; omega) (fun e => by have := HLX.out; omega) (fun e => by have := HLX.out; omega))
      have HL5 := Lib.hid hS1
      clear hT9 hS0 hS1
      go_upto_region 16 with fail
      generalize (w3).setCell ⟨lx, 2, none⟩ (.int .i64 4) = w5 at *
      clear k0 g0
      go_wp2_with (with_reducible refine at_load 36 rfl ?_)
      refine Stop.go (wpList_load_blk (by rfl) 36 _ (by rfl) w.heap.size (by rfl) 36 _ HA5.out.b _ und36 (by rfl) (by kernel_rfl) ?_)
      go_wp2_with (with_reducible refine at_load 55 rfl ?_)
      refine Stop.go (wpList_load_blk (by rfl) 55 _ (by rfl) lx (by rfl) 55 _ HL5.out _ und55 (by rfl) (by kernel_rfl) ?_)
      have hrx9 := HRX.out.below HA5.out.low
      have hxx9 := HXX.out _ HA5.out.low.size HA5.out.r.lt
      have hcall := writing105_any hrx9 hxx9 HK.out.ni.2 HK.out.np.2 HP.out ({ (M.wrs p) with state := 4 }) (s := .slice As (M.wrs p).parts.length ks) ⟨As, ks, rfl, (HS.out.wide (fun z hz e => e.elim id (fun e => by omega))).below HA5.out.low⟩
      clear hrx9 hxx9
      go_wp2_with fail
      refine hcall.mono ?_
      rintro r w7 ⟨v7, rfl, hrf, hb7⟩
      have HA7 := Lib.hid (HA5.out.below hb7)
      have hrf7 := hrf
      obtain ⟨B1, B2, B3, d1, d2, d3, rs7, rfl, hR7⟩ := hrf
      have HRF := Lib.hid hrf7
      clear hcall hrf7 hR7 hb7
      go_wp2_with (with_reducible refine at_store 36 rfl ?_)
      refine Stop.go (wpList_store_blk (by rfl) (by rfl) 36 _ _ (by rfl) (w.heap.size + 1) _ #[.int .i64 (M.nb : Int), .int .i64 (M.np : Int), .int .i64 (M.ni : Int), .slice B1 M.nb d1, .slice B2 M.np d2, .slice B3 M.ni d3] (by rfl) (by rfl) 36 HA7.out.r (by rfl) (by kernel_rfl) (by simp [Value.oneCell']) ?_)
      intro w8 hB8 hg8 hs8
      have HB8 := Lib.hid hB8
      have hb8 : Below w.heap.size w w8 := below_grown HA7.out.low hg8 (Nat.le_refl _) (by omega)
      have hb78 : Turn (fun z => z = (w.heap.size + 1)) w7 w8 := Turn.of_grown hg8 (fun r e => by injection e with e; exact e.symm)
      have HF : Hid (Rf w8 X (M.setW p ({ (M.wrs p) with state := 4 })) (.agg #[.int .i64 (M.nb : Int), .int .i64 (M.np : Int), .int .i64 (M.ni : Int), .slice B1 M.nb d1, .slice B2 M.np d2, .slice B3 M.ni d3]) ∧ Below w.heap.size w w8) := Lib.hid ⟨(HRF.out.keep hb78 (fun z _ e => .inr e)).wide (fun z _ e => .inl e), hb8⟩
      have he : ee = 0 := by
        rw [← HE.out]
        unfold Mt.endE
        rw [if_neg HIN.out]
        simp only [Int.toNat_natCast]
        rw [if_neg (fun e => e HS0.out)]
        exact if_neg (by rw [HEN.out, decide_eq_false (by have := HS3.out; omega)]; decide)
      subst he
      clear hB8 hg8 hs8 hb8 hb78
      go_wp2_with fail
      refine bodyPost_ret (results_ct (by rfl) _ _ (w.heap.size + 1) 36 _ (0, 0) _ (by rfl) HB8.out und36 (by rfl) (by kernel_rfl) (by rfl)) rfl ?_
      exact ⟨_, rfl, by rw [if_pos rfl, ← HM1.out]; simp only [Int.toNat_natCast]; rw [HBG.out]; exact HF.out.1, HF.out.2⟩
  case neg =>
  have e2 := neb h2
  have e1 : ((M.wrs p).state == 1) = true := eqb (by have := HOK.out.t0; have := HS3.out; omega)
  cases commit with
  | true =>
    have HBG : Hid ((M.wrs p).end_ true off = { (M.wrs p) with offset := off }) := Lib.hid (by unfold Wt.end_; rw [if_neg h2]; exact if_pos rfl)
    clear h2
    have hS0 := HL3.out
    have k0 : (w3).cell? ⟨lx, 4, none⟩ = some (.int .i64 (M.wrs p).offset) := hS0.cell 4
    have g0 := hS0.frozen 4
    have hS1 : Blk ((w3).setCell ⟨lx, 4, none⟩ (.int .i64 off)) lx 55 #[.int .i64 (M.wrs p).session, .int .i64 (M.wrs p).num, .int .i64 (M.wrs p).state, .slice As (M.wrs p).parts.length ks, .int .i64 off, .int .i64 (M.wrs p).next] := hS0.set_ 4 (.int .i64 off)
    have hT9 : Turn (fun z => z = lx) (w3) ((w3).setCell ⟨lx, 4, none⟩ (.int .i64 off)) := ((Turn.refl (fun z => z = lx) (w3)).setCell (p := ⟨lx, 4, none⟩) (fun _ => rfl) (.int .i64 off))
    have HA5 := Lib.hid (HA3.out.on hT9 (fun z e => by have := HLX.out; omega) (fun e => by have := HLX.out; omega) (fun e => by have := HLX.out; omega))
    have HL5 := Lib.hid hS1
    clear hT9 hS0 hS1
    go_upto_region 16 with fail
    generalize (w3).setCell ⟨lx, 4, none⟩ (.int .i64 off) = w5 at *
    clear k0 g0
    go_wp2_with (with_reducible refine at_load 36 rfl ?_)
    refine Stop.go (wpList_load_blk (by rfl) 36 _ (by rfl) w.heap.size (by rfl) 36 _ HA5.out.b _ und36 (by rfl) (by kernel_rfl) ?_)
    go_wp2_with (with_reducible refine at_load 55 rfl ?_)
    refine Stop.go (wpList_load_blk (by rfl) 55 _ (by rfl) lx (by rfl) 55 _ HL5.out _ und55 (by rfl) (by kernel_rfl) ?_)
    have hrx9 := HRX.out.below HA5.out.low
    have hxx9 := HXX.out _ HA5.out.low.size HA5.out.r.lt
    have hcall := writing105_any hrx9 hxx9 HK.out.ni.2 HK.out.np.2 HP.out ({ (M.wrs p) with offset := off }) (s := .slice As (M.wrs p).parts.length ks) ⟨As, ks, rfl, (HS.out.wide (fun z hz e => e.elim id (fun e => by omega))).below HA5.out.low⟩
    clear hrx9 hxx9
    go_wp2_with fail
    refine hcall.mono ?_
    rintro r w7 ⟨v7, rfl, hrf, hb7⟩
    have HA7 := Lib.hid (HA5.out.below hb7)
    have hrf7 := hrf
    obtain ⟨B1, B2, B3, d1, d2, d3, rs7, rfl, hR7⟩ := hrf
    have HRF := Lib.hid hrf7
    clear hcall hrf7 hR7 hb7
    go_wp2_with (with_reducible refine at_store 36 rfl ?_)
    refine Stop.go (wpList_store_blk (by rfl) (by rfl) 36 _ _ (by rfl) (w.heap.size + 1) _ #[.int .i64 (M.nb : Int), .int .i64 (M.np : Int), .int .i64 (M.ni : Int), .slice B1 M.nb d1, .slice B2 M.np d2, .slice B3 M.ni d3] (by rfl) (by rfl) 36 HA7.out.r (by rfl) (by kernel_rfl) (by simp [Value.oneCell']) ?_)
    intro w8 hB8 hg8 hs8
    have HB8 := Lib.hid hB8
    have hb8 : Below w.heap.size w w8 := below_grown HA7.out.low hg8 (Nat.le_refl _) (by omega)
    have hb78 : Turn (fun z => z = (w.heap.size + 1)) w7 w8 := Turn.of_grown hg8 (fun r e => by injection e with e; exact e.symm)
    have HF : Hid (Rf w8 X (M.setW p ({ (M.wrs p) with offset := off })) (.agg #[.int .i64 (M.nb : Int), .int .i64 (M.np : Int), .int .i64 (M.ni : Int), .slice B1 M.nb d1, .slice B2 M.np d2, .slice B3 M.ni d3]) ∧ Below w.heap.size w w8) := Lib.hid ⟨(HRF.out.keep hb78 (fun z _ e => .inr e)).wide (fun z _ e => .inl e), hb8⟩
    have he : ee = 0 := by
      rw [← HE.out]
      unfold Mt.endE
      rw [if_neg HIN.out]
      simp only [Int.toNat_natCast]
      rw [if_neg (fun e => e HS0.out)]
      exact if_neg (by rw [HEN.out, decide_eq_false (by have := HS3.out; omega)]; decide)
    subst he
    clear hB8 hg8 hs8 hb8 hb78
    go_wp2_with fail
    refine bodyPost_ret (results_ct (by rfl) _ _ (w.heap.size + 1) 36 _ (0, 0) _ (by rfl) HB8.out und36 (by rfl) (by kernel_rfl) (by rfl)) rfl ?_
    exact ⟨_, rfl, by rw [if_pos rfl, ← HM1.out]; simp only [Int.toNat_natCast]; rw [HBG.out]; exact HF.out.1, HF.out.2⟩
  | false =>
    have HBG : Hid ((M.wrs p).end_ false off = M.wrs p) := Lib.hid (by unfold Wt.end_; rw [if_neg h2]; exact if_neg (by decide))
    clear h2
    go_upto_region 16 with fail
    go_wp2_with (with_reducible refine at_load 36 rfl ?_)
    refine Stop.go (wpList_load_blk (by rfl) 36 _ (by rfl) w.heap.size (by rfl) 36 _ HA3.out.b _ und36 (by rfl) (by kernel_rfl) ?_)
    go_wp2_with (with_reducible refine at_load 55 rfl ?_)
    refine Stop.go (wpList_load_blk (by rfl) 55 _ (by rfl) lx (by rfl) 55 _ HL3.out _ und55 (by rfl) (by kernel_rfl) ?_)
    have hrx9 := HRX.out.below HA3.out.low
    have hxx9 := HXX.out _ HA3.out.low.size HA3.out.r.lt
    have hcall := writing105_any hrx9 hxx9 HK.out.ni.2 HK.out.np.2 HP.out (M.wrs p) (s := .slice As (M.wrs p).parts.length ks) ⟨As, ks, rfl, (HS.out.wide (fun z hz e => e.elim id (fun e => by omega))).below HA3.out.low⟩
    clear hrx9 hxx9
    go_wp2_with fail
    refine hcall.mono ?_
    rintro r w7 ⟨v7, rfl, hrf, hb7⟩
    have HA7 := Lib.hid (HA3.out.below hb7)
    have hrf7 := hrf
    obtain ⟨B1, B2, B3, d1, d2, d3, rs7, rfl, hR7⟩ := hrf
    have HRF := Lib.hid hrf7
    clear hcall hrf7 hR7 hb7
    go_wp2_with (with_reducible refine at_store 36 rfl ?_)
    refine Stop.go (wpList_store_blk (by rfl) (by rfl) 36 _ _ (by rfl) (w.heap.size + 1) _ #[.int .i64 (M.nb : Int), .int .i64 (M.np : Int), .int .i64 (M.ni : Int), .slice B1 M.nb d1, .slice B2 M.np d2, .slice B3 M.ni d3] (by rfl) (by rfl) 36 HA7.out.r (by rfl) (by kernel_rfl) (by simp [Value.oneCell']) ?_)
    intro w8 hB8 hg8 hs8
    have HB8 := Lib.hid hB8
    have hb8 : Below w.heap.size w w8 := below_grown HA7.out.low hg8 (Nat.le_refl _) (by omega)
    have hb78 : Turn (fun z => z = (w.heap.size + 1)) w7 w8 := Turn.of_grown hg8 (fun r e => by injection e with e; exact e.symm)
    have HF : Hid (Rf w8 X (M.setW p (M.wrs p)) (.agg #[.int .i64 (M.nb : Int), .int .i64 (M.np : Int), .int .i64 (M.ni : Int), .slice B1 M.nb d1, .slice B2 M.np d2, .slice B3 M.ni d3]) ∧ Below w.heap.size w w8) := Lib.hid ⟨(HRF.out.keep hb78 (fun z _ e => .inr e)).wide (fun z _ e => .inl e), hb8⟩
    have he : ee = 0 := by
      rw [← HE.out]
      unfold Mt.endE
      rw [if_neg HIN.out]
      simp only [Int.toNat_natCast]
      rw [if_neg (fun e => e HS0.out)]
      exact if_neg (by rw [HEN.out, decide_eq_false (by have := HS3.out; omega)]; decide)
    subst he
    clear hB8 hg8 hs8 hb8 hb78
    go_wp2_with fail
    refine bodyPost_ret (results_ct (by rfl) _ _ (w.heap.size + 1) 36 _ (0, 0) _ (by rfl) HB8.out und36 (by rfl) (by kernel_rfl) (by rfl)) rfl ?_
    exact ⟨_, rfl, by rw [if_pos rfl, ← HM1.out]; simp only [Int.toNat_natCast]; rw [HBG.out]; exact HF.out.1, HF.out.2⟩
set_option maxRecDepth 100000 in
set_option maxHeartbeats 8000000 in
theorem marked47_any (h : Rf w X M v) (hX : ∀ b, X b → b < w.heap.size) (hk : M.ok) (x n y : Int) : Calls Tryz.prog 47 #[v, .int .i64 x, .int .i64 n, .int .i64 y] w (RfP w X M (M.setW x.toNat ((M.wrs x.toNat).mark y)) (M.markedE x n y)) := by
  obtain ⟨A1, A2, A3, c1, c2, c3, rs, rfl, hR⟩ := h
  obtain ⟨M1, hM1⟩ : ∃ M1, (M.setW x.toNat ((M.wrs x.toNat).mark y)) = M1 := ⟨_, rfl⟩
  obtain ⟨ee, hee⟩ : ∃ ee, M.markedE x n y = ee := ⟨_, rfl⟩
  rw [hM1, hee]
  have HM1 := Lib.hid hM1
  have HE := Lib.hid hee
  have HR := Lib.hid hR
  have HX := Lib.hid hX
  have HK := Lib.hid hk
  have HA : Hid (Wa w ((w.alloc (.cells #[.int .i64 (M.nb : Int), .int .i64 (M.np : Int), .int .i64 (M.ni : Int), .slice A1 M.nb c1, .slice A2 M.np c2, .slice A3 M.ni c3] 36)).alloc (.cells #[.int .i64 0, .int .i64 0, .int .i64 0, .slice none 0 0, .slice none 0 0, .slice none 0 0] 36)) w.heap.size (w.heap.size + 1) #[.int .i64 (M.nb : Int), .int .i64 (M.np : Int), .int .i64 (M.ni : Int), .slice A1 M.nb c1, .slice A2 M.np c2, .slice A3 M.ni c3] #[.int .i64 0, .int .i64 0, .int .i64 0, .slice none 0 0, .slice none 0 0, .slice none 0 0]) := Lib.hid ⟨(((Below.refl w.heap.size w).alloc (Nat.le_refl _) (.cells #[.int .i64 (M.nb : Int), .int .i64 (M.np : Int), .int .i64 (M.ni : Int), .slice A1 M.nb c1, .slice A2 M.np c2, .slice A3 M.ni c3] 36)).alloc (le_alloc (Nat.le_refl _) _) (.cells #[.int .i64 0, .int .i64 0, .int .i64 0, .slice none 0 0, .slice none 0 0, .slice none 0 0] 36)), ((Blk.new w 36 _).alloc _), blk_new (w.alloc (.cells #[.int .i64 (M.nb : Int), .int .i64 (M.np : Int), .int .i64 (M.ni : Int), .slice A1 M.nb c1, .slice A2 M.np c2, .slice A3 M.ni c3] 36)) 36 _ (by simp)⟩
  have HSZ : Hid (((w.alloc (.cells #[.int .i64 (M.nb : Int), .int .i64 (M.np : Int), .int .i64 (M.ni : Int), .slice A1 M.nb c1, .slice A2 M.np c2, .slice A3 M.ni c3] 36)).alloc (.cells #[.int .i64 0, .int .i64 0, .int .i64 0, .slice none 0 0, .slice none 0 0, .slice none 0 0] 36)).heap.size = w.heap.size + 2) := Lib.hid (by simp)
  have HRX : Hid (Rf w (fun z => X z ∨ z = (w.heap.size + 1)) M (.agg #[.int .i64 (M.nb : Int), .int .i64 (M.np : Int), .int .i64 (M.ni : Int), .slice A1 M.nb c1, .slice A2 M.np c2, .slice A3 M.ni c3])) := Lib.hid (Rf.wide (X := X) ⟨_, _, _, _, _, _, _, rfl, hR⟩ (fun z hz e => e.elim id (fun e => by omega)))
  have HXX : ∀ (W : World), w.heap.size ≤ W.heap.size → (w.heap.size + 1) < W.heap.size → ∀ z, (X z ∨ z = (w.heap.size + 1)) → z < W.heap.size := fun W h1 h2 z e => e.elim (fun e => Nat.lt_of_lt_of_le (hX z e) h1) (fun e => e ▸ h2)
  have HXX := Lib.hid HXX
  clear hR hX hk hM1 hee
  go_enter Tryz.func47, Tryz.ntmps47
  go_upto_region 1 with fail
  generalize hw2 : ((w.alloc (.cells #[.int .i64 (M.nb : Int), .int .i64 (M.np : Int), .int .i64 (M.ni : Int), .slice A1 M.nb c1, .slice A2 M.np c2, .slice A3 M.ni c3] 36)).alloc (.cells #[.int .i64 0, .int .i64 0, .int .i64 0, .slice none 0 0, .slice none 0 0, .slice none 0 0] 36)) = w2 at *
  clear hw2
  have c0 : w2.cell? ⟨w.heap.size, 0, none⟩ = some (.int .i64 (M.nb : Int)) := HA.out.b.cell 0
  have c1' : w2.cell? ⟨w.heap.size, 1, none⟩ = some (.int .i64 (M.np : Int)) := HA.out.b.cell 1
  have c2' : w2.cell? ⟨w.heap.size, 2, none⟩ = some (.int .i64 (M.ni : Int)) := HA.out.b.cell 2
  have c3' : w2.cell? ⟨w.heap.size, 3, none⟩ = some (.slice A1 M.nb c1) := HA.out.b.cell 3
  have c4' : w2.cell? ⟨w.heap.size, 4, none⟩ = some (.slice A2 M.np c2) := HA.out.b.cell 4
  have c5' : w2.cell? ⟨w.heap.size, 5, none⟩ = some (.slice A3 M.ni c3) := HA.out.b.cell 5
  by_cases r0 : x < 0
  case pos =>
    have d0 : decide (x < 0) = true := decide_eq_true r0
    have R0 := Lib.hid r0
    clear r0
    go_wp2_with (with_reducible refine at_load 36 rfl ?_)
    refine Stop.go (wpList_load_blk (by rfl) 36 _ (by rfl) w.heap.size (by rfl) 36 _ HA.out.b _ und36 (by rfl) (by kernel_rfl) ?_)
    go_wp2_with (with_reducible refine at_store 36 rfl ?_)
    refine Stop.go (wpList_store_blk (by rfl) (by rfl) 36 _ _ (by rfl) (w.heap.size + 1) _ #[.int .i64 (M.nb : Int), .int .i64 (M.np : Int), .int .i64 (M.ni : Int), .slice A1 M.nb c1, .slice A2 M.np c2, .slice A3 M.ni c3] (by rfl) (by rfl) 36 HA.out.r (by rfl) (by kernel_rfl) (by simp [Value.oneCell']) ?_)
    intro w8 hB8 hg8 hs8
    have HB8 := Lib.hid hB8
    have hb8 : Below w.heap.size w w8 := below_grown HA.out.low hg8 (Nat.le_refl _) (by omega)
    have HF : Hid (Rf w8 X M (.agg #[.int .i64 (M.nb : Int), .int .i64 (M.np : Int), .int .i64 (M.ni : Int), .slice A1 M.nb c1, .slice A2 M.np c2, .slice A3 M.ni c3]) ∧ Below w.heap.size w w8) := Lib.hid ⟨⟨_, _, _, _, _, _, _, rfl, HR.out.below hb8⟩, hb8⟩
    have he : ee = 2 := by
      rw [← HE.out]
      unfold Mt.markedE
      rw [if_pos]
      have := R0.out
      omega
    subst he
    clear hB8 hg8 hs8 hb8
    go_wp2_with fail
    refine bodyPost_ret (results_ct (by rfl) _ _ (w.heap.size + 1) 36 _ (0, 0) _ (by rfl) HB8.out und36 (by rfl) (by kernel_rfl) (by rfl)) rfl ?_
    exact ⟨_, rfl, by rw [if_neg (by decide)]; exact HF.out.1, HF.out.2⟩
  case neg =>
  have d0 : decide (x < 0) = false := decide_eq_false r0
  by_cases r1 : (M.ni : Int) ≤ x
  case pos =>
    have d1 : decide ((M.ni : Int) ≤ x) = true := decide_eq_true r1
    have R1 := Lib.hid r1
    clear r0 r1
    go_wp2_with (with_reducible refine at_load 36 rfl ?_)
    refine Stop.go (wpList_load_blk (by rfl) 36 _ (by rfl) w.heap.size (by rfl) 36 _ HA.out.b _ und36 (by rfl) (by kernel_rfl) ?_)
    go_wp2_with (with_reducible refine at_store 36 rfl ?_)
    refine Stop.go (wpList_store_blk (by rfl) (by rfl) 36 _ _ (by rfl) (w.heap.size + 1) _ #[.int .i64 (M.nb : Int), .int .i64 (M.np : Int), .int .i64 (M.ni : Int), .slice A1 M.nb c1, .slice A2 M.np c2, .slice A3 M.ni c3] (by rfl) (by rfl) 36 HA.out.r (by rfl) (by kernel_rfl) (by simp [Value.oneCell']) ?_)
    intro w8 hB8 hg8 hs8
    have HB8 := Lib.hid hB8
    have hb8 : Below w.heap.size w w8 := below_grown HA.out.low hg8 (Nat.le_refl _) (by omega)
    have HF : Hid (Rf w8 X M (.agg #[.int .i64 (M.nb : Int), .int .i64 (M.np : Int), .int .i64 (M.ni : Int), .slice A1 M.nb c1, .slice A2 M.np c2, .slice A3 M.ni c3]) ∧ Below w.heap.size w w8) := Lib.hid ⟨⟨_, _, _, _, _, _, _, rfl, HR.out.below hb8⟩, hb8⟩
    have he : ee = 2 := by
      rw [← HE.out]
      unfold Mt.markedE
      rw [if_pos]
      have := R1.out
      omega
    subst he
    clear hB8 hg8 hs8 hb8
    go_wp2_with fail
    refine bodyPost_ret (results_ct (by rfl) _ _ (w.heap.size + 1) 36 _ (0, 0) _ (by rfl) HB8.out und36 (by rfl) (by kernel_rfl) (by rfl)) rfl ?_
    exact ⟨_, rfl, by rw [if_neg (by decide)]; exact HF.out.1, HF.out.2⟩
  case neg =>
  have d1 : decide ((M.ni : Int) ≤ x) = false := decide_eq_false r1
  by_cases r2 : y < 0
  case pos =>
    have d2 : decide (y < 0) = true := decide_eq_true r2
    have R2 := Lib.hid r2
    clear r0 r1 r2
    go_wp2_with (with_reducible refine at_load 36 rfl ?_)
    refine Stop.go (wpList_load_blk (by rfl) 36 _ (by rfl) w.heap.size (by rfl) 36 _ HA.out.b _ und36 (by rfl) (by kernel_rfl) ?_)
    go_wp2_with (with_reducible refine at_store 36 rfl ?_)
    refine Stop.go (wpList_store_blk (by rfl) (by rfl) 36 _ _ (by rfl) (w.heap.size + 1) _ #[.int .i64 (M.nb : Int), .int .i64 (M.np : Int), .int .i64 (M.ni : Int), .slice A1 M.nb c1, .slice A2 M.np c2, .slice A3 M.ni c3] (by rfl) (by rfl) 36 HA.out.r (by rfl) (by kernel_rfl) (by simp [Value.oneCell']) ?_)
    intro w8 hB8 hg8 hs8
    have HB8 := Lib.hid hB8
    have hb8 : Below w.heap.size w w8 := below_grown HA.out.low hg8 (Nat.le_refl _) (by omega)
    have HF : Hid (Rf w8 X M (.agg #[.int .i64 (M.nb : Int), .int .i64 (M.np : Int), .int .i64 (M.ni : Int), .slice A1 M.nb c1, .slice A2 M.np c2, .slice A3 M.ni c3]) ∧ Below w.heap.size w w8) := Lib.hid ⟨⟨_, _, _, _, _, _, _, rfl, HR.out.below hb8⟩, hb8⟩
    have he : ee = 2 := by
      rw [← HE.out]
      unfold Mt.markedE
      rw [if_pos]
      have := R2.out
      omega
    subst he
    clear hB8 hg8 hs8 hb8
    go_wp2_with fail
    refine bodyPost_ret (results_ct (by rfl) _ _ (w.heap.size + 1) 36 _ (0, 0) _ (by rfl) HB8.out und36 (by rfl) (by kernel_rfl) (by rfl)) rfl ?_
    exact ⟨_, rfl, by rw [if_neg (by decide)]; exact HF.out.1, HF.out.2⟩
  case neg =>
  have d2 : decide (y < 0) = false := decide_eq_false r2
  by_cases r3 : (M.np : Int) ≤ y
  case pos =>
    have d3 : decide ((M.np : Int) ≤ y) = true := decide_eq_true r3
    have R3 := Lib.hid r3
    clear r0 r1 r2 r3
    go_wp2_with (with_reducible refine at_load 36 rfl ?_)
    refine Stop.go (wpList_load_blk (by rfl) 36 _ (by rfl) w.heap.size (by rfl) 36 _ HA.out.b _ und36 (by rfl) (by kernel_rfl) ?_)
    go_wp2_with (with_reducible refine at_store 36 rfl ?_)
    refine Stop.go (wpList_store_blk (by rfl) (by rfl) 36 _ _ (by rfl) (w.heap.size + 1) _ #[.int .i64 (M.nb : Int), .int .i64 (M.np : Int), .int .i64 (M.ni : Int), .slice A1 M.nb c1, .slice A2 M.np c2, .slice A3 M.ni c3] (by rfl) (by rfl) 36 HA.out.r (by rfl) (by kernel_rfl) (by simp [Value.oneCell']) ?_)
    intro w8 hB8 hg8 hs8
    have HB8 := Lib.hid hB8
    have hb8 : Below w.heap.size w w8 := below_grown HA.out.low hg8 (Nat.le_refl _) (by omega)
    have HF : Hid (Rf w8 X M (.agg #[.int .i64 (M.nb : Int), .int .i64 (M.np : Int), .int .i64 (M.ni : Int), .slice A1 M.nb c1, .slice A2 M.np c2, .slice A3 M.ni c3]) ∧ Below w.heap.size w w8) := Lib.hid ⟨⟨_, _, _, _, _, _, _, rfl, HR.out.below hb8⟩, hb8⟩
    have he : ee = 2 := by
      rw [← HE.out]
      unfold Mt.markedE
      rw [if_pos]
      have := R3.out
      omega
    subst he
    clear hB8 hg8 hs8 hb8
    go_wp2_with fail
    refine bodyPost_ret (results_ct (by rfl) _ _ (w.heap.size + 1) 36 _ (0, 0) _ (by rfl) HB8.out und36 (by rfl) (by kernel_rfl) (by rfl)) rfl ?_
    exact ⟨_, rfl, by rw [if_neg (by decide)]; exact HF.out.1, HF.out.2⟩
  case neg =>
  have d3 : decide ((M.np : Int) ≤ y) = false := decide_eq_false r3
  obtain ⟨p, rfl⟩ : ∃ p : Nat, x = (p : Int) := ⟨x.toNat, by omega⟩
  have hp : p < M.ni := by omega
  have d9 : decide (M.ni ≤ p) = false := decide_eq_false (by omega)
  have HIN : Hid (¬ ¬ ((0 ≤ (p : Int) ∧ (p : Int) < (M.ni : Int)) ∧ 0 ≤ y ∧ y < (M.np : Int))) := Lib.hid (fun e => e ⟨⟨by omega, by omega⟩, by omega, by omega⟩)
  have HP := Lib.hid hp
  have hok := HK.out.wr p hp
  have hle := hok.len
  have hnp := HK.out.np
  have HOK := Lib.hid hok
  have HLE : Hid ((M.wrs p).parts.length ≤ 1000000) := Lib.hid (by omega)
  clear r0 r1 r2 r3 hok hle hnp
  obtain ⟨ad, eA, v0, v1, v2', v3, v4, v5⟩ := (HR.out.below HA.out.low).wrCells HP.out
  obtain ⟨As, ks, es, hrs⟩ := HR.out.wl p HP.out
  rw [es] at v3
  have HS := Lib.hid hrs
  subst eA
  clear hrs es
  go_wp2_with (with_reducible refine at_store 55 rfl ?_)
  refine Stop.go (wpList_store_blk (by rfl) (by rfl) 55 _ _ (by rfl) w2.heap.size _ #[.int .i64 (M.wrs p).session, .int .i64 (M.wrs p).num, .int .i64 (M.wrs p).state, .slice As (M.wrs p).parts.length ks, .int .i64 (M.wrs p).offset, .int .i64 (M.wrs p).next] (by rfl) (by rfl) 55 (Blk.new w2 55 #[.int .i64 0, .int .i64 0, .int .i64 0, .slice none 0 0, .int .i64 0, .int .i64 0]) (by rfl) (by kernel_rfl) (by simp [Value.oneCell']) ?_)
  intro w3 hB3 hg3 hs3
  have hal3 : Below w2.heap.size w2 w3 := below_grown ((Below.refl w2.heap.size w2).alloc (Nat.le_refl _) (.cells #[.int .i64 0, .int .i64 0, .int .i64 0, .slice none 0 0, .int .i64 0, .int .i64 0] 55)) hg3 (Nat.le_refl _) (Nat.le_refl _)
  have HA3 := Lib.hid (HA.out.below hal3)
  have HL3 := Lib.hid hB3
  have HLX : Hid (w.heap.size + 2 ≤ w2.heap.size) := Lib.hid (by have := HSZ.out; omega)
  clear hB3 hg3 hs3 hal3 v0 v1 v2' v3 v4 v5 c0 c1' c2' c3' c4' c5' HSZ
  generalize w2.heap.size = lx at *
  clear HA
  have l1 : w3.cell? ⟨lx, 1, none⟩ = some (.int .i64 (M.wrs p).num) := HL3.out.cell 1
  have l2 : w3.cell? ⟨lx, 2, none⟩ = some (.int .i64 (M.wrs p).state) := HL3.out.cell 2
  have l3 : w3.cell? ⟨lx, 3, none⟩ = some (.slice As (M.wrs p).parts.length ks) := HL3.out.cell 3
  have HEN : Hid ((M.wrs p).ending = decide (3 ≤ (M.wrs p).state)) := Lib.hid (by
    have h1 := HOK.out.t1
    exact decide_eq_decide.2 ⟨fun q => by omega, fun q => by omega⟩)
  by_cases hn : (M.wrs p).num = n
  case neg =>
    have en := nen hn
    have HN := Lib.hid hn
    clear hn
    go_wp2_with (with_reducible refine at_load 36 rfl ?_)
    refine Stop.go (wpList_load_blk (by rfl) 36 _ (by rfl) w.heap.size (by rfl) 36 _ HA3.out.b _ und36 (by rfl) (by kernel_rfl) ?_)
    go_wp2_with (with_reducible refine at_store 36 rfl ?_)
    refine Stop.go (wpList_store_blk (by rfl) (by rfl) 36 _ _ (by rfl) (w.heap.size + 1) _ #[.int .i64 (M.nb : Int), .int .i64 (M.np : Int), .int .i64 (M.ni : Int), .slice A1 M.nb c1, .slice A2 M.np c2, .slice (some ad) M.ni c3] (by rfl) (by rfl) 36 HA3.out.r (by rfl) (by kernel_rfl) (by simp [Value.oneCell']) ?_)
    intro w8 hB8 hg8 hs8
    have HB8 := Lib.hid hB8
    have hb8 : Below w.heap.size w w8 := below_grown HA3.out.low hg8 (Nat.le_refl _) (by omega)
    have HF : Hid (Rf w8 X M (.agg #[.int .i64 (M.nb : Int), .int .i64 (M.np : Int), .int .i64 (M.ni : Int), .slice A1 M.nb c1, .slice A2 M.np c2, .slice (some ad) M.ni c3]) ∧ Below w.heap.size w w8) := Lib.hid ⟨⟨_, _, _, _, _, _, _, rfl, HR.out.below hb8⟩, hb8⟩
    have he : ee = 200 := by
      rw [← HE.out]
      unfold Mt.markedE
      rw [if_neg HIN.out]
      simp only [Int.toNat_natCast]
      exact if_pos (decide_eq_false (fun q => HN.out q.2.1))
    subst he
    clear hB8 hg8 hs8 hb8
    go_wp2_with fail
    refine bodyPost_ret (results_ct (by rfl) _ _ (w.heap.size + 1) 36 _ (0, 0) _ (by rfl) HB8.out und36 (by rfl) (by kernel_rfl) (by rfl)) rfl ?_
    exact ⟨_, rfl, by rw [if_neg (by decide)]; exact HF.out.1, HF.out.2⟩
  case pos =>
  have en := eqn hn
  have HN := Lib.hid hn
  clear hn
  by_cases hs3 : (M.wrs p).state < 3
  case pos =>
    have e3 : decide ((M.wrs p).state < 3) = true := decide_eq_true hs3
    have HS3 := Lib.hid hs3
    clear hs3
    go_wp2_with (with_reducible refine at_load 36 rfl ?_)
    refine Stop.go (wpList_load_blk (by rfl) 36 _ (by rfl) w.heap.size (by rfl) 36 _ HA3.out.b _ und36 (by rfl) (by kernel_rfl) ?_)
    go_wp2_with (with_reducible refine at_store 36 rfl ?_)
    refine Stop.go (wpList_store_blk (by rfl) (by rfl) 36 _ _ (by rfl) (w.heap.size + 1) _ #[.int .i64 (M.nb : Int), .int .i64 (M.np : Int), .int .i64 (M.ni : Int), .slice A1 M.nb c1, .slice A2 M.np c2, .slice (some ad) M.ni c3] (by rfl) (by rfl) 36 HA3.out.r (by rfl) (by kernel_rfl) (by simp [Value.oneCell']) ?_)
    intro w8 hB8 hg8 hs8
    have HB8 := Lib.hid hB8
    have hb8 : Below w.heap.size w w8 := below_grown HA3.out.low hg8 (Nat.le_refl _) (by omega)
    have HF : Hid (Rf w8 X M (.agg #[.int .i64 (M.nb : Int), .int .i64 (M.np : Int), .int .i64 (M.ni : Int), .slice A1 M.nb c1, .slice A2 M.np c2, .slice (some ad) M.ni c3]) ∧ Below w.heap.size w w8) := Lib.hid ⟨⟨_, _, _, _, _, _, _, rfl, HR.out.below hb8⟩, hb8⟩
    have he : ee = 200 := by
      rw [← HE.out]
      unfold Mt.markedE
      rw [if_neg HIN.out]
      simp only [Int.toNat_natCast]
      exact if_pos (decide_eq_false (fun q => by have h9 := q.1; rw [HEN.out] at h9; have := of_decide_eq_true h9; have := HS3.out; omega))
    subst he
    clear hB8 hg8 hs8 hb8
    go_wp2_with fail
    refine bodyPost_ret (results_ct (by rfl) _ _ (w.heap.size + 1) 36 _ (0, 0) _ (by rfl) HB8.out und36 (by rfl) (by kernel_rfl) (by rfl)) rfl ?_
    exact ⟨_, rfl, by rw [if_neg (by decide)]; exact HF.out.1, HF.out.2⟩
  case neg =>
  have e3 : decide ((M.wrs p).state < 3) = false := decide_eq_false hs3
  have HS3 := Lib.hid hs3
  clear hs3
  have hin := refIn_any (c := ks) (HS.out.below HA3.out.low) HLE.out y
  by_cases hm : y ∈ (M.wrs p).parts
  case neg =>
    have HM := Lib.hid hm
    rw [decide_eq_false hm] at hin
    clear hm
    go_wp2_with fail
    refine hin.mono ?_
    rintro r w9 ⟨rfl, hw9⟩
    rw [hw9]
    clear hin hw9
    go_wp2_with (with_reducible refine at_load 36 rfl ?_)
    refine Stop.go (wpList_load_blk (by rfl) 36 _ (by rfl) w.heap.size (by rfl) 36 _ HA3.out.b _ und36 (by rfl) (by kernel_rfl) ?_)
    go_wp2_with (with_reducible refine at_store 36 rfl ?_)
    refine Stop.go (wpList_store_blk (by rfl) (by rfl) 36 _ _ (by rfl) (w.heap.size + 1) _ #[.int .i64 (M.nb : Int), .int .i64 (M.np : Int), .int .i64 (M.ni : Int), .slice A1 M.nb c1, .slice A2 M.np c2, .slice (some ad) M.ni c3] (by rfl) (by rfl) 36 HA3.out.r (by rfl) (by kernel_rfl) (by simp [Value.oneCell']) ?_)
    intro w8 hB8 hg8 hs8
    have HB8 := Lib.hid hB8
    have hb8 : Below w.heap.size w w8 := below_grown HA3.out.low hg8 (Nat.le_refl _) (by omega)
    have HF : Hid (Rf w8 X M (.agg #[.int .i64 (M.nb : Int), .int .i64 (M.np : Int), .int .i64 (M.ni : Int), .slice A1 M.nb c1, .slice A2 M.np c2, .slice (some ad) M.ni c3]) ∧ Below w.heap.size w w8) := Lib.hid ⟨⟨_, _, _, _, _, _, _, rfl, HR.out.below hb8⟩, hb8⟩
    have he : ee = 200 := by
      rw [← HE.out]
      unfold Mt.markedE
      rw [if_neg HIN.out]
      simp only [Int.toNat_natCast]
      exact if_pos (decide_eq_false (fun q => HM.out q.2.2))
    subst he
    clear hB8 hg8 hs8 hb8
    go_wp2_with fail
    refine bodyPost_ret (results_ct (by rfl) _ _ (w.heap.size + 1) 36 _ (0, 0) _ (by rfl) HB8.out und36 (by rfl) (by kernel_rfl) (by rfl)) rfl ?_
    exact ⟨_, rfl, by rw [if_neg (by decide)]; exact HF.out.1, HF.out.2⟩
  case pos =>
  have HM := Lib.hid hm
  rw [decide_eq_true hm] at hin
  clear hm
  go_upto_region 4 with fail
  go_wp2_with fail
  refine hin.mono ?_
  rintro r w9 ⟨rfl, hw9⟩
  rw [hw9]
  clear hin hw9
  have hwo := refWithout_any (c := ks) (HS.out.below HA3.out.low) HLE.out y
  go_wp2_with fail
  refine hwo.mono ?_
  rintro r w4 ⟨v4, rfl, ho4, hv4, hb4⟩
  clear hwo l1 l2 l3
  obtain ⟨U, hU⟩ : ∃ U, wout (M.wrs p).parts y = U := ⟨_, rfl⟩
  rw [hU] at ho4
  obtain ⟨A4, k4, rfl, -⟩ := ints_form ho4
  have HU := Lib.hid hU
  have HA4 := Lib.hid (HA3.out.below hb4)
  have HL4 := Lib.hid (HL3.out.below hb4 HL3.out.lt)
  have HV4 : Hid (∀ z, (Value.slice A4 U.length k4).ownBlock = some z → lx < z) := Lib.hid (fun z e => by have := hv4 z e; have := HL3.out.lt; omega)
  have HO4 := Lib.hid ho4
  have m3 : w4.cell? ⟨lx, 3, none⟩ = some (.slice As (M.wrs p).parts.length ks) := HL4.out.cell 3
  clear hU ho4 hv4 hb4
  have hS0 := HL4.out
  have k0 : (w4).cell? ⟨lx, 3, none⟩ = some (.slice As (M.wrs p).parts.length ks) := hS0.cell 3
  have g0 := hS0.frozen 3
  have hS1 : Blk ((w4).setCell ⟨lx, 3, none⟩ (.slice A4 U.length k4)) lx 55 #[.int .i64 (M.wrs p).session, .int .i64 (M.wrs p).num, .int .i64 (M.wrs p).state, .slice A4 U.length k4, .int .i64 (M.wrs p).offset, .int .i64 (M.wrs p).next] := hS0.set_ 3 (.slice A4 U.length k4)
  have hT9 : Turn (fun z => z = lx) (w4) ((w4).setCell ⟨lx, 3, none⟩ (.slice A4 U.length k4)) := ((Turn.refl (fun z => z = lx) (w4)).setCell (p := ⟨lx, 3, none⟩) (fun _ => rfl) (.slice A4 U.length k4))
  have HO5 := Lib.hid (HO4.out.keep hT9 (fun z hz e => by have := HV4.out z hz; omega))
  have HA5 := Lib.hid (HA4.out.on hT9 (fun z e => by have := HLX.out; omega) (fun e => by have := HLX.out; omega) (fun e => by have := HLX.out; omega))
  have HL5 := Lib.hid hS1
  clear hT9 hS0 hS1
  go_upto_region 7 with fail
  generalize (w4).setCell ⟨lx, 3, none⟩ (.slice A4 U.length k4) = w5 at *
  clear k0 g0
  have y3 : w5.cell? ⟨lx, 3, none⟩ = some (.slice A4 U.length k4) := HL5.out.cell 3
  have y2 : w5.cell? ⟨lx, 2, none⟩ = some (.int .i64 (M.wrs p).state) := HL5.out.cell 2
  have y5 : w5.cell? ⟨lx, 5, none⟩ = some (.int .i64 (M.wrs p).next) := HL5.out.cell 5
  clear m3
  by_cases hl : U.length = 0
  case neg =>
    have el : ((U.length : Int) == 0) = false := neb (by omega)
    have el2 : (U.length == 0) = false := by simpa using hl
    have HBG : Hid ((M.wrs p).mark y = { (M.wrs p) with parts := U }) := Lib.hid (by unfold Wt.mark; rw [HU.out, if_neg (fun e => hl (by rw [e]; rfl))])
    clear hl
    go_upto_region 11 with fail
    go_wp2_with (with_reducible refine at_load 36 rfl ?_)
    refine Stop.go (wpList_load_blk (by rfl) 36 _ (by rfl) w.heap.size (by rfl) 36 _ HA5.out.b _ und36 (by rfl) (by kernel_rfl) ?_)
    go_wp2_with (with_reducible refine at_load 55 rfl ?_)
    refine Stop.go (wpList_load_blk (by rfl) 55 _ (by rfl) lx (by rfl) 55 _ HL5.out _ und55 (by rfl) (by kernel_rfl) ?_)
    have hrx9 := HRX.out.below HA5.out.low
    have hxx9 := HXX.out _ HA5.out.low.size HA5.out.r.lt
    have hcall := writing105_any hrx9 hxx9 HK.out.ni.2 HK.out.np.2 HP.out ({ (M.wrs p) with parts := U }) (s := .slice A4 U.length k4) ⟨A4, k4, rfl, HO5.out.rd (fun z hz e => e.elim (fun e => by have := HX.out z e; have := HV4.out z hz; have := HLX.out; omega) (fun e => by have := HV4.out z hz; have := HLX.out; omega))⟩
    clear hrx9 hxx9
    go_wp2_with fail
    refine hcall.mono ?_
    rintro r w7 ⟨v7, rfl, hrf, hb7⟩
    have HA7 := Lib.hid (HA5.out.below hb7)
    have hrf7 := hrf
    obtain ⟨B1, B2, B3, d1, d2, d3, rs7, rfl, hR7⟩ := hrf
    have HRF := Lib.hid hrf7
    clear hcall hrf7 hR7 hb7
    go_wp2_with (with_reducible refine at_store 36 rfl ?_)
    refine Stop.go (wpList_store_blk (by rfl) (by rfl) 36 _ _ (by rfl) (w.heap.size + 1) _ #[.int .i64 (M.nb : Int), .int .i64 (M.np : Int), .int .i64 (M.ni : Int), .slice B1 M.nb d1, .slice B2 M.np d2, .slice B3 M.ni d3] (by rfl) (by rfl) 36 HA7.out.r (by rfl) (by kernel_rfl) (by simp [Value.oneCell']) ?_)
    intro w8 hB8 hg8 hs8
    have HB8 := Lib.hid hB8
    have hb8 : Below w.heap.size w w8 := below_grown HA7.out.low hg8 (Nat.le_refl _) (by omega)
    have hb78 : Turn (fun z => z = (w.heap.size + 1)) w7 w8 := Turn.of_grown hg8 (fun r e => by injection e with e; exact e.symm)
    have HF : Hid (Rf w8 X (M.setW p ({ (M.wrs p) with parts := U })) (.agg #[.int .i64 (M.nb : Int), .int .i64 (M.np : Int), .int .i64 (M.ni : Int), .slice B1 M.nb d1, .slice B2 M.np d2, .slice B3 M.ni d3]) ∧ Below w.heap.size w w8) := Lib.hid ⟨(HRF.out.keep hb78 (fun z _ e => .inr e)).wide (fun z _ e => .inl e), hb8⟩
    have he : ee = 0 := by
      rw [← HE.out]
      unfold Mt.markedE
      rw [if_neg HIN.out]
      simp only [Int.toNat_natCast]
      refine if_neg ?_
      have : (M.wrs p).wants n y = true := decide_eq_true ⟨by rw [HEN.out]; exact decide_eq_true (by have := HS3.out; omega), HN.out, HM.out⟩
      rw [this]
      decide
    subst he
    clear hB8 hg8 hs8 hb8 hb78
    go_wp2_with fail
    refine bodyPost_ret (results_ct (by rfl) _ _ (w.heap.size + 1) 36 _ (0, 0) _ (by rfl) HB8.out und36 (by rfl) (by kernel_rfl) (by rfl)) rfl ?_
    exact ⟨_, rfl, by rw [if_pos rfl, ← HM1.out]; simp only [Int.toNat_natCast]; rw [HBG.out]; exact HF.out.1, HF.out.2⟩
  case pos =>
  have el : ((U.length : Int) == 0) = true := eqb (by omega)
  have el2 : (U.length == 0) = true := by simpa using hl
  have hU0 : U = [] := List.eq_nil_of_length_eq_zero hl
  by_cases h3 : (M.wrs p).state = 3
  case pos =>
    have e9 := eqb h3
    have HBG : Hid ((M.wrs p).mark y = { (M.wrs p) with parts := U, offset := (M.wrs p).next, state := 1, next := 0 }) := Lib.hid (by unfold Wt.mark; rw [HU.out, if_pos hU0, if_pos h3, hU0])
    clear hl hU0 h3
    have hS0 := HL5.out
    have k0 : (w5).cell? ⟨lx, 4, none⟩ = some (.int .i64 (M.wrs p).offset) := hS0.cell 4
    have g0 := hS0.frozen 4
    have hS1 : Blk ((w5).setCell ⟨lx, 4, none⟩ (.int .i64 (M.wrs p).next)) lx 55 #[.int .i64 (M.wrs p).session, .int .i64 (M.wrs p).num, .int .i64 (M.wrs p).state, .slice A4 U.length k4, .int .i64 (M.wrs p).next, .int .i64 (M.wrs p).next] := hS0.set_ 4 (.int .i64 (M.wrs p).next)
    have k1 : ((w5).setCell ⟨lx, 4, none⟩ (.int .i64 (M.wrs p).next)).cell? ⟨lx, 2, none⟩ = some (.int .i64 (M.wrs p).state) := hS1.cell 2
    have g1 := hS1.frozen 2
    have hS2 : Blk (((w5).setCell ⟨lx, 4, none⟩ (.int .i64 (M.wrs p).next)).setCell ⟨lx, 2, none⟩ (.int .i64 1)) lx 55 #[.int .i64 (M.wrs p).session, .int .i64 (M.wrs p).num, .int .i64 1, .slice A4 U.length k4, .int .i64 (M.wrs p).next, .int .i64 (M.wrs p).next] := hS1.set_ 2 (.int .i64 1)
    have k2 : (((w5).setCell ⟨lx, 4, none⟩ (.int .i64 (M.wrs p).next)).setCell ⟨lx, 2, none⟩ (.int .i64 1)).cell? ⟨lx, 5, none⟩ = some (.int .i64 (M.wrs p).next) := hS2.cell 5
    have g2 := hS2.frozen 5
    have hS3 : Blk ((((w5).setCell ⟨lx, 4, none⟩ (.int .i64 (M.wrs p).next)).setCell ⟨lx, 2, none⟩ (.int .i64 1)).setCell ⟨lx, 5, none⟩ (.int .i64 0)) lx 55 #[.int .i64 (M.wrs p).session, .int .i64 (M.wrs p).num, .int .i64 1, .slice A4 U.length k4, .int .i64 (M.wrs p).next, .int .i64 0] := hS2.set_ 5 (.int .i64 0)
    have hT9 : Turn (fun z => z = lx) (w5) ((((w5).setCell ⟨lx, 4, none⟩ (.int .i64 (M.wrs p).next)).setCell ⟨lx, 2, none⟩ (.int .i64 1)).setCell ⟨lx, 5, none⟩ (.int .i64 0)) := ((((Turn.refl (fun z => z = lx) (w5)).setCell (p := ⟨lx, 4, none⟩) (fun _ => rfl) (.int .i64 (M.wrs p).next)).setCell (p := ⟨lx, 2, none⟩) (fun _ => rfl) (.int .i64 1)).setCell (p := ⟨lx, 5, none⟩) (fun _ => rfl) (.int .i64 0))
    have HO6 := Lib.hid (HO5.out.keep hT9 (fun z hz e => by have := HV4.out z hz; omega))
    have HA6 := Lib.hid (HA5.out.on hT9 (fun z e => by have := HLX.out; omega) (fun e => by have := HLX.out; omega) (fun e => by have := HLX.out; omega))
    have HL6 := Lib.hid hS3
    clear hT9 hS0 hS1 hS2 hS3
    go_upto_region 11 with fail
    generalize (((w5).setCell ⟨lx, 4, none⟩ (.int .i64 (M.wrs p).next)).setCell ⟨lx, 2, none⟩ (.int .i64 1)).setCell ⟨lx, 5, none⟩ (.int .i64 0) = w6 at *
    clear k0 g0 k1 g1 k2 g2
    go_wp2_with (with_reducible refine at_load 36 rfl ?_)
    refine Stop.go (wpList_load_blk (by rfl) 36 _ (by rfl) w.heap.size (by rfl) 36 _ HA6.out.b _ und36 (by rfl) (by kernel_rfl) ?_)
    go_wp2_with (with_reducible refine at_load 55 rfl ?_)
    refine Stop.go (wpList_load_blk (by rfl) 55 _ (by rfl) lx (by rfl) 55 _ HL6.out _ und55 (by rfl) (by kernel_rfl) ?_)
    have hrx9 := HRX.out.below HA6.out.low
    have hxx9 := HXX.out _ HA6.out.low.size HA6.out.r.lt
    have hcall := writing105_any hrx9 hxx9 HK.out.ni.2 HK.out.np.2 HP.out ({ (M.wrs p) with parts := U, offset := (M.wrs p).next, state := 1, next := 0 }) (s := .slice A4 U.length k4) ⟨A4, k4, rfl, HO6.out.rd (fun z hz e => e.elim (fun e => by have := HX.out z e; have := HV4.out z hz; have := HLX.out; omega) (fun e => by have := HV4.out z hz; have := HLX.out; omega))⟩
    clear hrx9 hxx9
    go_wp2_with fail
    refine hcall.mono ?_
    rintro r w7 ⟨v7, rfl, hrf, hb7⟩
    have HA7 := Lib.hid (HA6.out.below hb7)
    have hrf7 := hrf
    obtain ⟨B1, B2, B3, d1, d2, d3, rs7, rfl, hR7⟩ := hrf
    have HRF := Lib.hid hrf7
    clear hcall hrf7 hR7 hb7
    go_wp2_with (with_reducible refine at_store 36 rfl ?_)
    refine Stop.go (wpList_store_blk (by rfl) (by rfl) 36 _ _ (by rfl) (w.heap.size + 1) _ #[.int .i64 (M.nb : Int), .int .i64 (M.np : Int), .int .i64 (M.ni : Int), .slice B1 M.nb d1, .slice B2 M.np d2, .slice B3 M.ni d3] (by rfl) (by rfl) 36 HA7.out.r (by rfl) (by kernel_rfl) (by simp [Value.oneCell']) ?_)
    intro w8 hB8 hg8 hs8
    have HB8 := Lib.hid hB8
    have hb8 : Below w.heap.size w w8 := below_grown HA7.out.low hg8 (Nat.le_refl _) (by omega)
    have hb78 : Turn (fun z => z = (w.heap.size + 1)) w7 w8 := Turn.of_grown hg8 (fun r e => by injection e with e; exact e.symm)
    have HF : Hid (Rf w8 X (M.setW p ({ (M.wrs p) with parts := U, offset := (M.wrs p).next, state := 1, next := 0 })) (.agg #[.int .i64 (M.nb : Int), .int .i64 (M.np : Int), .int .i64 (M.ni : Int), .slice B1 M.nb d1, .slice B2 M.np d2, .slice B3 M.ni d3]) ∧ Below w.heap.size w w8) := Lib.hid ⟨(HRF.out.keep hb78 (fun z _ e => .inr e)).wide (fun z _ e => .inl e), hb8⟩
    have he : ee = 0 := by
      rw [← HE.out]
      unfold Mt.markedE
      rw [if_neg HIN.out]
      simp only [Int.toNat_natCast]
      refine if_neg ?_
      have : (M.wrs p).wants n y = true := decide_eq_true ⟨by rw [HEN.out]; exact decide_eq_true (by have := HS3.out; omega), HN.out, HM.out⟩
      rw [this]
      decide
    subst he
    clear hB8 hg8 hs8 hb8 hb78
    go_wp2_with fail
    refine bodyPost_ret (results_ct (by rfl) _ _ (w.heap.size + 1) 36 _ (0, 0) _ (by rfl) HB8.out und36 (by rfl) (by kernel_rfl) (by rfl)) rfl ?_
    exact ⟨_, rfl, by rw [if_pos rfl, ← HM1.out]; simp only [Int.toNat_natCast]; rw [HBG.out]; exact HF.out.1, HF.out.2⟩
  case neg =>
  have e9 := neb h3
  have HBG : Hid ((M.wrs p).mark y = { (M.wrs p) with parts := U, state := 1, next := 0 }) := Lib.hid (by unfold Wt.mark; rw [HU.out, if_pos hU0, if_neg h3, hU0])
  clear hl hU0 h3
  have hS0 := HL5.out
  have k0 : (w5).cell? ⟨lx, 2, none⟩ = some (.int .i64 (M.wrs p).state) := hS0.cell 2
  have g0 := hS0.frozen 2
  have hS1 : Blk ((w5).setCell ⟨lx, 2, none⟩ (.int .i64 1)) lx 55 #[.int .i64 (M.wrs p).session, .int .i64 (M.wrs p).num, .int .i64 1, .slice A4 U.length k4, .int .i64 (M.wrs p).offset, .int .i64 (M.wrs p).next] := hS0.set_ 2 (.int .i64 1)
  have k1 : ((w5).setCell ⟨lx, 2, none⟩ (.int .i64 1)).cell? ⟨lx, 5, none⟩ = some (.int .i64 (M.wrs p).next) := hS1.cell 5
  have g1 := hS1.frozen 5
  have hS2 : Blk (((w5).setCell ⟨lx, 2, none⟩ (.int .i64 1)).setCell ⟨lx, 5, none⟩ (.int .i64 0)) lx 55 #[.int .i64 (M.wrs p).session, .int .i64 (M.wrs p).num, .int .i64 1, .slice A4 U.length k4, .int .i64 (M.wrs p).offset, .int .i64 0] := hS1.set_ 5 (.int .i64 0)
  have hT9 : Turn (fun z => z = lx) (w5) (((w5).setCell ⟨lx, 2, none⟩ (.int .i64 1)).setCell ⟨lx, 5, none⟩ (.int .i64 0)) := (((Turn.refl (fun z => z = lx) (w5)).setCell (p := ⟨lx, 2, none⟩) (fun _ => rfl) (.int .i64 1)).setCell (p := ⟨lx, 5, none⟩) (fun _ => rfl) (.int .i64 0))
  have HO6 := Lib.hid (HO5.out.keep hT9 (fun z hz e => by have := HV4.out z hz; omega))
  have HA6 := Lib.hid (HA5.out.on hT9 (fun z e => by have := HLX.out; omega) (fun e => by have := HLX.out; omega) (fun e => by have := HLX.out; omega))
  have HL6 := Lib.hid hS2
  clear hT9 hS0 hS1 hS2
  go_upto_region 11 with fail
  generalize ((w5).setCell ⟨lx, 2, none⟩ (.int .i64 1)).setCell ⟨lx, 5, none⟩ (.int .i64 0) = w6 at *
  clear k0 g0 k1 g1
  go_wp2_with (with_reducible refine at_load 36 rfl ?_)
  refine Stop.go (wpList_load_blk (by rfl) 36 _ (by rfl) w.heap.size (by rfl) 36 _ HA6.out.b _ und36 (by rfl) (by kernel_rfl) ?_)
  go_wp2_with (with_reducible refine at_load 55 rfl ?_)
  refine Stop.go (wpList_load_blk (by rfl) 55 _ (by rfl) lx (by rfl) 55 _ HL6.out _ und55 (by rfl) (by kernel_rfl) ?_)
  have hrx9 := HRX.out.below HA6.out.low
  have hxx9 := HXX.out _ HA6.out.low.size HA6.out.r.lt
  have hcall := writing105_any hrx9 hxx9 HK.out.ni.2 HK.out.np.2 HP.out ({ (M.wrs p) with parts := U, state := 1, next := 0 }) (s := .slice A4 U.length k4) ⟨A4, k4, rfl, HO6.out.rd (fun z hz e => e.elim (fun e => by have := HX.out z e; have := HV4.out z hz; have := HLX.out; omega) (fun e => by have := HV4.out z hz; have := HLX.out; omega))⟩
  clear hrx9 hxx9
  go_wp2_with fail
  refine hcall.mono ?_
  rintro r w7 ⟨v7, rfl, hrf, hb7⟩
  have HA7 := Lib.hid (HA6.out.below hb7)
  have hrf7 := hrf
  obtain ⟨B1, B2, B3, d1, d2, d3, rs7, rfl, hR7⟩ := hrf
  have HRF := Lib.hid hrf7
  clear hcall hrf7 hR7 hb7
  go_wp2_with (with_reducible refine at_store 36 rfl ?_)
  refine Stop.go (wpList_store_blk (by rfl) (by rfl) 36 _ _ (by rfl) (w.heap.size + 1) _ #[.int .i64 (M.nb : Int), .int .i64 (M.np : Int), .int .i64 (M.ni : Int), .slice B1 M.nb d1, .slice B2 M.np d2, .slice B3 M.ni d3] (by rfl) (by rfl) 36 HA7.out.r (by rfl) (by kernel_rfl) (by simp [Value.oneCell']) ?_)
  intro w8 hB8 hg8 hs8
  have HB8 := Lib.hid hB8
  have hb8 : Below w.heap.size w w8 := below_grown HA7.out.low hg8 (Nat.le_refl _) (by omega)
  have hb78 : Turn (fun z => z = (w.heap.size + 1)) w7 w8 := Turn.of_grown hg8 (fun r e => by injection e with e; exact e.symm)
  have HF : Hid (Rf w8 X (M.setW p ({ (M.wrs p) with parts := U, state := 1, next := 0 })) (.agg #[.int .i64 (M.nb : Int), .int .i64 (M.np : Int), .int .i64 (M.ni : Int), .slice B1 M.nb d1, .slice B2 M.np d2, .slice B3 M.ni d3]) ∧ Below w.heap.size w w8) := Lib.hid ⟨(HRF.out.keep hb78 (fun z _ e => .inr e)).wide (fun z _ e => .inl e), hb8⟩
  have he : ee = 0 := by
    rw [← HE.out]
    unfold Mt.markedE
    rw [if_neg HIN.out]
    simp only [Int.toNat_natCast]
    refine if_neg ?_
    have : (M.wrs p).wants n y = true := decide_eq_true ⟨by rw [HEN.out]; exact decide_eq_true (by have := HS3.out; omega), HN.out, HM.out⟩
    rw [this]
    decide
  subst he
  clear hB8 hg8 hs8 hb8 hb78
  go_wp2_with fail
  refine bodyPost_ret (results_ct (by rfl) _ _ (w.heap.size + 1) 36 _ (0, 0) _ (by rfl) HB8.out und36 (by rfl) (by kernel_rfl) (by rfl)) rfl ?_
  exact ⟨_, rfl, by rw [if_pos rfl, ← HM1.out]; simp only [Int.toNat_natCast]; rw [HBG.out]; exact HF.out.1, HF.out.2⟩
end
end Go.Proofs.YtpmdicbhliclcaaGreat
