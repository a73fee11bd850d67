/-
  For all bytes a and b and every bit waystationlaw01.SumsBits returns true: one bit that is turned turns the sum by just as much whatever the other bytes are, and always. Conditions: none.
-/
import Derived.Test.YtnlokmamflpffaaFlip
import Derived.Deep.DeepCutAuto
import Derived.WalkKit
import Derived.ProofKit
import Derived.OpenShut
import Derived.ShutString
import Derived.ChangeOld
import Derived.Below
namespace Go.Proofs.Ytnlokmamflpffaa.sumsBits
open Go.ChangeShapes Go.WideShapes Go.ChangeAt Go.RowKit
open Go.ChangeMaps (open_string shut_string)
set_option linter.unusedVariables false

theorem own : ownKnob Try.prog.godebug = none := by kernel_rfl
theorem laidOut : laidOutB Try.prog = true := by kernel_rfl

theorem own_below {w w' : World} {base B : Nat} {v : Value} {l : List UInt8} (h : Own w base v l) (hb : Below B w w') (hB : w.heap.size ≤ B) : Own w' base v l := h.below hb hB
/-- Two rows of the call's own, apart. -/
def Pair (B n : Nat) (X Y : List UInt8) (w : World) (x y : Value) (W : World) : Prop :=
  ∃ gx cx gy cy, x = .slice (some ⟨gx, 0, none⟩) n cx ∧ y = .slice (some ⟨gy, 0, none⟩) n cy ∧ gx ≠ gy ∧ Own W B x X ∧ Own W B y Y ∧ Below B w W
theorem own_pos {W : World} {base : Nat} {v : Value} {l : List UInt8} (h : Own W base v l) (hn : 0 < l.length) : ∃ g c, v = .slice (some ⟨g, 0, none⟩) l.length c ∧ base ≤ g := by
  rcases h.2 with ⟨_, h0⟩ | ⟨g, cap, cur, rfl, h1, _⟩
  · omega
  · exact ⟨g, cap, rfl, h1⟩
theorem pair_mk {B n : Nat} {X Y : List UInt8} {w W : World} {v1 v2 : Value} (hX : X.length = n) (hY : Y.length = n) (hn : 0 < n) (h1 : Own W B v1 X) (h2 : Own W B v2 Y) (hb : Below B w W) (hne : v1.ownBlock ≠ v2.ownBlock) : Pair B n X Y w v1 v2 W := by
  obtain ⟨g1, c1, e1, _⟩ := own_pos h1 (by omega)
  obtain ⟨g2, c2, e2, _⟩ := own_pos h2 (by omega)
  rw [hX] at e1
  rw [hY] at e2
  refine ⟨g1, c1, g2, c2, e1, e2, fun e => hne ?_, h1, h2, hb⟩
  rw [e1, e2, e]
  rfl
theorem row_cell {W : World} {B g n c : Nat} {l : List UInt8} (h : Own W B (.slice (some ⟨g, 0, none⟩) n c) l) (hn : l.length = n) (j : Nat) (hj : j < l.length) :
    W.cell? ⟨g, j, none⟩ = some (.int .u8 ((l[j]).toNat : Int)) ∧ W.frozen? ⟨g, j, none⟩ = false ∧ Hid (∀ y : UInt8, Own (W.setCell ⟨g, j, none⟩ (byteV y)) B (.slice (some ⟨g, 0, none⟩) n c) (l.set j y) ∧ W.grownBy (W.setCell ⟨g, j, none⟩ (byteV y)) (some g)) := by
  have hr : W.ownsRow B 5 1 (.slice (some ⟨g, 0, none⟩) n c) n (l.map byteV) := by
    unfold Own at h
    rw [hn] at h
    exact h
  refine ⟨?_, hr.frozenAt j, Lib.hid fun y => ?_⟩
  · rw [hr.cellAt j (by omega), List.getElem?_map, List.getElem?_eq_getElem hj]
    rfl
  · obtain ⟨h1, h2⟩ := hr.stored j (byteV y)
    refine ⟨?_, h2⟩
    unfold Own
    rw [List.length_set, hn, List.map_set]
    exact h1
theorem flip_value (x : UInt8) (m : Nat) : Value.int .u8 (bits .xor .u8 (x.toNat : Int) ((2 : Int) ^ (m % 8) % 256)) = byteV (UInt8.ofNat (x.toNat ^^^ 2 ^ (m % 8))) := by
  have hr : m % 8 < 8 := by omega
  have hp : 2 ^ (m % 8) < 2 ^ 8 := Nat.pow_lt_pow_right (by omega) hr
  unfold byteV
  rw [Crc.toNat_byte x _ hr]
  rw [show (2 : Int) ^ (m % 8) = ((2 ^ (m % 8) : Nat) : Int) from by rw [Int.natCast_pow]; rfl]
  rw [show (((2 ^ (m % 8) : Nat) : Int) % 256) = ((2 ^ (m % 8) : Nat) : Int) from Int.emod_eq_of_lt (Int.natCast_nonneg _) (by generalize 2 ^ (m % 8) = z at *; omega)]
  rw [u8_xor_nat x.toNat (2 ^ (m % 8)) (UInt8.toNat_lt x) hp]
theorem own_lt {W : World} {B g : Nat} {v : Value} {l : List UInt8} (h : Own W B v l) (hg : v.ownBlock = some g) : B ≤ g ∧ g < W.heap.size := World.ownsRow.lt h g hg
theorem own_other {w w' : World} {base : Nat} {v : Value} {l : List UInt8} {row : Option Nat} (h : Own w base v l) (hg : w.grownBy w' row) (hne : v.ownBlock ≠ row) : Own w' base v l := World.ownsRow.kept h hg (.inr hne)
theorem own_empty2 (w : World) : Own ((w.alloc (.cells #[] 5)).alloc (.cells #[] 5)).drew w.heap.size (.slice (some ⟨w.heap.size + 1, 0, none⟩) 0 0) [] := by
  have h := own_empty (w.alloc (.cells #[] 5)) w.heap.size (le_alloc (Nat.le_refl _) _)
  rw [show (w.alloc (.cells #[] 5)).heap.size = w.heap.size + 1 from by simp] at h
  exact h.drew
theorem two_apart {W w1 w2 : World} {B : Nat} {ex ey v1 v2 : Value} {X Y : List UInt8} (hex : Own W B ex []) (hey : Own W B ey []) (hne : ex.ownBlock ≠ ey.ownBlock) (h1 : Own w1 B v1 X) (k1 : v1.ownBlock = ex.ownBlock ∨ v1.ownBlock = some W.heap.size)
    (g1 : W.grownBy w1 ex.ownBlock) (k2 : v2.ownBlock = ey.ownBlock ∨ v2.ownBlock = some w1.heap.size) (_h2 : Own w2 B v2 Y) : v1.ownBlock ≠ v2.ownBlock ∧ v1.ownBlock ≠ ey.ownBlock ∨ v1.ownBlock = none := by
  cases e1 : v1.ownBlock with
  | none => exact .inr rfl
  | some g =>
    left
    have l1 := own_lt h1 e1
    have hz := g1.size
    have hy : some g ≠ ey.ownBlock := by
      intro e
      rcases k1 with k | k
      · exact hne (by rw [← k, e1, e])
      · have l2 := own_lt hey e.symm
        rw [e1] at k
        injection k with k
        omega
    refine ⟨fun e => ?_, hy⟩
    rcases k2 with k | k
    · exact hy (by rw [e, k])
    · rw [k] at e
      injection e with e
      omega
theorem pair_two {B n : Nat} {X Y : List UInt8} {w w1 w2 : World} {v1 v2 ey : Value} (hX : X.length = n) (hY : Y.length = n) (hn : 0 < n) (h1 : Own w1 B v1 X) (h2 : Own w2 B v2 Y) (hb : Below B w w2) (hg : w1.grownBy w2 ey.ownBlock)
    (hap : v1.ownBlock ≠ v2.ownBlock ∧ v1.ownBlock ≠ ey.ownBlock ∨ v1.ownBlock = none) : Pair B n X Y w v1 v2 w2 := by
  rcases hap with ⟨ha, hc⟩ | hn1
  · exact pair_mk hX hY hn (own_other h1 hg hc) h2 hb ha
  · obtain ⟨g, c, e, _⟩ := own_pos h1 (by omega)
    rw [e] at hn1
    cases hn1
theorem pair_apart {B n : Nat} {X Y : List UInt8} {w w1 w2 : World} {v1 v2 : Value} (hX : X.length = n) (hY : Y.length = n) (hn : 0 < n) (h1 : Own w1 B v1 X) (h2 : Own w2 w1.heap.size v2 Y) (hB : B ≤ w1.heap.size) (hk : Below w1.heap.size w1 w2) (hb : Below B w w2) : Pair B n X Y w v1 v2 w2 := by
  refine pair_mk hX hY hn (h1.below hk (Nat.le_refl _)) (h2.mono hB) hb (fun e => ?_)
  obtain ⟨g, c, e1, _⟩ := own_pos h1 (by omega)
  have e1' : v1.ownBlock = some g := by rw [e1]; rfl
  have l1 := own_lt h1 e1'
  have l2 := own_lt h2 (by rw [← e, e1'])
  omega
set_option maxHeartbeats 2000000 in
set_option maxRecDepth 100000 in
theorem walk (a0 : Option Addr) (len0 cap0 : Nat) (z0 : List Int) (a1 : Option Addr) (len1 cap1 : Nat) (z1 : List Int) (a2 : Int) (w : World) (w0 : IsRow .u8 w a0 len0 cap0 z0) (w1 : IsRow .u8 w a1 len1 cap1 z1) (w2 : (Lit.int .i64 a2).wf = true) :
    Calls Try.prog 8 #[.slice a0 len0 cap0, .slice a1 len1 cap1, .int .i64 a2] w fun e w' => e = .returned (.bool true) ∧ Below w.heap.size w w' := by
  obtain ⟨l, hl, hc1, hc2⟩ := w0.bys
  obtain ⟨k, hk, hd1, hd2⟩ := w1.bys
  have hi := i64_bounds w2
  clear w0 w1 w2
  unfold maxLen at hc2 hd2
  by_cases hmin : len1 < len0
  · by_cases h300 : 300 < len1
    · go_enter Try.func8, Try.ntmps8
      go_wp2_with fail
      refine (works_any w).mono ?_
      rintro e w' ⟨rfl, hb⟩
      go_wp2_with fail
      go_ret
      exact ⟨rfl, hb⟩
    by_cases hneg : a2 < 0
    · go_enter Try.func8, Try.ntmps8
      go_wp2_with fail
      refine (works_any w).mono ?_
      rintro e w' ⟨rfl, hb⟩
      go_wp2_with fail
      go_ret
      exact ⟨rfl, hb⟩
    by_cases hbig : 8 * (len1 : Int) ≤ a2
    · go_enter Try.func8, Try.ntmps8
      go_wp2_with fail
      refine (works_any w).mono ?_
      rintro e w' ⟨rfl, hb⟩
      go_wp2_with fail
      go_ret
      exact ⟨rfl, hb⟩
    obtain ⟨m, rfl⟩ := Int.eq_ofNat_of_zero_le (show 0 ≤ a2 by omega)
    have hm : m < 8 * len1 := by omega
    have hN : len1 ≤ 300 := by omega
    have hN0 : 0 < len1 := by omega
    have LX : Hid (∀ W, Below w.heap.size w W → Bys W w.heap.size a0 len1 (l.take len1)) := Lib.hid fun W h => (hl.first (by omega)).below h
    have LY : Hid (∀ W, Below w.heap.size w W → Bys W w.heap.size a1 len1 (k.take len1)) := Lib.hid fun W h => (hk.first (by omega)).below h
    have HX : Hid ((l.take len1).length = len1) := Lib.hid (hl.first (k := len1) (by omega)).1
    have HY : Hid ((k.take len1).length = len1) := Lib.hid (hk.first (k := len1) (by omega)).1
    have s0 := slice_to a0 len0 cap0 len1 (len1 : Int) rfl (by omega)
    have s1 := slice_to a1 len1 cap1 len1 (len1 : Int) rfl (by omega)
    have s2 := sliceAt_to a0 len0 cap0 len1 (len1 : Int) rfl (by omega)
    have s3 := sliceAt_to a1 len1 cap1 len1 (len1 : Int) rfl (by omega)
    go_enter Try.func8, Try.ntmps8
    go_upto_region 4 with fail
    go_cut [8, 9] (fun x y wx => Pair w.heap.size len1 (l.take len1) (k.take len1) w x y wx)
    case first =>
      refine wp_region_np ?_
      refine wp_region_held_drew (S := fun _ => True) (by kernel_rfl) trivial (fun hHeld => ?_)
      refine wpAnyH_takeAt (i := 1) (d := 33) (v := ?va1) rfl rfl (by kernel_rfl) (by kernel_rfl) (by kernel_rfl) (fun _ _ _ h => h) (Or.inl ⟨by rfl, ?hya1⟩) hHeld ?_
      case hya1 => intro W hSw; (try dsimp only at hSw); (go_simp; try with_reducible rfl)
      simp only [List.setIfInBounds_toArray, List.set_cons_zero, List.set_cons_succ]
      refine wpAnyH_takeAt (i := 2) (d := 34) (v := ?va2) rfl rfl (by kernel_rfl) (by kernel_rfl) (by kernel_rfl) (fun _ _ _ h => h) (Or.inl ⟨by rfl, ?hya2⟩) hHeld ?_
      case hya2 => intro W hSw; (try dsimp only at hSw); (go_simp; try with_reducible rfl)
      simp only [List.setIfInBounds_toArray, List.set_cons_zero, List.set_cons_succ]
      refine wpAnyH_takeAt (i := 3) (d := 35) (v := ?va3) rfl rfl (by kernel_rfl) (by kernel_rfl) (by kernel_rfl) (fun _ _ _ h => h) (Or.inl ⟨by rfl, ?hya3⟩) hHeld ?_
      case hya3 => intro W hSw; (try dsimp only at hSw); (go_simp; try with_reducible rfl)
      simp only [List.setIfInBounds_toArray, List.set_cons_zero, List.set_cons_succ]
      refine wpAnyH_takeAt (i := 6) (d := 38) (v := ?va6) rfl rfl (by kernel_rfl) (by kernel_rfl) (by kernel_rfl) (fun _ _ _ h => h) (Or.inl ⟨by rfl, ?hya6⟩) hHeld ?_
      case hya6 => intro W hSw; (try dsimp only at hSw); (go_simp; try with_reducible rfl)
      simp only [List.setIfInBounds_toArray, List.set_cons_zero, List.set_cons_succ]
      refine wpAnyH_takeAt (i := 7) (d := 39) (v := ?va7) rfl rfl (by kernel_rfl) (by kernel_rfl) (by kernel_rfl) (fun _ _ _ h => h) (Or.inl ⟨by rfl, ?hya7⟩) hHeld ?_
      case hya7 => intro W hSw; (try dsimp only at hSw); (go_simp; try with_reducible rfl)
      simp only [List.setIfInBounds_toArray, List.set_cons_zero, List.set_cons_succ]
      refine wpAnyH_takeAt (i := 8) (d := 40) (v := ?va8) rfl rfl (by kernel_rfl) (by kernel_rfl) (by kernel_rfl) (fun _ _ _ h => h) (Or.inl ⟨by rfl, ?hya8⟩) hHeld ?_
      case hya8 => intro W hSw; (try dsimp only at hSw); (go_simp; try with_reducible rfl)
      simp only [List.setIfInBounds_toArray, List.set_cons_zero, List.set_cons_succ]
      refine wpAnyH_ready (rs := [0, 5]) (by kernel_rfl) (by simp) (AllReadyH.cons rfl (fun K hK => ?_) (AllReadyH.cons rfl (fun K hK => ?_) AllReadyH.nil))
      · go_simp
        refine hK.out _ _ trivial (fun hHeld => ?_)
        clear hK K
        refine wpAnyH_ready (rs := [4, 5]) (by kernel_rfl) (by simp) (AllReadyH.cons rfl (fun K hK => ?_) (AllReadyH.cons rfl (fun K hK => ?_) AllReadyH.nil))
        · have HBX : Below w.heap.size w (w.alloc (.cells #[] 5)).drew := ((Below.refl _ _).alloc (Nat.le_refl _) _).drew
          have HBS : w.heap.size ≤ (w.alloc (.cells #[] 5)).drew.heap.size := HBX.size
          refine step_append_bytes (d := 36) (by rfl) rfl _ _ (by rfl) w.heap.size _ [] (by rfl) (own_empty w _ (Nat.le_refl _)).drew w.heap.size a0 len1 cap0 (l.take len1) (by rfl) (LX.out _ HBX) (by simp) (by omega) HBS ?_
          intro v1 w1 ho1 hb1 hg1 hk1
          rw [List.nil_append] at ho1
          refine hK.out _ _ trivial (fun hHeld => ?_)
          clear hK K
          simp only [List.setIfInBounds_toArray, List.set_cons_zero, List.set_cons_succ]
          have hbw1 : Below w.heap.size w w1 := HBX.trans hb1
          have hz1 := hbw1.size
          refine wpAnyH_ready (rs := [5]) (by kernel_rfl) (by simp) (AllReadyH.cons rfl (fun K hK => ?_) AllReadyH.nil)
          go_simp
          refine hK.out _ _ trivial (fun hHeld => ?_)
          clear hK K
          have HBY : Below w.heap.size w (w1.alloc (.cells #[] 5)) := hbw1.alloc hz1 _
          clear HBS
          have HBS : w1.heap.size ≤ (w1.alloc (.cells #[] 5)).heap.size := le_alloc (Nat.le_refl _) _
          refine wpAnyH_ready (rs := [9]) (by kernel_rfl) (by simp) (AllReadyH.cons rfl (fun K hK => ?_) AllReadyH.nil)
          refine step_append_bytes (d := 41) (by rfl) rfl _ _ (by rfl) w1.heap.size _ [] (by rfl) (own_empty w1 _ (Nat.le_refl _)) w.heap.size a1 len1 cap1 (k.take len1) (by rfl) (LY.out _ HBY) (by simp) (by omega) HBS ?_
          intro v2 w2 ho2 hb2 hg2 hk2
          rw [List.nil_append] at ho2
          refine hK.out _ _ trivial (fun hHeld => ?_)
          clear hK K
          simp only [List.setIfInBounds_toArray, List.set_cons_zero, List.set_cons_succ]
          refine wpAnyH_takeAt (i := 10) (d := 8) (v := ?vb10) rfl rfl (by kernel_rfl) (by kernel_rfl) (by kernel_rfl) (fun _ _ _ h => h) (Or.inl ⟨by rfl, ?hyb10⟩) hHeld ?_
          case hyb10 => intro W hSw; (try dsimp only at hSw); (go_simp; try with_reducible rfl)
          simp only [List.setIfInBounds_toArray, List.set_cons_zero, List.set_cons_succ]
          refine wpAnyH_takeAt (i := 11) (d := 9) (v := ?vb11) rfl rfl (by kernel_rfl) (by kernel_rfl) (by kernel_rfl) (fun _ _ _ h => h) (Or.inl ⟨by rfl, ?hyb11⟩) hHeld ?_
          case hyb11 => intro W hSw; (try dsimp only at hSw); (go_simp; try with_reducible rfl)
          simp only [List.setIfInBounds_toArray, List.set_cons_zero, List.set_cons_succ]
          refine wpAnyH_done (by kernel_rfl) ?_ _
          go_wp2_with fail
          go_meet
          exact pair_apart HX.out HY.out hN0 ho1 ho2 hz1 (((Below.refl _ _).alloc (Nat.le_refl _) _).trans hb2) (hbw1.trans ((((Below.refl _ _).alloc (Nat.le_refl _) _).trans hb2).mono hz1))
        · go_simp
          refine hK.out _ _ trivial (fun hHeld => ?_)
          clear hK K
          have HBX : Below w.heap.size w ((w.alloc (.cells #[] 5)).alloc (.cells #[] 5)).drew := (((Below.refl _ _).alloc (Nat.le_refl _) _).alloc (le_alloc (Nat.le_refl _) _) _).drew
          have HBS : w.heap.size ≤ ((w.alloc (.cells #[] 5)).alloc (.cells #[] 5)).drew.heap.size := HBX.size
          have hex : Own ((w.alloc (.cells #[] 5)).alloc (.cells #[] 5)).drew w.heap.size (.slice (some ⟨w.heap.size, 0, none⟩) 0 0) [] := ((own_empty w _ (Nat.le_refl _)).alloc _).drew
          have hey : Own ((w.alloc (.cells #[] 5)).alloc (.cells #[] 5)).drew w.heap.size (.slice (some ⟨w.heap.size + 1, 0, none⟩) 0 0) [] := own_empty2 w
          refine wpAnyH_ready (rs := [4]) (by kernel_rfl) (by simp) (AllReadyH.cons rfl (fun K hK => ?_) AllReadyH.nil)
          refine step_append_bytes (d := 36) (by rfl) rfl _ _ (by rfl) w.heap.size _ [] (by rfl) hex w.heap.size a0 len1 cap0 (l.take len1) (by rfl) (LX.out _ HBX) (by simp) (by omega) HBS ?_
          intro v1 w1 ho1 hb1 hg1 hk1
          rw [List.nil_append] at ho1
          refine hK.out _ _ trivial (fun hHeld => ?_)
          clear hK K
          simp only [List.setIfInBounds_toArray, List.set_cons_zero, List.set_cons_succ]
          have HBY : Below w.heap.size w w1 := HBX.trans hb1
          have hz1 := HBY.size
          clear HBS
          have HBS : w.heap.size ≤ w1.heap.size := hz1
          have hey1 := own_other hey hg1 (by simp [Value.ownBlock])
          refine wpAnyH_ready (rs := [9]) (by kernel_rfl) (by simp) (AllReadyH.cons rfl (fun K hK => ?_) AllReadyH.nil)
          refine step_append_bytes (d := 41) (by rfl) rfl _ _ (by rfl) w.heap.size _ [] (by rfl) hey1 w.heap.size a1 len1 cap1 (k.take len1) (by rfl) (LY.out _ HBY) (by simp) (by omega) HBS ?_
          intro v2 w2 ho2 hb2 hg2 hk2
          rw [List.nil_append] at ho2
          refine hK.out _ _ trivial (fun hHeld => ?_)
          clear hK K
          simp only [List.setIfInBounds_toArray, List.set_cons_zero, List.set_cons_succ]
          refine wpAnyH_takeAt (i := 10) (d := 8) (v := ?vc10) rfl rfl (by kernel_rfl) (by kernel_rfl) (by kernel_rfl) (fun _ _ _ h => h) (Or.inl ⟨by rfl, ?hyc10⟩) hHeld ?_
          case hyc10 => intro W hSw; (try dsimp only at hSw); (go_simp; try with_reducible rfl)
          simp only [List.setIfInBounds_toArray, List.set_cons_zero, List.set_cons_succ]
          refine wpAnyH_takeAt (i := 11) (d := 9) (v := ?vc11) rfl rfl (by kernel_rfl) (by kernel_rfl) (by kernel_rfl) (fun _ _ _ h => h) (Or.inl ⟨by rfl, ?hyc11⟩) hHeld ?_
          case hyc11 => intro W hSw; (try dsimp only at hSw); (go_simp; try with_reducible rfl)
          simp only [List.setIfInBounds_toArray, List.set_cons_zero, List.set_cons_succ]
          refine wpAnyH_done (by kernel_rfl) ?_ _
          go_wp2_with fail
          go_meet
          exact pair_two HX.out HY.out hN0 ho1 ho2 (HBY.trans hb2) hg2 (two_apart hex hey (by simp [Value.ownBlock]) ho1 hk1 hg1 hk2 ho2)
      · go_simp
        refine hK.out _ _ trivial (fun hHeld => ?_)
        clear hK K
        refine wpAnyH_ready (rs := [0]) (by kernel_rfl) (by simp) (AllReadyH.cons rfl (fun K hK => ?_) AllReadyH.nil)
        go_simp
        refine hK.out _ _ trivial (fun hHeld => ?_)
        clear hK K
        have HBX : Below w.heap.size w ((w.alloc (.cells #[] 5)).alloc (.cells #[] 5)).drew := (((Below.refl _ _).alloc (Nat.le_refl _) _).alloc (le_alloc (Nat.le_refl _) _) _).drew
        have HBS : w.heap.size ≤ ((w.alloc (.cells #[] 5)).alloc (.cells #[] 5)).drew.heap.size := HBX.size
        have hey : Own ((w.alloc (.cells #[] 5)).alloc (.cells #[] 5)).drew w.heap.size (.slice (some ⟨w.heap.size, 0, none⟩) 0 0) [] := ((own_empty w _ (Nat.le_refl _)).alloc _).drew
        have hex : Own ((w.alloc (.cells #[] 5)).alloc (.cells #[] 5)).drew w.heap.size (.slice (some ⟨w.heap.size + 1, 0, none⟩) 0 0) [] := own_empty2 w
        refine wpAnyH_ready (rs := [4]) (by kernel_rfl) (by simp) (AllReadyH.cons rfl (fun K hK => ?_) AllReadyH.nil)
        refine step_append_bytes (d := 36) (by rfl) rfl _ _ (by rfl) w.heap.size _ [] (by rfl) hex w.heap.size a0 len1 cap0 (l.take len1) (by rfl) (LX.out _ HBX) (by simp) (by omega) HBS ?_
        intro v1 w1 ho1 hb1 hg1 hk1
        rw [List.nil_append] at ho1
        refine hK.out _ _ trivial (fun hHeld => ?_)
        clear hK K
        simp only [List.setIfInBounds_toArray, List.set_cons_zero, List.set_cons_succ]
        have HBY : Below w.heap.size w w1 := HBX.trans hb1
        have hz1 := HBY.size
        clear HBS
        have HBS : w.heap.size ≤ w1.heap.size := hz1
        have hey1 := own_other hey hg1 (by simp [Value.ownBlock])
        refine wpAnyH_ready (rs := [9]) (by kernel_rfl) (by simp) (AllReadyH.cons rfl (fun K hK => ?_) AllReadyH.nil)
        refine step_append_bytes (d := 41) (by rfl) rfl _ _ (by rfl) w.heap.size _ [] (by rfl) hey1 w.heap.size a1 len1 cap1 (k.take len1) (by rfl) (LY.out _ HBY) (by simp) (by omega) HBS ?_
        intro v2 w2 ho2 hb2 hg2 hk2
        rw [List.nil_append] at ho2
        refine hK.out _ _ trivial (fun hHeld => ?_)
        clear hK K
        simp only [List.setIfInBounds_toArray, List.set_cons_zero, List.set_cons_succ]
        refine wpAnyH_takeAt (i := 10) (d := 8) (v := ?vd10) rfl rfl (by kernel_rfl) (by kernel_rfl) (by kernel_rfl) (fun _ _ _ h => h) (Or.inl ⟨by rfl, ?hyd10⟩) hHeld ?_
        case hyd10 => intro W hSw; (try dsimp only at hSw); (go_simp; try with_reducible rfl)
        simp only [List.setIfInBounds_toArray, List.set_cons_zero, List.set_cons_succ]
        refine wpAnyH_takeAt (i := 11) (d := 9) (v := ?vd11) rfl rfl (by kernel_rfl) (by kernel_rfl) (by kernel_rfl) (fun _ _ _ h => h) (Or.inl ⟨by rfl, ?hyd11⟩) hHeld ?_
        case hyd11 => intro W hSw; (try dsimp only at hSw); (go_simp; try with_reducible rfl)
        simp only [List.setIfInBounds_toArray, List.set_cons_zero, List.set_cons_succ]
        refine wpAnyH_done (by kernel_rfl) ?_ _
        go_wp2_with fail
        go_meet
        exact pair_two HX.out HY.out hN0 ho1 ho2 (HBY.trans hb2) hg2 (two_apart hex hey (by simp [Value.ownBlock]) ho1 hk1 hg1 hk2 ho2)
    case rest =>
      obtain ⟨gx, cx, gy, cy, rfl, rfl, hne, hox, hoy, hbc⟩ := hcut
      clear s0 s1 s2 s3 LX LY hl hk
      have hzc := hbc.size
      generalize l.take len1 = X at *
      generalize k.take len1 = Y at *
      go_wp2_with fail
      refine (sum_any (some ⟨gx, 0, none⟩) len1 cx X wc hox.bys (by omega)).mono ?_
      rintro e w3 ⟨rfl, hb3⟩
      have hz3 := hb3.size
      have hox3 := own_below hox hb3 (Nat.le_refl _)
      have hoy3 := own_below hoy hb3 (Nat.le_refl _)
      clear hox hoy
      go_wp2_with fail
      refine (sum_any (some ⟨gy, 0, none⟩) len1 cy Y w3 hoy3.bys (by omega)).mono ?_
      rintro e w4 ⟨rfl, hb4⟩
      have hz4 := hb4.size
      have hox4 := own_below hox3 hb4 (Nat.le_refl _)
      have hoy4 := own_below hoy3 hb4 (Nat.le_refl _)
      clear hox3 hoy3
      have hltx : m / 8 < X.length := by rw [HX.out]; omega
      have hlty : m / 8 < Y.length := by rw [HY.out]; omega
      obtain ⟨cellx, frx, HOX⟩ := row_cell hox4 HX.out (m / 8) hltx
      obtain ⟨celly, fry, HOY⟩ := row_cell hoy4 HY.out (m / 8) hlty
      have HFX : Hid (Crc.flip X m = X.set (m / 8) (UInt8.ofNat ((X[m / 8]).toNat ^^^ 2 ^ (m % 8)))) := Lib.hid (by unfold Crc.flip; rw [List.getElem?_eq_getElem hltx])
      have HFY : Hid (Crc.flip Y m = Y.set (m / 8) (UInt8.ofNat ((Y[m / 8]).toNat ^^^ 2 ^ (m % 8)))) := Lib.hid (by unfold Crc.flip; rw [List.getElem?_eq_getElem hlty])
      have b1 : (0 : Int) ≤ (m : Int) / 8 := by omega
      have b2 : (m : Int) / 8 < (len1 : Int) := by omega
      have b3 : ((m : Int) / 8).toNat = m / 8 := by omega
      have HSX : Hid (bits .xor .u32 ((Crc.sum X : Nat) : Int) ((Crc.sum (Crc.flip X m) : Nat) : Int) = ((Crc.far (8 * len1 - m) : Nat) : Int)) := Lib.hid (by rw [u32_xor_nat _ _ (Crc.sum_lt X) (Crc.sum_lt _), sum_flip X m (by rw [HX.out]; exact hm), HX.out])
      have HSY : Hid (bits .xor .u32 ((Crc.sum Y : Nat) : Int) ((Crc.sum (Crc.flip Y m) : Nat) : Int) = ((Crc.far (8 * len1 - m) : Nat) : Int)) := Lib.hid (by rw [u32_xor_nat _ _ (Crc.sum_lt Y) (Crc.sum_lt _), sum_flip Y m (by rw [HY.out]; exact hm), HY.out])
      have HNE : Hid ((((Crc.sum X : Nat) : Int) != ((Crc.sum (Crc.flip X m) : Nat) : Int)) = true) := Lib.hid (bne_iff_ne.2 (by have := sum_flip_ne X m (by rw [HX.out]; exact hm); omega))
      generalize X[m / 8] = xx at *
      generalize Y[m / 8] = yy at *
      go_wp2_with fail
      rw [flip_value xx m, flip_value yy m]
      obtain ⟨ox5, gr5⟩ := HOX.out (UInt8.ofNat (xx.toNat ^^^ 2 ^ (m % 8)))
      rw [← HFX.out] at ox5
      have oy5 := own_other hoy4 gr5 (fun e => hne (by injection e with e; exact e.symm))
      have HOY6 := (row_cell oy5 HY.out (m / 8) hlty).2.2
      obtain ⟨oy6, gr6⟩ := HOY6.out (UInt8.ofNat (yy.toNat ^^^ 2 ^ (m % 8)))
      rw [← HFY.out] at oy6
      have ox6 := own_other ox5 gr6 (fun e => hne (by injection e))
      have hgx : w.heap.size ≤ gx := (own_lt (g := gx) hox4 rfl).1
      have hgy : w.heap.size ≤ gy := (own_lt (g := gy) hoy4 rfl).1
      have hb6 : Below w.heap.size w4 ((w4.setCell ⟨gx, m / 8, none⟩ (byteV (UInt8.ofNat (xx.toNat ^^^ 2 ^ (m % 8))))).setCell ⟨gy, m / 8, none⟩ (byteV (UInt8.ofNat (yy.toNat ^^^ 2 ^ (m % 8))))) := ((Below.refl _ _).setCell (p := ⟨gx, m / 8, none⟩) hgx _).setCell (p := ⟨gy, m / 8, none⟩) hgy _
      have hz6 := hb6.size
      clear HOY6 gr5 gr6 ox5 oy5 HOX HOY cellx celly frx fry HFX HFY hltx hlty hox4 hoy4 b1 b2 b3
      generalize (w4.setCell ⟨gx, m / 8, none⟩ (byteV (UInt8.ofNat (xx.toNat ^^^ 2 ^ (m % 8))))).setCell ⟨gy, m / 8, none⟩ (byteV (UInt8.ofNat (yy.toNat ^^^ 2 ^ (m % 8)))) = w6 at *
      generalize Crc.flip X m = X' at *
      generalize Crc.flip Y m = Y' at *
      refine (sum_any (some ⟨gx, 0, none⟩) len1 cx X' w6 ox6.bys (by omega)).mono ?_
      rintro e w7 ⟨rfl, hb7⟩
      have hz7 := hb7.size
      have ox7 := own_below ox6 hb7 (Nat.le_refl _)
      have oy7 := own_below oy6 hb7 (Nat.le_refl _)
      go_wp2_with fail
      refine (sum_any (some ⟨gy, 0, none⟩) len1 cy Y' w7 oy7.bys (by omega)).mono ?_
      rintro e w8 ⟨rfl, hb8⟩
      have hz8 := hb8.size
      have ox8 := own_below ox7 hb8 (Nat.le_refl _)
      have c1 := HSX.out
      have c2 := HSY.out
      have c3 := HNE.out
      go_wp2_with fail
      refine (refSum_any (some ⟨gx, 0, none⟩) len1 cx _ X' w8 ox8.bys (by omega)).mono ?_
      rintro e w9 ⟨rfl, rfl⟩
      go_wp2_with fail
      refine (works_any w8).mono ?_
      rintro e w9 ⟨rfl, hb9⟩
      go_wp2_with fail
      go_ret
      exact ⟨rfl, (((((hbc.trans (hb3.mono (by omega))).trans (hb4.mono (by omega))).trans hb6).trans (hb7.mono (by omega))).trans (hb8.mono (by omega))).trans (hb9.mono (by omega))⟩
  · by_cases h300 : 300 < len0
    · go_enter Try.func8, Try.ntmps8
      go_wp2_with fail
      refine (works_any w).mono ?_
      rintro e w' ⟨rfl, hb⟩
      go_wp2_with fail
      go_ret
      exact ⟨rfl, hb⟩
    by_cases hneg : a2 < 0
    · go_enter Try.func8, Try.ntmps8
      go_wp2_with fail
      refine (works_any w).mono ?_
      rintro e w' ⟨rfl, hb⟩
      go_wp2_with fail
      go_ret
      exact ⟨rfl, hb⟩
    by_cases hbig : 8 * (len0 : Int) ≤ a2
    · go_enter Try.func8, Try.ntmps8
      go_wp2_with fail
      refine (works_any w).mono ?_
      rintro e w' ⟨rfl, hb⟩
      go_wp2_with fail
      go_ret
      exact ⟨rfl, hb⟩
    obtain ⟨m, rfl⟩ := Int.eq_ofNat_of_zero_le (show 0 ≤ a2 by omega)
    have hm : m < 8 * len0 := by omega
    have hN : len0 ≤ 300 := by omega
    have hN0 : 0 < len0 := by omega
    have LX : Hid (∀ W, Below w.heap.size w W → Bys W w.heap.size a0 len0 (l.take len0)) := Lib.hid fun W h => (hl.first (by omega)).below h
    have LY : Hid (∀ W, Below w.heap.size w W → Bys W w.heap.size a1 len0 (k.take len0)) := Lib.hid fun W h => (hk.first (by omega)).below h
    have HX : Hid ((l.take len0).length = len0) := Lib.hid (hl.first (k := len0) (by omega)).1
    have HY : Hid ((k.take len0).length = len0) := Lib.hid (hk.first (k := len0) (by omega)).1
    have s0 := slice_to a0 len0 cap0 len0 (len0 : Int) rfl (by omega)
    have s1 := slice_to a1 len1 cap1 len0 (len0 : Int) rfl (by omega)
    have s2 := sliceAt_to a0 len0 cap0 len0 (len0 : Int) rfl (by omega)
    have s3 := sliceAt_to a1 len1 cap1 len0 (len0 : Int) rfl (by omega)
    go_enter Try.func8, Try.ntmps8
    go_upto_region 4 with fail
    go_cut [8, 9] (fun x y wx => Pair w.heap.size len0 (l.take len0) (k.take len0) w x y wx)
    case first =>
      refine wp_region_np ?_
      refine wp_region_held_drew (S := fun _ => True) (by kernel_rfl) trivial (fun hHeld => ?_)
      refine wpAnyH_takeAt (i := 1) (d := 33) (v := ?vaz1) rfl rfl (by kernel_rfl) (by kernel_rfl) (by kernel_rfl) (fun _ _ _ h => h) (Or.inl ⟨by rfl, ?hyaz1⟩) hHeld ?_
      case hyaz1 => intro W hSw; (try dsimp only at hSw); (go_simp; try with_reducible rfl)
      simp only [List.setIfInBounds_toArray, List.set_cons_zero, List.set_cons_succ]
      refine wpAnyH_takeAt (i := 2) (d := 34) (v := ?vaz2) rfl rfl (by kernel_rfl) (by kernel_rfl) (by kernel_rfl) (fun _ _ _ h => h) (Or.inl ⟨by rfl, ?hyaz2⟩) hHeld ?_
      case hyaz2 => intro W hSw; (try dsimp only at hSw); (go_simp; try with_reducible rfl)
      simp only [List.setIfInBounds_toArray, List.set_cons_zero, List.set_cons_succ]
      refine wpAnyH_takeAt (i := 3) (d := 35) (v := ?vaz3) rfl rfl (by kernel_rfl) (by kernel_rfl) (by kernel_rfl) (fun _ _ _ h => h) (Or.inl ⟨by rfl, ?hyaz3⟩) hHeld ?_
      case hyaz3 => intro W hSw; (try dsimp only at hSw); (go_simp; try with_reducible rfl)
      simp only [List.setIfInBounds_toArray, List.set_cons_zero, List.set_cons_succ]
      refine wpAnyH_takeAt (i := 6) (d := 38) (v := ?vaz6) rfl rfl (by kernel_rfl) (by kernel_rfl) (by kernel_rfl) (fun _ _ _ h => h) (Or.inl ⟨by rfl, ?hyaz6⟩) hHeld ?_
      case hyaz6 => intro W hSw; (try dsimp only at hSw); (go_simp; try with_reducible rfl)
      simp only [List.setIfInBounds_toArray, List.set_cons_zero, List.set_cons_succ]
      refine wpAnyH_takeAt (i := 7) (d := 39) (v := ?vaz7) rfl rfl (by kernel_rfl) (by kernel_rfl) (by kernel_rfl) (fun _ _ _ h => h) (Or.inl ⟨by rfl, ?hyaz7⟩) hHeld ?_
      case hyaz7 => intro W hSw; (try dsimp only at hSw); (go_simp; try with_reducible rfl)
      simp only [List.setIfInBounds_toArray, List.set_cons_zero, List.set_cons_succ]
      refine wpAnyH_takeAt (i := 8) (d := 40) (v := ?vaz8) rfl rfl (by kernel_rfl) (by kernel_rfl) (by kernel_rfl) (fun _ _ _ h => h) (Or.inl ⟨by rfl, ?hyaz8⟩) hHeld ?_
      case hyaz8 => intro W hSw; (try dsimp only at hSw); (go_simp; try with_reducible rfl)
      simp only [List.setIfInBounds_toArray, List.set_cons_zero, List.set_cons_succ]
      refine wpAnyH_ready (rs := [0, 5]) (by kernel_rfl) (by simp) (AllReadyH.cons rfl (fun K hK => ?_) (AllReadyH.cons rfl (fun K hK => ?_) AllReadyH.nil))
      · go_simp
        refine hK.out _ _ trivial (fun hHeld => ?_)
        clear hK K
        refine wpAnyH_ready (rs := [4, 5]) (by kernel_rfl) (by simp) (AllReadyH.cons rfl (fun K hK => ?_) (AllReadyH.cons rfl (fun K hK => ?_) AllReadyH.nil))
        · have HBX : Below w.heap.size w (w.alloc (.cells #[] 5)).drew := ((Below.refl _ _).alloc (Nat.le_refl _) _).drew
          have HBS : w.heap.size ≤ (w.alloc (.cells #[] 5)).drew.heap.size := HBX.size
          refine step_append_bytes (d := 36) (by rfl) rfl _ _ (by rfl) w.heap.size _ [] (by rfl) (own_empty w _ (Nat.le_refl _)).drew w.heap.size a0 len0 cap0 (l.take len0) (by rfl) (LX.out _ HBX) (by simp) (by omega) HBS ?_
          intro v1 w1 ho1 hb1 hg1 hk1
          rw [List.nil_append] at ho1
          refine hK.out _ _ trivial (fun hHeld => ?_)
          clear hK K
          simp only [List.setIfInBounds_toArray, List.set_cons_zero, List.set_cons_succ]
          have hbw1 : Below w.heap.size w w1 := HBX.trans hb1
          have hz1 := hbw1.size
          refine wpAnyH_ready (rs := [5]) (by kernel_rfl) (by simp) (AllReadyH.cons rfl (fun K hK => ?_) AllReadyH.nil)
          go_simp
          refine hK.out _ _ trivial (fun hHeld => ?_)
          clear hK K
          have HBY : Below w.heap.size w (w1.alloc (.cells #[] 5)) := hbw1.alloc hz1 _
          clear HBS
          have HBS : w1.heap.size ≤ (w1.alloc (.cells #[] 5)).heap.size := le_alloc (Nat.le_refl _) _
          refine wpAnyH_ready (rs := [9]) (by kernel_rfl) (by simp) (AllReadyH.cons rfl (fun K hK => ?_) AllReadyH.nil)
          refine step_append_bytes (d := 41) (by rfl) rfl _ _ (by rfl) w1.heap.size _ [] (by rfl) (own_empty w1 _ (Nat.le_refl _)) w.heap.size a1 len0 cap1 (k.take len0) (by rfl) (LY.out _ HBY) (by simp) (by omega) HBS ?_
          intro v2 w2 ho2 hb2 hg2 hk2
          rw [List.nil_append] at ho2
          refine hK.out _ _ trivial (fun hHeld => ?_)
          clear hK K
          simp only [List.setIfInBounds_toArray, List.set_cons_zero, List.set_cons_succ]
          refine wpAnyH_takeAt (i := 10) (d := 8) (v := ?vbz10) rfl rfl (by kernel_rfl) (by kernel_rfl) (by kernel_rfl) (fun _ _ _ h => h) (Or.inl ⟨by rfl, ?hybz10⟩) hHeld ?_
          case hybz10 => intro W hSw; (try dsimp only at hSw); (go_simp; try with_reducible rfl)
          simp only [List.setIfInBounds_toArray, List.set_cons_zero, List.set_cons_succ]
          refine wpAnyH_takeAt (i := 11) (d := 9) (v := ?vbz11) rfl rfl (by kernel_rfl) (by kernel_rfl) (by kernel_rfl) (fun _ _ _ h => h) (Or.inl ⟨by rfl, ?hybz11⟩) hHeld ?_
          case hybz11 => intro W hSw; (try dsimp only at hSw); (go_simp; try with_reducible rfl)
          simp only [List.setIfInBounds_toArray, List.set_cons_zero, List.set_cons_succ]
          refine wpAnyH_done (by kernel_rfl) ?_ _
          go_wp2_with fail
          go_meet
          exact pair_apart HX.out HY.out hN0 ho1 ho2 hz1 (((Below.refl _ _).alloc (Nat.le_refl _) _).trans hb2) (hbw1.trans ((((Below.refl _ _).alloc (Nat.le_refl _) _).trans hb2).mono hz1))
        · go_simp
          refine hK.out _ _ trivial (fun hHeld => ?_)
          clear hK K
          have HBX : Below w.heap.size w ((w.alloc (.cells #[] 5)).alloc (.cells #[] 5)).drew := (((Below.refl _ _).alloc (Nat.le_refl _) _).alloc (le_alloc (Nat.le_refl _) _) _).drew
          have HBS : w.heap.size ≤ ((w.alloc (.cells #[] 5)).alloc (.cells #[] 5)).drew.heap.size := HBX.size
          have hex : Own ((w.alloc (.cells #[] 5)).alloc (.cells #[] 5)).drew w.heap.size (.slice (some ⟨w.heap.size, 0, none⟩) 0 0) [] := ((own_empty w _ (Nat.le_refl _)).alloc _).drew
          have hey : Own ((w.alloc (.cells #[] 5)).alloc (.cells #[] 5)).drew w.heap.size (.slice (some ⟨w.heap.size + 1, 0, none⟩) 0 0) [] := own_empty2 w
          refine wpAnyH_ready (rs := [4]) (by kernel_rfl) (by simp) (AllReadyH.cons rfl (fun K hK => ?_) AllReadyH.nil)
          refine step_append_bytes (d := 36) (by rfl) rfl _ _ (by rfl) w.heap.size _ [] (by rfl) hex w.heap.size a0 len0 cap0 (l.take len0) (by rfl) (LX.out _ HBX) (by simp) (by omega) HBS ?_
          intro v1 w1 ho1 hb1 hg1 hk1
          rw [List.nil_append] at ho1
          refine hK.out _ _ trivial (fun hHeld => ?_)
          clear hK K
          simp only [List.setIfInBounds_toArray, List.set_cons_zero, List.set_cons_succ]
          have HBY : Below w.heap.size w w1 := HBX.trans hb1
          have hz1 := HBY.size
          clear HBS
          have HBS : w.heap.size ≤ w1.heap.size := hz1
          have hey1 := own_other hey hg1 (by simp [Value.ownBlock])
          refine wpAnyH_ready (rs := [9]) (by kernel_rfl) (by simp) (AllReadyH.cons rfl (fun K hK => ?_) AllReadyH.nil)
          refine step_append_bytes (d := 41) (by rfl) rfl _ _ (by rfl) w.heap.size _ [] (by rfl) hey1 w.heap.size a1 len0 cap1 (k.take len0) (by rfl) (LY.out _ HBY) (by simp) (by omega) HBS ?_
          intro v2 w2 ho2 hb2 hg2 hk2
          rw [List.nil_append] at ho2
          refine hK.out _ _ trivial (fun hHeld => ?_)
          clear hK K
          simp only [List.setIfInBounds_toArray, List.set_cons_zero, List.set_cons_succ]
          refine wpAnyH_takeAt (i := 10) (d := 8) (v := ?vcz10) rfl rfl (by kernel_rfl) (by kernel_rfl) (by kernel_rfl) (fun _ _ _ h => h) (Or.inl ⟨by rfl, ?hycz10⟩) hHeld ?_
          case hycz10 => intro W hSw; (try dsimp only at hSw); (go_simp; try with_reducible rfl)
          simp only [List.setIfInBounds_toArray, List.set_cons_zero, List.set_cons_succ]
          refine wpAnyH_takeAt (i := 11) (d := 9) (v := ?vcz11) rfl rfl (by kernel_rfl) (by kernel_rfl) (by kernel_rfl) (fun _ _ _ h => h) (Or.inl ⟨by rfl, ?hycz11⟩) hHeld ?_
          case hycz11 => intro W hSw; (try dsimp only at hSw); (go_simp; try with_reducible rfl)
          simp only [List.setIfInBounds_toArray, List.set_cons_zero, List.set_cons_succ]
          refine wpAnyH_done (by kernel_rfl) ?_ _
          go_wp2_with fail
          go_meet
          exact pair_two HX.out HY.out hN0 ho1 ho2 (HBY.trans hb2) hg2 (two_apart hex hey (by simp [Value.ownBlock]) ho1 hk1 hg1 hk2 ho2)
      · go_simp
        refine hK.out _ _ trivial (fun hHeld => ?_)
        clear hK K
        refine wpAnyH_ready (rs := [0]) (by kernel_rfl) (by simp) (AllReadyH.cons rfl (fun K hK => ?_) AllReadyH.nil)
        go_simp
        refine hK.out _ _ trivial (fun hHeld => ?_)
        clear hK K
        have HBX : Below w.heap.size w ((w.alloc (.cells #[] 5)).alloc (.cells #[] 5)).drew := (((Below.refl _ _).alloc (Nat.le_refl _) _).alloc (le_alloc (Nat.le_refl _) _) _).drew
        have HBS : w.heap.size ≤ ((w.alloc (.cells #[] 5)).alloc (.cells #[] 5)).drew.heap.size := HBX.size
        have hey : Own ((w.alloc (.cells #[] 5)).alloc (.cells #[] 5)).drew w.heap.size (.slice (some ⟨w.heap.size, 0, none⟩) 0 0) [] := ((own_empty w _ (Nat.le_refl _)).alloc _).drew
        have hex : Own ((w.alloc (.cells #[] 5)).alloc (.cells #[] 5)).drew w.heap.size (.slice (some ⟨w.heap.size + 1, 0, none⟩) 0 0) [] := own_empty2 w
        refine wpAnyH_ready (rs := [4]) (by kernel_rfl) (by simp) (AllReadyH.cons rfl (fun K hK => ?_) AllReadyH.nil)
        refine step_append_bytes (d := 36) (by rfl) rfl _ _ (by rfl) w.heap.size _ [] (by rfl) hex w.heap.size a0 len0 cap0 (l.take len0) (by rfl) (LX.out _ HBX) (by simp) (by omega) HBS ?_
        intro v1 w1 ho1 hb1 hg1 hk1
        rw [List.nil_append] at ho1
        refine hK.out _ _ trivial (fun hHeld => ?_)
        clear hK K
        simp only [List.setIfInBounds_toArray, List.set_cons_zero, List.set_cons_succ]
        have HBY : Below w.heap.size w w1 := HBX.trans hb1
        have hz1 := HBY.size
        clear HBS
        have HBS : w.heap.size ≤ w1.heap.size := hz1
        have hey1 := own_other hey hg1 (by simp [Value.ownBlock])
        refine wpAnyH_ready (rs := [9]) (by kernel_rfl) (by simp) (AllReadyH.cons rfl (fun K hK => ?_) AllReadyH.nil)
        refine step_append_bytes (d := 41) (by rfl) rfl _ _ (by rfl) w.heap.size _ [] (by rfl) hey1 w.heap.size a1 len0 cap1 (k.take len0) (by rfl) (LY.out _ HBY) (by simp) (by omega) HBS ?_
        intro v2 w2 ho2 hb2 hg2 hk2
        rw [List.nil_append] at ho2
        refine hK.out _ _ trivial (fun hHeld => ?_)
        clear hK K
        simp only [List.setIfInBounds_toArray, List.set_cons_zero, List.set_cons_succ]
        refine wpAnyH_takeAt (i := 10) (d := 8) (v := ?vdz10) rfl rfl (by kernel_rfl) (by kernel_rfl) (by kernel_rfl) (fun _ _ _ h => h) (Or.inl ⟨by rfl, ?hydz10⟩) hHeld ?_
        case hydz10 => intro W hSw; (try dsimp only at hSw); (go_simp; try with_reducible rfl)
        simp only [List.setIfInBounds_toArray, List.set_cons_zero, List.set_cons_succ]
        refine wpAnyH_takeAt (i := 11) (d := 9) (v := ?vdz11) rfl rfl (by kernel_rfl) (by kernel_rfl) (by kernel_rfl) (fun _ _ _ h => h) (Or.inl ⟨by rfl, ?hydz11⟩) hHeld ?_
        case hydz11 => intro W hSw; (try dsimp only at hSw); (go_simp; try with_reducible rfl)
        simp only [List.setIfInBounds_toArray, List.set_cons_zero, List.set_cons_succ]
        refine wpAnyH_done (by kernel_rfl) ?_ _
        go_wp2_with fail
        go_meet
        exact pair_two HX.out HY.out hN0 ho1 ho2 (HBY.trans hb2) hg2 (two_apart hex hey (by simp [Value.ownBlock]) ho1 hk1 hg1 hk2 ho2)
    case rest =>
      obtain ⟨gx, cx, gy, cy, rfl, rfl, hne, hox, hoy, hbc⟩ := hcut
      clear s0 s1 s2 s3 LX LY hl hk
      have hzc := hbc.size
      generalize l.take len0 = X at *
      generalize k.take len0 = Y at *
      go_wp2_with fail
      refine (sum_any (some ⟨gx, 0, none⟩) len0 cx X wc hox.bys (by omega)).mono ?_
      rintro e w3 ⟨rfl, hb3⟩
      have hz3 := hb3.size
      have hox3 := own_below hox hb3 (Nat.le_refl _)
      have hoy3 := own_below hoy hb3 (Nat.le_refl _)
      clear hox hoy
      go_wp2_with fail
      refine (sum_any (some ⟨gy, 0, none⟩) len0 cy Y w3 hoy3.bys (by omega)).mono ?_
      rintro e w4 ⟨rfl, hb4⟩
      have hz4 := hb4.size
      have hox4 := own_below hox3 hb4 (Nat.le_refl _)
      have hoy4 := own_below hoy3 hb4 (Nat.le_refl _)
      clear hox3 hoy3
      have hltx : m / 8 < X.length := by rw [HX.out]; omega
      have hlty : m / 8 < Y.length := by rw [HY.out]; omega
      obtain ⟨cellx, frx, HOX⟩ := row_cell hox4 HX.out (m / 8) hltx
      obtain ⟨celly, fry, HOY⟩ := row_cell hoy4 HY.out (m / 8) hlty
      have HFX : Hid (Crc.flip X m = X.set (m / 8) (UInt8.ofNat ((X[m / 8]).toNat ^^^ 2 ^ (m % 8)))) := Lib.hid (by unfold Crc.flip; rw [List.getElem?_eq_getElem hltx])
      have HFY : Hid (Crc.flip Y m = Y.set (m / 8) (UInt8.ofNat ((Y[m / 8]).toNat ^^^ 2 ^ (m % 8)))) := Lib.hid (by unfold Crc.flip; rw [List.getElem?_eq_getElem hlty])
      have b1 : (0 : Int) ≤ (m : Int) / 8 := by omega
      have b2 : (m : Int) / 8 < (len0 : Int) := by omega
      have b3 : ((m : Int) / 8).toNat = m / 8 := by omega
      have HSX : Hid (bits .xor .u32 ((Crc.sum X : Nat) : Int) ((Crc.sum (Crc.flip X m) : Nat) : Int) = ((Crc.far (8 * len0 - m) : Nat) : Int)) := Lib.hid (by rw [u32_xor_nat _ _ (Crc.sum_lt X) (Crc.sum_lt _), sum_flip X m (by rw [HX.out]; exact hm), HX.out])
      have HSY : Hid (bits .xor .u32 ((Crc.sum Y : Nat) : Int) ((Crc.sum (Crc.flip Y m) : Nat) : Int) = ((Crc.far (8 * len0 - m) : Nat) : Int)) := Lib.hid (by rw [u32_xor_nat _ _ (Crc.sum_lt Y) (Crc.sum_lt _), sum_flip Y m (by rw [HY.out]; exact hm), HY.out])
      have HNE : Hid ((((Crc.sum X : Nat) : Int) != ((Crc.sum (Crc.flip X m) : Nat) : Int)) = true) := Lib.hid (bne_iff_ne.2 (by have := sum_flip_ne X m (by rw [HX.out]; exact hm); omega))
      generalize X[m / 8] = xx at *
      generalize Y[m / 8] = yy at *
      go_wp2_with fail
      rw [flip_value xx m, flip_value yy m]
      obtain ⟨ox5, gr5⟩ := HOX.out (UInt8.ofNat (xx.toNat ^^^ 2 ^ (m % 8)))
      rw [← HFX.out] at ox5
      have oy5 := own_other hoy4 gr5 (fun e => hne (by injection e with e; exact e.symm))
      have HOY6 := (row_cell oy5 HY.out (m / 8) hlty).2.2
      obtain ⟨oy6, gr6⟩ := HOY6.out (UInt8.ofNat (yy.toNat ^^^ 2 ^ (m % 8)))
      rw [← HFY.out] at oy6
      have ox6 := own_other ox5 gr6 (fun e => hne (by injection e))
      have hgx : w.heap.size ≤ gx := (own_lt (g := gx) hox4 rfl).1
      have hgy : w.heap.size ≤ gy := (own_lt (g := gy) hoy4 rfl).1
      have hb6 : Below w.heap.size w4 ((w4.setCell ⟨gx, m / 8, none⟩ (byteV (UInt8.ofNat (xx.toNat ^^^ 2 ^ (m % 8))))).setCell ⟨gy, m / 8, none⟩ (byteV (UInt8.ofNat (yy.toNat ^^^ 2 ^ (m % 8))))) := ((Below.refl _ _).setCell (p := ⟨gx, m / 8, none⟩) hgx _).setCell (p := ⟨gy, m / 8, none⟩) hgy _
      have hz6 := hb6.size
      clear HOY6 gr5 gr6 ox5 oy5 HOX HOY cellx celly frx fry HFX HFY hltx hlty hox4 hoy4 b1 b2 b3
      generalize (w4.setCell ⟨gx, m / 8, none⟩ (byteV (UInt8.ofNat (xx.toNat ^^^ 2 ^ (m % 8))))).setCell ⟨gy, m / 8, none⟩ (byteV (UInt8.ofNat (yy.toNat ^^^ 2 ^ (m % 8)))) = w6 at *
      generalize Crc.flip X m = X' at *
      generalize Crc.flip Y m = Y' at *
      refine (sum_any (some ⟨gx, 0, none⟩) len0 cx X' w6 ox6.bys (by omega)).mono ?_
      rintro e w7 ⟨rfl, hb7⟩
      have hz7 := hb7.size
      have ox7 := own_below ox6 hb7 (Nat.le_refl _)
      have oy7 := own_below oy6 hb7 (Nat.le_refl _)
      go_wp2_with fail
      refine (sum_any (some ⟨gy, 0, none⟩) len0 cy Y' w7 oy7.bys (by omega)).mono ?_
      rintro e w8 ⟨rfl, hb8⟩
      have hz8 := hb8.size
      have ox8 := own_below ox7 hb8 (Nat.le_refl _)
      have c1 := HSX.out
      have c2 := HSY.out
      have c3 := HNE.out
      go_wp2_with fail
      refine (refSum_any (some ⟨gx, 0, none⟩) len0 cx _ X' w8 ox8.bys (by omega)).mono ?_
      rintro e w9 ⟨rfl, rfl⟩
      go_wp2_with fail
      refine (works_any w8).mono ?_
      rintro e w9 ⟨rfl, hb9⟩
      go_wp2_with fail
      go_ret
      exact ⟨rfl, (((((hbc.trans (hb3.mono (by omega))).trans (hb4.mono (by omega))).trans hb6).trans (hb7.mono (by omega))).trans (hb8.mono (by omega))).trans (hb9.mono (by omega))⟩

set_option maxRecDepth 100000 in
theorem lifted (os : Os) (started : os.Started) (H : Type) (enc : TypeId × Value → H) :
    ReturnsInHanded {} Try.checked os 8 .any (Rows.sumsBitsSpec.pre6 enc Try.prog Try.f8 Rows.sumsBitsRow.domain false) (Rows.sumsBitsSpec.post enc Try.prog Try.f8 false true false false) := by
  refine returnsInHanded_of_change (C := Try.checked) own started (by kernel_rfl) Try.func8
    (ChangeSpec.witness6 (enc := enc) (C := Try.checked) false ⟨#[], #[.slice none 0 0, .slice none 0 0, .int .i64 0], []⟩ 8 (by kernel_rfl) (by kernel_rfl) (by kernel_rfl) (by kernel_rfl)) ?_
  intro W base args ds gs before hval0 hW hcnd _
  have hval : ∀ (j : Nat) t v, Try.f8.params[j]? = some t → args[j]? = some v → Value.okWide Try.prog W .any base t v := hval0
  have hW' := hW
  obtain ⟨p, q, hA0, hV, rfl, hfz, hnd⟩ := hW
  have hA : DataW.TrodAll enc Try.prog W 0 (fun _ => true) true Try.f8.params.toList args.toList ds p := hA0
  rw [Try.params8] at hA hval
  obtain ⟨v0, vs0, d0, ds0, p0, q0, hargs, rfl, rfl, h0, r0⟩ := trodAll_cons hA
  obtain ⟨v1, vs1, d1, ds1, p1, q1, rfl, rfl, rfl, h1, r1⟩ := trodAll_cons r0
  obtain ⟨v2, vs2, d2, ds2, p2, q2, rfl, rfl, rfl, h2, r2⟩ := trodAll_cons r1
  obtain ⟨rfl, rfl, rfl⟩ := trodAll_nil r2
  obtain rfl : args = #[v0, v1, v2] := by cases args; simp_all
  obtain ⟨rfl, rfl⟩ := trodVars_none hV
  obtain ⟨a0, len0, cap0, rfl⟩ := okWide_slice Try.underlying22 (hval 0 22 v0 rfl rfl)
  have k0 := h0
  have lt0 : ∀ x ∈ p0, x.block < W.heap.size := by obtain ⟨m, hm⟩ := k0; exact DataW.trod_lt m _ _ _ hm
  obtain ⟨z0, w0⟩ : ∃ zs, IsRow .u8 W a0 len0 cap0 zs := by
    obtain ⟨fuel, hf⟩ := h0
    rcases open_ints Try.underlying22 Try.underlying5 (by kernel_rfl) hf with ⟨hcs, _⟩ | ⟨x, l, c, zs, hcs, _, hl, hm, hz, _, hcell, hwz⟩
    · simp [Value.cells] at hcs
      obtain ⟨rfl, rfl, rfl⟩ := hcs
      exact ⟨[], .inl ⟨rfl, rfl, rfl, rfl⟩⟩
    · simp [Value.cells] at hcs
      obtain ⟨rfl, rfl, rfl⟩ := hcs
      exact ⟨zs, .inr ⟨_, rfl, hl, hm, by simpa using hz, hcell, hwz⟩⟩
  obtain ⟨a1, len1, cap1, rfl⟩ := okWide_slice Try.underlying22 (hval 1 22 v1 rfl rfl)
  have k1 := h1
  have lt1 : ∀ x ∈ p1, x.block < W.heap.size := by obtain ⟨m, hm⟩ := k1; exact DataW.trod_lt m _ _ _ hm
  obtain ⟨z1, w1⟩ : ∃ zs, IsRow .u8 W a1 len1 cap1 zs := by
    obtain ⟨fuel, hf⟩ := h1
    rcases open_ints Try.underlying22 Try.underlying5 (by kernel_rfl) hf with ⟨hcs, _⟩ | ⟨x, l, c, zs, hcs, _, hl, hm, hz, _, hcell, hwz⟩
    · simp [Value.cells] at hcs
      obtain ⟨rfl, rfl, rfl⟩ := hcs
      exact ⟨[], .inl ⟨rfl, rfl, rfl, rfl⟩⟩
    · simp [Value.cells] at hcs
      obtain ⟨rfl, rfl, rfl⟩ := hcs
      exact ⟨zs, .inr ⟨_, rfl, hl, hm, by simpa using hz, hcell, hwz⟩⟩
  obtain ⟨a2, rfl, rfl, rfl, w2⟩ := open_int Try.underlying3 (hval 2 3 v2 rfl rfl) h2
  clear hA0 hval0
  refine (walk a0 len0 cap0 z0 a1 len1 cap1 z1 a2 W w0 w1 w2).mono fun e W' ⟨he, bel⟩ => ?_
  subst he
  exact ⟨_, rfl, _, _, _, [], _, [], hW', trodAll_mk1 (shut_bool Try.underlying4 _), (trodAll_cons_mk (Below.trod laidOut (by kernel_rfl) (of_decide_eq_true (by kernel_rfl)) k0 bel lt0) (trodAll_cons_mk (Below.trod laidOut (by kernel_rfl) (of_decide_eq_true (by kernel_rfl)) k1 bel lt1) (trodAll_cons_mk (shut_int Try.underlying3 w2) trodAll_mk0))), rfl, bel.frame _, fun h => by cases h⟩

theorem over : Rows.sumsBitsRow.holds Try.pinned (OpenSpec.ofChange Rows.sumsBitsSpec) :=
  OpenClaim.holds_of_wide 8 Try.f8 rfl rfl rfl rfl rfl rfl rfl ⟨rfl, rfl, rfl, rfl, rfl⟩ rfl rfl rfl rfl rfl (by kernel_rfl) Try.func8 (by kernel_rfl)
    (of_decide_eq_true (by kernel_rfl)) (by unfold Func.isWrapper; first | (rw [if_pos (by decide +kernel)]; kernel_rfl) | (rw [if_neg (by decide +kernel)]; exact ⟨rfl, rfl⟩))
    (fun os started H enc _ => lifted os started H enc)

theorem proved : Rows.SumsBitsSaid := over
end Go.Proofs.Ytnlokmamflpffaa.sumsBits
namespace Go.Proofs.Ytnlokmamflpffaa
theorem sumsBits_holds : Rows.SumsBitsSaid := sumsBits.proved
#print axioms sumsBits_holds
end Go.Proofs.Ytnlokmamflpffaa
