/-
  For all bytes a and b and any three bits waystationlaw01.SumsTurned returns true: sums of bytes in two parts are those of all, and sealed bytes of which up to three bits are turned are not opened. Conditions: none.
-/
import Derived.Test.YtnlokmamflpffaaLeft
import Derived.StillTailTactics
import Derived.WalkKit
import Derived.ProofKit
import Derived.OpenShut
import Derived.ChangeOld
import Derived.Below
import Derived.SizedLaws
import Derived.Lib.SmallJoins
import Derived.Laws.IdiomArrays
namespace Go.Proofs.Ytnlokmamflpffaa.sumsTurned
open Go.ChangeShapes Go.WideShapes Go.ChangeAt Go.RowKit
set_option linter.unusedVariables false
/-- The n-th of three bits; the bytes behind the first n of them. -/
def bitAt (p q r : Int) : Nat → Int
  | 0 => p
  | 1 => q
  | _ => r
def after (s : List UInt8) (p q r : Int) : Nat → List UInt8
  | 0 => s
  | 1 => Crc.turn s p
  | 2 => Crc.turn (Crc.turn s p) q
  | _ => Crc.turn (Crc.turn (Crc.turn s p) q) r
theorem after_succ (s : List UInt8) (p q r : Int) (n : Nat) (hn : n < 3) : after s p q r (n + 1) = Crc.turn (after s p q r n) (bitAt p q r n) := by
  match n, hn with
  | 0, _ => rfl
  | 1, _ => rfl
  | 2, _ => rfl
theorem length_after (s : List UInt8) (p q r : Int) (n : Nat) : (after s p q r n).length = s.length := by
  match n with
  | 0 => rfl
  | 1 => exact Crc.length_turn _ _
  | 2 => exact (Crc.length_turn _ _).trans (Crc.length_turn _ _)
  | n + 3 => exact (Crc.length_turn _ _).trans ((Crc.length_turn _ _).trans (Crc.length_turn _ _))
theorem bit_cell {W : World} {g : Nat} {t : TypeId} {p q r : Int} (h : Blk W g t #[.int .i64 p, .int .i64 q, .int .i64 r]) (n : Nat) (hn : n < 3) : W.cell? ⟨g, n, none⟩ = some (.int .i64 (bitAt p q r n)) := by
  rw [h.cell n]
  match n, hn with
  | 0, _ => rfl
  | 1, _ => rfl
  | 2, _ => rfl
theorem bit_bounds {p q r : Int} (hp : -9223372036854775808 ≤ p ∧ p ≤ 9223372036854775807) (hq : -9223372036854775808 ≤ q ∧ q ≤ 9223372036854775807) (hr : -9223372036854775808 ≤ r ∧ r ≤ 9223372036854775807) (n : Nat) :
    -9223372036854775808 ≤ bitAt p q r n ∧ bitAt p q r n ≤ 9223372036854775807 := by
  match n with
  | 0 => exact hp
  | 1 => exact hq
  | n + 2 => exact hr
theorem flip_bits (x : UInt8) (m : Nat) : bits .xor .u8 (x.toNat : Int) (IntKind.u8.wrap (2 ^ min (IntKind.u64.wrap ((m : Int) % 8)).toNat 8)) = ((x.toNat ^^^ 2 ^ (m % 8) : Nat) : Int) := by
  have h1 : (IntKind.u64.wrap ((m : Int) % 8)).toNat = m % 8 := by
    rw [IntKind.wrap_u64]; omega
  have hr : m % 8 < 8 := by omega
  have hp : 2 ^ (m % 8) < 2 ^ 8 := Nat.pow_lt_pow_right (by omega) hr
  rw [h1, Nat.min_eq_left (by omega), IntKind.wrap_u8']
  rw [show (2 : Int) ^ (m % 8) = ((2 ^ (m % 8) : Nat) : Int) from by rw [Int.natCast_pow]; rfl]
  rw [show (((2 ^ (m % 8) : Nat) : Int) % 256) = ((2 ^ (m % 8) : Nat) : Int) from Int.emod_eq_of_lt (Int.natCast_nonneg _) (by generalize 2 ^ (m % 8) = z at *; omega)]
  exact u8_xor_nat x.toNat (2 ^ (m % 8)) (UInt8.toNat_lt x) hp
theorem flip_byte (x : UInt8) (m : Nat) : byteV (UInt8.ofNat (x.toNat ^^^ 2 ^ (m % 8))) = .int .u8 ((x.toNat ^^^ 2 ^ (m % 8) : Nat) : Int) := by
  unfold byteV
  rw [Crc.toNat_byte x _ (by omega)]
theorem own_pos {W : World} {base : Nat} {v : Value} {l : List UInt8} (h : Own W base v l) (hn : 0 < l.length) : ∃ g c, v = .slice (some ⟨g, 0, none⟩) l.length c ∧ base ≤ g := by
  rcases h.2 with ⟨_, h0⟩ | ⟨g, cap, cur, rfl, h1, _⟩
  · omega
  · exact ⟨g, cap, rfl, h1⟩
set_option maxHeartbeats 2000000 in
set_option maxRecDepth 100000 in
theorem walk (a0 : Option Addr) (len0 cap0 : Nat) (z0 : List Int) (a1 : Option Addr) (len1 cap1 : Nat) (z1 : List Int) (p q r : Int) (w : World) (w0 : IsRow .u8 w a0 len0 cap0 z0) (w1 : IsRow .u8 w a1 len1 cap1 z1)
    (l0 : len0 ≤ 140737488351232) (l1 : len1 ≤ 140737488351232) (wp : (Lit.int .i64 p).wf = true) (wq : (Lit.int .i64 q).wf = true) (wr : (Lit.int .i64 r).wf = true) :
    Calls Try.prog 10 #[.slice a0 len0 cap0, .slice a1 len1 cap1, .agg #[.int .i64 p, .int .i64 q, .int .i64 r]] w fun e w' => e = .returned (.bool true) ∧ Below w.heap.size w w' := by
  obtain ⟨l, hl, hc1, hc2⟩ := w0.bys
  obtain ⟨k, hk, hd1, hd2⟩ := w1.bys
  clear w0 w1
  have hp := i64_bounds wp
  have hq := i64_bounds wq
  have hr := i64_bounds wr
  clear wp wq wr
  by_cases hlong : 400 < len0 + len1
  · have hlong' : (400 : Int) < (len0 : Int) + (len1 : Int) := by omega
    go_enter Try.func10, Try.ntmps10
    go_wp2_with fail
    refine (works_any _).mono ?_
    rintro e w' ⟨rfl, hb⟩
    go_wp2_with fail
    go_ret
    exact ⟨rfl, ((Below.refl _ _).alloc (Nat.le_refl _) _).trans (hb.mono (by simp))⟩
  have hlong' : ¬ (400 : Int) < (len0 : Int) + (len1 : Int) := by omega
  have HL : Hid (l.length = len0) := Lib.hid hl.1
  have HK : Hid (k.length = len1) := Lib.hid hk.1
  have hB : Blk (w.alloc (.cells #[.int .i64 p, .int .i64 q, .int .i64 r] 44)) w.heap.size 44 #[.int .i64 p, .int .i64 q, .int .i64 r] := Blk.new _ _ _
  have hb1 : Below w.heap.size w (w.alloc (.cells #[.int .i64 p, .int .i64 q, .int .i64 r] 44)) := (Below.refl _ _).alloc (Nat.le_refl _) _
  have HZ1 : Hid (w.heap.size + 1 = (w.alloc (.cells #[.int .i64 p, .int .i64 q, .int .i64 r] 44)).heap.size) := Lib.hid (by simp)
  go_enter Try.func10, Try.ntmps10
  go_wp2_with (at_builtin; refine stop ?_)
  generalize w.alloc (.cells #[.int .i64 p, .int .i64 q, .int .i64 r] 44) = w1 at *
  have hz1 : w.heap.size < w1.heap.size := by have := HZ1.out; omega
  have LB : Hid (∀ W, Below w1.heap.size w1 W → Bys W w.heap.size a0 len0 l) := Lib.hid fun W h => (hl.below hb1).below (h.mono (by omega))
  have KB : Hid (∀ W, Below w1.heap.size w1 W → Bys W w.heap.size a1 len1 k) := Lib.hid fun W h => (hk.below hb1).below (h.mono (by omega))
  have BB : Hid (∀ W, Below w1.heap.size w1 W → Blk W w.heap.size 44 #[.int .i64 p, .int .i64 q, .int .i64 r]) := Lib.hid fun W h => hB.below h (by omega)
  have hk1 : Below w1.heap.size w1 w1 := Below.refl _ _
  clear hl hk hB
  have hown0 : Own (w1.alloc (.cells #[] 5)) w1.heap.size (.slice (some ⟨w.heap.size + 1, 0, none⟩) 0 0) [] := by
    rw [HZ1.out]; exact own_empty w1 _ (Nat.le_refl _)
  refine Stop.go (wpList_append_want _ (by rfl) _ _ (by rfl) w1.heap.size _ [] (by rfl) hown0 _ a0 len0 cap0 l (by rfl) (LB.out _ (hk1.alloc (Nat.le_refl _) _)) (by simp) (by omega) (le_alloc (Nat.le_refl _) _) ?_)
  intro v2 w2 ho2 hk2a
  rw [List.nil_append] at ho2
  have hk2 : Below w1.heap.size w1 w2 := (hk1.alloc (Nat.le_refl _) _).trans hk2a
  clear hk2a hown0
  go_wp2_with (at_builtin; refine stop ?_)
  refine Stop.go (wpList_append_want _ (by rfl) _ _ (by rfl) w1.heap.size _ l (by rfl) ho2 _ a1 len1 cap1 k (by rfl) (KB.out _ hk2) (by rw [HL.out]; omega) (by omega) hk2.size ?_)
  intro v3 w3 ho3 hk3a
  have hk3 : Below w1.heap.size w1 w3 := hk2.trans hk3a
  clear hk3a ho2 hk2
  obtain ⟨A3, k3, c3, rfl, hk3'⟩ := ho3.form2
  have hp3 : k3 ≤ 400 := by rw [hk3', List.length_append, HL.out, HK.out]; omega
  have HALL : Hid ((l ++ k).length = k3) := Lib.hid hk3'.symm
  clear hk3'
  have hz3 := hk3.size
  have hs : Crc.sum l < 4294967296 := by have := Crc.sum_lt l; omega
  go_wp2_with fail
  refine (sum_any a0 len0 cap0 l w3 ((LB.out _ hk3).more (by omega)) (by omega)).mono ?_
  rintro e w4 ⟨rfl, hb4⟩
  have hk4 := hk3.trans (hb4.mono hz3)
  have hz4 := hb4.size
  have ho4 := ho3.below hb4 (Nat.le_refl _)
  clear ho3 hb4
  go_wp2_with fail
  refine (more_any (Crc.sum l) hs a1 len1 cap1 k w4 ((KB.out _ hk4).more (by omega)) (by omega)).mono ?_
  rintro e w5 ⟨rfl, hb5⟩
  have hk5 := hk4.trans (hb5.mono (by omega))
  have hz5 := hb5.size
  have ho5 := ho4.below hb5 (Nat.le_refl _)
  rw [Crc.more_sum]
  clear ho4 hb5 hk4 hk3
  generalize l ++ k = all at *
  go_wp2_with fail
  refine (sum_any A3 k3 c3 all w5 ho5.bys (by omega)).mono ?_
  rintro e w6 ⟨rfl, hb6⟩
  have hk6 := hk5.trans (hb6.mono (by omega))
  have hz6 := hb6.size
  have ho6 := ho5.below hb6 (Nat.le_refl _)
  clear ho5 hb6 hk5
  go_wp2_with fail
  refine (seal_any A3 k3 c3 all w6 ho6.bys (by omega)).mono ?_
  rintro e w7 ⟨v7, rfl, ho7, hb7⟩
  have hk7 := hk6.trans (hb7.mono (by omega))
  have hz7 := hb7.size
  have ha7 := ho6.bys.below hb7
  clear ho6 hb7
  obtain ⟨A7, k7, c7, rfl, hk7'⟩ := ho7.form2
  rw [List.length_append, length_les, HALL.out] at hk7'
  obtain ⟨hcap7, hcap7'⟩ := ho7.cap
  have HCAP := Lib.hid hcap7'
  clear hcap7'
  have hp7 : k7 ≤ 404 := by omega
  have HSL : Hid ((all ++ les 4 (Crc.sum all)).length = k7) := Lib.hid (by rw [List.length_append, length_les, HALL.out, hk7'])
  have hpos7 : 4 ≤ k7 := by omega
  clear hk7'
  have hs7 := ho7.bys
  have HTURN : Hid (∀ x y z : Int, opens (Crc.turn (Crc.turn (Crc.turn (all ++ les 4 (Crc.sum all)) x) y) z) = (Crc.turn (Crc.turn (Crc.turn (all ++ les 4 (Crc.sum all)) x) y) z == all ++ les 4 (Crc.sum all))) := Lib.hid fun x y z => opens_turned all (by rw [HALL.out]; exact hp3) x y z
  have HOP : Hid (opens (all ++ les 4 (Crc.sum all)) = true) := Lib.hid (opens_sealed all)
  have HTK : Hid ((all ++ les 4 (Crc.sum all)).take ((all ++ les 4 (Crc.sum all)).length - 4) = all) := Lib.hid (take_sealed all)
  generalize all ++ les 4 (Crc.sum all) = s at *
  go_wp2_with fail
  refine (open_any A7 k7 c7 s w7 hs7 hcap7 HCAP.out (by omega)).mono ?_
  intro e w8 hopd
  obtain ⟨A8, c8, rfl, ho8, hb8⟩ := opened_yes hopd HOP.out
  clear hopd ho7
  rw [HTK.out] at ho8
  rw [HTK.out]
  have hz8 := hb8.size
  have hk8 := hk7.trans (hb8.mono (by omega))
  have hs8 := hs7.below hb8
  have q1 := conv_str w8 _ A8 _ c8 all ho8.bys
  have q2 := conv_str w8 _ A3 k3 c3 all (ha7.below (hb8.mono (by omega)))
  have t1 := str_toList all
  clear hs7 ha7 hb8
  generalize all.length = k8 at *
  go_wp2_with fail
  refine (num_any 0 w8).mono ?_
  rintro e w9 ⟨rfl, rfl⟩
  go_wp2_with (at_builtin; refine stop ?_)
  clear q1 q2 t1
  refine Stop.go (wpList_append_want _ (by rfl) _ _ (by rfl) w8.heap.size _ [] (by rfl) (own_empty _ _ (Nat.le_refl _)) _ A7 k7 c7 s (by rfl) (hs8.alloc (by omega) _) (by simp) (by omega) (le_alloc (Nat.le_refl _) _) ?_)
  intro v9 w9 ho9 hb9a
  rw [List.nil_append] at ho9
  have hb9 : Below w8.heap.size w8 w9 := ((Below.refl _ _).alloc (Nat.le_refl _) _).trans hb9a
  clear hb9a
  have hz9 := hb9.size
  have hs9 := hs8.below (hb9.mono (by omega))
  have hk9 := hk8.trans (hb9.mono (by omega))
  obtain ⟨g, c9, rfl, hg9⟩ := own_pos ho9 (by rw [HSL.out]; omega)
  rw [HSL.out] at ho9
  rw [HSL.out]
  go_wp2_with fail
  go_loopw [12] (fun i W => ∃ n : Nat, n ≤ 3 ∧ i = .int .i64 n ∧ Own W w8.heap.size (.slice (some ⟨g, 0, none⟩) k7 c9) (after s p q r n) ∧ Below w8.heap.size w9 W) (fun i _ => 3 - (intOf i).toNat)
  case atStart => exact ⟨0, by omega, rfl, ho9, Below.refl _ _⟩
  case round =>
    obtain ⟨n, hn, rfl, hon, hbn⟩ := hrel
    have hkn := hk9.trans (hbn.mono (by omega))
    have hbit := fun hn3 => bit_cell (BB.out _ hkn) n hn3
    have hbb := bit_bounds hp hq hr n
    have HAF : Hid (n < 3 → after s p q r (n + 1) = Crc.turn (after s p q r n) (bitAt p q r n)) := Lib.hid (after_succ s p q r n)
    have HLA : Hid ((after s p q r n).length = k7) := Lib.hid (by rw [length_after, HSL.out])
    by_cases hn3 : n < 3
    · have hcb := hbit hn3
      generalize bitAt p q r n = b at *
      clear hbit
      by_cases hneg : 0 ≤ b
      · by_cases hbig : b < 8 * (k7 : Int)
        · obtain ⟨m, rfl⟩ := Int.eq_ofNat_of_zero_le hneg
          have hm : m < 8 * k7 := by omega
          generalize after s p q r n = L at *
          have hlt : m / 8 < L.length := by rw [HLA.out]; omega
          have hrow : wr.ownsRow w8.heap.size 5 1 (.slice (some ⟨g, 0, none⟩) k7 c9) k7 (L.map byteV) := by
            have h := hon
            unfold Own at h
            rw [HLA.out] at h
            exact h
          have hcell : wr.cell? ⟨g, m / 8, none⟩ = some (.int .u8 ((L[m / 8]).toNat : Int)) := by
            rw [hrow.cellAt (m / 8) (by omega), List.getElem?_map, List.getElem?_eq_getElem hlt]
            rfl
          have hfroz := hrow.frozenAt (m / 8)
          have hset : Crc.turn L (m : Int) = L.set (m / 8) (UInt8.ofNat ((L[m / 8]).toNat ^^^ 2 ^ (m % 8))) := by
            rw [Crc.turn_yes (by rw [HLA.out]; omega), Int.toNat_natCast]
            unfold Crc.flip
            rw [List.getElem?_eq_getElem hlt]
          have HSET := Lib.hid hset
          clear hset
          have HV := Lib.hid (flip_bits L[m / 8] m)
          have HB := Lib.hid (flip_byte L[m / 8] m)
          generalize L[m / 8] = x at *
          go_wp2_with fail
          have e1 : (m : Int).tdiv 8 = (m : Int) / 8 := Int.tdiv_eq_ediv_of_nonneg (by omega)
          have e3 : (m : Int).tmod 8 = (m : Int) % 8 := Int.tmod_eq_emod_of_nonneg (by omega)
          have e2 : IntKind.i64.wrap ((m : Int) / 8) = (m : Int) / 8 := IntWalk.i64_in _ (by omega)
          have e4 : IntKind.i64.wrap ((m : Int) % 8) = (m : Int) % 8 := IntWalk.i64_in _ (by omega)
          have b1 : (0 : Int) ≤ (m : Int) / 8 := by omega
          have b2 : (m : Int) / 8 < (k7 : Int) := by omega
          have b3 : ((m : Int) / 8).toNat = m / 8 := by omega
          have b4 : (0 : Int) ≤ (m : Int) % 8 := by omega
          go_still_tail 20, (by kernel_rfl)
          rw [HV.out]
          change wpList _ _ _ _ _ wr.drew
          clear e1 e2 e3 e4 b1 b2 b3 b4
          go_wp2_with fail
          go_roundw
          case rel =>
            obtain ⟨hst, hgr⟩ := hrow.stored (m / 8) (byteV (UInt8.ofNat (x.toNat ^^^ 2 ^ (m % 8))))
            rw [HB.out] at hst hgr
            refine ⟨n + 1, by omega, by go_num, ?_, ?_⟩
            · rw [HAF.out hn3, HSET.out]
              unfold Own
              rw [List.length_set, HLA.out, List.map_set, HB.out]
              exact hst.drew
            · exact (hbn.trans (below_of_grown hgr (by have := hbn.size; omega) (fun g' e => by injection e with e; omega))).drew
          case measure => simp [intOf]; omega
        · have HT : Hid (after s p q r (n + 1) = after s p q r n) := Lib.hid (by rw [HAF.out hn3]; exact Crc.turn_no (by rw [HLA.out]; omega))
          go_wp2_with fail
          go_roundw
          case rel => exact ⟨n + 1, by omega, by go_num, by rw [HT.out]; exact hon, hbn⟩
          case measure => simp [intOf]; omega
      · have HT : Hid (after s p q r (n + 1) = after s p q r n) := Lib.hid (by rw [HAF.out hn3]; exact Crc.turn_no (by omega))
        go_wp2_with fail
        go_roundw
        case rel => exact ⟨n + 1, by omega, by go_num, by rw [HT.out]; exact hon, hbn⟩
        case measure => simp [intOf]; omega
    · obtain rfl : n = 3 := by omega
      have HOT := Lib.hid (HTURN.out p q r)
      rw [show Crc.turn (Crc.turn (Crc.turn s p) q) r = after s p q r 3 from rfl] at HOT
      generalize after s p q r 3 = t at *
      have ht3 := hon.bys
      obtain ⟨hct1, hct2⟩ := hon.cap
      have HCT := Lib.hid hct2
      clear hct2 hbit HAF hbb
      have hsr := hs9.below (hbn.mono (by omega))
      have hzn := hbn.size
      have hbw : Below w.heap.size w wr := hb1.trans (hkn.mono (by omega))
      go_wp2_with fail
      refine (open_any (some ⟨g, 0, none⟩) k7 c9 t wr ht3 hct1 HCT.out (by omega)).mono ?_
      intro e w10 hopd
      cases hb : opens t
      · skip
        obtain ⟨A10, c10, rfl, ho10, hb10⟩ := opened_no hopd hb
        clear hopd ho10
        have heq : (t == s) = false := by rw [← HOT.out]; exact hb
        clear hb
        have hz10 := hb10.size
        have t1 := str_toList t
        have t2 := str_toList s
        have SS : Hid (∀ W, Below wr.heap.size wr W → ((convert 22 9 (.slice (some ⟨g, 0, none⟩) k7 c9)).run Try.prog W = .ok (.string (str t)) W ∧ (convert 22 9 (.slice A7 k7 c7)).run Try.prog W = .ok (.string (str s)) W)) :=
          Lib.hid fun W hW => ⟨conv_str W _ _ _ _ _ (ht3.below hW), conv_str W _ _ _ _ _ (hsr.below (hW.mono (by omega)))⟩
        go_wp2_with fail
        refine wp_region_np ?_
        refine wp_region_held_drew (S := fun W => (convert 22 9 (.slice (some ⟨g, 0, none⟩) k7 c9)).run Try.prog W = .ok (.string (str t)) W ∧ (convert 22 9 (.slice A7 k7 c7)).run Try.prog W = .ok (.string (str s)) W) (by kernel_rfl) (SS.out _ hb10.drew) (fun hHeld => ?_)
        refine wpAnyH_takeAt (i := 0) (d := 96) (v := ?vn0) rfl rfl (by kernel_rfl) (by kernel_rfl) (by kernel_rfl) (fun _ _ _ h => h) (Or.inl ⟨by rfl, ?hyn0⟩) hHeld ?_
        case hyn0 => intro W hSw; (try dsimp only at hSw); (go_simp; try with_reducible rfl)
        simp only [List.setIfInBounds_toArray, List.set_cons_zero, List.set_cons_succ]
        refine wpAnyH_takeAt (i := 3) (d := 99) (v := ?vn3) rfl rfl (by kernel_rfl) (by kernel_rfl) (by kernel_rfl) (fun _ _ _ h => h) (Or.inl ⟨by rfl, ?hyn3⟩) hHeld ?_
        case hyn3 => intro W hSw; (try dsimp only at hSw); (go_simp; try with_reducible rfl)
        simp only [List.setIfInBounds_toArray, List.set_cons_zero, List.set_cons_succ]
        refine wpAnyH_takeAt (i := 4) (d := 100) (v := ?vn4) rfl rfl (by kernel_rfl) (by kernel_rfl) (by kernel_rfl) (fun _ _ _ h => h) (Or.inl ⟨by rfl, ?hyn4⟩) hHeld ?_
        case hyn4 => intro W hSw; (try dsimp only at hSw); (go_simp; try with_reducible rfl)
        simp only [List.setIfInBounds_toArray, List.set_cons_zero, List.set_cons_succ]
        refine wpAnyH_takeAt (i := 5) (d := 101) (v := ?vn5) rfl rfl (by kernel_rfl) (by kernel_rfl) (by kernel_rfl) (fun _ _ _ h => h) (Or.inl ⟨by rfl, ?hyn5⟩) hHeld ?_
        case hyn5 => intro W hSw; (try dsimp only at hSw); (go_simp; try with_reducible rfl)
        simp only [List.setIfInBounds_toArray, List.set_cons_zero, List.set_cons_succ]
        refine wpAnyH_takeAt (i := 6) (d := 102) (v := ?vn6) rfl rfl (by kernel_rfl) (by kernel_rfl) (by kernel_rfl) (fun _ _ _ h => h) (Or.inl ⟨by rfl, ?hyn6⟩) hHeld ?_
        case hyn6 => intro W hSw; (try dsimp only at hSw); (go_simp; try with_reducible rfl)
        simp only [List.setIfInBounds_toArray, List.set_cons_zero, List.set_cons_succ]
        refine wpAnyH_takeAt (i := 7) (d := 103) (v := ?vn7) rfl rfl (by kernel_rfl) (by kernel_rfl) (by kernel_rfl) (fun _ _ _ h => h) (Or.inl ⟨by rfl, ?hyn7⟩) hHeld ?_
        case hyn7 => intro W hSw; (try dsimp only at hSw); (go_simp; try with_reducible rfl)
        simp only [List.setIfInBounds_toArray, List.set_cons_zero, List.set_cons_succ]
        refine wpAnyH_ready (rs := [1]) (by kernel_rfl) (by simp) (AllReadyH.cons rfl (fun K hK => ?_) AllReadyH.nil)
        go_simp
        refine (num_any 110 w10.drew).mono ?_
        rintro e w11 ⟨rfl, rfl⟩
        dsimp only
        refine hK.out _ _ (SS.out _ hb10.drew) (fun hHeld => ?_)
        clear hK K
        refine wpAnyH_takeAt (i := 2) (d := 98) (v := ?vn2) rfl rfl (by kernel_rfl) (by kernel_rfl) (by kernel_rfl) (fun _ _ _ h => h) (Or.inl ⟨by rfl, ?hyn2⟩) hHeld ?_
        case hyn2 => intro W hSw; (try dsimp only at hSw); (go_simp; try with_reducible rfl)
        simp only [List.setIfInBounds_toArray, List.set_cons_zero, List.set_cons_succ]
        refine wpAnyH_takeAt (i := 8) (d := 104) (v := ?vn8) rfl rfl (by kernel_rfl) (by kernel_rfl) (by kernel_rfl) (fun _ _ _ h => h) (Or.inl ⟨by rfl, ?hyn8⟩) hHeld ?_
        case hyn8 => intro W hSw; (try dsimp only at hSw); (go_simp; try with_reducible rfl)
        simp only [List.setIfInBounds_toArray, List.set_cons_zero, List.set_cons_succ]
        refine wpAnyH_takeAt (i := 9) (d := 105) (v := ?vn9) rfl rfl (by kernel_rfl) (by kernel_rfl) (by kernel_rfl) (fun _ _ _ h => h) (Or.inl ⟨by rfl, ?hyn9⟩) hHeld ?_
        case hyn9 => intro W hSw; (try dsimp only at hSw); (go_simp; try with_reducible rfl)
        simp only [List.setIfInBounds_toArray, List.set_cons_zero, List.set_cons_succ]
        refine wpAnyH_ready (rs := [10]) (by kernel_rfl) (by simp) (AllReadyH.cons rfl (fun K hK => ?_) AllReadyH.nil)
        go_simp
        refine (works_any w10.drew).mono ?_
        rintro e w11 ⟨rfl, hb11⟩
        have hb11' : Below w10.heap.size w10 w11 := (Below.refl w10.heap.size w10).drew.trans hb11
        dsimp only
        refine hK.out _ _ (SS.out _ (hb10.trans (hb11'.mono hz10))) (fun hHeld => ?_)
        clear hK K
        refine wpAnyH_takeAt (i := 11) (d := 107) (v := ?vn11) rfl rfl (by kernel_rfl) (by kernel_rfl) (by kernel_rfl) (fun _ _ _ h => h) (Or.inl ⟨by rfl, ?hyn11⟩) hHeld ?_
        case hyn11 => intro W hSw; (try dsimp only at hSw); (go_simp; try with_reducible rfl)
        simp only [List.setIfInBounds_toArray, List.set_cons_zero, List.set_cons_succ]
        refine wpAnyH_takeAt (i := 12) (d := 6) (v := ?vn12) rfl rfl (by kernel_rfl) (by kernel_rfl) (by kernel_rfl) (fun _ _ _ h => h) (Or.inl ⟨by rfl, ?hyn12⟩) hHeld ?_
        case hyn12 => intro W hSw; (try dsimp only at hSw); (go_simp; try with_reducible rfl)
        simp only [List.setIfInBounds_toArray, List.set_cons_zero, List.set_cons_succ]
        refine wpAnyH_done (by kernel_rfl) ?_ _
        have hfin : Below w.heap.size w w11 := (hbw.trans (hb10.mono (by omega))).trans (hb11'.mono (by omega))
        clear hHeld t1 t2 heq
        go_wp2_with fail
        go_ret
        exact ⟨rfl, hfin⟩
      · skip
        obtain ⟨A10, c10, rfl, ho10, hb10⟩ := opened_yes hopd hb
        clear hopd ho10
        generalize (t.take (t.length - 4)).length = k10 at *
        have heq : (t == s) = true := by rw [← HOT.out]; exact hb
        clear hb
        have hz10 := hb10.size
        have t1 := str_toList t
        have t2 := str_toList s
        have SS : Hid (∀ W, Below wr.heap.size wr W → ((convert 22 9 (.slice (some ⟨g, 0, none⟩) k7 c9)).run Try.prog W = .ok (.string (str t)) W ∧ (convert 22 9 (.slice A7 k7 c7)).run Try.prog W = .ok (.string (str s)) W)) :=
          Lib.hid fun W hW => ⟨conv_str W _ _ _ _ _ (ht3.below hW), conv_str W _ _ _ _ _ (hsr.below (hW.mono (by omega)))⟩
        go_wp2_with fail
        refine wp_region_np ?_
        refine wp_region_held_drew (S := fun W => (convert 22 9 (.slice (some ⟨g, 0, none⟩) k7 c9)).run Try.prog W = .ok (.string (str t)) W ∧ (convert 22 9 (.slice A7 k7 c7)).run Try.prog W = .ok (.string (str s)) W) (by kernel_rfl) (SS.out _ hb10.drew) (fun hHeld => ?_)
        refine wpAnyH_takeAt (i := 0) (d := 96) (v := ?vy0) rfl rfl (by kernel_rfl) (by kernel_rfl) (by kernel_rfl) (fun _ _ _ h => h) (Or.inl ⟨by rfl, ?hyy0⟩) hHeld ?_
        case hyy0 => intro W hSw; (try dsimp only at hSw); (go_simp; try with_reducible rfl)
        simp only [List.setIfInBounds_toArray, List.set_cons_zero, List.set_cons_succ]
        refine wpAnyH_takeAt (i := 3) (d := 99) (v := ?vy3) rfl rfl (by kernel_rfl) (by kernel_rfl) (by kernel_rfl) (fun _ _ _ h => h) (Or.inl ⟨by rfl, ?hyy3⟩) hHeld ?_
        case hyy3 => intro W hSw; (try dsimp only at hSw); (go_simp; try with_reducible rfl)
        simp only [List.setIfInBounds_toArray, List.set_cons_zero, List.set_cons_succ]
        refine wpAnyH_takeAt (i := 4) (d := 100) (v := ?vy4) rfl rfl (by kernel_rfl) (by kernel_rfl) (by kernel_rfl) (fun _ _ _ h => h) (Or.inl ⟨by rfl, ?hyy4⟩) hHeld ?_
        case hyy4 => intro W hSw; (try dsimp only at hSw); (go_simp; try with_reducible rfl)
        simp only [List.setIfInBounds_toArray, List.set_cons_zero, List.set_cons_succ]
        refine wpAnyH_takeAt (i := 5) (d := 101) (v := ?vy5) rfl rfl (by kernel_rfl) (by kernel_rfl) (by kernel_rfl) (fun _ _ _ h => h) (Or.inl ⟨by rfl, ?hyy5⟩) hHeld ?_
        case hyy5 => intro W hSw; (try dsimp only at hSw); (go_simp; try with_reducible rfl)
        simp only [List.setIfInBounds_toArray, List.set_cons_zero, List.set_cons_succ]
        refine wpAnyH_takeAt (i := 6) (d := 102) (v := ?vy6) rfl rfl (by kernel_rfl) (by kernel_rfl) (by kernel_rfl) (fun _ _ _ h => h) (Or.inl ⟨by rfl, ?hyy6⟩) hHeld ?_
        case hyy6 => intro W hSw; (try dsimp only at hSw); (go_simp; try with_reducible rfl)
        simp only [List.setIfInBounds_toArray, List.set_cons_zero, List.set_cons_succ]
        refine wpAnyH_takeAt (i := 7) (d := 103) (v := ?vy7) rfl rfl (by kernel_rfl) (by kernel_rfl) (by kernel_rfl) (fun _ _ _ h => h) (Or.inl ⟨by rfl, ?hyy7⟩) hHeld ?_
        case hyy7 => intro W hSw; (try dsimp only at hSw); (go_simp; try with_reducible rfl)
        simp only [List.setIfInBounds_toArray, List.set_cons_zero, List.set_cons_succ]
        refine wpAnyH_ready (rs := [1]) (by kernel_rfl) (by simp) (AllReadyH.cons rfl (fun K hK => ?_) AllReadyH.nil)
        go_simp
        refine (num_any 0 w10.drew).mono ?_
        rintro e w11 ⟨rfl, rfl⟩
        dsimp only
        refine hK.out _ _ (SS.out _ hb10.drew) (fun hHeld => ?_)
        clear hK K
        refine wpAnyH_takeAt (i := 2) (d := 98) (v := ?vy2) rfl rfl (by kernel_rfl) (by kernel_rfl) (by kernel_rfl) (fun _ _ _ h => h) (Or.inl ⟨by rfl, ?hyy2⟩) hHeld ?_
        case hyy2 => intro W hSw; (try dsimp only at hSw); (go_simp; try with_reducible rfl)
        simp only [List.setIfInBounds_toArray, List.set_cons_zero, List.set_cons_succ]
        refine wpAnyH_takeAt (i := 8) (d := 104) (v := ?vy8) rfl rfl (by kernel_rfl) (by kernel_rfl) (by kernel_rfl) (fun _ _ _ h => h) (Or.inl ⟨by rfl, ?hyy8⟩) hHeld ?_
        case hyy8 => intro W hSw; (try dsimp only at hSw); (go_simp; try with_reducible rfl)
        simp only [List.setIfInBounds_toArray, List.set_cons_zero, List.set_cons_succ]
        refine wpAnyH_takeAt (i := 9) (d := 105) (v := ?vy9) rfl rfl (by kernel_rfl) (by kernel_rfl) (by kernel_rfl) (fun _ _ _ h => h) (Or.inl ⟨by rfl, ?hyy9⟩) hHeld ?_
        case hyy9 => intro W hSw; (try dsimp only at hSw); (go_simp; try with_reducible rfl)
        simp only [List.setIfInBounds_toArray, List.set_cons_zero, List.set_cons_succ]
        refine wpAnyH_ready (rs := [10]) (by kernel_rfl) (by simp) (AllReadyH.cons rfl (fun K hK => ?_) AllReadyH.nil)
        go_simp
        refine (works_any w10.drew).mono ?_
        rintro e w11 ⟨rfl, hb11⟩
        have hb11' : Below w10.heap.size w10 w11 := (Below.refl w10.heap.size w10).drew.trans hb11
        dsimp only
        refine hK.out _ _ (SS.out _ (hb10.trans (hb11'.mono hz10))) (fun hHeld => ?_)
        clear hK K
        refine wpAnyH_takeAt (i := 11) (d := 107) (v := ?vy11) rfl rfl (by kernel_rfl) (by kernel_rfl) (by kernel_rfl) (fun _ _ _ h => h) (Or.inl ⟨by rfl, ?hyy11⟩) hHeld ?_
        case hyy11 => intro W hSw; (try dsimp only at hSw); (go_simp; try with_reducible rfl)
        simp only [List.setIfInBounds_toArray, List.set_cons_zero, List.set_cons_succ]
        refine wpAnyH_takeAt (i := 12) (d := 6) (v := ?vy12) rfl rfl (by kernel_rfl) (by kernel_rfl) (by kernel_rfl) (fun _ _ _ h => h) (Or.inl ⟨by rfl, ?hyy12⟩) hHeld ?_
        case hyy12 => intro W hSw; (try dsimp only at hSw); (go_simp; try with_reducible rfl)
        simp only [List.setIfInBounds_toArray, List.set_cons_zero, List.set_cons_succ]
        refine wpAnyH_done (by kernel_rfl) ?_ _
        have hfin : Below w.heap.size w w11 := (hbw.trans (hb10.mono (by omega))).trans (hb11'.mono (by omega))
        clear hHeld t1 t2 heq
        go_wp2_with fail
        go_ret
        exact ⟨rfl, hfin⟩

theorem own : ownKnob Try.prog.godebug = none := by kernel_rfl
theorem laidOut : laidOutB Try.prog = true := by kernel_rfl
theorem cells44 : Try.prog.cellsOf 44 = 3 := by kernel_rfl
theorem cells3 : Try.prog.cellsOf 3 = 1 := by kernel_rfl
theorem bytes5 : Try.prog.bytesOf 5 = 1 := by kernel_rfl
set_option maxRecDepth 100000 in
theorem lifted (os : Os) (started : os.Started) (H : Type) (enc : TypeId × Value → H) :
    ReturnsInHanded {} Try.checked os 10 .any (Rows.sumsTurnedSpec.pre6 enc Try.prog Try.f10 Rows.sumsTurnedRow.domain false) (Rows.sumsTurnedSpec.post enc Try.prog Try.f10 false true false false) := by
  refine returnsInHanded_of_change_sized (C := Try.checked) own started (by kernel_rfl) Try.func10
    (ChangeSpec.witness6 (enc := enc) (C := Try.checked) false ⟨#[], #[.slice none 0 0, .slice none 0 0, .agg #[.int .i64 0, .int .i64 0, .int .i64 0]], []⟩ 8 (by kernel_rfl) (by kernel_rfl) (by kernel_rfl) (by kernel_rfl)) ?_
  intro W base args ds gs before hval0 hW hcnd hsz0 _
  have hval : ∀ (j : Nat) t v, Try.f10.params[j]? = some t → args[j]? = some v → Value.okWide Try.prog W .any base t v := hval0
  have hsz : (DataW.weightsEach Try.prog (Try.f10.params.toList ++ Rows.sumsTurnedSpec.plain.varTypes Try.prog) (ds ++ gs)).all (· ≤ reachBytes) = true := hsz0
  have hW' := hW
  obtain ⟨p, q, hA0, hV, rfl, hfz, hnd⟩ := hW
  have hA : DataW.TrodAll enc Try.prog W 0 (fun _ => true) true Try.f10.params.toList args.toList ds p := hA0
  rw [Try.params10] at hA hval hsz
  obtain ⟨v0, vs0, d0, ds0, p0, q0, hargs, rfl, rfl, h0, r0⟩ := trodAll_cons hA
  obtain ⟨v1, vs1, d1, ds1, p1, q1, rfl, rfl, rfl, h1, r1⟩ := trodAll_cons r0
  obtain ⟨v2, vs2, d2, ds2, p2, q2, rfl, rfl, rfl, h2, r2⟩ := trodAll_cons r1
  obtain ⟨rfl, rfl, rfl⟩ := trodAll_nil r2
  obtain rfl : args = #[v0, v1, v2] := by cases args; simp_all
  obtain ⟨rfl, rfl⟩ := trodVars_none hV
  obtain ⟨a0, len0, cap0, rfl⟩ := okWide_slice Try.underlying22 (hval 0 22 v0 rfl rfl)
  have k0 := h0
  have lt0 : ∀ x ∈ p0, x.block < W.heap.size := by obtain ⟨m, hm⟩ := k0; exact DataW.trod_lt m _ _ _ hm
  obtain ⟨z0, w0, l0⟩ : ∃ zs, IsRow .u8 W a0 len0 cap0 zs ∧ len0 ≤ 140737488351232 := by
    obtain ⟨fuel, hf⟩ := h0
    rcases open_ints Try.underlying22 Try.underlying5 (by kernel_rfl) hf with ⟨hcs, _⟩ | ⟨x, l, c, zs, hcs, _, hl, hm, hz, hx, hcell, hwz⟩
    · simp [Value.cells] at hcs
      obtain ⟨rfl, rfl, rfl⟩ := hcs
      exact ⟨[], .inl ⟨rfl, rfl, rfl, rfl⟩, by omega⟩
    · simp [Value.cells] at hcs
      obtain ⟨rfl, rfl, rfl⟩ := hcs
      refine ⟨zs, .inr ⟨_, rfl, hl, hm, by simpa using hz, hcell, hwz⟩, ?_⟩
      simp only [Prod.mk.injEq] at hx
      obtain ⟨hd, _⟩ := hx
      subst hd
      have hreach := sized_slice hsz (j := 0) (t := 22) (e := 5) rfl rfl Try.underlying22
      rw [bytes5] at hreach
      simp only [if_true] at hz
      simp only [lits, List.length_map, List.length_take, List.length_drop, reachBytes] at hreach
      omega
  obtain ⟨a1, len1, cap1, rfl⟩ := okWide_slice Try.underlying22 (hval 1 22 v1 rfl rfl)
  have k1 := h1
  have lt1 : ∀ x ∈ p1, x.block < W.heap.size := by obtain ⟨m, hm⟩ := k1; exact DataW.trod_lt m _ _ _ hm
  obtain ⟨z1, w1, l1⟩ : ∃ zs, IsRow .u8 W a1 len1 cap1 zs ∧ len1 ≤ 140737488351232 := by
    obtain ⟨fuel, hf⟩ := h1
    rcases open_ints Try.underlying22 Try.underlying5 (by kernel_rfl) hf with ⟨hcs, _⟩ | ⟨x, l, c, zs, hcs, _, hl, hm, hz, hx, hcell, hwz⟩
    · simp [Value.cells] at hcs
      obtain ⟨rfl, rfl, rfl⟩ := hcs
      exact ⟨[], .inl ⟨rfl, rfl, rfl, rfl⟩, by omega⟩
    · simp [Value.cells] at hcs
      obtain ⟨rfl, rfl, rfl⟩ := hcs
      refine ⟨zs, .inr ⟨_, rfl, hl, hm, by simpa using hz, hcell, hwz⟩, ?_⟩
      simp only [Prod.mk.injEq] at hx
      obtain ⟨hd, _⟩ := hx
      subst hd
      have hreach := sized_slice hsz (j := 1) (t := 22) (e := 5) rfl rfl Try.underlying22
      rw [bytes5] at hreach
      simp only [if_true] at hz
      simp only [lits, List.length_map, List.length_take, List.length_drop, reachBytes] at hreach
      omega
  have k2 := h2
  have lt2 : ∀ x ∈ p2, x.block < W.heap.size := by obtain ⟨m, hm⟩ := k2; exact DataW.trod_lt m _ _ _ hm
  obtain ⟨b0, b1, b2, rfl, wb0, wb1, wb2⟩ : ∃ b0 b1 b2 : Int, v2 = .agg #[.int .i64 b0, .int .i64 b1, .int .i64 b2] ∧ (Lit.int .i64 b0).wf = true ∧ (Lit.int .i64 b1).wf = true ∧ (Lit.int .i64 b2).wf = true := by
    obtain ⟨cs, rfl, hcsz, _⟩ : ∃ cs, v2 = .agg cs ∧ cs.size = Try.prog.cellsOf 44 ∧ Row.okWide Try.prog W .any base 44 cs := by
      have := hval 2 44 v2 rfl rfl
      simpa [Value.okWide, Try.underlying44] using this
    obtain ⟨c0, c1, c2, rfl⟩ := Joins.array3 (hcsz.trans cells44)
    obtain ⟨fuel, hf⟩ := h2
    obtain ⟨y0, y1, y2, m, _, hy0, hy1, hy2⟩ := trod_array3 Try.underlying44 cells3 hf
    obtain ⟨x0, e0, _, wx0⟩ := DataW.trod_int Try.underlying3 hy0
    obtain ⟨x1, e1, _, wx1⟩ := DataW.trod_int Try.underlying3 hy1
    obtain ⟨x2, e2, _, wx2⟩ := DataW.trod_int Try.underlying3 hy2
    simp at e0 e1 e2
    subst e0 e1 e2
    exact ⟨x0, x1, x2, rfl, wx0, wx1, wx2⟩
  clear hA0 hval0
  refine (walk a0 len0 cap0 z0 a1 len1 cap1 z1 b0 b1 b2 W w0 w1 l0 l1 wb0 wb1 wb2).mono fun e W' ⟨he, bel⟩ => ?_
  subst he
  exact ⟨_, rfl, _, _, _, [], _, [], hW', trodAll_mk1 (shut_bool Try.underlying4 _), (trodAll_cons_mk (Below.trod laidOut (by kernel_rfl) (of_decide_eq_true (by kernel_rfl)) k0 bel lt0) (trodAll_cons_mk (Below.trod laidOut (by kernel_rfl) (of_decide_eq_true (by kernel_rfl)) k1 bel lt1) (trodAll_cons_mk (Below.trod laidOut (by kernel_rfl) (of_decide_eq_true (by kernel_rfl)) k2 bel lt2) trodAll_mk0))), rfl, bel.frame _, fun h => by cases h⟩

theorem over : Rows.sumsTurnedRow.holds Try.pinned (OpenSpec.ofChange Rows.sumsTurnedSpec) :=
  OpenClaim.holds_of_wide 10 Try.f10 rfl rfl rfl rfl rfl rfl rfl ⟨rfl, rfl, rfl, rfl, rfl⟩ rfl rfl rfl rfl rfl (by kernel_rfl) Try.func10 (by kernel_rfl)
    (of_decide_eq_true (by kernel_rfl)) (by unfold Func.isWrapper; first | (rw [if_pos (by decide +kernel)]; kernel_rfl) | (rw [if_neg (by decide +kernel)]; exact ⟨rfl, rfl⟩))
    (fun os started H enc _ => lifted os started H enc)

theorem proved : Rows.SumsTurnedSaid := over
end Go.Proofs.Ytnlokmamflpffaa.sumsTurned
namespace Go.Proofs.Ytnlokmamflpffaa
theorem sumsTurned_holds : Rows.SumsTurnedSaid := sumsTurned.proved
#print axioms sumsTurned_holds
end Go.Proofs.Ytnlokmamflpffaa
