/-
  The stage's theorem, WireBack: frames are read back, with any bytes behind them; and a frame of which up to three bits are turned, none of them of its length's, is told to be broken.
-/
import Derived.Test.YtickdpgfiianjaaRefFrames
import Derived.Test.YtickdpgfiianjaaRefAll
import Derived.Test.YtickdpgfiianjaaCuts
import Derived.Test.YtickdpgfiianjaaTurned
import Derived.Test.YtickdpgfiianjaaOpen
import Derived.WalkKit
import Derived.ProofKit
import Derived.OpenShut
import Derived.ShutString
import Derived.ChangeOld
import Derived.Below
import Derived.StillTailTactics
import Derived.Lib.SmallJoins
import Derived.Laws.IdiomArrays
namespace Go.Proofs.Ytickdpgfiianjaa.wireBack
open Go.ChangeShapes Go.WideShapes Go.ChangeAt Go.RowKit
set_option linter.unusedVariables false
theorem own : ownKnob Try.prog.godebug = none := by kernel_rfl
theorem laidOut : laidOutB Try.prog = true := by kernel_rfl
/-- The n-th of three bits; the bytes behind the first n of them. -/
def bitAt (p q r : Int) : Nat → Int
  | 0 => p
  | 1 => q
  | _ => r
def after (s : List UInt8) (p q r : Int) : Nat → List UInt8
  | 0 => s
  | 1 => turnF s p
  | 2 => turnF (turnF s p) q
  | _ => turnF (turnF (turnF s p) q) r
theorem after_succ (s : List UInt8) (p q r : Int) (n : Nat) (hn : n < 3) : after s p q r (n + 1) = turnF (after s p q r n) (bitAt p q r n) := by
  match n, hn with
  | 0, _ => rfl
  | 1, _ => rfl
  | 2, _ => rfl
theorem length_after (s : List UInt8) (p q r : Int) (n : Nat) : (after s p q r n).length = s.length := by
  match n with
  | 0 => rfl
  | 1 => exact length_turnF _ _
  | 2 => exact (length_turnF _ _).trans (length_turnF _ _)
  | n + 3 => exact (length_turnF _ _).trans ((length_turnF _ _).trans (length_turnF _ _))
theorem bit_cell {W : World} {g : Nat} {t : TypeId} {p q r : Int} (h : Blk W g t #[.int .i64 p, .int .i64 q, .int .i64 r]) (n : Nat) (hn : n < 3) : W.cell? ⟨g, n, none⟩ = some (.int .i64 (bitAt p q r n)) := by
  rw [h.cell n]
  match n, hn with
  | 0, _ => rfl
  | 1, _ => rfl
  | 2, _ => rfl
theorem bit_bounds {p q r : Int} (hp : -9223372036854775808 ≤ p ∧ p ≤ 9223372036854775807) (hq : -9223372036854775808 ≤ q ∧ q ≤ 9223372036854775807) (hr : -9223372036854775808 ≤ r ∧ r ≤ 9223372036854775807) (n : Nat) :
    -9223372036854775808 ≤ bitAt p q r n ∧ bitAt p q r n ≤ 9223372036854775807 := by
  match n with
  | 0 => exact hp
  | 1 => exact hq
  | n + 2 => exact hr
theorem flip_bits (x : UInt8) (m : Nat) : bits .xor .u8 (x.toNat : Int) (IntKind.u8.wrap (2 ^ min (IntKind.u64.wrap ((m : Int) % 8)).toNat 8)) = ((x.toNat ^^^ 2 ^ (m % 8) : Nat) : Int) := by
  have h1 : (IntKind.u64.wrap ((m : Int) % 8)).toNat = m % 8 := by
    rw [IntKind.wrap_u64]; omega
  have hr : m % 8 < 8 := by omega
  have hp : 2 ^ (m % 8) < 2 ^ 8 := Nat.pow_lt_pow_right (by omega) hr
  rw [h1, Nat.min_eq_left (by omega), IntKind.wrap_u8']
  rw [show (2 : Int) ^ (m % 8) = ((2 ^ (m % 8) : Nat) : Int) from by rw [Int.natCast_pow]; rfl]
  rw [show (((2 ^ (m % 8) : Nat) : Int) % 256) = ((2 ^ (m % 8) : Nat) : Int) from Int.emod_eq_of_lt (Int.natCast_nonneg _) (by generalize 2 ^ (m % 8) = z at *; omega)]
  exact u8_xor_nat x.toNat (2 ^ (m % 8)) (UInt8.toNat_lt x) hp
theorem flip_byte (x : UInt8) (m : Nat) : byteV (UInt8.ofNat (x.toNat ^^^ 2 ^ (m % 8))) = .int .u8 ((x.toNat ^^^ 2 ^ (m % 8) : Nat) : Int) := by
  unfold byteV
  rw [Crc.toNat_byte x _ (by omega)]
theorem own_pos {W : World} {base : Nat} {v : Value} {l : List UInt8} (h : Own W base v l) (hn : 0 < l.length) : ∃ g c, v = .slice (some ⟨g, 0, none⟩) l.length c ∧ base ≤ g := by
  rcases h.2 with ⟨_, h0⟩ | ⟨g, cap, cur, rfl, h1, _⟩
  · omega
  · exact ⟨g, cap, rfl, h1⟩
theorem cells61 : Try.prog.cellsOf 61 = 3 := by kernel_rfl
theorem cells3 : Try.prog.cellsOf 3 = 1 := by kernel_rfl
set_option maxHeartbeats 4000000 in
set_option maxRecDepth 100000 in
theorem walk (a0 : Option Addr) (len0 cap0 : Nat) (es0 : List Ent) (a1 : Option Addr) (len1 cap1 : Nat) (l1 : List UInt8) (bp bq br : Int) (w : World) (b0 : Ents w w.heap.size a0 len0 es0) (hc0 : len0 ≤ cap0) (hm0 : cap0 ≤ maxLen) (b1 : Bys w w.heap.size a1 len1 l1) (hc1 : len1 ≤ cap1) (hm1 : cap1 ≤ maxLen) (hbp : -9223372036854775808 ≤ bp ∧ bp ≤ 9223372036854775807) (hbq : -9223372036854775808 ≤ bq ∧ bq ≤ 9223372036854775807) (hbr : -9223372036854775808 ≤ br ∧ br ≤ 9223372036854775807) :
    Calls Try.prog 13 #[.slice a0 len0 cap0, .slice a1 len1 cap1, .agg #[.int .i64 bp, .int .i64 bq, .int .i64 br]] w fun e w' => e = .returned (.bool true) ∧ Below w.heap.size w w' := by
  have hmx0 : cap0 ≤ 9223372036854775807 := by unfold maxLen at hm0; omega
  have hmx1 : cap1 ≤ 9223372036854775807 := by unfold maxLen at hm1; omega
  clear hm0 hm1
  have HB0 := Lib.hid ((Below.refl w.heap.size w).alloc (Nat.le_refl _) (.cells #[.int .i64 bp, .int .i64 bq, .int .i64 br] 61))
  have HX0 : Hid (Blk (w.alloc (.cells #[.int .i64 bp, .int .i64 bq, .int .i64 br] 61)) w.heap.size 61 #[.int .i64 bp, .int .i64 bq, .int .i64 br]) := Lib.hid (Blk.new _ _ _)
  have HZ0 : Hid (w.heap.size < (w.alloc (.cells #[.int .i64 bp, .int .i64 bq, .int .i64 br] 61)).heap.size) := Lib.hid (by simp)
  have FF : Hid (∀ W, Below (w.alloc (.cells #[.int .i64 bp, .int .i64 bq, .int .i64 br] 61)).heap.size (w.alloc (.cells #[.int .i64 bp, .int .i64 bq, .int .i64 br] 61)) W → Ents W w.heap.size a0 len0 es0 ∧ Bys W w.heap.size a1 len1 l1 ∧ Blk W w.heap.size 61 #[.int .i64 bp, .int .i64 bq, .int .i64 br] ∧ Below w.heap.size w W) := Lib.hid fun W hW => by
    have h := HB0.out.trans (hW.mono HB0.out.size)
    exact ⟨b0.below h, b1.below h, HX0.out.below hW HZ0.out, h⟩
  have HLEN := Lib.hid b0.1
  by_cases h60 : 60 < len0
  · go_enter Try.func13, Try.ntmps13
    go_wp2_with fail
    refine (works_any _).mono ?_
    rintro e w' ⟨rfl, hb⟩
    have hfin := (FF.out _ hb).2.2.2
    clear hb
    go_wp2_with fail
    go_ret
    exact ⟨rfl, hfin⟩
  by_cases h200 : 200 < len1
  · go_enter Try.func13, Try.ntmps13
    go_wp2_with fail
    refine (works_any _).mono ?_
    rintro e w' ⟨rfl, hb⟩
    have hfin := (FF.out _ hb).2.2.2
    clear hb
    go_wp2_with fail
    go_ret
    exact ⟨rfl, hfin⟩
  have hgd := guard38
  go_enter Try.func13, Try.ntmps13
  go_wp2_with fail
  generalize w.alloc (.cells #[.int .i64 bp, .int .i64 bq, .int .i64 br] 61) = w0 at *
  clear HX0
  refine (frames_any a0 len0 cap0 es0 w0 ((b0.below HB0.out).more HB0.out.size) (by omega)).mono ?_
  rintro r w1 ⟨hb1, ⟨hR, v1, rfl, ho1⟩ | ⟨hR, rfl⟩⟩
  case inr =>
    clear hR
    go_wp2_with (go_at_call 17; refine (num_any _ _).mono ?_; rintro e w' ⟨rfl, rfl⟩)
    refine (works_any w1).mono ?_
    rintro e w' ⟨rfl, hb⟩
    have hfin := (FF.out _ (hb1.trans (hb.mono hb1.size))).2.2.2
    clear hb
    go_wp2_with fail
    go_ret
    exact ⟨rfl, hfin⟩
  have HC1 := Lib.hid hb1
  have HAR := Lib.hid hR
  have hfl := length_frames es0 hR
  rw [b0.1] at hfl
  obtain ⟨A1, q1, c1, rfl, hq1⟩ := ho1.form2
  obtain ⟨hc1, hm1⟩ := ho1.cap
  have hmxA : c1 ≤ 9223372036854775807 := by unfold maxLen at hm1; omega
  have hq16 : q1 ≤ 2400 := by omega
  have HY1 := Lib.hid ho1.bys
  have HSA : Hid (scan (frames es0) = (marks 0 es0, 0) ∧ goodOf (marks 0 es0) = q1) := Lib.hid (by have := scan_all es0 hR; rw [← hq1] at this; exact this)
  have HSM : Hid (len0 ≤ (scan (frames es0 ++ l1)).1.length ∧ ((scan (frames es0 ++ l1)).1.map (·.1)).take len0 = es0 ∧ q1 ≤ goodOf (scan (frames es0 ++ l1)).1) := Lib.hid (by have := scan_more es0 hR l1; rw [← hq1, HLEN.out] at this; exact this)
  have HLF : Hid ((frames es0).length = q1) := Lib.hid hq1.symm
  clear hq1 hm1 ho1 hfl hb1 hR
  go_wp2_with (go_at_call 17; refine (num_any _ _).mono ?_; rintro e w' ⟨rfl, rfl⟩)
  refine (all_any A1 q1 c1 _ w1 HY1.out (by omega) (by omega)).mono ?_
  rintro r w2 ⟨v2, rfl, ho2, hb2⟩
  rw [HSA.out.1] at ho2
  rw [HSA.out.1]
  dsimp only at ho2
  dsimp only
  rw [marks_fst] at ho2
  rw [HSA.out.2]
  obtain ⟨A2, q2, c2, rfl, hq2, -, -⟩ := ho2.form
  rw [HLEN.out] at hq2
  subst hq2
  have HC2 := Lib.hid (HC1.out.trans (hb2.mono HC1.out.size))
  have HY2 := Lib.hid ((HY1.out.below hb2).more hb2.size)
  have HE2 := Lib.hid ho2.ents
  clear ho2 hb2
  have HX3 : Hid (Blk (w2.alloc (.cells #[.slice A2 q2 c2, .int .i64 (q1 : Int), .int .i64 0] 55)) w2.heap.size 55 #[.slice A2 q2 c2, .int .i64 (q1 : Int), .int .i64 0]) := Lib.hid (Blk.new _ _ _)
  have HB3 := Lib.hid ((Below.refl w2.heap.size w2).alloc (Nat.le_refl _) (.cells #[.slice A2 q2 c2, .int .i64 (q1 : Int), .int .i64 0] 55))
  have HZ3 : Hid (w2.heap.size + 1 = (w2.alloc (.cells #[.slice A2 q2 c2, .int .i64 (q1 : Int), .int .i64 0] 55)).heap.size) := Lib.hid (by simp)
  go_wp2_with (at_builtin; refine stop ?_)
  generalize w2.alloc (.cells #[.slice A2 q2 c2, .int .i64 (q1 : Int), .int .i64 0] 55) = w3 at *
  have HC3 := Lib.hid (HC2.out.trans (HB3.out.mono HC2.out.size))
  have HY3 := Lib.hid (HY2.out.below HB3.out)
  have HE3 := Lib.hid (HE2.out.below HB3.out)
  have hown0 : Own (w3.alloc (.cells #[] 5)) w3.heap.size (.slice (some ⟨w2.heap.size + 1, 0, none⟩) 0 0) [] := by
    rw [HZ3.out]; exact own_empty w3 _ (Nat.le_refl _)
  refine Stop.go (wpList_append_want _ (by rfl) _ _ (by rfl) w3.heap.size _ [] (by rfl) hown0 w2.heap.size A1 q1 c1 (frames es0) (by rfl) (HY3.out.alloc HB3.out.size _) (by simp) (by omega) (le_alloc (Nat.le_refl _) _) ?_)
  intro v4 w4 ho4 hb
  rw [List.nil_append] at ho4
  have hb4 : Below w3.heap.size w3 w4 := ((Below.refl _ _).alloc (Nat.le_refl _) _).trans hb
  clear hb hown0
  go_wp2_with (at_builtin; refine stop ?_)
  refine Stop.go (wpList_append_want _ (by rfl) _ _ (by rfl) w3.heap.size _ (frames es0) (by rfl) ho4 w.heap.size a1 len1 cap1 l1 (by rfl) (FF.out _ (HC3.out.trans (hb4.mono HC3.out.size))).2.1 (by have := HLF.out; omega) (by omega) hb4.size ?_)
  intro v5 w5 ho5 hb
  have hb5 : Below w3.heap.size w3 w5 := hb4.trans hb
  clear hb hb4 ho4
  obtain ⟨A5, q5, c5, rfl, hq5⟩ := ho5.form2
  obtain ⟨hc5, hm5⟩ := ho5.cap
  have hmx5 : c5 ≤ 9223372036854775807 := by unfold maxLen at hm5; omega
  have hq5' : q5 ≤ 2600 := by rw [hq5, List.length_append, b1.1, HLF.out]; omega
  have hy5 := ho5.bys
  clear hq5 hm5 ho5
  go_wp2_with fail
  refine (all_any A5 q5 c5 _ w5 hy5 hc5 (by omega)).mono ?_
  rintro r w6 ⟨v6, rfl, ho6, hb6⟩
  obtain ⟨A6, q6, c6, rfl, hq6, hc6, hm6⟩ := ho6.form
  have hmx6 : c6 ≤ 9223372036854775807 := by unfold maxLen at hm6; omega
  have hq6' : q2 ≤ q6 := by have := HSM.out.1; rw [hq6, List.length_map]; omega
  have HE6 : Hid (Ents w6 w6.heap.size A6 q2 es0) := Lib.hid (by
    have := ho6.ents.first hq6'
    rwa [HSM.out.2.1] at this)
  have hgo : (q1 : Int) ≤ (goodOf (scan (frames es0 ++ l1)).1 : Int) := by have := HSM.out.2.2; omega
  clear hq6 hm6 ho6 hy5 HSM HSA
  generalize (goodOf (scan (frames es0 ++ l1)).1 : Int) = good at *
  generalize ((scan (frames es0 ++ l1)).2 : Int) = why at *
  have hb36 := hb5.trans (hb6.mono hb5.size)
  have HX6 := Lib.hid (HX3.out.below hb36 (by have := HZ3.out; omega))
  have HC6 := Lib.hid (HC3.out.trans (hb36.mono HC3.out.size))
  have HE36 := Lib.hid ((HE3.out.below (hb36.mono HB3.out.size)).more (Nat.le_trans HB3.out.size hb36.size))
  clear hb5 hb6 hb36
  have HX7 : Hid (Blk (w6.alloc (.cells #[.slice A6 q6 c6, .int .i64 good, .int .i64 why] 55)) w6.heap.size 55 #[.slice A6 q6 c6, .int .i64 good, .int .i64 why]) := Lib.hid (Blk.new _ _ _)
  have HB7 := Lib.hid ((Below.refl w6.heap.size w6).alloc (Nat.le_refl _) (.cells #[.slice A6 q6 c6, .int .i64 good, .int .i64 why] 55))
  have x0 : (w6.alloc (.cells #[.slice A6 q6 c6, .int .i64 good, .int .i64 why] 55)).cell? ⟨w2.heap.size, 0, none⟩ = some (.slice A2 q2 c2) := (HX6.out.alloc _).cell 0
  go_wp2_with fail
  have HX67 := Lib.hid (HX6.out.alloc (.cells #[.slice A6 q6 c6, .int .i64 good, .int .i64 why] 55))
  have HZ7 : Hid (w6.heap.size < (w6.alloc (.cells #[.slice A6 q6 c6, .int .i64 good, .int .i64 why] 55)).heap.size) := Lib.hid (by simp)
  generalize w6.alloc (.cells #[.slice A6 q6 c6, .int .i64 good, .int .i64 why] 55) = w7 at *
  have HC7 := Lib.hid (HC6.out.trans (HB7.out.mono HC6.out.size))
  have HE7 := Lib.hid ((HE36.out.below HB7.out).more HB7.out.size)
  have HE67 := Lib.hid ((HE6.out.below HB7.out).more HB7.out.size)
  clear x0
  refine (same_any A2 q2 c2 a0 cap0 es0 w7 HE7.out ((FF.out _ HC7.out).1.more (FF.out _ HC7.out).2.2.2.size) (by omega)).mono ?_
  rintro r w8 ⟨rfl, hb8⟩
  have HC8 := Lib.hid (HC7.out.trans (hb8.mono HC7.out.size))
  have HXA := HX67.out.below hb8 HX67.out.lt
  have HXB := HX7.out.below hb8 HZ7.out
  have x1 : w8.cell? ⟨w2.heap.size, 1, none⟩ = some (.int .i64 (q1 : Int)) := HXA.cell 1
  have x2 : w8.cell? ⟨w2.heap.size, 2, none⟩ = some (.int .i64 0) := HXA.cell 2
  have y0 : w8.cell? ⟨w6.heap.size, 0, none⟩ = some (.slice A6 q6 c6) := HXB.cell 0
  have HXB8 := Lib.hid HXB
  have HE8 := Lib.hid ((HE67.out.below hb8).more hb8.size)
  clear HXA HXB hb8
  have hsl := slice43_to A6 q6 c6 q2 (q2 : Int) rfl (by omega)
  go_wp2_with (go_at_call 17; refine (num_any _ _).mono ?_; rintro e w' ⟨rfl, rfl⟩)
  clear x1 x2 y0 hsl
  refine (same_any A6 q2 c6 a0 cap0 es0 w8 HE8.out ((FF.out _ HC8.out).1.more (FF.out _ HC8.out).2.2.2.size) (by omega)).mono ?_
  rintro r w9 ⟨rfl, hb9⟩
  have HC9 := Lib.hid (HC8.out.trans (hb9.mono HC8.out.size))
  have HXB := HXB8.out.below hb9 HXB8.out.lt
  have y1 : w9.cell? ⟨w6.heap.size, 1, none⟩ = some (.int .i64 good) := HXB.cell 1
  clear HXB hb9
  by_cases h0 : q2 = 0
  case pos =>
    subst h0
    go_wp2_with fail
    refine (works_any w9).mono ?_
    rintro e w' ⟨rfl, hb⟩
    have hfin := (FF.out _ (HC9.out.trans (hb.mono HC9.out.size))).2.2.2
    clear hb y1
    go_wp2_with fail
    go_ret
    exact ⟨rfl, hfin⟩
  have hpos : 0 < q2 := by omega
  have hne0 : ((q2 : Int) == 0) = false := by rw [beq_eq_false_iff_ne]; omega
  obtain ⟨ad, e, rfl, hA, hek, hat⟩ := (FF.out _ HC9.out).1.at_ hpos
  have hat' : At w9 ad e := by
    have h : ad.add (0 * 6) = ad := by cases ad; simp [Addr.add]
    rwa [h] at hat
  have HR : Hid (Right e) := Lib.hid (HAR.out e (List.mem_of_getElem? hek))
  obtain ⟨c0, c1', c2', c3, c4, c5'⟩ := hat'
  have hE : Hid (.agg #[.int .i64 e.epoch, .int .i64 e.id, .int .i64 e.num, .int .i64 e.seq, .int .i64 e.kind, .int .i64 e.value] = e.val) := Lib.hid rfl
  clear hek hat hA
  go_wp2_with fail
  clear c0 c1' c2' c3 c4 c5' y1
  rw [hE.out]
  refine (frameOf_any e w9).mono ?_
  rintro r w10 ⟨hb10, ⟨-, v10, rfl, ho10⟩ | ⟨hN, -⟩⟩
  case inr => exact absurd HR.out hN
  have HC10 := Lib.hid (HC9.out.trans (hb10.mono HC9.out.size))
  obtain ⟨A10, q10, c10, rfl, hq10⟩ := ho10.form2
  have HF10 := length_frame HR.out
  have hp10 : q10 ≤ 40 ∧ 6 ≤ q10 := by omega
  have HSL : Hid ((frame e).length = q10) := Lib.hid hq10.symm
  have HY10 := Lib.hid ho10.bys
  have HTU : Hid (∀ x y z : Int, turnF (turnF (turnF (frame e) x) y) z ≠ frame e → rd (turnF (turnF (turnF (frame e) x) y) z) = .err 110) := Lib.hid (fun x y z h => by
    have hl := length_body e HR.out
    exact rd_turned (body e) hl.1 hl.2 x y z h)
  clear hq10 ho10 hb10 HF10
  generalize frame e = s at *
  go_wp2_with (at_builtin; refine stop ?_)
  refine Stop.go (wpList_append_want _ (by rfl) _ _ (by rfl) w10.heap.size _ [] (by rfl) (own_empty _ _ (Nat.le_refl _)) w10.heap.size A10 q10 c10 s (by rfl) (HY10.out.alloc (Nat.le_refl _) _) (by simp) (by omega) (le_alloc (Nat.le_refl _) _) ?_)
  intro v11 w11 ho11 hb
  rw [List.nil_append] at ho11
  have hb11 : Below w10.heap.size w10 w11 := ((Below.refl _ _).alloc (Nat.le_refl _) _).trans hb
  clear hb
  have HC11 := Lib.hid (HC10.out.trans (hb11.mono HC10.out.size))
  have HY11 := Lib.hid (HY10.out.below hb11)
  have hz11 := hb11.size
  obtain ⟨g, c11, rfl, hg11⟩ := own_pos ho11 (by rw [HSL.out]; omega)
  rw [HSL.out] at ho11
  rw [HSL.out]
  have HO11 := Lib.hid ho11
  clear ho11 hb11
  go_wp2_with fail
  go_loopw [14] (fun i W => ∃ n : Nat, n ≤ 3 ∧ i = .int .i64 n ∧ Own W w10.heap.size (.slice (some ⟨g, 0, none⟩) q10 c11) (after s bp bq br n) ∧ Below w10.heap.size w11 W) (fun i _ => 3 - (intOf i).toNat)
  case atStart => exact ⟨0, by omega, rfl, HO11.out, Below.refl _ _⟩
  case round =>
    obtain ⟨n, hn, rfl, hon, hbn⟩ := hrel
    have HCN := Lib.hid (HC11.out.trans (hbn.mono HC10.out.size))
    have hbit := fun hn3 => bit_cell (FF.out _ HCN.out).2.2.1 n hn3
    have hbb := bit_bounds hbp hbq hbr n
    have HAF : Hid (n < 3 → after s bp bq br (n + 1) = turnF (after s bp bq br n) (bitAt bp bq br n)) := Lib.hid (after_succ s bp bq br n)
    have HLA : Hid ((after s bp bq br n).length = q10) := Lib.hid (by rw [length_after, HSL.out])
    by_cases hn3 : n < 3
    · have hcb := hbit hn3
      generalize bitAt bp bq br n = b at *
      clear hbit
      by_cases hneg : 0 ≤ b
      · obtain ⟨m, rfl⟩ := Int.eq_ofNat_of_zero_le hneg
        have e1 : (m : Int).tdiv 8 = (m : Int) / 8 := Int.tdiv_eq_ediv_of_nonneg (by omega)
        have e2 : IntKind.i64.wrap ((m : Int) / 8) = (m : Int) / 8 := IntWalk.i64_in _ (by omega)
        by_cases hbig : (m : Int) < 8 * (q10 : Int)
        · by_cases h4 : (m : Int) / 8 = 4
          · have HT : Hid (after s bp bq br (n + 1) = after s bp bq br n) := Lib.hid (by rw [HAF.out hn3]; unfold turnF; rw [if_pos h4])
            have h4b : ((m : Int) / 8 != 4) = false := by rw [h4]; rfl
            go_wp2_with fail
            go_roundw
            case rel => exact ⟨n + 1, by omega, by go_num, by rw [HT.out]; exact hon, hbn⟩
            case measure => simp [intOf]; omega
          have h4b : ((m : Int) / 8 != 4) = true := by rw [bne_iff_ne]; exact h4
          have hm : m < 8 * q10 := by omega
          generalize after s bp bq br n = L at *
          have hlt : m / 8 < L.length := by rw [HLA.out]; omega
          have hrow : wr.ownsRow w10.heap.size 5 1 (.slice (some ⟨g, 0, none⟩) q10 c11) q10 (L.map byteV) := by
            have h := hon
            unfold Own at h
            rw [HLA.out] at h
            exact h
          have hcell : wr.cell? ⟨g, m / 8, none⟩ = some (.int .u8 ((L[m / 8]).toNat : Int)) := by
            rw [hrow.cellAt (m / 8) (by omega), List.getElem?_map, List.getElem?_eq_getElem hlt]
            rfl
          have hfroz := hrow.frozenAt (m / 8)
          have hset : turnF L (m : Int) = L.set (m / 8) (UInt8.ofNat ((L[m / 8]).toNat ^^^ 2 ^ (m % 8))) := by
            unfold turnF
            rw [if_neg h4]
            exact turn_set hlt
          have HSET := Lib.hid hset
          clear hset
          have HV := Lib.hid (flip_bits L[m / 8] m)
          have HB := Lib.hid (flip_byte L[m / 8] m)
          generalize L[m / 8] = x at *
          go_wp2_with fail
          have e1 : (m : Int).tdiv 8 = (m : Int) / 8 := Int.tdiv_eq_ediv_of_nonneg (by omega)
          have e3 : (m : Int).tmod 8 = (m : Int) % 8 := Int.tmod_eq_emod_of_nonneg (by omega)
          have e2 : IntKind.i64.wrap ((m : Int) / 8) = (m : Int) / 8 := IntWalk.i64_in _ (by omega)
          have e4 : IntKind.i64.wrap ((m : Int) % 8) = (m : Int) % 8 := IntWalk.i64_in _ (by omega)
          have b1 : (0 : Int) ≤ (m : Int) / 8 := by omega
          have b2 : (m : Int) / 8 < (q10 : Int) := by omega
          have b3 : ((m : Int) / 8).toNat = m / 8 := by omega
          have b4 : (0 : Int) ≤ (m : Int) % 8 := by omega
          go_still_tail 20, (by kernel_rfl)
          rw [HV.out]
          change wpList _ _ _ _ _ wr.drew
          clear e1 e2 e3 e4 b1 b2 b3 b4
          go_wp2_with fail
          go_roundw
          case rel =>
            obtain ⟨hst, hgr⟩ := hrow.stored (m / 8) (byteV (UInt8.ofNat (x.toNat ^^^ 2 ^ (m % 8))))
            rw [HB.out] at hst hgr
            refine ⟨n + 1, by omega, by go_num, ?_, ?_⟩
            · rw [HAF.out hn3, HSET.out]
              unfold Own
              rw [List.length_set, HLA.out, List.map_set, HB.out]
              exact hst.drew
            · exact (hbn.trans (below_of_grown hgr (by have := hbn.size; omega) (fun g' e => by injection e with e; omega))).drew
          case measure => simp [intOf]; omega
        · have HT : Hid (after s bp bq br (n + 1) = after s bp bq br n) := Lib.hid (by rw [HAF.out hn3]; unfold turnF; split; rfl; exact Crc.turn_no (by rw [HLA.out]; omega))
          go_wp2_with fail
          go_roundw
          case rel => exact ⟨n + 1, by omega, by go_num, by rw [HT.out]; exact hon, hbn⟩
          case measure => simp [intOf]; omega
      · have HT : Hid (after s bp bq br (n + 1) = after s bp bq br n) := Lib.hid (by rw [HAF.out hn3]; unfold turnF; split; rfl; exact Crc.turn_no (by omega))
        go_wp2_with fail
        go_roundw
        case rel => exact ⟨n + 1, by omega, by go_num, by rw [HT.out]; exact hon, hbn⟩
        case measure => simp [intOf]; omega
    obtain rfl : n = 3 := by omega
    have HTT : Hid (after s bp bq br 3 ≠ s → rd (after s bp bq br 3) = .err 110) := Lib.hid (HTU.out bp bq br)
    generalize after s bp bq br 3 = t at *
    have ht := hon.bys
    obtain ⟨hct, hct2⟩ := hon.cap
    have hmx11 : c11 ≤ 9223372036854775807 := by unfold maxLen at hct2; omega
    have q1' := conv_str wr _ (some ⟨g, 0, none⟩) q10 c11 t ht
    have q2' := conv_str wr _ A10 q10 c10 s (HY11.out.below hbn)
    have t1 := str_toList t
    have t2 := str_toList s
    clear hct2 hbit HAF hbb hbn
    by_cases hts : t = s
    · have heq : (t == s) = true := by rw [hts]; simp
      clear hts
      go_wp2_with (go_at_call 17; refine (num_any _ _).mono ?_; rintro e w' ⟨rfl, rfl⟩)
      refine (works_any wr).mono ?_
      rintro e w' ⟨rfl, hb⟩
      have hfin := (FF.out _ (HCN.out.trans (hb.mono HCN.out.size))).2.2.2
      clear hb q1' q2' t1 t2 heq
      go_wp2_with fail
      go_ret
      exact ⟨rfl, hfin⟩
    · have heq : (t == s) = false := beq_eq_false_iff_ne.2 hts
      have HRD := Lib.hid (HTT.out hts)
      clear hts
      go_wp2_with fail
      clear q1' q2' t1 t2 heq
      refine (read_any (some ⟨g, 0, none⟩) q10 c11 t wr ht hct (by omega)).mono ?_
      rintro r w12 ⟨rfl, hb12⟩
      rw [HRD.out]
      have HC12 := Lib.hid (HCN.out.trans (hb12.mono HCN.out.size))
      have HC13 := Lib.hid (HC12.out.alloc HC12.out.size (.cells #[.int .i64 0, .int .i64 0, .int .i64 0, .int .i64 0, .int .i64 0, .int .i64 0] 38))
      clear hb12
      simp only [rdEnt, rdLen, rdErr, Ent.val, Ent.none_]
      unfold Ent.cells
      have hq : ∀ W, (binOp .eql 38 (.agg #[.int .i64 0, .int .i64 0, .int .i64 0, .int .i64 0, .int .i64 0, .int .i64 0]) (.agg #[.int .i64 0, .int .i64 0, .int .i64 0, .int .i64 0, .int .i64 0, .int .i64 0])).run Try.prog W = .ok (.bool true) W := fun W => by
        have := eql38 ⟨0, 0, 0, 0, 0, 0⟩ ⟨0, 0, 0, 0, 0, 0⟩ W
        rwa [same_refl] at this
      go_wp2_with (go_at_call 17; refine (num_any _ _).mono ?_; rintro e w' ⟨rfl, rfl⟩)
      generalize w12.alloc (.cells #[.int .i64 0, .int .i64 0, .int .i64 0, .int .i64 0, .int .i64 0, .int .i64 0] 38) = w13 at *
      clear hq
      refine (works_any w13).mono ?_
      rintro e w' ⟨rfl, hb⟩
      have hfin := (FF.out _ (HC13.out.trans (hb.mono HC13.out.size))).2.2.2
      clear hb
      go_wp2_with fail
      go_ret
      exact ⟨rfl, hfin⟩

set_option maxRecDepth 100000 in
theorem lifted (os : Os) (started : os.Started) (H : Type) (enc : TypeId × Value → H) :
    ReturnsInHanded {} Try.checked os 13 .any (Rows.wireBackSpec.pre6 enc Try.prog Try.f13 Rows.wireBackRow.domain false) (Rows.wireBackSpec.post enc Try.prog Try.f13 false true false false) := by
  refine returnsInHanded_of_change (C := Try.checked) own started (by kernel_rfl) Try.func13
    (ChangeSpec.witness6 (enc := enc) (C := Try.checked) false ⟨#[], #[.slice none 0 0, .slice none 0 0, .agg #[.int .i64 0, .int .i64 0, .int .i64 0]], []⟩ 8 (by kernel_rfl) (by kernel_rfl) (by kernel_rfl) (by kernel_rfl)) ?_
  intro W base args ds gs before hval0 hW hcnd _
  have hval : ∀ (j : Nat) t v, Try.f13.params[j]? = some t → args[j]? = some v → Value.okWide Try.prog W .any base t v := hval0
  have hW' := hW
  obtain ⟨p, q, hA0, hV, rfl, hfz, hnd⟩ := hW
  have hA : DataW.TrodAll enc Try.prog W 0 (fun _ => true) true Try.f13.params.toList args.toList ds p := hA0
  rw [Try.params13] at hA hval
  obtain ⟨v0, vs0, d0, ds0, p0, q0, hargs, rfl, rfl, h0, r0⟩ := trodAll_cons hA
  obtain ⟨v1, vs1, d1, ds1, p1, q1, rfl, rfl, rfl, h1, r1⟩ := trodAll_cons r0
  obtain ⟨v2, vs2, d2, ds2, p2, q2, rfl, rfl, rfl, h2, r2⟩ := trodAll_cons r1
  obtain ⟨rfl, rfl, rfl⟩ := trodAll_nil r2
  obtain rfl : args = #[v0, v1, v2] := by cases args; simp_all
  obtain ⟨rfl, rfl⟩ := trodVars_none hV
  have k0 := h0
  have lt0 : ∀ x ∈ p0, x.block < W.heap.size := by obtain ⟨m, hm⟩ := k0; exact DataW.trod_lt m _ _ _ hm
  obtain ⟨a0, len0, cap0, rfl⟩ := okWide_slice Try.underlying43 (hval 0 43 v0 rfl rfl)
  obtain ⟨es0, b0, hc0, hm0⟩ := open_ents h0
  have k1 := h1
  have lt1 : ∀ x ∈ p1, x.block < W.heap.size := by obtain ⟨m, hm⟩ := k1; exact DataW.trod_lt m _ _ _ hm
  obtain ⟨a1, len1, cap1, rfl⟩ := okWide_slice Try.underlying22 (hval 1 22 v1 rfl rfl)
  obtain ⟨z1, w1⟩ : ∃ zs, IsRow .u8 W a1 len1 cap1 zs := by
    obtain ⟨fuel, hf⟩ := h1
    rcases open_ints Try.underlying22 Try.underlying5 (by kernel_rfl) hf with ⟨hcs, _⟩ | ⟨x, l, c, zs, hcs, _, hl, hm, hz, _, hcell, hwz⟩
    · simp [Value.cells] at hcs
      obtain ⟨rfl, rfl, rfl⟩ := hcs
      exact ⟨[], .inl ⟨rfl, rfl, rfl, rfl⟩⟩
    · simp [Value.cells] at hcs
      obtain ⟨rfl, rfl, rfl⟩ := hcs
      exact ⟨zs, .inr ⟨_, rfl, hl, hm, by simpa using hz, hcell, hwz⟩⟩
  obtain ⟨l1, b1, hc1, hm1⟩ := w1.bys
  have k2 := h2
  have lt2 : ∀ x ∈ p2, x.block < W.heap.size := by obtain ⟨m, hm⟩ := k2; exact DataW.trod_lt m _ _ _ hm
  obtain ⟨bp, bq, br, rfl, wb0, wb1, wb2⟩ : ∃ b0 b1 b2 : Int, v2 = .agg #[.int .i64 b0, .int .i64 b1, .int .i64 b2] ∧ (Lit.int .i64 b0).wf = true ∧ (Lit.int .i64 b1).wf = true ∧ (Lit.int .i64 b2).wf = true := by
    obtain ⟨cs, rfl, hcsz, _⟩ : ∃ cs, v2 = .agg cs ∧ cs.size = Try.prog.cellsOf 61 ∧ Row.okWide Try.prog W .any base 61 cs := by
      have := hval 2 61 v2 rfl rfl
      simpa [Value.okWide, Try.underlying61] using this
    obtain ⟨c0, c1, c2, rfl⟩ := Joins.array3 (hcsz.trans cells61)
    obtain ⟨fuel, hf⟩ := h2
    obtain ⟨y0, y1, y2, m, _, hy0, hy1, hy2⟩ := trod_array3 Try.underlying61 cells3 hf
    obtain ⟨x0, e0, _, wx0⟩ := DataW.trod_int Try.underlying3 hy0
    obtain ⟨x1, e1, _, wx1⟩ := DataW.trod_int Try.underlying3 hy1
    obtain ⟨x2, e2, _, wx2⟩ := DataW.trod_int Try.underlying3 hy2
    simp at e0 e1 e2
    subst e0 e1 e2
    exact ⟨x0, x1, x2, rfl, wx0, wx1, wx2⟩
  clear hA0 hval0
  refine (walk a0 len0 cap0 es0 a1 len1 cap1 l1 bp bq br W b0 hc0 hm0 b1 hc1 hm1 (i64_bounds wb0) (i64_bounds wb1) (i64_bounds wb2)).mono fun e W' ⟨he, bel⟩ => ?_
  subst he
  exact ⟨_, rfl, _, _, _, [], _, [], hW', trodAll_mk1 (shut_bool Try.underlying4 _), (trodAll_cons_mk (Below.trod laidOut (by kernel_rfl) (of_decide_eq_true (by kernel_rfl)) k0 bel lt0) (trodAll_cons_mk (Below.trod laidOut (by kernel_rfl) (of_decide_eq_true (by kernel_rfl)) k1 bel lt1) (trodAll_cons_mk (Below.trod laidOut (by kernel_rfl) (of_decide_eq_true (by kernel_rfl)) k2 bel lt2) trodAll_mk0))), rfl, bel.frame _, fun h => by cases h⟩

theorem over : Rows.wireBackRow.holds Try.pinned (OpenSpec.ofChange Rows.wireBackSpec) :=
  OpenClaim.holds_of_wide 13 Try.f13 rfl rfl rfl rfl rfl rfl rfl ⟨rfl, rfl, rfl, rfl, rfl⟩ rfl rfl rfl rfl rfl (by kernel_rfl) Try.func13 (by kernel_rfl)
    (of_decide_eq_true (by kernel_rfl)) (by unfold Func.isWrapper; first | (rw [if_pos (by decide +kernel)]; kernel_rfl) | (rw [if_neg (by decide +kernel)]; exact ⟨rfl, rfl⟩))
    (fun os started H enc _ => lifted os started H enc)

theorem proved : Rows.WireBackSaid := over
end Go.Proofs.Ytickdpgfiianjaa.wireBack
namespace Go.Proofs.Ytickdpgfiianjaa
theorem wireBack_holds : Rows.WireBackSaid := wireBack.proved
#print axioms wireBack_holds
end Go.Proofs.Ytickdpgfiianjaa
