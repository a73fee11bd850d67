/-
  What the document's own sum (waystationref01.run, .xor) and the program's table of words (sums.byteTable and its closure) answer, as calls of the translated program. Conditions: fewer than 1000000 bytes.
-/
import Derived.Test.YtickdpgfiianjaaRows
import Derived.Test.YtickdpgfiianjaaWords
import Derived.WalkKit
import Derived.WalkSpells
import Derived.WalkLawsBesides
import Derived.ProofKit
import Derived.Deep.MidRow
namespace Go.Proofs.Ytickdpgfiianjaa
open Go.RowKit
namespace Crc
theorem steps_succ (k : Nat) : ∀ w : Nat, steps (k + 1) w = step (steps k w) := by
  induction k with
  | zero => intro w; rfl
  | succ k ih => intro w; exact ih (step w)
theorem step_even {n : Nat} (h : n % 2 = 0) : step n = n / 2 := by unfold step; rw [if_neg (by omega)]
theorem step_odd {n : Nat} (h : n % 2 = 1) : step n = n / 2 ^^^ 2197175160 := by unfold step; rw [if_pos h]
end Crc
theorem take_snoc_some {α : Type} {l : List α} {k : Nat} {x : α} (h : l[k]? = some x) : l.take (k + 1) = l.take k ++ [x] := by
  rw [List.take_add_one, h]; rfl
theorem ret_u32 {a b : Int} (h : a = b) : Ending.returned (.int .u32 a) = .returned (.int .u32 b) := by rw [h]
theorem u32_eq {a b : Int} (h : a = b) : Value.int .u32 a = .int .u32 b := by rw [h]

theorem xor_any (a b : Nat) (ha : a < 4294967296) (hb : b < 4294967296) (w : World) : Calls Try.prog 75 #[.int .u32 (a : Int), .int .u32 (b : Int)] w fun e w' => e = .returned (.int .u32 ((a ^^^ b : Nat) : Int)) ∧ w = w' := by
  go_enter Try.func75, Try.ntmps75
  go_wp2
  go_ret
  exact ⟨ret_u32 (u32_xor_nat a b ha hb), rfl⟩

theorem mask_bits (n : Nat) (hn : n < 4294967296) : bits .xor .u32 ((n : Int) / 2) (bits .and .u32 2197175160 (-bits .and .u32 (n : Int) 1 % 4294967296)) = ((Crc.step n : Nat) : Int) := by
  have h1 : bits .and .u32 (n : Int) 1 = ((n % 2 : Nat) : Int) := by
    have := u32_and_nat n 1 hn (by omega)
    rw [Nat.and_one_is_mod] at this
    exact this
  have h2 : -((n % 2 : Nat) : Int) % 4294967296 = (((4294967296 - n % 2) % 4294967296 : Nat) : Int) := by omega
  have h3 := u32_and_nat 2197175160 ((4294967296 - n % 2) % 4294967296) (by omega) (by omega)
  have h4 : (2197175160 &&& ((4294967296 - n % 2) % 4294967296) : Nat) < 4294967296 := Nat.lt_of_le_of_lt Nat.and_le_left (by omega)
  have h5 := u32_xor_nat (n / 2) (2197175160 &&& ((4294967296 - n % 2) % 4294967296)) (by omega) h4
  rw [Crc.step_mask] at h5
  rw [h1, h2]
  rw [show ((2197175160 : Nat) : Int) = 2197175160 from rfl] at h3
  rw [h3]
  exact h5
set_option maxHeartbeats 400000 in
theorem tab_any (a : Nat) (ha : a < 4294967296) (w : World) : Calls Try.prog 80 #[.int .u32 (a : Int)] w fun e w' => e = .returned (.int .u32 ((Crc.steps 8 a : Nat) : Int)) ∧ w = w' := by
  go_enter Try.func80, Try.ntmps80
  go_wp2
  go_loop [0, 3] (fun t i => ∃ k : Nat, k ≤ 8 ∧ i = .int .i64 k ∧ t = .int .u32 ((Crc.steps k a : Nat) : Int)) (fun _ i => 8 - (intOf i).toNat)
  case atStart => exact ⟨0, by omega, rfl, rfl⟩
  case round =>
    obtain ⟨k, hk, rfl, rfl⟩ := hrel
    have hn := Crc.steps_lt k (w := a) (by omega)
    by_cases hlt : k < 8
    · have hs : Hid ((Crc.steps (k + 1) a : Nat) = Crc.step (Crc.steps k a)) := Lib.hid (Crc.steps_succ k a)
      generalize Crc.steps k a = n at *
      go_wp2
      go_round
      case rel => exact ⟨k + 1, by omega, by go_num, by rw [hs.out]; exact u32_eq (mask_bits n (by omega))⟩
      case measure => simp [intOf]; omega
    · obtain rfl : k = 8 := by omega
      go_wp2
      go_ret
      exact ⟨rfl, rfl⟩
set_option maxHeartbeats 1000000 in
theorem run_any (a : Nat) (ha : a < 4294967296) (A : Option Addr) (n c B : Nat) (l : List UInt8) (w : World) (hr : Bys w B A n l) (hn : n < 1000000) :
    Calls Try.prog 69 #[.int .u32 (a : Int), .slice A n c] w fun e w' => e = .returned (.int .u32 ((Crc.run a l : Nat) : Int)) ∧ w = w' := by
  go_enter Try.func69, Try.ntmps69
  go_wp2
  go_loop [0, 5] (fun t i => ∃ k : Nat, k ≤ n ∧ i = .int .i64 k ∧ t = .int .u32 ((Crc.run a (l.take k) : Nat) : Int)) (fun _ i => n - (intOf i).toNat)
  case atStart => exact ⟨0, by omega, rfl, rfl⟩
  case round =>
    obtain ⟨k, hk, rfl, rfl⟩ := hrel
    have hq := Crc.run_lt (l.take k) (w := a) (by omega)
    by_cases hlt : k < n
    · obtain ⟨ad, x, rfl, hb, hx, hc⟩ := hr.at_ hlt
      have hxl := UInt8.toNat_lt x
      have hsn : Crc.run a (l.take (k + 1)) = Crc.steps 8 (Crc.run a (l.take k) ^^^ x.toNat) := by
        rw [take_snoc_some hx, Crc.run_snoc]; rfl
      have HS := Lib.hid hsn
      clear hsn hx
      have hx2 : (Crc.run a (l.take k) ^^^ x.toNat) < 2 ^ 32 := Nat.xor_lt_two_pow hq (by omega)
      go_wp2_with (go_at_call 75; refine (xor_any _ _ (by omega) (by omega) _).mono ?_; rintro e w' ⟨rfl, rfl⟩)
      generalize Crc.run a (l.take k) ^^^ x.toNat = m at *
      go_loop [0, 6] (fun t i => ∃ j : Nat, j ≤ 8 ∧ i = .int .i64 j ∧ t = .int .u32 ((Crc.steps j m : Nat) : Int)) (fun _ i => 8 - (intOf i).toNat)
      case atStart => exact ⟨0, by omega, rfl, rfl⟩
      case round =>
        obtain ⟨j, hj, rfl, rfl⟩ := hrel
        have hs : Hid ((Crc.steps (j + 1) m : Nat) = Crc.step (Crc.steps j m)) := Lib.hid (Crc.steps_succ j m)
        have hz := Crc.steps_lt j (w := m) (by omega)
        by_cases hj8 : j < 8
        · generalize Crc.steps j m = z at *
          rcases Nat.mod_two_eq_zero_or_one z with hodd | hodd
          · have e := Crc.step_even hodd
            have he : (((z : Int) % 2) == 1) = false := by rw [beq_eq_false_iff_ne]; omega
            have H := Lib.hid e
            clear e hodd
            go_wp2_with fail
            go_round
            case rel => exact ⟨j + 1, by omega, by go_num, by rw [hs.out, H.out]; exact u32_eq (by omega)⟩
            case measure => simp [intOf]; omega
          · have e := Crc.step_odd hodd
            have he : (((z : Int) % 2) == 1) = true := by rw [beq_iff_eq]; omega
            have H := Lib.hid e
            clear e hodd
            go_wp2_with fail
            rw [show ((z : Int) / 2) = ((z / 2 : Nat) : Int) from by omega]
            refine (xor_any (z / 2) 2197175160 (by omega) (by omega) _).mono ?_; rintro e w' ⟨rfl, rfl⟩
            go_wp2_with fail
            go_round
            case rel => exact ⟨j + 1, by omega, by go_num, by rw [hs.out, H.out]⟩
            case measure => simp [intOf]; omega
        · obtain rfl : j = 8 := by omega
          go_wp2_with fail
          go_round
          case rel => exact ⟨k + 1, by omega, by go_num, by rw [HS.out]⟩
          case measure => simp [intOf]; omega
    · go_wp2
      go_ret
      exact ⟨ret_u32 (by rw [List.take_of_length_le (by have := hr.1; omega)]), rfl⟩
/-- The first k words of the table, behind them noughts. -/
def tabTo (k : Nat) : Array Value := Array.ofFn (n := 256) fun i => if i.val < k then Value.int .u32 ((Crc.steps 8 i.val : Nat) : Int) else Value.int .u32 0
def zeros : Array Value := Array.replicate 256 (Value.int .u32 0)
theorem tabTo_zero : tabTo 0 = zeros := by
  apply Array.ext
  · simp [tabTo, zeros]
  · intro i h1 h2; simp [tabTo, zeros]
theorem size_tabTo (k : Nat) : (tabTo k).size = 256 := by simp [tabTo]
theorem tabTo_set (k : Nat) : (tabTo k).setIfInBounds k (.int .u32 ((Crc.steps 8 k : Nat) : Int)) = tabTo (k + 1) := by
  apply Array.ext
  · simp [tabTo]
  · intro i h1 h2
    simp only [tabTo, Array.size_setIfInBounds, Array.size_ofFn] at h1 h2
    rw [Array.getElem_setIfInBounds (by rw [size_tabTo]; exact h1)]
    by_cases e : k = i
    · subst e; simp [tabTo]
    · simp only [tabTo, Array.getElem_ofFn]
      rw [if_neg e]
      by_cases h : i < k
      · rw [if_pos h, if_pos (by omega)]
      · rw [if_neg h, if_neg (by omega)]
theorem zero104 (w : World) : (zeroValue 104).run Try.prog w = .ok (.agg zeros) w := by kernel_rfl
theorem tabTo_at (k i : Nat) (hi : i < 256) : ∃ v, (tabTo k)[i]? = some v := ⟨_, Array.getElem?_eq_getElem (by rw [size_tabTo]; exact hi)⟩
theorem below_setCells {B b : Nat} {a : World} (hb : B ≤ b) : ∀ (vs : List Value) (o : Nat) (w : World), Below B a w → Below B a (w.setCells b o vs)
  | [], _, _, h => h
  | v :: vs, o, w, h => below_setCells hb vs (o + 1) (w.setCell ⟨b, o, none⟩ v) (h.setCell hb v)
set_option maxHeartbeats 400000 in
set_option maxRecDepth 100000 in
theorem table_any (w : World) : Calls Try.prog 79 #[] w fun e w' => e = .returned (.agg (tabTo 256)) ∧ Below w.heap.size w w' := by
  have hz := zero104
  go_enter Try.func79, Try.ntmps79
  go_wp2_with fail
  clear hz
  go_loopw [3, 4] (fun _ i wr => ∃ k : Nat, k ≤ 256 ∧ i = .int .i64 k ∧ Blk wr (w.heap.size + 1) 104 (tabTo k) ∧ Blk wr w.heap.size 104 zeros ∧ Below w.heap.size w wr) (fun _ i _ => 256 - (intOf i).toNat)
  case atStart => 
    refine ⟨0, by omega, rfl, ?_, ?_, ?_⟩
    · rw [tabTo_zero]; exact heap_alloc2_new _ _ _
    · exact heap_alloc2_old _ _ _
    · exact ((Below.refl _ _).alloc (Nat.le_refl _) _).alloc (by simp) _
  case round =>
    obtain ⟨k, hk, rfl, hb1, hb0, hbel⟩ := hrel
    by_cases hlt : k < 256
    · obtain ⟨v, hv⟩ := tabTo_at k k hlt
      have hc := (hb1.cell k).trans hv
      have hf := hb1.frozen k
      clear hv
      go_wp2_with (go_at_call 80; refine (tab_any _ (by omega) _).mono ?_; rintro e w' ⟨rfl, rfl⟩)
      go_roundw
      case rel =>
        refine ⟨k + 1, by omega, by go_num, ?_, hb0.far (by simp) _, hbel.setCell (by simp) _⟩
        rw [← tabTo_set k]
        exact hb1.set_ k _
      case measure => simp [intOf]; omega
    · obtain rfl : k = 256 := by omega
      have hi1 : (Try.prog.info? 104).map (·.size) = some (tabTo 256).size := by rw [size_tabTo]; kernel_rfl
      have ht : wr.there w.heap.size 0 (tabTo 256).size := by
        intro j hj
        rw [size_tabTo] at hj
        refine ⟨?_, hb0.frozen _⟩
        rw [hb0.cell]
        rw [Nat.zero_add, Array.getElem?_eq_getElem (by simpa [zeros] using hj)]
        rfl
      have h1 : (tabTo 256).all (·.oneCell') = true := by
        rw [Array.all_eq_true]
        intro i hi
        rw [size_tabTo] at hi
        simp only [tabTo, Array.getElem_ofFn]
        rw [if_pos hi]; rfl
      have hcs : (wr.setCells w.heap.size 0 (tabTo 256).toList).rangeAt w.heap.size 0 (tabTo 256).toList := World.rangeAt_setCells_same wr _ 0 _ (by simpa using ht)
      go_wp2_with (first | (refine wpList_load_row rfl 104 _ rfl (w.heap.size + 1) rfl 104 (tabTo 256) (0, 0) _ hb1 Try.underlying104 rfl hi1 ?_) | (refine wpList_store_mid rfl 104 _ _ rfl w.heap.size 0 (tabTo 256) rfl rfl ht hi1 h1 ?_))
      have hres := run_loadVar_mid (P := Try.prog) _ w.heap.size 0 104 (tabTo 256).toList _ hcs Try.underlying104 rfl (by simpa using hi1)
      rw [Array.toArray_toList] at hres
      refine bodyPost_ret (v := .agg (tabTo 256)) ?_ rfl ⟨rfl, below_setCells (Nat.le_refl _) _ _ _ hbel⟩
      simp [results, Try.results79, asAddr, hres, Act.put]
end Go.Proofs.Ytickdpgfiianjaa
