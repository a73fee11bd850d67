/-
  What sums.More, sums.Sum, waystationref01.More and waystationref01.Sum answer: the sum of the bytes. Conditions: fewer than 1000000 bytes, the sum a word of 32 bits.
-/
import Derived.Test.YtickdpgfiianjaaBegin
namespace Go.Proofs.Ytickdpgfiianjaa
open Go.RowKit
theorem index_bits (q x : Nat) (hx : x < 256) : bits .xor .u8 ((q : Int) % 256) (x : Int) = (((q % 256) ^^^ x : Nat) : Int) := by
  have := u8_xor_nat (q % 256) x (by omega) hx
  rw [← this]
  rfl
theorem eat_bits (q x : Nat) (hq : q < 4294967296) (hx : x < 256) : bits .xor .u32 ((q : Int) / 256) ((Crc.steps 8 ((q % 256) ^^^ x) : Nat) : Int) = ((Crc.eat q x : Nat) : Int) := by
  rw [Crc.eat_table hx]
  have h : (q % 256) ^^^ x < 2 ^ 32 := Nat.xor_lt_two_pow (by omega) (by omega)
  have := u32_xor_nat (q / 256) (Crc.steps 8 ((q % 256) ^^^ x)) (by omega) (by have := Crc.steps_lt 8 h; omega)
  rw [← this]
  rfl
set_option maxHeartbeats 400000 in
set_option maxRecDepth 100000 in
theorem add_any (g n : Nat) (hn : n < 4294967296) (A : Option Addr) (m c B : Nat) (l : List UInt8) (w : World) (hg : Blk w g 107 (running (n : Int))) (hr : Bys w B A m l) (hm : m < 1000000) :
    Calls Try.prog 77 #[.pointer (some ⟨g, 0, none⟩), .slice A m c] w fun e w' => e = .returned (.tuple #[]) ∧ w.setCell ⟨g, 0, none⟩ (.int .u32 ((Crc.run n l : Nat) : Int)) = w' := by
  have hc0 := (hg.cell 0).trans (running_word _)
  have hf0 := hg.frozen 0
  have H0 := Lib.hid hf0
  clear hf0
  go_enter Try.func77, Try.ntmps77
  go_wp2
  go_loop [4, 13] (fun t i => ∃ k : Nat, k ≤ m ∧ i = .int .i64 k ∧ t = .int .u32 ((Crc.run n (l.take k) : Nat) : Int)) (fun _ i => m - (intOf i).toNat)
  case atStart => exact ⟨0, by omega, rfl, rfl⟩
  case round =>
    obtain ⟨k, hk, rfl, rfl⟩ := hrel
    have hq := Crc.run_lt (l.take k) (w := n) (by omega)
    by_cases hlt : k < m
    · obtain ⟨ad, x, rfl, hb, hx, hc⟩ := hr.at_ hlt
      have hxl := UInt8.toNat_lt x
      have hsn : Crc.run n (l.take (k + 1)) = Crc.eat (Crc.run n (l.take k)) x.toNat := by rw [take_snoc_some hx, Crc.run_snoc]
      have HS := Lib.hid hsn
      clear hsn hx
      generalize Crc.run n (l.take k) = q at *
      have hi := index_bits q x.toNat (by omega)
      have hi256 : (q % 256) ^^^ x.toNat < 256 := Nat.xor_lt_two_pow (n := 8) (by omega) (by omega)
      have hy1 : 0 ≤ bits BinOp.xor IntKind.u8 ((q : Int) % 256) (x.toNat : Int) ∧ bits BinOp.xor IntKind.u8 ((q : Int) % 256) (x.toNat : Int) < 256 := by rw [hi]; omega
      have hcell : w.cell? ⟨g, 1 + (bits BinOp.xor IntKind.u8 ((q : Int) % 256) (x.toNat : Int)).toNat, none⟩ = some (.int .u32 ((Crc.steps 8 ((q % 256) ^^^ x.toNat) : Nat) : Int)) := by
        rw [hi, Int.toNat_natCast]
        exact (hg.cell _).trans (running_at _ _ hi256)
      clear hi
      have hfin := eat_bits q x.toNat (by omega) (by omega)
      have HF := Lib.hid hfin
      clear hfin hi256
      go_wp2_with fail
      go_round
      case rel => exact ⟨k + 1, by omega, by go_num, by rw [HS.out]; exact u32_eq HF.out⟩
      case measure => simp [intOf]; omega
    · have hf0 := H0.out
      have hk : l.take k = l := List.take_of_length_le (by have := hr.1; omega)
      have HK := Lib.hid hk
      clear hk
      go_wp2
      go_end0
      exact ⟨rfl, by rw [HK.out]⟩
set_option maxHeartbeats 400000 in
theorem told_any (g n : Nat) (hn : n < 4294967296) (w : World) (hg : Blk w g 107 (running (n : Int))) :
    Calls Try.prog 78 #[.pointer (some ⟨g, 0, none⟩)] w fun e w' => e = .returned (.int .u32 ((4294967295 - n : Nat) : Int)) ∧ w = w' := by
  have hc0 := (hg.cell 0).trans (running_word _)
  have H := Lib.hid (not_bits n hn)
  go_enter Try.func78, Try.ntmps78
  go_wp2
  go_ret
  exact ⟨ret_u32 H.out, rfl⟩
set_option maxHeartbeats 400000 in
theorem more_any (s : Nat) (hs : s < 4294967296) (A : Option Addr) (m c : Nat) (l : List UInt8) (w : World) (hr : Bys w w.heap.size A m l) (hm : m < 1000000) :
    Calls Try.prog 74 #[.int .u32 (s : Int), .slice A m c] w fun e w' => e = .returned (.int .u32 ((Crc.more s l : Nat) : Int)) ∧ Below w.heap.size w w' := by
  go_enter Try.func74, Try.ntmps74
  go_wp2_with fail
  refine (begin_any s hs _).mono ?_
  rintro e w1 ⟨g, hg, rfl, hb, hk⟩
  go_wp2_with fail
  refine (add_any g (4294967295 - s) (by omega) A m c w.heap.size l w1 hk (hr.below hb) hm).mono ?_
  rintro e w2 ⟨rfl, rfl⟩
  have hk2 := hk.set_ 0 (.int .u32 ((Crc.run (4294967295 - s) l : Nat) : Int))
  rw [running_set] at hk2
  have hb2 := hb.setCell (p := ⟨g, 0, none⟩) hg (.int .u32 ((Crc.run (4294967295 - s) l : Nat) : Int))
  clear hk hb
  generalize w1.setCell ⟨g, 0, none⟩ (.int .u32 ((Crc.run (4294967295 - s) l : Nat) : Int)) = w3 at *
  have hq := Crc.run_lt l (w := 4294967295 - s) (by omega)
  go_wp2_with fail
  refine (told_any g (Crc.run (4294967295 - s) l) (by omega) w3 hk2).mono ?_
  rintro e w4 ⟨rfl, rfl⟩
  go_wp2_with fail
  go_ret
  exact ⟨rfl, hb2⟩
set_option maxHeartbeats 400000 in
theorem sum_any (A : Option Addr) (m c : Nat) (l : List UInt8) (w : World) (hr : Bys w w.heap.size A m l) (hm : m < 1000000) :
    Calls Try.prog 64 #[.slice A m c] w fun e w' => e = .returned (.int .u32 ((Crc.sum l : Nat) : Int)) ∧ Below w.heap.size w w' := by
  go_enter Try.func64, Try.ntmps64
  go_wp2_with fail
  refine (more_any 0 (by omega) A m c l w hr hm).mono ?_
  rintro e w1 ⟨rfl, hb⟩
  go_wp2_with fail
  go_ret
  exact ⟨rfl, hb⟩
set_option maxHeartbeats 400000 in
theorem refSum_any (A : Option Addr) (m c B : Nat) (l : List UInt8) (w : World) (hr : Bys w B A m l) (hm : m < 1000000) :
    Calls Try.prog 52 #[.slice A m c] w fun e w' => e = .returned (.int .u32 ((Crc.sum l : Nat) : Int)) ∧ w = w' := by
  have hq := Crc.run_lt l (w := 4294967295) (by omega)
  have hf : (4294967295 : Int) - ((Crc.run 4294967295 l : Nat) : Int) = ((Crc.sum l : Nat) : Int) := by
    unfold Crc.sum Crc.more
    rw [show 4294967295 - 0 = 4294967295 from rfl]; omega
  have HF := Lib.hid hf
  clear hf
  go_enter Try.func52, Try.ntmps52
  go_wp2_with fail
  refine (run_any 4294967295 (by omega) A m c B l w hr hm).mono ?_
  rintro e w1 ⟨rfl, rfl⟩
  go_wp2_with fail
  go_ret
  exact ⟨ret_u32 HF.out, rfl⟩
end Go.Proofs.Ytickdpgfiianjaa
