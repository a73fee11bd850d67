/-
  A running sum: what sums.begin lays into memory. Nothing is assumed but that the sum is a word of 32 bits.
-/
import Derived.Test.YtickdpgfiianjaaTable
namespace Go.Proofs.Ytickdpgfiianjaa
open Go.RowKit
/-- A running sum in memory: the word, the table. -/
def running (n : Int) : Array Value := #[.int .u32 n] ++ tabTo 256
theorem running_set (n m : Int) : (running n).setIfInBounds 0 (.int .u32 m) = running m := by
  apply Array.ext
  · simp [running]
  · intro i h1 h2
    have hs : (running n).size = 257 := by simp [running, size_tabTo]
    rw [Array.size_setIfInBounds, hs] at h1
    rw [Array.getElem_setIfInBounds (by rw [hs]; exact h1)]
    by_cases e : 0 = i
    · subst e; simp [running]
    · rw [if_neg e]
      simp only [running]
      rw [Array.getElem_append_right (by simp; omega), Array.getElem_append_right (by simp; omega)]
      simp
theorem running_word (n : Int) : (running n)[0]? = some (.int .u32 n) := by
  unfold running
  rw [Array.getElem?_append_left (by simp)]
  rfl
theorem running_at (n : Int) (i : Nat) (hi : i < 256) : (running n)[1 + i]? = some (.int .u32 ((Crc.steps 8 i : Nat) : Int)) := by
  unfold running
  rw [Array.getElem?_append_right (by simp)]
  simp [tabTo, hi]
theorem not32 (a : Nat) (h : a < 4294967296) : (4294967295 : Nat) ^^^ a = 4294967295 - a := by
  have h1 : (~~~ (BitVec.ofNat 32 a)).toNat = 2^32 - 1 - a := by
    rw [BitVec.toNat_not, BitVec.toNat_ofNat, Nat.mod_eq_of_lt (by omega)]
  have h2 : (BitVec.allOnes 32 ^^^ BitVec.ofNat 32 a) = ~~~ (BitVec.ofNat 32 a) := BitVec.allOnes_xor
  rw [← h2, BitVec.toNat_xor, BitVec.toNat_allOnes, BitVec.toNat_ofNat, Nat.mod_eq_of_lt (by omega)] at h1
  exact h1
theorem not_bits (a : Nat) (h : a < 4294967296) : bits .xor .u32 IntKind.u32.max (a : Int) = ((4294967295 - a : Nat) : Int) := by
  have h1 := u32_xor_nat 4294967295 a (by omega) h
  rw [not32 a h] at h1
  exact h1
theorem build107 (n : Int) (w : World) : (Instr.build 107 #[(0, .int .u32 n), (1, .agg (tabTo 256))]).run Try.prog w = .ok (.agg (running n)) w := by kernel_rfl
theorem wpList_build107 {ops : Array Oper} {rest : List Oper} {o : Oper} {a : Act} {w : World} {Q : Exit → Act → World → Prop} (hgd : o.guard = none) (x y : Operand) (ho : o.op = .build 107 #[(0, x), (1, y)])
    (n : Int) (hx : a.eval x = .int .u32 n) (hy : a.eval y = .agg (tabTo 256))
    (h : wpList Try.prog ops Q rest (a.put o.dst (.agg (running n))) w) : wpList Try.prog ops Q (o :: rest) a w :=
  wpList_plain hgd fun _ hK => by
    unfold Oper.wp execOp
    simp only [ho, List.map_toArray, List.map_cons, List.map_nil, hx, hy, Sem.run_bind, build107, Result.andThen_ok, Sem.run_pure]
    exact hK _ _ h
/-- What is known behind sums.begin. -/
def Begun (w : World) (n : Nat) (e : Ending) (w' : World) : Prop := ∃ g, w.heap.size ≤ g ∧ e = .returned (.pointer (some ⟨g, 0, none⟩)) ∧ Below w.heap.size w w' ∧ Blk w' g 107 (running (n : Int))
set_option maxHeartbeats 400000 in
set_option maxRecDepth 100000 in
theorem begin_any (a : Nat) (ha : a < 4294967296) (w : World) : Calls Try.prog 76 #[.int .u32 (a : Int)] w (Begun w (4294967295 - a)) := by
  have hnb := not_bits a ha
  have H := Lib.hid hnb
  clear hnb
  go_enter Try.func76, Try.ntmps76
  go_wp2_with (first | (go_at_call 79; refine (table_any _).mono ?_; rintro e w' ⟨rfl, hb⟩) | (refine wpList_build107 rfl _ _ rfl _ rfl rfl ?_))
  go_ret
  rw [H.out]
  exact ⟨_, hb.size, rfl, hb.alloc hb.size _, Blk.new _ _ _⟩
end Go.Proofs.Ytickdpgfiianjaa
