/-
  Noughts that are made, and nets of so many messages. Nothing is assumed but bounds.
-/
import Derived.Test.YticabfmjdjcfnaaWorks
namespace Go.Proofs.Yticabfmjdjcfnaa
open Go.RowKit
set_option maxRecDepth 100000 in
theorem made_noughts (n : Nat) (hn : n ≤ 1000000) (w : World) : ∃ w', (Instr.makeSlice 37 (.int .i64 (n : Int)) (.int .i64 (n : Int))).run Try.prog w = .ok (.slice (some ⟨w.heap.size, 0, none⟩) n n) w' ∧ Bys w' (fun b => b < w.heap.size) (some ⟨w.heap.size, 0, none⟩) n (List.replicate n 0) ∧ Below w.heap.size w w' := by
  obtain ⟨i, hi, hz0, hz1, hz2⟩ := info_parts info5
  have hr := run_make (P := Try.prog) w 37 5 i (.int .u8 0) Try.underlying37 hi hz0 .i64 .i64 n n (by omega) (by omega) (by rw [hz2]; omega) (by omega)
  simp only [Int.toNat_natCast] at hr
  refine ⟨_, hr, ?_, (Below.refl _ _).alloc (Nat.le_refl _) _⟩
  refine ⟨by simp, fun _ => ⟨_, rfl, by simp, by simp, fun j u hu => ?_⟩⟩
  have hadd : (⟨w.heap.size, 0, none⟩ : Addr).add j = ⟨w.heap.size, j, none⟩ := by unfold Addr.add; split <;> simp_all
  have h : (madeCells #[Value.int .u8 0] (n * i.size)).toList = List.replicate n (Value.int .u8 0) := by rw [toList_madeCells_one, hz1, Nat.mul_one]
  rw [hadd]
  rw [show (w.alloc (.cells (madeCells (Value.int .u8 0).cells (n * i.size)) 5)).cell? ⟨w.heap.size, j, none⟩ = (madeCells #[Value.int .u8 0] (n * i.size))[j]? from (Blk.new w 5 _).cell j, ← Array.getElem?_toList, h]
  rw [List.getElem?_replicate] at hu ⊢
  split at hu
  · rename_i hj
    injection hu with hu
    subst hu
    rw [if_pos hj]; rfl
  · cases hu
/-- The message of which there are so many. -/
def m63 : Msg := ⟨63, 0, []⟩
/-- So many of it. -/
def rep (i : Nat) : St := ⟨4096, (List.range i).map (fun (j : Nat) => (((j : Nat) : Int), m63)), i⟩
theorem rep_len (i : Nat) : (rep i).l.length = i := by simp [rep]
theorem rep_at {i j : Nat} (h : j < i) : (rep i).l[j]? = some ((j : Int), m63) := by simp [rep, h]
theorem rep_put (i : Nat) : (rep i).put m63 = rep (i + 1) := by
  unfold St.put rep
  simp [List.range_succ]
theorem rep_ok {i : Nat} (h : i < 4096) : putC (rep i) m63 = 0 := putC_ok (by decide) (by decide) (by decide) (by rw [rep_len]; exact h)
theorem rep_putA {i : Nat} (h : i < 4096) : (rep i).putA m63 = rep (i + 1) ∧ putN (rep i) m63 = (i : Int) := by
  obtain ⟨h1, h2⟩ := putA_yes (rep_ok h)
  exact ⟨h1.trans (rep_put i), h2⟩
theorem rep_full : putC (rep 4096) ⟨0, 0, []⟩ = 150 := putC_crowd (by decide) (by decide) (by decide) (by rw [rep_len]; exact Nat.le_refl _)
theorem rep_fullA : (rep 4096).putA ⟨0, 0, []⟩ = rep 4096 ∧ putN (rep 4096) ⟨0, 0, []⟩ = 0 := putA_no (by rw [rep_full]; decide)
theorem rep_pick : pick (-1) (rep 4096).l.length = 4095 := by rw [rep_len]; decide
theorem rep_last : (rep 4096).l[pick (-1) (rep 4096).l.length]? = some (4095, m63) := by rw [rep_pick]; exact rep_at (by decide)
/-- The bytes that are the most. -/
def zs (n : Nat) : Bs := List.replicate n 0
theorem cut_len' {n i : Nat} (h : i < n) : ((rep n).cut i).l.length = n - 1 := by
  show ((rep n).l.eraseIdx i).length = _
  rw [List.length_eraseIdx, rep_len, if_pos h]
theorem cut_len : ((rep 4096).cut 4095).l.length = 4095 := cut_len' (n := 4096) (i := 4095) (by decide)
theorem cut_ok : putC ((rep 4096).cut 4095) ⟨0, 0, zs 4096⟩ = 0 := putC_ok (by decide) (by decide) (by show (List.replicate 4096 _).length ≤ 4096; rw [List.length_replicate]; exact Nat.le_refl _) (by rw [cut_len]; show 4095 < 4096; decide)
theorem long_no (s : St) : putC s ⟨0, 0, zs 4097⟩ = 3 := putC_three (by decide) (by decide) (by show 4096 < (List.replicate 4097 _).length; rw [List.length_replicate]; decide)
end Go.Proofs.Yticabfmjdjcfnaa
