/-
  waystationlaw03.few: whether things are few. Nothing is assumed.
-/
import Derived.Test.YthhiiimmgghhaaaRow2
namespace Go.Proofs.Ythhiiimmgghhaaa
open Go.RowKit
def cost (t : RT) : Nat := 60 + min t.bytes.length 4001 + min t.name.length 4001
def fewN (ts : List RT) : Nat := (ts.map cost).sum
theorem fewN_take (ts : List RT) {k : Nat} (h : k < ts.length) : fewN (ts.take (k + 1)) = fewN (ts.take k) + cost ts[k] := by
  unfold fewN
  rw [List.take_succ_eq_append_getElem h, List.map_append, List.sum_append]
  simp
theorem fewN_le (ts : List RT) (k : Nat) : fewN (ts.take k) ≤ fewN ts := by
  have : fewN ts = fewN (ts.take k) + fewN (ts.drop k) := by
    unfold fewN
    rw [← List.sum_append, ← List.map_append, List.take_append_drop]
  omega
theorem few_len : ∀ (ts : List RT), ts.length * 60 ≤ fewN ts
  | [] => by simp [fewN]
  | t :: ts => by
    have := few_len ts
    have e : fewN (t :: ts) = cost t + fewN ts := by simp [fewN]
    have h : 60 ≤ cost t := by unfold cost; omega
    rw [e, List.length_cons]; omega
theorem few_mem : ∀ (ts : List RT) {t : RT}, t ∈ ts → cost t ≤ fewN ts
  | x :: ts, t, h => by
    have e : fewN (x :: ts) = cost x + fewN ts := by simp [fewN]
    rcases List.mem_cons.1 h with rfl | h
    · omega
    · have := few_mem ts h; omega
theorem few_ok {ts : List RT} (h : fewN ts ≤ 4000) : ts.length ≤ 66 ∧ ∀ t ∈ ts, t.bytes.length ≤ 4000 ∧ t.name.length ≤ 4000 := by
  refine ⟨by have := few_len ts; omega, fun t ht => ?_⟩
  have := few_mem ts ht
  unfold cost at this
  omega
set_option maxRecDepth 100000 in
set_option maxHeartbeats 4000000 in
theorem few_any {w : World} {X : Nat → Prop} {A : Option Addr} {n c : Nat} {ts : List RT} (h : RTs w X A n ts) (hok : ∀ t ∈ ts, RTok t) (hc : c ≤ maxLen) (hnc : n ≤ c) : Calls Try.prog 29 #[.slice A n c] w fun e w' => e = .returned (.bool (decide (fewN ts ≤ 4000))) ∧ Below w.heap.size w w' := by
  have hlen := h.len
  unfold maxLen at hc
  have HH := Lib.hid h
  have HK := Lib.hid hok
  clear h hok
  go_enter Try.func29, Try.ntmps29
  go_wp2_with fail
  go_loopw [3, 4] (fun m i wr => ∃ k : Nat, k ≤ n ∧ i = .int .i64 k ∧ m = .int .i64 (fewN (ts.take k) : Int) ∧ fewN (ts.take k) ≤ 100000 ∧ Below w.heap.size w wr) (fun _ i _ => n - (intOf i).toNat)
  case atStart => exact ⟨0, by omega, rfl, rfl, by simp [fewN], Below.refl _ _⟩
  case round =>
    obtain ⟨k, hk, rfl, rfl, hm, hb⟩ := hrel
    have HB := Lib.hid hb
    clear hb
    by_cases hlt : k < n
    case neg =>
      have hd1 : decide (k < n) = false := by simpa using hlt
      have HE : Hid (ts.take k = ts) := Lib.hid (List.take_of_length_le (by omega))
      rw [HE.out]
      rw [HE.out] at hm
      clear hlen HE
      go_wp2_with fail
      all_goals
        go_ret
        refine ⟨ret_bool ?_, HB.out⟩
        first
          | rfl
          | (simp; done)
          | (rw [decide_eq_decide]; omega)
          | (symm; simp; omega)
    case pos =>
    by_cases hle : fewN (ts.take k) ≤ 4000
    case neg =>
      have HE : Hid (decide (fewN ts ≤ 4000) = false) := Lib.hid (by have := fewN_le ts k; simp; omega)
      have hd1 : decide ((fewN (ts.take k) : Int) ≤ 4000) = false := by simp; omega
      have hd2 : decide (fewN (ts.take k) ≤ 4000) = false := by simp; omega
      go_wp2_with fail
      all_goals
        go_ret
        refine ⟨ret_bool ?_, HB.out⟩
        rw [HE.out]
    case pos =>
    have hkl : k < ts.length := by omega
    obtain ⟨css, hrd, hcl, hcs⟩ := HH.out
    have hck := List.getElem?_eq_getElem (show k < css.length by omega)
    obtain ⟨ad, rfl, hadl, -, hc0, hcell⟩ := (hrd.below (w' := wr) ⟨HB.out.os, HB.out.tape, HB.out.output, HB.out.size, HB.out.block⟩).load hck
    obtain ⟨Ab, qb, cb, hcse, hby, hqb, hcb⟩ := hcs k ts[k] _ (List.getElem?_eq_getElem hkl) hck
    rw [hcse] at hcell
    have h1 : wr.cell? ⟨(ad.add (k * 4)).block, (ad.add (k * 4)).off + 1, none⟩ = some (.string (str ts[k].name)) := hcell 0 _ rfl
    have h2 : wr.cell? ⟨(ad.add (k * 4)).block, (ad.add (k * 4)).off + 2, none⟩ = some (.slice Ab qb cb) := hcell 1 _ rfl
    have hsn := str_size ts[k].name
    have hns := (HK.out ts[k] (List.getElem_mem hkl)).2.2
    unfold maxLen at hcb hns
    have hbl := hby.1
    have HC : Hid (fewN (ts.take (k + 1)) = fewN (ts.take k) + (60 + min qb 4001 + min ts[k].name.length 4001)) := Lib.hid (by rw [fewN_take ts hkl]; unfold cost; rw [hbl])
    clear hcell hc0 hrd hcs hck hcse hby hlen hbl
    go_wp2_with fail
    go_quiet (fail)
    go_wp2_with fail
    refine ⟨⟨k + 1, by omega, by go_num, ?_, by have := HC.out; omega, ⟨HB.out.os, HB.out.tape, HB.out.output, HB.out.size, HB.out.block⟩⟩, by simp [intOf]; omega⟩
    congr 1
    have := HC.out
    omega
end Go.Proofs.Ythhiiimmgghhaaa
