/-
  waystationlaw05.few: whether calls are few. Nothing is assumed.
-/
import Derived.Test.YticabfmjdjcfnaaOpen
namespace Go.Proofs.Yticabfmjdjcfnaa
open Go.RowKit
def cost (t : Ac) : Nat := 100 + min t.m.b.length 10001
def fewN (ts : List Ac) : Nat := (ts.map cost).sum
theorem fewN_take (ts : List Ac) {k : Nat} (h : k < ts.length) : fewN (ts.take (k + 1)) = fewN (ts.take k) + cost ts[k] := by
  unfold fewN
  rw [List.take_succ_eq_append_getElem h, List.map_append, List.sum_append]
  simp
theorem fewN_le (ts : List Ac) (k : Nat) : fewN (ts.take k) ≤ fewN ts := by
  have : fewN ts = fewN (ts.take k) + fewN (ts.drop k) := by
    unfold fewN
    rw [← List.sum_append, ← List.map_append, List.take_append_drop]
  omega
theorem few_len : ∀ (ts : List Ac), ts.length * 100 ≤ fewN ts
  | [] => by simp [fewN]
  | t :: ts => by
    have := few_len ts
    have e : fewN (t :: ts) = cost t + fewN ts := by simp [fewN]
    have h : 100 ≤ cost t := by unfold cost; omega
    rw [e, List.length_cons]; omega
theorem few_mem : ∀ (ts : List Ac) {t : Ac}, t ∈ ts → cost t ≤ fewN ts
  | x :: ts, t, h => by
    have e : fewN (x :: ts) = cost x + fewN ts := by simp [fewN]
    rcases List.mem_cons.1 h with rfl | h
    · omega
    · have := few_mem ts h; omega
theorem few_ok {ts : List Ac} (h : fewN ts ≤ 10000) : ts.length ≤ 100 ∧ ∀ t ∈ ts, t.m.b.length ≤ 10000 := by
  refine ⟨by have := few_len ts; omega, fun t ht => ?_⟩
  have := few_mem ts ht
  unfold cost at this
  omega
/-- The cells of a call, in the form in which a load asks for them. -/
theorem Acs.at_ {w : World} {X : Nat → Prop} {A : Option Addr} {n : Nat} {xs : List Ac} (h : Acs w X A n xs) {k : Nat} (hk : k < xs.length) : ∃ ad cs, A = some ad ∧ ad.block < w.heap.size ∧ ¬ X ad.block ∧ AcAt w X xs[k] cs ∧
    (∀ u, cs[0]? = some u → w.cell? (ad.add (k * 5)) = some u) ∧ ∀ j u, cs[j + 1]? = some u → w.cell? ⟨(ad.add (k * 5)).block, (ad.add (k * 5)).off + (j + 1), none⟩ = some u := by
  obtain ⟨css, hrd, hcl, hcs⟩ := h
  have hck := List.getElem?_eq_getElem (show k < css.length by omega)
  obtain ⟨ad, h1, h2, h3, h4, h5⟩ := hrd.load hck
  exact ⟨ad, css[k]'(by omega), h1, h2, h3, hcs k _ _ (List.getElem?_eq_getElem hk) hck, h4, h5⟩
set_option maxRecDepth 100000 in
set_option maxHeartbeats 4000000 in
theorem few_any {w : World} {X : Nat → Prop} {A : Option Addr} {n c : Nat} {ts : List Ac} (h : Acs w X A n ts) (hc : c ≤ maxLen) (hnc : n ≤ c) : Calls Try.prog 9 #[.slice A n c] w fun e w' => e = .returned (.bool (decide (fewN ts ≤ 10000))) ∧ w = w' := by
  have hlen := h.len
  unfold maxLen at hc
  have HH := Lib.hid h
  clear h
  go_enter Try.func9, Try.ntmps9
  go_wp2_with fail
  go_loop [3, 4] (fun m i => ∃ k : Nat, k ≤ n ∧ i = .int .i64 k ∧ m = .int .i64 (fewN (ts.take k) : Int) ∧ fewN (ts.take k) ≤ 100000) (fun _ i => n - (intOf i).toNat)
  case atStart => exact ⟨0, by omega, rfl, rfl, by simp [fewN]⟩
  case round =>
    obtain ⟨k, hk, rfl, rfl, hm⟩ := hrel
    by_cases hlt : k < n
    case neg =>
      have hd1 : decide (k < n) = false := by simpa using hlt
      have HE : Hid (ts.take k = ts) := Lib.hid (List.take_of_length_le (by omega))
      rw [HE.out]
      rw [HE.out] at hm
      clear hlen HE
      go_wp2_with fail
      all_goals
        go_ret
        refine ⟨ret_bool ?_, rfl⟩
        first
          | rfl
          | (simp; done)
          | (rw [decide_eq_decide]; omega)
          | (symm; simp; omega)
    case pos =>
    by_cases hle : fewN (ts.take k) ≤ 10000
    case neg =>
      have HE : Hid (decide (fewN ts ≤ 10000) = false) := Lib.hid (by have := fewN_le ts k; simp; omega)
      have hd1 : decide ((fewN (ts.take k) : Int) ≤ 10000) = false := by simp; omega
      have hd2 : decide (fewN (ts.take k) ≤ 10000) = false := by simp; omega
      go_wp2_with fail
      all_goals
        go_ret
        refine ⟨ret_bool ?_, rfl⟩
        rw [HE.out]
    case pos =>
    have hkl : k < ts.length := by omega
    obtain ⟨ad, cs, rfl, hadl, -, ⟨Ab, qb, cb, hcse, hby, hqb, hcb, -⟩, hc0, hcell⟩ := HH.out.at_ hkl
    rw [hcse] at hcell
    have h2 : w.cell? ⟨(ad.add (k * 5)).block, (ad.add (k * 5)).off + 4, none⟩ = some (.slice Ab qb cb) := hcell 3 _ rfl
    unfold maxLen at hcb
    have hbl := hby.1
    have HC : Hid (fewN (ts.take (k + 1)) = fewN (ts.take k) + (100 + min qb 10001)) := Lib.hid (by rw [fewN_take ts hkl]; unfold cost; rw [hbl])
    clear hcell hc0 hcse hby hlen hbl
    go_wp2_with fail
    refine ⟨⟨k + 1, by omega, by go_num, ?_, by have := HC.out; omega⟩, by simp [intOf]; omega⟩
    congr 1
    have := HC.out
    omega
end Go.Proofs.Yticabfmjdjcfnaa
