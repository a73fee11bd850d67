/-
  Lists of numbers: is one there, are two the same, a copy. Conditions: at most 1000000.
-/
import Derived.Test.YtpmdicbhliclcaaGreatForm
namespace Go.Proofs.YtpmdicbhliclcaaGreat
open Go.RowKit Go.Maps
set_option linter.unusedVariables false
/-- Numbers, as elements of a row. -/
def intsOf (V : List Int) : List (Array Value) := V.map fun z => #[.int .i64 z]
section
variable {w w' : World} {V U : List Int} {X Y : Nat → Prop} {A B : Option Addr} {n m c d : Nat}
theorem Rd.lenI (h : Rd w X 1 A n (intsOf V)) : V.length = n := by
  have := h.1
  have h2 : (intsOf V).length = V.length := by simp [intsOf]
  omega
theorem Rd.intAt (h : Rd w X 1 A n (intsOf V)) {i : Nat} {x : Int} (hi : V[i]? = some x) : ∃ ad, A = some ad ∧ w.cell? (ad.add i) = some (.int .i64 x) := by
  obtain ⟨ad, e, _, _, h1, _⟩ := h.load (i := i) (cs := #[.int .i64 x]) (by unfold intsOf; rw [List.getElem?_map, hi]; rfl)
  exact ⟨ad, e, by simpa using h1 _ rfl⟩
theorem ints_form {v : Value} (h : OwnK w 3 1 v (intsOf V)) : ∃ A c, v = .slice A V.length c ∧ V.length ≤ c := by
  obtain ⟨A, q, c, rfl, hq, hc, -⟩ := h.form
  have : q = V.length := by rw [hq]; simp [intsOf]
  subst this
  exact ⟨A, c, rfl, hc⟩
/-- Where a number stands first, or -1. -/
def idx (V : List Int) (x : Int) : Int := match V.findIdx? (· == x) with
  | some i => (i : Int)
  | none => -1
theorem idx_at {V : List Int} {x : Int} {k : Nat} (h : V[k]? = some x) (hno : ∀ j : Nat, j < k → V[j]? ≠ some x) : idx V x = (k : Int) := by
  unfold idx
  have hk := (List.getElem?_eq_some_iff.1 h).1
  have : V.findIdx? (· == x) = some k := by
    rw [List.findIdx?_eq_some_iff_getElem]
    refine ⟨hk, by have := (List.getElem?_eq_some_iff.1 h).2; simp [this], fun j hj => ?_⟩
    have h1 := hno j hj
    rw [List.getElem?_eq_getElem (by omega)] at h1
    simp
    exact fun e => h1 (by rw [e])
  rw [this]
theorem idx_no {V : List Int} {x : Int} (h : x ∉ V) : idx V x = -1 := by
  unfold idx
  have : V.findIdx? (· == x) = none := by
    rw [List.findIdx?_eq_none_iff]
    intro y hy
    simp
    exact fun e => h (e ▸ hy)
  rw [this]
theorem idx_in {V : List Int} {x : Int} : 0 ≤ idx V x ↔ x ∈ V := by
  by_cases h : x ∈ V
  · refine ⟨fun _ => h, fun _ => ?_⟩
    unfold idx
    cases hf : V.findIdx? (· == x) with
    | some i => simp
    | none =>
      rw [List.findIdx?_eq_none_iff] at hf
      have := hf x h
      simp at this
  · rw [idx_no h]
    exact ⟨fun q => by omega, fun q => absurd q h⟩
set_option maxRecDepth 100000 in
set_option maxHeartbeats 4000000 in
theorem index_any (h : Rd w X 1 A n (intsOf V)) (hn : n ≤ 1000000) (x : Int) : Calls Tryz.prog 112 #[.slice A n c, .int .i64 x] w fun r w' => r = .returned (.int .i64 (idx V x)) ∧ w' = w := by
  have hl1 := h.lenI
  have HR := Lib.hid h
  clear h
  go_enter Tryz.func112, Tryz.ntmps112
  go_wp2_with fail
  go_loopw [8] (fun i wv => ∃ k : Nat, k ≤ n ∧ i = .int .i64 k ∧ wv = w ∧ Hid (∀ j : Nat, j < k → V[j]? ≠ some x)) (fun i _ => n - (iOf i).toNat)
  case atStart => exact ⟨0, by omega, rfl, rfl, Lib.hid (fun j hj => by omega)⟩
  case round =>
    obtain ⟨k, hk, rfl, rfl, HNO⟩ := hrel
    by_cases hlt : k < n
    case neg =>
      have hd1 : decide (k < n) = false := by simpa using hlt
      have HF : Hid (idx V x = -1) := Lib.hid (idx_no (fun hm => by
        obtain ⟨j, hj⟩ := List.mem_iff_getElem?.1 hm
        exact HNO.out j (by have := (List.getElem?_eq_some_iff.1 hj).1; omega) hj))
      clear hlt
      go_wp2_with fail
      go_ret
      exact ⟨by rw [HF.out]; rfl, rfl⟩
    case pos =>
      have hd1 : decide (k < n) = true := by simpa using hlt
      obtain ⟨y, hy⟩ : ∃ y, V[k]? = some y := ⟨_, List.getElem?_eq_getElem (by omega)⟩
      obtain ⟨ad, rfl, hc⟩ := HR.out.intAt hy
      have HY := Lib.hid hy
      clear hy
      by_cases hxy : x = y
      · subst hxy
        have hq : (x == x) = true := by simp
        have HF : Hid (idx V x = (k : Int)) := Lib.hid (idx_at HY.out HNO.out)
        go_wp2_with fail
        go_ret
        exact ⟨by rw [HF.out]; rfl, rfl⟩
      · have hq : (x == y) = false := by simp [hxy]
        have HNO2 : Hid (∀ j : Nat, j < k + 1 → V[j]? ≠ some x) := Lib.hid (fun j hj q => by
          by_cases hjk : j < k
          · exact HNO.out j hjk q
          · obtain rfl : j = k := by omega
            rw [HY.out] at q; injection q with q; exact hxy q.symm)
        clear hxy
        go_wp2_with fail
        go_round
        case rel => exact ⟨k + 1, by omega, by go_num, (by first | rfl | trivial), HNO2⟩
        case measure => simp [iOf]; omega
theorem contains_any (h : Rd w X 1 A n (intsOf V)) (hn : n ≤ 1000000) (x : Int) : Calls Tryz.prog 88 #[.slice A n c, .int .i64 x] w fun r w' => r = .returned (.bool (decide (x ∈ V))) ∧ w' = w := by
  have hi := index_any (c := c) h hn x
  clear h
  by_cases hx : x ∈ V
  · have hd : decide (0 ≤ idx V x) = true := decide_eq_true (idx_in.2 hx)
    have HF : Hid (decide (x ∈ V) = true) := Lib.hid (decide_eq_true hx)
    clear hx
    generalize idx V x = q at *
    go_enter Tryz.func88, Tryz.ntmps88
    go_wp2_with fail
    refine hi.mono ?_
    rintro r w1 ⟨rfl, rfl⟩
    clear hi
    go_wp2_with fail
    go_ret
    exact ⟨by rw [HF.out]; rfl, rfl⟩
  · have hd : decide (0 ≤ idx V x) = false := decide_eq_false (fun q => hx (idx_in.1 q))
    have HF : Hid (decide (x ∈ V) = false) := Lib.hid (decide_eq_false hx)
    clear hx
    generalize idx V x = q at *
    go_enter Tryz.func88, Tryz.ntmps88
    go_wp2_with fail
    refine hi.mono ?_
    rintro r w1 ⟨rfl, rfl⟩
    clear hi
    go_wp2_with fail
    go_ret
    exact ⟨by rw [HF.out]; rfl, rfl⟩
set_option maxRecDepth 100000 in
set_option maxHeartbeats 1000000 in
theorem copied_any (h : Rd w X 1 A n (intsOf V)) (hn : n ≤ 1000000) : Calls Tryz.prog 106 #[.slice A n c] w fun r w' => ∃ v, r = .returned v ∧ OwnK w' 3 1 v (intsOf V) ∧ (∀ b, v.ownBlock = some b → w.heap.size ≤ b) ∧ Below w.heap.size w w' := by
  have HR := Lib.hid h
  clear h
  go_enter Tryz.func106, Tryz.ntmps106
  go_wp2_with (at_builtin; refine stop ?_)
  refine Stop.go (wpList_append_k el41 _ (by rfl) _ _ (by rfl) (.slice none 0 0) [] (by rfl) (OwnK.nil w 3 1) X A n c (intsOf V) (by rfl) HR.out (by simp) (by omega) ?_)
  intro v9 w9 ho9 hg9
  rw [List.nil_append] at ho9
  have HO := Lib.hid ho9
  have HV : Hid (∀ b, v9.ownBlock = some b → w.heap.size ≤ b) := Lib.hid (fun b eb => by
    rcases hg9.2 b eb with h | h
    · cases h
    · exact h)
  have HB : Hid (Below w.heap.size w w9) := Lib.hid (hg9.low (fun g hg => by cases hg))
  clear ho9 hg9
  go_wp2_with fail
  go_ret
  exact ⟨_, rfl, HO.out, HV.out, HB.out⟩
end
end Go.Proofs.YtpmdicbhliclcaaGreat
