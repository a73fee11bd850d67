/-
  Is a place among others. Conditions: at most 1000000.
-/
import Derived.Test.YthcphoijanebhaaDoorWhole9
import Derived.Test.YthcphoijanebhaaDoorTof9
namespace Go.Proofs.YthcphoijanebhaaDoor
open Go.RowKit Go.Maps
set_option linter.unusedVariables false
section
variable {w : World} {V : List Nat}
set_option maxRecDepth 100000 in
set_option maxHeartbeats 4000000 in
theorem among_any {X : Nat → Prop} {A : Option Addr} {n c : Nat} (h : Rd w X 1 A n (intsOf V)) (hn : n ≤ 1000000) (x : Nat) : Calls Tryd.prog 31 #[.slice A n c, .int .i64 (x : Int)] w fun r w' => r = .returned (.bool (decide (x ∈ V))) ∧ Below w.heap.size w w' := by
  have hl1 := h.lenI
  have HR := Lib.hid h
  clear h
  go_enter Tryd.func31, Tryd.ntmps31
  go_wp2_with fail
  go_loopw [5] (fun i wv => ∃ k : Nat, k ≤ n ∧ i = .int .i64 k ∧ Below w.heap.size w wv ∧ ∀ j : Nat, j < k → V[j]? ≠ some x) (fun i _ => n - (iOf' i).toNat)
  case atStart => exact ⟨0, by omega, rfl, Below.refl _ _, fun j hj => by omega⟩
  case round =>
    obtain ⟨k, hk, rfl, hb, hno⟩ := hrel
    have HB := Lib.hid hb
    have HNO := Lib.hid hno
    clear hb hno
    by_cases hlt : k < n
    case neg =>
      have hd1 : decide (k < n) = false := by simpa using hlt
      have HF : Hid (decide (x ∈ V) = false) := Lib.hid (decide_eq_false (fun hm => by
        obtain ⟨j, hj⟩ := List.mem_iff_getElem?.1 hm
        exact HNO.out j (by have := (List.getElem?_eq_some_iff.1 hj).1; omega) hj))
      clear hlt
      go_wp2_with fail
      go_ret
      exact ⟨by rw [HF.out]; rfl, HB.out⟩
    case pos =>
      have hd1 : decide (k < n) = true := by simpa using hlt
      obtain ⟨y, hy⟩ : ∃ y, V[k]? = some y := ⟨_, List.getElem?_eq_getElem (by omega)⟩
      obtain ⟨ad, rfl, hc⟩ := (HR.out.below HB.out).intAt hy
      have HY := Lib.hid hy
      clear hy
      by_cases hxy : y = x
      · subst hxy
        have hq : ((y : Int) == (y : Int)) = true := by simp
        have HF : Hid (decide (y ∈ V) = true) := Lib.hid (decide_eq_true (List.mem_of_getElem? HY.out))
        go_wp2_with fail
        go_ret
        exact ⟨by rw [HF.out]; rfl, HB.out⟩
      · have hq : ((y : Int) == (x : Int)) = false := by simp; omega
        have HNO2 : Hid (∀ j : Nat, j < k + 1 → V[j]? ≠ some x) := Lib.hid (fun j hj q => by
          by_cases hjk : j < k
          · exact HNO.out j hjk q
          · obtain rfl : j = k := by omega
            rw [HY.out] at q; injection q with q; exact hxy q)
        clear hxy
        go_wp2_with fail
        go_round
        case rel => exact ⟨k + 1, by omega, by go_num, HB.out, HNO2.out⟩
        case measure => simp [iOf']; omega
end
end Go.Proofs.YthcphoijanebhaaDoor
