/-
  Lists of brokers that rise, by the document. Conditions: at most 1000000.
-/
import Derived.Test.YtpmdicbhliclcaaGreatRefL
import Derived.Deep.Cut
namespace Go.Proofs.YtpmdicbhliclcaaGreat
open Go.RowKit Go.Maps
set_option linter.unusedVariables false
/-- They rise, and are there. -/
def Rise (V : List Int) (m : Int) : Prop := (∀ y ∈ V, 0 ≤ y ∧ y < m) ∧ ∀ (i j : Nat) (y z : Int), i < j → V[i]? = some y → V[j]? = some z → y < z
theorem Rise.nil (m : Int) : Rise [] m := ⟨fun y hy => (nomatch hy), fun i j y z _ h => (nomatch h)⟩
theorem rise_take {V : List Int} {m y : Int} {k : Nat} (h : V[k]? = some y) : Rise (V.take (k + 1)) m ↔ Rise (V.take k) m ∧ (0 ≤ y ∧ y < m) ∧ ∀ z, 0 < k → V[k - 1]? = some z → z < y := by
  have ht : ∀ {q : Nat} {i : Nat} {z : Int}, (V.take q)[i]? = some z ↔ i < q ∧ V[i]? = some z := fun {q i z} => by
    rw [List.getElem?_take]
    by_cases hi : i < q
    · rw [if_pos hi]; exact ⟨fun h => ⟨hi, h⟩, fun h => h.2⟩
    · rw [if_neg hi]; exact ⟨fun h => (nomatch h), fun h => absurd h.1 hi⟩
  constructor
  · rintro ⟨h1, h2⟩
    refine ⟨⟨fun z hz => ?_, fun i j a b hij ha hb => ?_⟩, ?_, fun z hk hz => ?_⟩
    · obtain ⟨i, hi⟩ := List.mem_iff_getElem?.1 hz
      have := ht.1 hi
      exact h1 z (List.mem_iff_getElem?.2 ⟨i, ht.2 ⟨by omega, this.2⟩⟩)
    · have h3 := ht.1 ha
      have h4 := ht.1 hb
      exact h2 i j a b hij (ht.2 ⟨by omega, h3.2⟩) (ht.2 ⟨by omega, h4.2⟩)
    · exact h1 y (List.mem_iff_getElem?.2 ⟨k, ht.2 ⟨by omega, h⟩⟩)
    · exact h2 (k - 1) k z y (by omega) (ht.2 ⟨by omega, hz⟩) (ht.2 ⟨by omega, h⟩)
  · rintro ⟨⟨h1, h2⟩, h3, h4⟩
    refine ⟨fun z hz => ?_, fun i j a b hij ha hb => ?_⟩
    · obtain ⟨i, hi⟩ := List.mem_iff_getElem?.1 hz
      have h5 := ht.1 hi
      by_cases hik : i < k
      · exact h1 z (List.mem_iff_getElem?.2 ⟨i, ht.2 ⟨hik, h5.2⟩⟩)
      · obtain rfl : i = k := by omega
        rw [h] at h5
        have := h5.2
        injection this with this
        exact this ▸ h3
    · have h5 := ht.1 ha
      have h6 := ht.1 hb
      by_cases hjk : j < k
      · exact h2 i j a b hij (ht.2 ⟨by omega, h5.2⟩) (ht.2 ⟨hjk, h6.2⟩)
      · obtain rfl : j = k := by omega
        have hb' : b = y := by have := h6.2; rw [h] at this; injection this with this; exact this.symm
        subst hb'
        obtain ⟨z, hz⟩ : ∃ z, V[j - 1]? = some z := ⟨_, List.getElem?_eq_getElem (by have := (List.getElem?_eq_some_iff.1 h).1; omega)⟩
        have h7 := h4 z (by omega) hz
        by_cases hi : i = j - 1
        · subst hi
          have := h5.2
          rw [hz] at this
          injection this with this
          omega
        · have := h2 i (j - 1) a z (by omega) (ht.2 ⟨by omega, h5.2⟩) (ht.2 ⟨by omega, hz⟩)
          omega
theorem rise_of_take {V : List Int} {m : Int} {k : Nat} (h : Rise V m) : Rise (V.take k) m := by
  refine ⟨fun y hy => h.1 y (List.mem_of_mem_take hy), fun i j a b hij ha hb => ?_⟩
  rw [List.getElem?_take] at ha hb
  split at ha
  · split at hb
    · exact h.2 i j a b hij ha hb
    · cases hb
  · cases ha
section
variable {w w' : World} {V : List Int} {X : Nat → Prop} {A : Option Addr} {n c : Nat} {x : Int}
set_option maxRecDepth 100000 in
set_option maxHeartbeats 8000000 in
theorem rises_any (h : Rd w X 1 A n (intsOf V)) (hn : n ≤ 1000000) (m : Int) : Calls Tryz.prog 104 #[.slice A n c, .int .i64 m] w fun r w' => ∃ b, r = .returned (.bool b) ∧ (b = true ↔ Rise V m) ∧ Below w.heap.size w w' := by
  have hl1 := h.lenI
  have HR := Lib.hid h
  clear h
  go_enter Tryz.func104, Tryz.ntmps104
  go_wp2_with fail
  go_loopw [5] (fun i wv => ∃ k : Nat, k ≤ n ∧ i = .int .i64 k ∧ (∃ q, wv = w.drewN q) ∧ Hid (Rise (V.take k) m)) (fun i _ => n - (iOf i).toNat)
  case atStart => exact ⟨0, by omega, rfl, ⟨0, rfl⟩, Lib.hid (by rw [List.take_zero]; exact Rise.nil m)⟩
  case round =>
    obtain ⟨k, hk, rfl, ⟨q, rfl⟩, HI⟩ := hrel
    by_cases hlt : k < n
    case neg =>
      have hd1 : decide (k < n) = false := by simpa using hlt
      have HF : Hid (Rise V m) := Lib.hid (by
        have := HI.out
        rwa [List.take_of_length_le (by omega)] at this)
      have HB := Lib.hid (below_drewN (Below.refl w.heap.size w) q)
      clear hlt
      go_wp2_with fail
      go_ret
      exact ⟨true, rfl, ⟨fun _ => HF.out, fun _ => rfl⟩, HB.out⟩
    case pos =>
    have hd1 : decide (k < n) = true := by simpa using hlt
    obtain ⟨y, hy⟩ : ∃ y, V[k]? = some y := ⟨_, List.getElem?_eq_getElem (by omega)⟩
    obtain ⟨ad, rfl, c0⟩ := HR.out.intAt hy
    have HY := Lib.hid hy
    have HNO : Hid (∀ (P : Prop), (Rise (V.take (k + 1)) m → P) → Rise V m → P) := Lib.hid (fun P f hr => f (rise_of_take hr))
    have HRT := Lib.hid (rise_take (m := m) hy)
    clear hy
    by_cases h0 : y < 0
    · have e0 : decide (y < 0) = true := decide_eq_true h0
      have HF : Hid (¬ Rise V m) := Lib.hid (fun hr => HNO.out False (fun g => by have := (HRT.out.1 g).2.1.1; omega) hr)
      clear h0
      go_wp2_with fail
      go_quiet (fail)
      have HB := Lib.hid (below_drewN (Below.refl w.heap.size w) q)
      go_wp2_with fail
      go_ret
      exact ⟨false, rfl, ⟨fun q => (by cases q), fun g => absurd g HF.out⟩, by first | exact below_drewN HB.out _ | exact HB.out.drew⟩
    · have e0 : decide (y < 0) = false := decide_eq_false h0
      by_cases h1 : m ≤ y
      · have e1 : decide (m ≤ y) = true := decide_eq_true h1
        have HF : Hid (¬ Rise V m) := Lib.hid (fun hr => HNO.out False (fun g => by have := (HRT.out.1 g).2.1.2; omega) hr)
        clear h0 h1
        go_wp2_with fail
        go_quiet (fail)
        have HB := Lib.hid (below_drewN (Below.refl w.heap.size w) q)
        go_wp2_with fail
        go_ret
        exact ⟨false, rfl, ⟨fun q => (by cases q), fun g => absurd g HF.out⟩, by first | exact below_drewN HB.out _ | exact HB.out.drew⟩
      · have e1 : decide (m ≤ y) = false := decide_eq_false h1
        by_cases hk0 : 0 < k
        case neg =>
          have e2 : decide (0 < k) = false := decide_eq_false hk0
          have e3 : decide ((0 : Int) < (k : Int)) = false := decide_eq_false (by omega)
          have HN : Hid (Rise (V.take (k + 1)) m) := Lib.hid (HRT.out.2 ⟨HI.out, ⟨by omega, by omega⟩, fun z hz => absurd hz hk0⟩)
          clear h0 h1 hk0
          go_wp2_with fail
          go_quiet (fail)
          go_wp2_with fail
          go_round
          case rel => exact ⟨k + 1, by omega, by go_num, ⟨_, (by first | rfl | rw [World.drewN_drewN])⟩, HN⟩
          case measure => simp [iOf]; omega
        case pos =>
        have e2 : decide (0 < k) = true := decide_eq_true hk0
        have e3 : decide ((0 : Int) < (k : Int)) = true := decide_eq_true (by omega)
        obtain ⟨z, hz⟩ : ∃ z, V[k - 1]? = some z := ⟨_, List.getElem?_eq_getElem (by omega)⟩
        obtain ⟨ad', ea, c1⟩ := HR.out.intAt hz
        injection ea with ea
        subst ea
        have ew : IntKind.i64.wrap ((k : Int) - 1) = ((k - 1 : Nat) : Int) := by rw [IntWalk.i64_in _ (by omega)]; omega
        have b1 : ((k - 1 : Nat) : Int) < (n : Int) := by omega
        have b2 : (0 : Int) ≤ ((k - 1 : Nat) : Int) := by omega
        have b4 : k - 1 < n := by omega
        by_cases hyz : y ≤ z
        · have e4 : decide (y ≤ z) = true := decide_eq_true hyz
          have HF : Hid (¬ Rise V m) := Lib.hid (fun hr => HNO.out False (fun g => by have := (HRT.out.1 g).2.2 z hk0 hz; omega) hr)
          clear h0 h1 hk0 hyz hz
          go_wp2_with fail
          go_quiet (fail)
          have HB := Lib.hid (below_drewN (Below.refl w.heap.size w) q)
          go_wp2_with fail
          go_ret
          exact ⟨false, rfl, ⟨fun q => (by cases q), fun g => absurd g HF.out⟩, by first | exact below_drewN HB.out _ | exact HB.out.drew⟩
        · have e4 : decide (y ≤ z) = false := decide_eq_false hyz
          have HN : Hid (Rise (V.take (k + 1)) m) := Lib.hid (HRT.out.2 ⟨HI.out, ⟨by omega, by omega⟩, fun z' _ hz' => by rw [hz] at hz'; injection hz' with hz'; omega⟩)
          clear h0 h1 hk0 hyz hz
          go_wp2_with fail
          go_quiet (fail)
          go_wp2_with fail
          go_round
          case rel => exact ⟨k + 1, by omega, by go_num, ⟨_, (by first | rfl | rw [World.drewN_drewN])⟩, HN⟩
          case measure => simp [iOf]; omega
end
end Go.Proofs.YtpmdicbhliclcaaGreat
