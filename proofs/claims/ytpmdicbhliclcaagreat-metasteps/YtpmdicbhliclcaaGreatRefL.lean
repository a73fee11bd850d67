/-
  The document's lists: is one there, a list without one. Conditions: at most 1000000.
-/
import Derived.Test.YtpmdicbhliclcaaGreatDel
namespace Go.Proofs.YtpmdicbhliclcaaGreat
open Go.RowKit Go.Maps
set_option linter.unusedVariables false
theorem eqn9 {a b : Int} (h : a = b) : (a != b) = false := by simp [h]
theorem nen9 {a b : Int} (h : a ≠ b) : (a != b) = true := by simp [h]
section
variable {w w' : World} {V : List Int} {X : Nat → Prop} {A : Option Addr} {n c : Nat} {x : Int}
set_option maxRecDepth 100000 in
set_option maxHeartbeats 4000000 in
theorem refIn_any (h : Rd w X 1 A n (intsOf V)) (hn : n ≤ 1000000) (x : Int) : Calls Tryz.prog 22 #[.slice A n c, .int .i64 x] w fun r w' => r = .returned (.bool (decide (x ∈ V))) ∧ w' = w := by
  have hl1 := h.lenI
  have HR := Lib.hid h
  clear h
  go_enter Tryz.func22, Tryz.ntmps22
  go_wp2_with fail
  go_loopw [5] (fun i wv => ∃ k : Nat, k ≤ n ∧ i = .int .i64 k ∧ wv = w ∧ Hid (∀ j : Nat, j < k → V[j]? ≠ some x)) (fun i _ => n - (iOf i).toNat)
  case atStart => exact ⟨0, by omega, rfl, rfl, Lib.hid (fun j hj => by omega)⟩
  case round =>
    obtain ⟨k, hk, rfl, rfl, HNO⟩ := hrel
    by_cases hlt : k < n
    case neg =>
      have hd1 : decide (k < n) = false := by simpa using hlt
      have HF : Hid (decide (x ∈ V) = false) := Lib.hid (decide_eq_false (fun hm => by
        obtain ⟨j, hj⟩ := List.mem_iff_getElem?.1 hm
        exact HNO.out j (by have := (List.getElem?_eq_some_iff.1 hj).1; omega) hj))
      clear hlt
      go_wp2_with fail
      go_ret
      exact ⟨by rw [HF.out]; rfl, rfl⟩
    case pos =>
      have hd1 : decide (k < n) = true := by simpa using hlt
      obtain ⟨y, hy⟩ : ∃ y, V[k]? = some y := ⟨_, List.getElem?_eq_getElem (by omega)⟩
      obtain ⟨ad, rfl, hc⟩ := HR.out.intAt hy
      have HY := Lib.hid hy
      clear hy
      by_cases hxy : y = x
      · subst hxy
        have hq : (y == y) = true := by simp
        have HF : Hid (decide (y ∈ V) = true) := Lib.hid (decide_eq_true (List.mem_of_getElem? HY.out))
        go_wp2_with fail
        go_ret
        exact ⟨by rw [HF.out]; rfl, rfl⟩
      · have hq : (y == x) = false := by simp [hxy]
        have HNO2 : Hid (∀ j : Nat, j < k + 1 → V[j]? ≠ some x) := Lib.hid (fun j hj q => by
          by_cases hjk : j < k
          · exact HNO.out j hjk q
          · obtain rfl : j = k := by omega
            rw [HY.out] at q; injection q with q; exact hxy q)
        clear hxy
        go_wp2_with fail
        go_round
        case rel => exact ⟨k + 1, by omega, by go_num, (by first | rfl | trivial), HNO2⟩
        case measure => simp [iOf]; omega
/-- A new row. -/
def NewI (w : World) (V : List Int) (v : Value) (W : World) : Prop := OwnK W 3 1 v (intsOf V) ∧ (∀ b, v.ownBlock = some b → w.heap.size ≤ b) ∧ Below w.heap.size w W
theorem below_grew {B : Nat} {a V V' : World} {v v' : Value} (hb : Below B a V) (hg : Grew v V v' V') (hv : ∀ g, v.ownBlock = some g → B ≤ g) (hB : B ≤ V.heap.size) : Below B a V' :=
  ⟨hg.1.os.trans hb.os, hg.1.tape.trans hb.tape, hg.1.output.trans hb.output, Nat.le_trans hb.size hg.1.size, fun k hk => (hg.1.block k (by omega) (fun e => by have := hv k e.symm; omega)).trans (hb.block k hk)⟩
theorem NewI.more {U : List Int} {v v9 : Value} {W w9 : World} {y : Int} (hi : NewI w U v W) (ho9 : OwnK w9 3 1 v9 (intsOf U ++ [#[.int .i64 y]])) (hg9 : Grew v (W.alloc (.cells #[.int .i64 y] 3)) v9 w9) : NewI w (U ++ [y]) v9 w9 := by
  have hb := hi.2.2.alloc hi.2.2.size (.cells #[.int .i64 y] 3)
  refine ⟨by unfold intsOf at ho9 ⊢; rw [List.map_append]; exact ho9, fun b e => ?_, below_grew hb hg9 hi.2.1 hb.size⟩
  rcases hg9.2 b e with z | z
  · exact hi.2.1 b z
  · exact Nat.le_trans hb.size z
set_option maxRecDepth 100000 in
set_option maxHeartbeats 4000000 in
theorem refWithout_any (h : Rd w X 1 A n (intsOf V)) (hn : n ≤ 1000000) (x : Int) : Calls Tryz.prog 102 #[.slice A n c, .int .i64 x] w fun r w' => ∃ v, r = .returned v ∧ NewI w (wout V x) v w' := by
  have hl1 := h.lenI
  have HR := Lib.hid h
  clear h
  go_enter Tryz.func102, Tryz.ntmps102
  go_wp2_with fail
  go_loopw [5, 6] (fun o i wv => ∃ k : Nat, k ≤ n ∧ i = .int .i64 k ∧ NewI w (wout (V.take k) x) o wv) (fun _ i _ => n - (iOf i).toNat)
  case atStart => exact ⟨0, by omega, rfl, by rw [List.take_zero]; exact ⟨OwnK.nil _ _ _, fun b e => (nomatch e), Below.refl _ _⟩⟩
  case round =>
    obtain ⟨k, hk, rfl, hI⟩ := hrel
    have HI := Lib.hid hI
    obtain ⟨Ao, co, rfl, -⟩ := ints_form hI.1
    clear hI
    by_cases hlt : k < n
    case neg =>
      have hd1 : decide (k < n) = false := by simpa using hlt
      have htk : V.take k = V := List.take_of_length_le (by omega)
      rw [htk] at HI ⊢
      clear hlt htk
      go_wp2_with fail
      go_ret
      exact ⟨_, rfl, HI.out⟩
    case pos =>
      have hd1 : decide (k < n) = true := by simpa using hlt
      obtain ⟨y, hy⟩ : ∃ y, V[k]? = some y := ⟨_, List.getElem?_eq_getElem (by omega)⟩
      obtain ⟨ad, rfl, hc⟩ := (HR.out.below HI.out.2.2).intAt hy
      have HWT := Lib.hid (wout_take (x := x) hy)
      have HUL : Hid ((wout (V.take k) x).length ≤ 1000000) := Lib.hid (by have h1 := wout_len (V.take k) x; have h2 := List.length_take_le k V; omega)
      clear hy
      by_cases hxy : y = x
      · have hq := eqn9 hxy
        rw [if_pos hxy] at HWT
        clear hxy
        go_wp2_with fail
        go_round
        case rel => exact ⟨k + 1, by omega, by go_num, by rw [HWT.out]; exact HI.out⟩
        case measure => simp [iOf]; omega
      · have hq := nen9 hxy
        rw [if_neg hxy] at HWT
        clear hxy
        generalize wout (V.take k) x = U at *
        go_wp2_with (at_builtin; refine stop ?_)
        refine Stop.go (wpList_append_k el41 _ (by rfl) _ _ (by rfl) (.slice Ao U.length co) (intsOf U) (by rfl) (OwnK.alloc HI.out.1 _) No _ 1 _ [#[.int .i64 y]] (by rfl) (rd_one wr 3 #[.int .i64 y] rfl (by simp [Value.oneCell']) (fun h => h)) (by have := HUL.out; simp [intsOf]; omega) (by omega) ?_)
        intro v9 w9 ho9 hg9
        have HI9 := Lib.hid (HI.out.more ho9 hg9)
        clear ho9 hg9 hc
        go_wp2_with fail
        go_round
        case rel => exact ⟨k + 1, by omega, by go_num, by rw [HWT.out]; exact HI9.out⟩
        case measure => simp [iOf]; omega
end
end Go.Proofs.YtpmdicbhliclcaaGreat
