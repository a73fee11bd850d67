/-
  A list without a number, in its own row. Conditions: at most 1000000.
-/
import Derived.Test.YtpmdicbhliclcaaGreatLst
import Derived.Lib.SliceRun
namespace Go.Proofs.YtpmdicbhliclcaaGreat
open Go.RowKit Go.Maps
set_option linter.unusedVariables false
/-- A list without a number. -/
def wout (V : List Int) (x : Int) : List Int := V.filter (fun y => y != x)
theorem wout_take {V : List Int} {x y : Int} {j : Nat} (h : V[j]? = some y) : wout (V.take (j + 1)) x = if y = x then wout (V.take j) x else wout (V.take j) x ++ [y] := by
  unfold wout
  rw [List.take_add_one, h, List.filter_append]
  by_cases hy : y = x
  · subst hy; simp
  · rw [if_neg hy]; simp [hy]
theorem wout_no {V : List Int} {x : Int} (h : x ∉ V) : wout V x = V := by
  unfold wout
  rw [List.filter_eq_self]
  intro y hy
  simp
  exact fun e => h (e ▸ hy)
theorem wout_len (V : List Int) (x : Int) : (wout V x).length ≤ V.length := List.length_filter_le _ _
section
variable {w w' : World} {V : List Int} {X : Nat → Prop} {A : Option Addr} {n c g bx : Nat} {x : Int}
theorem del_any (hx : w.cell? ⟨bx, 0, none⟩ = some (.int .i64 x)) (y : Int) : Calls Tryz.prog 117 #[.int .i64 y, .pointer (some ⟨bx, 0, none⟩)] w fun r w' => r = .returned (.bool (decide (y = x))) ∧ w' = w := by
  have e : ((y == x) : Bool) = decide (y = x) := rfl
  by_cases h : y = x
  · have h1 : (y == x) = true := by simp [h]
    have HF : Hid (decide (y = x) = true) := Lib.hid (decide_eq_true h)
    clear h e
    go_enter Tryz.func117, Tryz.ntmps117
    go_wp2_with fail
    go_ret
    exact ⟨by rw [HF.out]; rfl, rfl⟩
  · have h1 : (y == x) = false := by simp [h]
    have HF : Hid (decide (y = x) = false) := Lib.hid (decide_eq_false h)
    clear h e
    go_enter Tryz.func117, Tryz.ntmps117
    go_wp2_with fail
    go_ret
    exact ⟨by rw [HF.out]; rfl, rfl⟩
set_option maxRecDepth 100000 in
set_option maxHeartbeats 4000000 in
theorem indexFunc_any (h : Rd w X 1 A n (intsOf V)) (hn : n ≤ 1000000) (hx : w.cell? ⟨bx, 0, none⟩ = some (.int .i64 x)) : Calls Tryz.prog 113 #[.slice A n c, .func (.func 117) #[] #[.pointer (some ⟨bx, 0, none⟩)]] w fun r w' => r = .returned (.int .i64 (idx V x)) ∧ w' = w := by
  have hl1 := h.lenI
  have HR := Lib.hid h
  have HX := Lib.hid hx
  clear h hx
  go_enter Tryz.func113, Tryz.ntmps113
  go_wp2_with fail
  go_loopw [8] (fun i wv => ∃ k : Nat, k ≤ n ∧ i = .int .i64 k ∧ wv = w ∧ Hid (∀ j : Nat, j < k → V[j]? ≠ some x)) (fun i _ => n - (iOf i).toNat)
  case atStart => exact ⟨0, by omega, rfl, rfl, Lib.hid (fun j hj => by omega)⟩
  case round =>
    obtain ⟨k, hk, rfl, rfl, HNO⟩ := hrel
    by_cases hlt : k < n
    case neg =>
      have hd1 : decide (k < n) = false := by simpa using hlt
      have HF : Hid (idx V x = -1) := Lib.hid (idx_no (fun hm => by
        obtain ⟨j, hj⟩ := List.mem_iff_getElem?.1 hm
        exact HNO.out j (by have := (List.getElem?_eq_some_iff.1 hj).1; omega) hj))
      clear hlt
      go_wp2_with fail
      go_ret
      exact ⟨by rw [HF.out]; rfl, rfl⟩
    case pos =>
      have hd1 : decide (k < n) = true := by simpa using hlt
      obtain ⟨y, hy⟩ : ∃ y, V[k]? = some y := ⟨_, List.getElem?_eq_getElem (by omega)⟩
      obtain ⟨ad, rfl, hc⟩ := HR.out.intAt hy
      have HY := Lib.hid hy
      have hde := del_any HX.out y
      clear hy
      by_cases hxy : y = x
      · subst hxy
        have HF : Hid (idx V y = (k : Int)) := Lib.hid (idx_at HY.out HNO.out)
        rw [decide_eq_true rfl] at hde
        go_wp2_with fail
        refine hde.mono ?_
        rintro r w1 ⟨rfl, rfl⟩
        clear hde
        go_wp2_with fail
        go_ret
        exact ⟨by rw [HF.out]; rfl, rfl⟩
      · rw [decide_eq_false hxy] at hde
        have HNO2 : Hid (∀ j : Nat, j < k + 1 → V[j]? ≠ some x) := Lib.hid (fun j hj q => by
          by_cases hjk : j < k
          · exact HNO.out j hjk q
          · obtain rfl : j = k := by omega
            rw [HY.out] at q; injection q with q; exact hxy q)
        clear hxy
        go_wp2_with fail
        refine hde.mono ?_
        rintro r w1 ⟨rfl, rfl⟩
        clear hde
        go_wp2_with fail
        go_round
        case rel => exact ⟨k + 1, by omega, by go_num, (by first | rfl | trivial), HNO2⟩
        case measure => simp [iOf]; omega
theorem Blk.setCells : ∀ (vs : List Value) (o : Nat) {w : World} {b t : Nat} {cs : Array Value}, Blk w b t cs → ∃ cs', Blk (w.setCells b o vs) b t cs' ∧ cs'.size = cs.size ∧ ∀ q, q < o → cs'[q]? = cs[q]?
  | [], o, w, b, t, cs, h => ⟨cs, h, rfl, fun _ _ => rfl⟩
  | v :: vs, o, w, b, t, cs, h => by
    obtain ⟨cs', h1, h2, h3⟩ := Blk.setCells vs (o + 1) (h.set_ o v)
    refine ⟨cs', h1, by rw [h2]; simp, fun q hq => ?_⟩
    rw [h3 q (by omega), Array.getElem?_setIfInBounds]
    rw [if_neg (by omega)]
theorem setCells_turn (b : Nat) : ∀ (vs : List Value) (o : Nat) (w : World), Turn (fun x => x = b) w (w.setCells b o vs)
  | [], o, w => Turn.refl _ _
  | v :: r, o, w => ((Turn.refl (fun x => x = b) w).setCell (p := ⟨b, o, none⟩) (fun _ => rfl) v).trans (setCells_turn b r (o + 1) _) (fun _ _ h => h)
/-- The first cells of a row are a list. -/
theorem ownK_first {cur : Array Value} {F : List Int} (hb : Blk w g 3 cur) (hc : c ≤ maxLen) (hs : cur.size = c) (hl : F.length ≤ c) (h : ∀ (q : Nat) (y : Int), F[q]? = some y → cur[q]? = some (.int .i64 y)) : OwnK w 3 1 (.slice (some ⟨g, 0, none⟩) F.length c) (intsOf F) := by
  have hfl : ∀ F : List Int, flatA (intsOf F) = F.map (fun y => Value.int .i64 y) := fun F => by
    unfold intsOf flatA
    induction F with
    | nil => rfl
    | cons a F ih => simp at ih ⊢; exact ih
  refine ⟨⟨by rw [hfl]; simp [intsOf], .inr ⟨g, c, cur, by simp [intsOf], Nat.zero_le _, hb, by simp [intsOf]; omega, hc, by omega, ?_⟩⟩, fun cs hcs => ?_⟩
  · rw [hfl]
    apply List.ext_getElem?
    intro q
    rw [List.getElem?_take, List.getElem?_map]
    have hin : (intsOf F).length * 1 = F.length := by simp [intsOf]
    rw [hin]
    by_cases hq : q < F.length
    · rw [if_pos hq, Array.getElem?_toList, h q _ (List.getElem?_eq_getElem hq), List.getElem?_eq_getElem hq]
      rfl
    · rw [if_neg hq, List.getElem?_eq_none (by omega)]
      rfl
  · unfold intsOf at hcs
    rw [List.mem_map] at hcs
    obtain ⟨y, -, rfl⟩ := hcs
    exact ⟨rfl, by simp [Value.oneCell']⟩
end
end Go.Proofs.YtpmdicbhliclcaaGreat
