/-
  What was put, and what of it is gone: the messages on their way are those that are not; and two messages that are held against each other. Nothing is assumed.
-/
import Derived.Test.YticabfmjdjcfnaaFew
namespace Go.Proofs.Yticabfmjdjcfnaa
open Go.RowKit
/-- Those that are not gone, with their numbers. -/
def live : Nat → List Msg → List Bool → Row
  | i, m :: ms, g :: gs => if g then live (i + 1) ms gs else ((i : Int), m) :: live (i + 1) ms gs
  | _, _, _ => []
theorem live_snoc : ∀ (i : Nat) (ms : List Msg) (gs : List Bool) (m : Msg), ms.length = gs.length → live i (ms ++ [m]) (gs ++ [false]) = live i ms gs ++ [(((i + ms.length : Nat) : Int), m)]
  | i, [], [], m, _ => by simp [live]
  | i, a :: ms, g :: gs, m, h => by
    have ih := live_snoc (i + 1) ms gs m (by simpa using h)
    have e : i + 1 + ms.length = i + (a :: ms).length := by simp; omega
    rw [e] at ih
    cases g <;> simp [live, ih]
  | i, [], g :: gs, m, h => by simp at h
  | i, a :: ms, [], m, h => by simp at h
theorem live_len : ∀ (i : Nat) (ms : List Msg) (gs : List Bool), ms.length = gs.length → (live i ms gs).length = (gs.filter (fun g => !g)).length
  | i, [], [], _ => rfl
  | i, a :: ms, g :: gs, h => by
    have ih := live_len (i + 1) ms gs (by simpa using h)
    cases g <;> simp [live, ih]
  | i, [], g :: gs, h => by simp at h
  | i, a :: ms, [], h => by simp at h
/-- What lies at a place. -/
theorem live_at : ∀ (i : Nat) (ms : List Msg) (gs : List Bool) (j : Nat) (k : Int) (m : Msg), (live i ms gs)[j]? = some (k, m) →
    ∃ q : Nat, k = ((i + q : Nat) : Int) ∧ ms[q]? = some m ∧ gs[q]? = some false ∧ live i ms (gs.set q true) = (live i ms gs).eraseIdx j
  | i, [], gs, j, k, m, h => by simp [live] at h
  | i, a :: ms, [], j, k, m, h => by simp [live] at h
  | i, a :: ms, true :: gs, j, k, m, h => by
    have h' : (live (i + 1) ms gs)[j]? = some (k, m) := by simpa [live] using h
    obtain ⟨q, h1, h2, h3, h4⟩ := live_at (i + 1) ms gs j k m h'
    refine ⟨q + 1, by rw [h1]; omega, by simpa using h2, by simpa using h3, ?_⟩
    simp [live, h4]
  | i, a :: ms, false :: gs, 0, k, m, h => by
    have h' : ((i : Int), a) = (k, m) := by simpa [live] using h
    injection h' with e1 e2
    subst e1 e2
    exact ⟨0, by simp, rfl, rfl, by simp [live]⟩
  | i, a :: ms, false :: gs, j + 1, k, m, h => by
    have h' : (live (i + 1) ms gs)[j]? = some (k, m) := by simpa [live] using h
    obtain ⟨q, h1, h2, h3, h4⟩ := live_at (i + 1) ms gs j k m h'
    refine ⟨q + 1, by rw [h1]; omega, by simpa using h2, by simpa using h3, ?_⟩
    simp [live, h4]
theorem filter_take (gs : List Bool) {k : Nat} (h : k < gs.length) : ((gs.take (k + 1)).filter (fun g => !g)).length = ((gs.take k).filter (fun g => !g)).length + (if gs[k] then 0 else 1) := by
  rw [List.take_succ_eq_append_getElem h, List.filter_append, List.length_append]
  cases gs[k] <;> simp
/-- Are two messages the same? -/
def sameM (a b : Msg) : Bool := a.fr == b.fr && a.to == b.to && a.b == b.b
theorem sameM_refl (a : Msg) : sameM a a = true := by simp [sameM]
theorem sameM_iff {a b : Msg} : sameM a b = true ↔ a = b := by
  constructor
  · intro h
    simp [sameM] at h
    exact Msg.eq h.1.1 h.1.2 h.2
  · rintro rfl
    exact sameM_refl _
set_option maxRecDepth 100000 in
set_option maxHeartbeats 4000000 in
theorem sameMsg_any {w : World} {X X' : Nat → Prop} {a b : Msg} {va vb : Value} (ha : MsgV w X a va) (hb : MsgV w X' b vb) : Calls Try.prog 28 #[va, vb] w fun e w' => e = .returned (.bool (sameM a b)) ∧ Below w.heap.size w w' := by
  obtain ⟨A, n, c, rfl, hA⟩ := ha
  obtain ⟨A', n', c', rfl, hB⟩ := hb
  have k0 : Blk ((w.alloc (.cells #[.int .i64 a.fr, .int .i64 a.to, .slice A n c] 39)).alloc (.cells #[.int .i64 b.fr, .int .i64 b.to, .slice A' n' c'] 39)) w.heap.size 39 #[.int .i64 a.fr, .int .i64 a.to, .slice A n c] := (Blk.new _ _ _).alloc _
  have k1 : Blk ((w.alloc (.cells #[.int .i64 a.fr, .int .i64 a.to, .slice A n c] 39)).alloc (.cells #[.int .i64 b.fr, .int .i64 b.to, .slice A' n' c'] 39)) (w.heap.size + 1) 39 #[.int .i64 b.fr, .int .i64 b.to, .slice A' n' c'] := blk_new _ 39 _ (by simp)
  have hb2 : Below w.heap.size w ((w.alloc (.cells #[.int .i64 a.fr, .int .i64 a.to, .slice A n c] 39)).alloc (.cells #[.int .i64 b.fr, .int .i64 b.to, .slice A' n' c'] 39)) := ((Below.refl _ _).alloc (Nat.le_refl _) _).alloc (by simp) _
  have hc1 := conv_str _ X A n c a.b (hA.below hb2)
  have hc2 := conv_str _ X' A' n' c' b.b (hB.below hb2)
  have hst := str_toList a.b
  have hst' := str_toList b.b
  clear hA hB
  obtain ⟨c0, c1, c2⟩ := k0.three
  obtain ⟨d0, d1, d2⟩ := k1.three
  have HB := Lib.hid hb2
  clear hb2
  cases h1 : (a.fr == b.fr) with
  | false =>
    have HR : Hid (sameM a b = false) := Lib.hid (by unfold sameM; rw [h1]; rfl)
    go_enter Try.func28, Try.ntmps28
    go_wp2_with fail
    go_ret
    exact ⟨ret_bool HR.out.symm, HB.out⟩
  | true =>
  cases h2 : (a.to == b.to) with
  | false =>
    have HR : Hid (sameM a b = false) := Lib.hid (by unfold sameM; rw [h1, h2]; rfl)
    go_enter Try.func28, Try.ntmps28
    go_wp2_with fail
    go_ret
    exact ⟨ret_bool HR.out.symm, HB.out⟩
  | true =>
  have HR : Hid (sameM a b = (a.b == b.b)) := Lib.hid (by unfold sameM; rw [h1, h2]; rfl)
  go_enter Try.func28, Try.ntmps28
  go_wp2_with fail
  all_goals
    go_ret
    exact ⟨ret_bool HR.out.symm, HB.out⟩
end Go.Proofs.Yticabfmjdjcfnaa
