/-
  The log of those entries that may be appended. Conditions: at most 4096 entries.
-/
import Derived.Test.YtafgcafhgnfegaaIs
namespace Go.Proofs.Ytafgcafhgnfegaa
open Go.RowKit Go.Maps
set_option linter.unusedVariables false
def keep1 (a : List Ent) (e : Ent) : List Ent := if appendE a e = 0 then a ++ [e] else a
def kept (l : List Ent) : List Ent := l.foldl keep1 []
theorem kept_snoc (l : List Ent) (e : Ent) : kept (l ++ [e]) = keep1 (kept l) e := by unfold kept; rw [List.foldl_append]; rfl
theorem kept_take {l : List Ent} {k : Nat} {e : Ent} (h : l[k]? = some e) : kept (l.take (k + 1)) = keep1 (kept (l.take k)) e := by
  rw [List.take_add_one, h]; exact kept_snoc _ _
theorem keep1_right {a : List Ent} {e : Ent} (h : AllR a) : AllR (keep1 a e) := by
  unfold keep1
  split
  · rename_i hz
    intro x hx
    rcases List.mem_append.1 hx with hx | hx
    · exact h x hx
    · simp at hx; subst hx; exact (append_zero hz).1
  · exact h
theorem keep1_all {a : List Ent} {e : Ent} (h : allE [] a = 0) : allE [] (keep1 a e) = 0 := by
  unfold keep1
  split
  · rename_i hz
    rw [allE_app, if_pos h, allE_one]
    exact hz
  · exact h
theorem keep1_len (a : List Ent) (e : Ent) : (keep1 a e).length ≤ a.length + 1 := by
  unfold keep1
  split
  · simp
  · omega
theorem fold_right (l : List Ent) : ∀ a, AllR a → AllR (l.foldl keep1 a) := by
  induction l with
  | nil => intro a h; exact h
  | cons e l ih => intro a h; exact ih _ (keep1_right h)
theorem fold_all (l : List Ent) : ∀ a, allE [] a = 0 → allE [] (l.foldl keep1 a) = 0 := by
  induction l with
  | nil => intro a h; exact h
  | cons e l ih => intro a h; exact ih _ (keep1_all h)
theorem fold_len (l : List Ent) : ∀ a, (l.foldl keep1 a).length ≤ a.length + l.length := by
  induction l with
  | nil => intro a; exact Nat.le_refl _
  | cons e l ih => intro a; have h1 := ih (keep1 a e); have h2 := keep1_len a e; simp only [List.foldl_cons, List.length_cons]; omega
theorem kept_right (l : List Ent) : AllR (kept l) := fold_right l [] (fun e he => by cases he)
theorem kept_all (l : List Ent) : allE [] (kept l) = 0 := fold_all l [] rfl
theorem kept_len (l : List Ent) : (kept l).length ≤ l.length := by have := fold_len l []; simpa [kept] using this
section
variable {w w' : World} {X : Nat → Prop} {S : Nat → Prop} {A : Option Addr} {g n c : Nat} {l : List Ent} {e : Ent}
/-- A log of our own, in a world that differs from w only in blocks made since. -/
def LogV (w : World) (l : List Ent) (v : Value) (W : World) : Prop := ∃ A c, v = .slice A l.length c ∧ OwnK W 26 6 v (cellsOf l) ∧ (∀ b, v.ownBlock = some b → w.heap.size ≤ b) ∧ Below w.heap.size w W
theorem LogV.nil_ {W : World} (hb : Below w.heap.size w W) : LogV w [] (.slice none 0 0) W := ⟨none, 0, rfl, OwnK.nil _ _ _, ⟨fun b h => (nomatch h), hb⟩⟩
theorem LogV.low {v : Value} {W W' : World} (h : LogV w l v W) (hb : Below W.heap.size W W') : LogV w l v W' := by
  obtain ⟨A, c, e, h1, h2, h3⟩ := h
  exact ⟨A, c, e, h1.below hb, h2, h3.trans (hb.mono h3.size)⟩
theorem LogV.below {v : Value} {W : World} (h : LogV w l v W) : Below w.heap.size w W := by
  obtain ⟨A, c, e, h1, h2, h3⟩ := h
  exact h3
theorem LogV.rd {W : World} (h : LogV w l (.slice A n c) W) : Rd W No 6 A n (cellsOf l) := by
  obtain ⟨A', c', e, h1, h2, h3⟩ := h
  exact h1.rd (fun _ _ h => h)
/-- The document's Append on a log of our own. -/
theorem refApp_any {W : World} {v : Value} (h : LogV w l v W) (hl : l.length ≤ 1000000) (e : Ent) : Calls Try.prog 15 #[v, e.val] W fun r W' => ∃ v', r = .returned (.tuple #[v', .int .i64 (appendE l e)]) ∧ LogV w (keep1 l e) v' W' ∧ Below W.heap.size W W' := by
  obtain ⟨A, c, rfl, h1, h2, h3⟩ := h
  by_cases hz : appendE l e = 0
  · refine (refAppend_ok (c := c) (h1.rd (X := No) (fun _ _ h => h)) hz).mono ?_
    rintro r W' ⟨hb, h⟩
    rcases h with ⟨h0, -⟩ | ⟨-, A', c', rfl, hO, hv⟩
    · exact absurd hz h0
    · rw [hz]
      unfold keep1
      rw [if_pos hz]
      exact ⟨_, rfl, ⟨A', c', by simp, hO, fun b eb => Nat.le_trans h3.size (hv b eb), h3.trans (hb.mono h3.size)⟩, hb⟩
  · refine (refAppend_err (c := c) (h1.rd (X := No) (fun _ _ h => h)) hl hz).mono ?_
    rintro r W' ⟨hb, h⟩
    rcases h with ⟨-, rfl⟩ | ⟨h0, -⟩
    · unfold keep1
      rw [if_neg hz]
      exact ⟨_, rfl, ⟨A, c, rfl, h1.below hb, h2, h3.trans (hb.mono h3.size)⟩, hb⟩
    · exact absurd h0 hz
set_option maxRecDepth 100000 in
set_option maxHeartbeats 8000000 in
theorem log_of (hr : Rd w X 6 A n (cellsOf l)) (hn : n ≤ 4096) : Calls Try.prog 19 #[.slice A n c] w fun r w' => ∃ v, r = .returned v ∧ LogV w (kept l) v w' ∧ Below w.heap.size w w' := by
  have HLEN := Lib.hid hr.lenE
  have HR := Lib.hid hr
  clear hr
  go_enter Try.func19, Try.ntmps19
  go_wp2_with fail
  go_loopw [3, 4] (fun o i wv => ∃ k : Nat, k ≤ n ∧ i = .int .i64 k ∧ LogV w (kept (l.take k)) o wv) (fun o i _ => n - (iOf i).toNat)
  case atStart => exact ⟨0, by omega, rfl, LogV.nil_ (Below.refl _ _)⟩
  case round =>
    obtain ⟨k, hk, rfl, hL⟩ := hrel
    by_cases hlt : k < n
    case neg =>
      have hd1 : decide (k < n) = false := by simpa using hlt
      rw [List.take_of_length_le (by have := HLEN.out; omega)] at hL
      have HL := Lib.hid hL
      clear hL
      go_wp2_with fail
      go_ret
      exact ⟨_, rfl, HL.out, HL.out.below⟩
    case pos =>
      obtain ⟨e, he⟩ : ∃ e, l[k]? = some e := ⟨_, List.getElem?_eq_getElem (by rw [HLEN.out]; exact hlt)⟩
      obtain ⟨ad, rfl, hadl, -, c0, c1, c2, c3, c4, c5⟩ := (HR.out.below hL.below).ent he
      have hd1 : decide (k < n) = true := by simpa using hlt
      have hap := refApp_any hL (by have := kept_len (l.take k); have := List.length_take_le k l; omega) e
      rw [← kept_take he] at hap
      have HL := Lib.hid hL
      clear he hL
      unfold Ent.val Ent.cells at hap
      go_wp2_with fail
      refine hap.mono ?_
      rintro r w2 ⟨v2, rfl, hL2, hb2⟩
      have HL2 := Lib.hid hL2
      clear hap hL2 hb2 c0 c1 c2 c3 c4 c5
      go_wp2_with fail
      go_round
      case rel => exact ⟨k + 1, by omega, by go_num, HL2.out⟩
      case measure => simp [iOf]; omega
end
end Go.Proofs.Ytafgcafhgnfegaa
