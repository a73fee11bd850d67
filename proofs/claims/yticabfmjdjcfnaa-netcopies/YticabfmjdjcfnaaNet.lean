/-
  A net in memory, and what the small functions answer. Nothing is assumed but bounds.
-/
import Derived.Test.YticabfmjdjcfnaaStep
namespace Go.Proofs.Yticabfmjdjcfnaa
open Go.RowKit
/-- The net at block g stands as s, its map in block m; the blocks that are its own are in S. -/
structure NtAt (w : World) (S : Nat → Prop) (g : Nat) (s : St) (m : Nat) : Prop where
  blk : Blk w g 73 #[.int .i64 (s.came : Int), .map (some m), .int .i64 (s.most : Int)]
  map : NM w (fun b => ¬ S b ∨ b = m ∨ b = g) m s.l
  ok : s.ok
  g_in : S g
  m_in : S m
  ne : m ≠ g
  lt : ∀ b, S b → b < w.heap.size
def Nt (w : World) (S : Nat → Prop) (g : Nat) (s : St) : Prop := ∃ m, NtAt w S g s m
section
variable {w w' : World} {S S' T : Nat → Prop} {g m : Nat} {s : St}
theorem NtAt.keep (h : NtAt w S g s m) (ht : Turn T w w') (hT : ∀ b, b < w.heap.size → T b → ¬ S b) : NtAt w' S g s m where
  blk := h.blk.keep ht (fun e => hT g h.blk.lt e h.g_in)
  map := h.map.keep ht (fun b hb e => .inl (hT b hb e)) (fun e => hT m h.map.lt e h.m_in)
  ok := h.ok
  g_in := h.g_in
  m_in := h.m_in
  ne := h.ne
  lt := fun b hb => Nat.lt_of_lt_of_le (h.lt b hb) ht.size
theorem Nt.keep (h : Nt w S g s) (ht : Turn T w w') (hT : ∀ b, b < w.heap.size → T b → ¬ S b) : Nt w' S g s := by
  obtain ⟨m, h⟩ := h
  exact ⟨m, h.keep ht hT⟩
theorem NtAt.below (h : NtAt w S g s m) (hb : Below w.heap.size w w') : NtAt w' S g s m := h.keep (T := No) (Turn.of_below hb No) (fun _ _ h => h.elim)
theorem Nt.below (h : Nt w S g s) (hb : Below w.heap.size w w') : Nt w' S g s := h.keep (T := No) (Turn.of_below hb No) (fun _ _ h => h.elim)
theorem NtAt.wide (h : NtAt w S g s m) (hS : ∀ b, S b → S' b) (hl : ∀ b, S' b → b < w.heap.size) : NtAt w S' g s m where
  blk := h.blk
  map := h.map.wide (fun b _ e => e.elim (fun e => .inl (fun q => e (hS b q))) .inr)
  ok := h.ok
  g_in := hS g h.g_in
  m_in := hS m h.m_in
  ne := h.ne
  lt := hl
theorem Nt.ok (h : Nt w S g s) : s.ok := by obtain ⟨m, h⟩ := h; exact h.ok
theorem Nt.lt (h : Nt w S g s) {b : Nat} (hb : S b) : b < w.heap.size := by obtain ⟨m, h⟩ := h; exact h.lt b hb
theorem Nt.g_in (h : Nt w S g s) : S g := by obtain ⟨m, h⟩ := h; exact h.g_in
end
/-- What a call that writes to the net leaves: of what was there only its own has turned, and its own is what was and new memory. -/
def Wrote (w : World) (S : Nat → Prop) (g : Nat) (s' : St) (w' : World) : Prop :=
  Turn S w w' ∧ ∃ S', (∀ b, S b → S' b) ∧ (∀ b, S' b → S b ∨ w.heap.size ≤ b) ∧ Nt w' S' g s'
theorem Wrote.same {w : World} {S : Nat → Prop} {g : Nat} {s : St} (h : Nt w S g s) : Wrote w S g s w := ⟨Turn.refl _ _, S, fun _ h => h, fun _ h => .inl h, h⟩
theorem Wrote.low {w w' : World} {S : Nat → Prop} {g : Nat} {s : St} (h : Nt w S g s) (hb : Below w.heap.size w w') : Wrote w S g s w' := ⟨Turn.of_below hb _, S, fun _ h => h, fun _ h => .inl h, h.below hb⟩
theorem Wrote.after {w0 w w' : World} {S : Nat → Prop} {g : Nat} {s : St} (hb : Below w0.heap.size w0 w) (h : Wrote w S g s w') : Wrote w0 S g s w' := by
  obtain ⟨h1, S', h2, h3, h4⟩ := h
  exact ⟨(Turn.of_below hb S).trans h1 (fun _ _ e => e), S', h2, fun b e => (h3 b e).elim .inl (fun q => .inr (Nat.le_trans hb.size q)), h4⟩
theorem Wrote.then {w w' w'' : World} {S : Nat → Prop} {g : Nat} {s : St} (h : Wrote w S g s w') (hb : Below w'.heap.size w' w'') : Wrote w S g s w'' := by
  obtain ⟨h1, S', h2, h3, h4⟩ := h
  exact ⟨h1.trans (Turn.of_below hb No) (fun _ _ e => e.elim), S', h2, h3, h4.below hb⟩
theorem num_any (n : Int) (w : World) : Calls Try.prog 18 #[.int .i64 n] w fun e w' => e = .returned (.int .i64 n) ∧ w = w' := by
  go_enter Try.func18, Try.ntmps18
  go_wp2
  go_ret
  exact ⟨rfl, rfl⟩
theorem isPlace_any (n : Int) (w : World) : Calls Try.prog 31 #[.int .i64 n] w fun e w' => e = .returned (.bool (isPl n)) ∧ w = w' := by
  go_enter Try.func31, Try.ntmps31
  go_wp2
  all_goals
    go_ret
    refine ⟨ret_bool ?_, rfl⟩
    unfold isPl
    rw [Bool.eq_iff_iff]
    simp
    omega
set_option maxHeartbeats 400000 in
theorem made_yes (g : Nat) (r : Nat) (w : World) (hc : w.cell? ⟨g, 2, none⟩ = some (.int .i64 (r : Int))) (hr : 1 ≤ r) : Calls Try.prog 30 #[.pointer (some ⟨g, 0, none⟩)] w fun e w' => e = .returned (.bool true) ∧ w = w' := by
  go_enter Try.func30, Try.ntmps30
  go_wp2
  all_goals first
    | (go_ret; exact ⟨rfl, rfl⟩)
    | (go_ret; exact ⟨ret_bool (by simp; omega), rfl⟩)
theorem made_net {w : World} {S : Nat → Prop} {g m : Nat} {s : St} (h : NtAt w S g s m) : Calls Try.prog 30 #[.pointer (some ⟨g, 0, none⟩)] w fun e w' => e = .returned (.bool true) ∧ w = w' := made_yes g s.most w (h.blk.cell 2) h.ok.lo
set_option maxHeartbeats 400000 in
theorem made_nil (w : World) : Calls Try.prog 30 #[.pointer none] w fun e w' => e = .returned (.bool false) ∧ w = w' := by
  go_enter Try.func30, Try.ntmps30
  go_wp2
  go_ret
  exact ⟨rfl, rfl⟩
theorem tmod_bound (k n : Int) (hn : 0 < n) : -n < k.tmod n ∧ k.tmod n < n := by
  have h1 := Int.tmod_lt_of_pos k hn
  have h2 := Int.lt_tmod_of_pos k hn
  omega
theorem tmod_pick (k n : Int) (hn : 0 < n) : (k.tmod n + n) % n = k % n := by
  rw [Int.add_emod_right, Int.tmod_eq_emod]
  split
  · rw [show ((0 : Nat) : Int) = 0 from rfl, Int.sub_zero, Int.emod_emod_of_dvd _ (Int.dvd_refl n)]
  · rw [Int.sub_emod, Int.emod_emod_of_dvd _ (Int.dvd_refl n)]
    have : ((n.natAbs : Int)) % n = 0 := by rw [show (n.natAbs : Int) = n from by omega]; exact Int.emod_self
    rw [this, Int.sub_zero, Int.emod_emod_of_dvd _ (Int.dvd_refl n)]
set_option maxHeartbeats 1000000 in
/-- net.picked. -/
theorem picked_any (k : Int) (n : Nat) (w : World) (h1 : 1 ≤ n) (hn : n ≤ 1000000000) : Calls Try.prog 52 #[.int .i64 k, .int .i64 (n : Int)] w fun e w' => e = .returned (.int .i64 (pick k n : Int)) ∧ w = w' := by
  have hb := tmod_bound k (n : Int) (by omega)
  have HP := Lib.hid (tmod_pick k (n : Int) (by omega))
  have HC := Lib.hid (pick_cast k (n := n) (by omega))
  have h0 : ((n : Int) == 0) = false := by rw [beq_eq_false_iff_ne]; omega
  go_enter Try.func52, Try.ntmps52
  go_wp2
  go_ret
  exact ⟨ret_i64 (by rw [HC.out, HP.out]), rfl⟩
set_option maxHeartbeats 1000000 in
/-- The document's Pick. -/
theorem refPick_any (M K : Value) (A : Option Addr) (n c : Nat) (k : Int) (w : World) (h1 : 1 ≤ n) (hn : n ≤ 1000000000) : Calls Try.prog 34 #[.agg #[M, .slice A n c, K], .int .i64 k] w fun e w' => e = .returned (.int .i64 (pick k n : Int)) ∧ Below w.heap.size w w' := by
  have hb := tmod_bound k (n : Int) (by omega)
  have HP := Lib.hid (tmod_pick k (n : Int) (by omega))
  have HC := Lib.hid (pick_cast k (n := n) (by omega))
  have h0 : ((n : Int) == 0) = false := by rw [beq_eq_false_iff_ne]; omega
  by_cases hneg : k.tmod (n : Int) < 0
  · have HE : Hid (k.tmod (n : Int) + n = k % (n : Int)) := Lib.hid (by rw [← HP.out, Int.emod_eq_of_lt (by omega) (by omega)])
    go_enter Try.func34, Try.ntmps34
    go_wp2
    go_ret
    exact ⟨ret_i64 (by rw [HC.out, ← HE.out]), (Below.refl _ _).alloc (Nat.le_refl _) _⟩
  · have HE : Hid (k.tmod (n : Int) = k % (n : Int)) := Lib.hid (by rw [← HP.out, Int.add_emod_right, Int.emod_eq_of_lt (by omega) (by omega)])
    go_enter Try.func34, Try.ntmps34
    go_wp2
    go_ret
    exact ⟨ret_i64 (by rw [HC.out, ← HE.out]), (Below.refl _ _).alloc (Nat.le_refl _) _⟩
set_option maxHeartbeats 400000 in
/-- net.copied. -/
theorem copied_any (A : Option Addr) (n c : Nat) (l : Bs) (X : Nat → Prop) (w : World) (hr : Bys w X A n l) (hn : n ≤ 1000000000) : Calls Try.prog 49 #[.slice A n c] w (Fresh w l) := by
  go_enter Try.func49, Try.ntmps49
  go_wp2_with (at_builtin; refine wpList_append_bytes _ (by rfl) _ _ (by rfl) _ [] (by rfl) (Own.nil w) X _ n _ l (by rfl) hr (by simp) (by omega) ?_; intro v' w' ho' hg')
  go_ret
  exact ⟨_, rfl, ho', fun g e => (hg'.2 g e).elim (fun q => (by cases q)) id, hg'.low (fun g e => (by cases e))⟩
/-- A message like m, with bytes of its own that were made since w. -/
def NewMsg (w : World) (m : Msg) (v : Value) (w' : World) : Prop := ∃ A n c, v = .agg #[.int .i64 m.fr, .int .i64 m.to, .slice A n c] ∧ Own w' (.slice A n c) m.b ∧ ∀ g, Value.ownBlock (.slice A n c) = some g → w.heap.size ≤ g
theorem NewMsg.keep {w w' w'' : World} {m : Msg} {v : Value} (h : NewMsg w m v w') (hb : Below w'.heap.size w' w'') : NewMsg w m v w'' := by
  obtain ⟨A, n, c, e, h1, h2⟩ := h
  exact ⟨A, n, c, e, h1.below hb, h2⟩
theorem NewMsg.msgV {w w' : World} {m : Msg} {v : Value} (h : NewMsg w m v w') : MsgV w' (fun b => b < w.heap.size) m v := by
  obtain ⟨A, n, c, e, h1, h2⟩ := h
  exact ⟨A, n, c, e, h1.bys (fun g e' => by have := h2 g e'; omega)⟩
theorem NewMsg.since {w0 w w' : World} {m : Msg} {v : Value} (h : NewMsg w m v w') (hs : w0.heap.size ≤ w.heap.size) : NewMsg w0 m v w' := by
  obtain ⟨A, n, c, e, h1, h2⟩ := h
  exact ⟨A, n, c, e, h1, fun g e => Nat.le_trans hs (h2 g e)⟩
end Go.Proofs.Yticabfmjdjcfnaa
