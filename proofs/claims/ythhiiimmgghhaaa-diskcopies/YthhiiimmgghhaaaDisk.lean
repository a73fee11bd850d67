/-
  A disk in memory: its struct, its two maps of files, the things that wait, each with its closure. Nothing is assumed.
-/
import Derived.Test.YthhiiimmgghhaaaRowk
namespace Go.Proofs.Ythhiiimmgghhaaa
open Go.RowKit
def adr (p : Nat) : Value := .pointer (some ⟨p, 0, none⟩)
/-- A thing as it lies in memory, its closure's variables at blocks p and q. -/
def Th.cells (t : Th) (p q : Nat) : Array Value := match t with
  | .put n b => #[.int .i64 1, .string (str n), .string (str b), .int .i64 0, .func (.func 68) #[] #[.pointer (some ⟨p, 0, none⟩), .pointer (some ⟨q, 0, none⟩)]]
  | .cut n k => #[.int .i64 2, .string (str n), .string (str []), .int .i64 (k : Int), .func (.func 70) #[] #[.pointer (some ⟨p, 0, none⟩), .pointer (some ⟨q, 0, none⟩)]]
  | .rem n => #[.int .i64 3, .string (str n), .string (str []), .int .i64 0, .func (.func 72) #[] #[.pointer (some ⟨p, 0, none⟩)]]
/-- What the second variable holds. -/
def Th.arg : Th → Option Value
  | .put _ b => some (.string (str b))
  | .cut _ k => some (.int .i64 (k : Int))
  | .rem _ => none
/-- The cells cs are the thing t, whose closure's variables lie in blocks that are there and not in X. -/
def ThAt (w : World) (X : Nat → Prop) (t : Th) (cs : Array Value) : Prop :=
  ∃ p q, cs = t.cells p q ∧ p < w.heap.size ∧ ¬ X p ∧ w.cell? ⟨p, 0, none⟩ = some (.string (str t.name)) ∧ ∀ v, t.arg = some v → q < w.heap.size ∧ ¬ X q ∧ w.cell? ⟨q, 0, none⟩ = some v
section
variable {w w' : World} {X X' S : Nat → Prop} {t : Th} {cs : Array Value}
theorem ThAt.keep (h : ThAt w X t cs) (ht : Turn S w w') (hS : ∀ b, b < w.heap.size → S b → X b) : ThAt w' X t cs := by
  obtain ⟨p, q, e, h1, h2, h3, h4⟩ := h
  refine ⟨p, q, e, Nat.lt_of_lt_of_le h1 ht.size, h2, (ht.cell (p := ⟨p, 0, none⟩) h1 (fun e => h2 (hS _ h1 e))).trans h3, fun v hv => ?_⟩
  obtain ⟨h5, h6, h7⟩ := h4 v hv
  exact ⟨Nat.lt_of_lt_of_le h5 ht.size, h6, (ht.cell (p := ⟨q, 0, none⟩) h5 (fun e => h6 (hS _ h5 e))).trans h7⟩
theorem ThAt.wide (h : ThAt w X t cs) (hX : ∀ b, b < w.heap.size → X' b → X b) : ThAt w X' t cs := by
  obtain ⟨p, q, e, h1, h2, h3, h4⟩ := h
  refine ⟨p, q, e, h1, fun e => h2 (hX _ h1 e), h3, fun v hv => ?_⟩
  obtain ⟨h5, h6, h7⟩ := h4 v hv
  exact ⟨h5, fun e => h6 (hX _ h5 e), h7⟩
theorem Th.cells_size (t : Th) (p q : Nat) : (t.cells p q).size = 5 := by cases t <;> rfl
theorem Th.cells_one (t : Th) (p q : Nat) : ∀ u ∈ (t.cells p q).toList, u.oneCell' = true := by
  intro u hu
  cases t <;> (simp [Th.cells] at hu; rcases hu with rfl | rfl | rfl | rfl | rfl <;> rfl)
end
/-- The value v is a row of these things. -/
def OwnT (w : World) (X : Nat → Prop) (v : Value) (ts : List Th) : Prop := ∃ css, css.length = ts.length ∧ OwnK w 92 5 v css ∧ ∀ (i : Nat) (t : Th) (cs : Array Value), ts[i]? = some t → css[i]? = some cs → ThAt w X t cs
section
variable {w w' : World} {X X' S : Nat → Prop} {ts : List Th} {v : Value}
theorem OwnT.keep (h : OwnT w X v ts) (ht : Turn S w w') (hS : ∀ b, b < w.heap.size → S b → X b) (hv : ∀ g, v.ownBlock = some g → ¬ S g) : OwnT w' X v ts := by
  obtain ⟨css, h1, h2, h3⟩ := h
  exact ⟨css, h1, h2.keep ht hv, fun i t cs e1 e2 => (h3 i t cs e1 e2).keep ht hS⟩
theorem OwnT.wide (h : OwnT w X v ts) (hX : ∀ b, b < w.heap.size → X' b → X b) : OwnT w X' v ts := by
  obtain ⟨css, h1, h2, h3⟩ := h
  exact ⟨css, h1, h2, fun i t cs e1 e2 => (h3 i t cs e1 e2).wide hX⟩
theorem OwnT.nil (w : World) (X : Nat → Prop) : OwnT w X (.slice none 0 0) [] := ⟨[], rfl, OwnK.nil w 92 5, fun i t cs e => by simp at e⟩
theorem OwnT.form (h : OwnT w X v ts) : ∃ A q c, v = .slice A q c ∧ q = ts.length ∧ q ≤ c ∧ c ≤ maxLen := by
  obtain ⟨css, h1, h2, h3⟩ := h
  obtain ⟨A, q, c, e1, e2, e3⟩ := h2.form
  exact ⟨A, q, c, e1, by omega, e3⟩
theorem OwnT.lt (h : OwnT w X v ts) {g : Nat} (he : v.ownBlock = some g) : g < w.heap.size := by
  obtain ⟨css, h1, h2, h3⟩ := h
  exact h2.lt he
end
/-- The disk at block g stands as s; the blocks that are its own to write are in S; no closure's variable lies in X. -/
structure DkAt (w : World) (S X : Nat → Prop) (g : Nat) (s : St) (m1 m2 : Nat) (S1 S2 : Nat → Prop) (wv : Value) : Prop where
  blk : Blk w g 82 #[.map (some m1), .int .i64 (total s.files : Int), .map (some m2), .int .i64 (total s.lasts : Int), wv, .int .i64 (s.room : Int)]
  f1 : FM w S1 m1 s.files
  f2 : FM w S2 m2 s.lasts
  ts : OwnT w X wv s.waits
  ok : s.ok
  g_in : S g
  s1_in : ∀ b, S1 b → S b
  s2_in : ∀ b, S2 b → S b
  wv_in : ∀ r, wv.ownBlock = some r → S r
  g1 : ¬ S1 g
  g2 : ¬ S2 g
  apart : ∀ b, S1 b → ¬ S2 b
  wvn : ∀ r, wv.ownBlock = some r → r ≠ g ∧ ¬ S1 r ∧ ¬ S2 r
  inX : ∀ b, S b → X b
  lt : ∀ b, S b → b < w.heap.size
def Dk (w : World) (S X : Nat → Prop) (g : Nat) (s : St) : Prop := ∃ m1 m2 S1 S2 wv, DkAt w S X g s m1 m2 S1 S2 wv
section
variable {w w' : World} {S X X' T : Nat → Prop} {g : Nat} {s : St}
theorem DkAt.keep {m1 m2 : Nat} {S1 S2 : Nat → Prop} {wv : Value} (h : DkAt w S X g s m1 m2 S1 S2 wv) (ht : Turn T w w') (hT : ∀ b, b < w.heap.size → T b → X b ∧ ¬ S b) : DkAt w' S X g s m1 m2 S1 S2 wv where
  blk := h.blk.keep ht (fun e => (hT g h.blk.lt e).2 h.g_in)
  f1 := h.f1.keep ht (fun b hb e => (hT b (h.f1.lt hb) e).2 (h.s1_in b hb))
  f2 := h.f2.keep ht (fun b hb e => (hT b (h.f2.lt hb) e).2 (h.s2_in b hb))
  ts := h.ts.keep ht (fun b hb e => (hT b hb e).1) (fun r e e' => (hT r (h.ts.lt e) e').2 (h.wv_in r e))
  ok := h.ok
  g_in := h.g_in
  s1_in := h.s1_in
  s2_in := h.s2_in
  wv_in := h.wv_in
  g1 := h.g1
  g2 := h.g2
  apart := h.apart
  wvn := h.wvn
  inX := h.inX
  lt := fun b hb => Nat.lt_of_lt_of_le (h.lt b hb) ht.size
theorem Dk.keep (h : Dk w S X g s) (ht : Turn T w w') (hT : ∀ b, b < w.heap.size → T b → X b ∧ ¬ S b) : Dk w' S X g s := by
  obtain ⟨m1, m2, S1, S2, wv, h⟩ := h
  exact ⟨m1, m2, S1, S2, wv, h.keep ht hT⟩
theorem Dk.below (h : Dk w S X g s) (hb : Below w.heap.size w w') : Dk w' S X g s := h.keep (T := No) (Turn.of_below hb No) (fun _ _ h => h.elim)
theorem Dk.wide (h : Dk w S X g s) (hX : ∀ b, b < w.heap.size → X' b → X b) (hS : ∀ b, S b → X' b) : Dk w S X' g s := by
  obtain ⟨m1, m2, S1, S2, wv, h⟩ := h
  exact ⟨m1, m2, S1, S2, wv, { h with ts := h.ts.wide hX, inX := hS }⟩
theorem Dk.ok (h : Dk w S X g s) : s.ok := by obtain ⟨m1, m2, S1, S2, wv, h⟩ := h; exact h.ok
theorem Dk.lt (h : Dk w S X g s) {b : Nat} (hb : S b) : b < w.heap.size := by obtain ⟨m1, m2, S1, S2, wv, h⟩ := h; exact h.lt b hb
theorem Dk.inX (h : Dk w S X g s) {b : Nat} (hb : S b) : X b := by obtain ⟨m1, m2, S1, S2, wv, h⟩ := h; exact h.inX b hb
theorem Dk.g_in (h : Dk w S X g s) : S g := by obtain ⟨m1, m2, S1, S2, wv, h⟩ := h; exact h.g_in
end
/-- What a call that writes to the disk leaves: it stands as s', of what was there only its own has turned, and its own is what was and new memory. -/
def Wrote (w : World) (S X : Nat → Prop) (g : Nat) (s' : St) (w' : World) : Prop :=
  Turn S w w' ∧ ∃ S', (∀ b, S b → S' b) ∧ (∀ b, S' b → S b ∨ w.heap.size ≤ b) ∧ Dk w' S' (fun b => X b ∨ S' b) g s'
theorem Wrote.same {w : World} {S X : Nat → Prop} {g : Nat} {s : St} (h : Dk w S X g s) : Wrote w S X g s w :=
  ⟨Turn.refl _ _, S, fun _ h => h, fun _ h => .inl h, h.wide (fun _ _ h' => h'.elim id (fun q => h.inX q)) (fun _ h => .inr h)⟩
set_option maxHeartbeats 400000 in
theorem made_yes (g : Nat) (r : Nat) (w : World) (hc : w.cell? ⟨g, 5, none⟩ = some (.int .i64 (r : Int))) (hr : 1 ≤ r) : Calls Try.prog 41 #[.pointer (some ⟨g, 0, none⟩)] w fun e w' => e = .returned (.bool true) ∧ w = w' := by
  go_enter Try.func41, Try.ntmps41
  go_wp2
  all_goals first
    | (go_ret; exact ⟨rfl, rfl⟩)
    | (go_ret; exact ⟨ret_bool (by simp; omega), rfl⟩)
set_option maxHeartbeats 400000 in
theorem made_nil (w : World) : Calls Try.prog 41 #[.pointer none] w fun e w' => e = .returned (.bool false) ∧ w = w' := by
  go_enter Try.func41, Try.ntmps41
  go_wp2
  go_ret
  exact ⟨rfl, rfl⟩
end Go.Proofs.Ythhiiimmgghhaaa
