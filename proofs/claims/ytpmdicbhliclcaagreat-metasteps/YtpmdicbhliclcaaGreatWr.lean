/-
  A writer in memory, within a greater block: what is asked of it, and what its calls turn. Conditions: numbers of 32 bits.
-/
import Derived.Test.YtpmdicbhliclcaaGreatDel2
namespace Go.Proofs.YtpmdicbhliclcaaGreat
open Go.RowKit Go.Maps
set_option linter.unusedVariables false
theorem eqb {a b : Int} (h : a = b) : (a == b) = true := by simp [h]
theorem neb {a b : Int} (h : a ≠ b) : (a == b) = false := by simp [h]
theorem eqn {a b : Int} (h : a = b) : (a != b) = false := by simp [h]
theorem nen {a b : Int} (h : a ≠ b) : (a != b) = true := by simp [h]
structure Vw where
  leader : Int
  epoch : Int
  version : Int
  isr : List Int
structure Wt where
  session : Int
  num : Int
  state : Int
  parts : List Int
  offset : Int
  next : Int
/-- A stretch of an array. -/
def Seg (cs : Array Value) (o : Nat) (l : List Value) : Prop := ∀ j v, l[j]? = some v → cs[o + j]? = some v
/-- Only a stretch has turned. -/
structure Upd (cs cs' : Array Value) (o k : Nat) : Prop where
  size : cs'.size = cs.size
  out : ∀ q, (q < o ∨ o + k ≤ q) → cs'[q]? = cs[q]?
def wcells (W : Wt) (v : Value) : List Value := [.int .i64 W.session, .int .i64 W.num, .int .i64 W.state, v, .int .i64 W.offset, .int .i64 W.next]
def vcells (V : Vw) (v : Value) : List Value := [.int .i64 V.leader, .int .i64 V.epoch, .int .i64 V.version, v]
theorem Upd.refl (cs : Array Value) (o k : Nat) : Upd cs cs o k := ⟨rfl, fun _ _ => rfl⟩
theorem Upd.set {cs cs' : Array Value} {o k j : Nat} (h : Upd cs cs' o k) (hj : j < k) (u : Value) : Upd cs (cs'.setIfInBounds (o + j) u) o k :=
  ⟨by simp [h.size], fun q hq => by rw [Array.getElem?_setIfInBounds, if_neg (by omega)]; exact h.out q hq⟩
theorem Seg.set {cs : Array Value} {o j : Nat} {l : List Value} (h : Seg cs o l) (hj : j < l.length) (u : Value) : Seg (cs.setIfInBounds (o + j) u) o (l.set j u) := fun q v hq => by
  rw [Array.getElem?_setIfInBounds]
  by_cases hqj : q = j
  · subst hqj
    rw [List.getElem?_set_self hj] at hq
    injection hq with hq
    subst hq
    have h1 := h q _ (List.getElem?_eq_getElem hj)
    rw [if_pos rfl, if_pos (Array.getElem?_eq_some_iff.1 h1).1]
  · rw [List.getElem?_set_ne (by omega)] at hq
    rw [if_neg (by omega)]
    exact h q v hq
def Wt.begin (W : Wt) : Wt := if W.state = 2 then { W with session := W.session + 1, state := 4 } else { W with session := W.session + 1 }
def Wt.ending (W : Wt) : Bool := decide (W.state = 3 ∨ W.state = 4)
def Wt.end_ (W : Wt) (commit : Bool) (off : Int) : Wt :=
  if W.state = 2 then (if commit = true then { W with state := 3, next := off } else { W with state := 4 }) else (if commit = true then { W with offset := off } else W)
section
variable {w w' : World} {g o : Nat} {cs : Array Value} {W : Wt} {pv : Value}
theorem Blk.seg {t : Nat} {l : List Value} (hb : Blk w g t cs) (hs : Seg cs o l) {j : Nat} {v : Value} (hj : l[j]? = some v) : w.cell? ⟨g, o + j, none⟩ = some v := by rw [hb.cell]; exact hs j v hj
theorem ending_any (hb : Blk w g 75 cs) (hs : Seg cs o (wcells W pv)) : Calls Tryz.prog 60 #[.pointer (some ⟨g, o, none⟩)] w fun r w' => r = .returned (.bool W.ending) ∧ w' = w := by
  have c2 : w.cell? ⟨g, o + 2, none⟩ = some (.int .i64 W.state) := hb.seg hs rfl
  clear hb hs
  by_cases h3 : W.state = 3
  · have e3 := eqb h3
    have HF : Hid (W.ending = true) := Lib.hid (decide_eq_true (.inl h3))
    clear h3
    generalize W.state = st at *
    go_enter Tryz.func60, Tryz.ntmps60
    go_wp2_with fail
    go_ret
    exact ⟨by rw [HF.out]; rfl, rfl⟩
  · have e3 := neb h3
    by_cases h4 : W.state = 4
    · have e4 := eqb h4
      have HF : Hid (W.ending = true) := Lib.hid (decide_eq_true (.inr h4))
      clear h3 h4
      generalize W.state = st at *
      go_enter Tryz.func60, Tryz.ntmps60
      go_wp2_with fail
      go_ret
      exact ⟨by rw [HF.out]; rfl, rfl⟩
    · have e4 := neb h4
      have HF : Hid (W.ending = false) := Lib.hid (decide_eq_false (fun q => q.elim h3 h4))
      clear h3 h4
      generalize W.state = st at *
      go_enter Tryz.func60, Tryz.ntmps60
      go_wp2_with fail
      go_ret
      exact ⟨by rw [HF.out]; rfl, rfl⟩
/-- What is known behind a call that turns a writer. -/
def WrP (w : World) (g o : Nat) (cs : Array Value) (W : Wt) (pv : Value) (w' : World) : Prop :=
  ∃ cs', Blk w' g 75 cs' ∧ Upd cs cs' o 6 ∧ Seg cs' o (wcells W pv) ∧ Turn (fun b => b = g) w w'
theorem begin_any (hb : Blk w g 75 cs) (hs : Seg cs o (wcells W pv)) (h0 : 0 ≤ W.session) (h1 : W.session < 2147483647) : Calls Tryz.prog 62 #[.pointer (some ⟨g, o, none⟩)] w fun r w' => r = .returned (.bool (decide (W.state ≠ 2))) ∧ WrP w g o cs W.begin pv w' := by
  have c0 : w.cell? ⟨g, o, none⟩ = some (.int .i64 W.session) := hb.seg hs (j := 0) rfl
  have f0 := hb.frozen o
  have e1 : IntKind.i64.wrap (W.session + 1) = W.session + 1 := by rw [IntWalk.i64_in _ (by omega)]
  have hb1 := hb.set_ o (.int .i64 (W.session + 1))
  have hs1 : Seg (cs.setIfInBounds o (.int .i64 (W.session + 1))) o (wcells { W with session := W.session + 1 } pv) := hs.set (j := 0) (by simp [wcells]) _
  have hu1 : Upd cs (cs.setIfInBounds o (.int .i64 (W.session + 1))) o 6 := (Upd.refl cs o 6).set (j := 0) (by omega) _
  have ht1 : Turn (fun b => b = g) w (w.setCell ⟨g, o, none⟩ (.int .i64 (W.session + 1))) := (Turn.refl (fun b => b = g) w).setCell (p := ⟨g, o, none⟩) (fun _ => rfl) _
  have c2 : (w.setCell ⟨g, o, none⟩ (.int .i64 (W.session + 1))).cell? ⟨g, o + 2, none⟩ = some (.int .i64 W.state) := hb1.seg hs1 (j := 2) rfl
  have f2 := hb1.frozen (o + 2)
  by_cases h2 : W.state = 2
  · have e2 := eqb h2
    have HF : Hid (decide (W.state ≠ 2) = false) := Lib.hid (decide_eq_false (fun q => q h2))
    have HP : Hid (WrP w g o cs W.begin pv ((w.setCell ⟨g, o, none⟩ (.int .i64 (W.session + 1))).setCell ⟨g, o + 2, none⟩ (.int .i64 4))) := Lib.hid (by
      refine ⟨_, hb1.set_ (o + 2) _, hu1.set (j := 2) (by omega) _, ?_, ht1.setCell (p := ⟨g, o + 2, none⟩) (fun _ => rfl) _⟩
      unfold Wt.begin
      rw [if_pos h2]
      exact hs1.set (j := 2) (by simp [wcells]) _)
    clear hb hs hb1 hs1 hu1 ht1 h0 h1 h2
    generalize W.state = st at *
    generalize W.session = ss at *
    go_enter Tryz.func62, Tryz.ntmps62
    go_wp2_with fail
    go_ret
    exact ⟨by rw [HF.out]; rfl, HP.out⟩
  · have e2 := neb h2
    have HF : Hid (decide (W.state ≠ 2) = true) := Lib.hid (decide_eq_true h2)
    have HP : Hid (WrP w g o cs W.begin pv (w.setCell ⟨g, o, none⟩ (.int .i64 (W.session + 1)))) := Lib.hid (by
      refine ⟨_, hb1, hu1, ?_, ht1⟩
      unfold Wt.begin
      rw [if_neg h2]
      exact hs1)
    clear hb hs hb1 hs1 hu1 ht1 h0 h1 h2
    generalize W.state = st at *
    generalize W.session = ss at *
    go_enter Tryz.func62, Tryz.ntmps62
    go_wp2_with fail
    go_ret
    exact ⟨by rw [HF.out]; rfl, HP.out⟩
/-- The end of a transaction begins. -/
theorem end_any (hb : Blk w g 75 cs) (hs : Seg cs o (wcells W pv)) (commit : Bool) (off : Int) : Calls Tryz.prog 71 #[.pointer (some ⟨g, o, none⟩), .bool commit, .int .i64 off] w fun r w' => r = .returned (.tuple #[]) ∧ WrP w g o cs (W.end_ commit off) pv w' := by
  have c2 : w.cell? ⟨g, o + 2, none⟩ = some (.int .i64 W.state) := hb.seg hs (j := 2) rfl
  have f2 := hb.frozen (o + 2)
  by_cases h2 : W.state = 2
  · have e2 := eqb h2
    cases commit with
    | true =>
      have hb1 := hb.set_ (o + 2) (.int .i64 3)
      have hs1 := hs.set (j := 2) (by simp [wcells]) (.int .i64 3)
      have hu1 := (Upd.refl cs o 6).set (j := 2) (by omega) (.int .i64 3)
      have ht1 : Turn (fun b => b = g) w (w.setCell ⟨g, o + 2, none⟩ (.int .i64 3)) := (Turn.refl (fun b => b = g) w).setCell (p := ⟨g, o + 2, none⟩) (fun _ => rfl) _
      have c5 : (w.setCell ⟨g, o + 2, none⟩ (.int .i64 3)).cell? ⟨g, o + 5, none⟩ = some (.int .i64 W.next) := hb1.seg hs1 (j := 5) rfl
      have f5 := hb1.frozen (o + 5)
      have HP : Hid (WrP w g o cs (W.end_ true off) pv ((w.setCell ⟨g, o + 2, none⟩ (.int .i64 3)).setCell ⟨g, o + 5, none⟩ (.int .i64 off))) := Lib.hid (by
        refine ⟨_, hb1.set_ (o + 5) _, hu1.set (j := 5) (by omega) _, ?_, ht1.setCell (p := ⟨g, o + 5, none⟩) (fun _ => rfl) _⟩
        unfold Wt.end_
        rw [if_pos h2, if_pos rfl]
        exact hs1.set (j := 5) (by simp [wcells]) _)
      clear hb hs hb1 hs1 hu1 ht1 h2
      generalize W.state = st at *
      generalize W.next = nx at *
      go_enter Tryz.func71, Tryz.ntmps71
      go_wp2_with fail
      go_end0
      exact ⟨rfl, HP.out⟩
    | false =>
      have HP : Hid (WrP w g o cs (W.end_ false off) pv (w.setCell ⟨g, o + 2, none⟩ (.int .i64 4))) := Lib.hid (by
        refine ⟨_, hb.set_ (o + 2) _, (Upd.refl cs o 6).set (j := 2) (by omega) _, ?_, (Turn.refl (fun b => b = g) w).setCell (p := ⟨g, o + 2, none⟩) (fun _ => rfl) _⟩
        unfold Wt.end_
        rw [if_pos h2, if_neg (by decide)]
        exact hs.set (j := 2) (by simp [wcells]) _)
      clear hb hs h2
      generalize W.state = st at *
      go_enter Tryz.func71, Tryz.ntmps71
      go_wp2_with fail
      go_end0
      exact ⟨rfl, HP.out⟩
  · have e2 := neb h2
    cases commit with
    | true =>
      have c4 : w.cell? ⟨g, o + 4, none⟩ = some (.int .i64 W.offset) := hb.seg hs (j := 4) rfl
      have f4 := hb.frozen (o + 4)
      have HP : Hid (WrP w g o cs (W.end_ true off) pv (w.setCell ⟨g, o + 4, none⟩ (.int .i64 off))) := Lib.hid (by
        refine ⟨_, hb.set_ (o + 4) _, (Upd.refl cs o 6).set (j := 4) (by omega) _, ?_, (Turn.refl (fun b => b = g) w).setCell (p := ⟨g, o + 4, none⟩) (fun _ => rfl) _⟩
        unfold Wt.end_
        rw [if_neg h2, if_pos rfl]
        exact hs.set (j := 4) (by simp [wcells]) _)
      clear hb hs h2
      generalize W.state = st at *
      generalize W.offset = ot at *
      go_enter Tryz.func71, Tryz.ntmps71
      go_wp2_with fail
      go_end0
      exact ⟨rfl, HP.out⟩
    | false =>
      have HP : Hid (WrP w g o cs (W.end_ false off) pv w) := Lib.hid (by
        refine ⟨cs, hb, Upd.refl cs o 6, ?_, Turn.refl _ _⟩
        unfold Wt.end_
        rw [if_neg h2, if_neg (by decide)]
        exact hs)
      clear hb hs h2
      generalize W.state = st at *
      go_enter Tryz.func71, Tryz.ntmps71
      go_wp2_with fail
      go_end0
      exact ⟨rfl, HP.out⟩
/-- Is a marker wanted? -/
def Wt.wants (W : Wt) (num x : Int) : Bool := decide (W.ending = true ∧ W.num = num ∧ x ∈ W.parts)
theorem wants_any {A : Option Addr} {n c : Nat} {X : Nat → Prop} (hb : Blk w g 75 cs) (hs : Seg cs o (wcells W (.slice A n c))) (hr : Rd w X 1 A n (intsOf W.parts)) (hn : n ≤ 1000000) (num x : Int) : Calls Tryz.prog 98 #[.pointer (some ⟨g, o, none⟩), .int .i64 num, .int .i64 x] w fun r w' => r = .returned (.bool (W.wants num x)) ∧ w' = w := by
  have he := ending_any hb hs
  have c1 : w.cell? ⟨g, o + 1, none⟩ = some (.int .i64 W.num) := hb.seg hs (j := 1) rfl
  have c3 : w.cell? ⟨g, o + 3, none⟩ = some (.slice A n c) := hb.seg hs (j := 3) rfl
  have hc := contains_any (c := c) hr hn x
  clear hb hs hr
  cases hen : W.ending with
  | false =>
    have HF : Hid (W.wants num x = false) := Lib.hid (decide_eq_false (fun q => by rw [hen] at q; exact absurd q.1 (by decide)))
    rw [hen] at he
    clear hen
    go_enter Tryz.func98, Tryz.ntmps98
    go_wp2_with fail
    refine he.mono ?_
    rintro r w1 ⟨rfl, rfl⟩
    clear he
    go_wp2_with fail
    go_ret
    exact ⟨by rw [HF.out]; rfl, rfl⟩
  | true =>
    rw [hen] at he
    by_cases hnum : W.num = num
    · have e1 := eqb hnum
      have HF : Hid (W.wants num x = decide (x ∈ W.parts)) := Lib.hid (by unfold Wt.wants; rw [hen]; simp [hnum])
      clear hen hnum
      generalize decide (x ∈ W.parts) = d at *
      generalize W.num = wn at *
      go_enter Tryz.func98, Tryz.ntmps98
      go_wp2_with fail
      refine he.mono ?_
      rintro r w1 ⟨rfl, rfl⟩
      clear he
      go_wp2_with fail
      refine hc.mono ?_
      rintro r w1 ⟨rfl, rfl⟩
      clear hc
      go_wp2_with fail
      go_ret
      exact ⟨by rw [HF.out]; rfl, rfl⟩
    · have e1 := neb hnum
      have HF : Hid (W.wants num x = false) := Lib.hid (decide_eq_false (fun q => hnum q.2.1))
      clear hen hnum
      generalize W.num = wn at *
      go_enter Tryz.func98, Tryz.ntmps98
      go_wp2_with fail
      refine he.mono ?_
      rintro r w1 ⟨rfl, rfl⟩
      clear he
      go_wp2_with fail
      go_ret
      exact ⟨by rw [HF.out]; rfl, rfl⟩
end
end Go.Proofs.YtpmdicbhliclcaaGreat
