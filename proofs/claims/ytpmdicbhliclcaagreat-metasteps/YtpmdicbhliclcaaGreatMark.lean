/-
  A marker is noted. Conditions: at most 1000000 partitions.
-/
import Derived.Test.YtpmdicbhliclcaaGreatWr
import Derived.Deep.Cut
namespace Go.Proofs.YtpmdicbhliclcaaGreat
open Go.RowKit Go.Maps
set_option linter.unusedVariables false
def Wt.mark (W : Wt) (x : Int) : Wt :=
  if wout W.parts x = [] then { W with parts := [], offset := if W.state = 3 then W.next else W.offset, state := 1, next := 0 } else { W with parts := wout W.parts x }
theorem own_any (A : Option Addr) (m n c : Nat) : (Value.slice A m c).ownBlock = (Value.slice A n c).ownBlock := by cases A <;> rfl
section
variable {w w' : World} {g o n c : Nat} {A : Option Addr} {cs : Array Value} {W : Wt}
/-- What is known behind mark. -/
def MarkP (w : World) (g o : Nat) (cs : Array Value) (W : Wt) (A : Option Addr) (n c : Nat) (w' : World) : Prop :=
  ∃ cs', Blk w' g 75 cs' ∧ Upd cs cs' o 6 ∧ Seg cs' o (wcells W (.slice A W.parts.length c)) ∧ OwnK w' 3 1 (.slice A W.parts.length c) (intsOf W.parts) ∧ Turn (fun b => b = g ∨ (Value.slice A n c).ownBlock = some b) w w'
set_option maxRecDepth 100000 in
set_option maxHeartbeats 4000000 in
theorem mark_any (hb : Blk w g 75 cs) (hs : Seg cs o (wcells W (.slice A n c))) (ho : OwnK w 3 1 (.slice A n c) (intsOf W.parts)) (hn : n ≤ 1000000) (hg : (Value.slice A n c).ownBlock ≠ some g) (x : Int) :
    Calls Tryz.prog 99 #[.pointer (some ⟨g, o, none⟩), .int .i64 x] w fun r w' => r = .returned (.tuple #[]) ∧ MarkP w g o cs (W.mark x) A n c w' := by
  have c3 : w.cell? ⟨g, o + 3, none⟩ = some (.slice A n c) := hb.seg hs (j := 3) rfl
  have hw := without_any ho hn x
  have HB := Lib.hid hb
  have HS := Lib.hid hs
  have HG := Lib.hid hg
  clear hb hs ho hg
  go_enter Tryz.func99, Tryz.ntmps99
  go_wp2_with fail
  refine hw.mono ?_
  rintro r w1 ⟨rfl, ho, ht⟩
  have hb1 := HB.out.keep ht HG.out
  have f3 := hb1.frozen (o + 3)
  have d3 : w1.cell? ⟨g, o + 3, none⟩ = some (.slice A n c) := hb1.seg HS.out (j := 3) rfl
  obtain ⟨U, hU⟩ : ∃ U, wout W.parts x = U := ⟨_, rfl⟩
  rw [hU] at ho ⊢
  have hb2 := hb1.set_ (o + 3) (.slice A U.length c)
  have hs2 := HS.out.set (j := 3) (by simp [wcells]) (.slice A U.length c)
  have hu2 := (Upd.refl cs o 6).set (j := 3) (by omega) (.slice A U.length c)
  have ht2 : Turn (fun b => b = g) w1 (w1.setCell ⟨g, o + 3, none⟩ (.slice A U.length c)) := (Turn.refl (fun b => b = g) w1).setCell (p := ⟨g, o + 3, none⟩) (fun _ => rfl) _
  have HO2 := Lib.hid (ho.keep ht2 (fun b hb e => by
    have : (Value.slice A n c).ownBlock = some b := (own_any A n _ c).trans hb
    exact HG.out (e ▸ this)))
  have HT2 : Hid (Turn (fun b => b = g ∨ (Value.slice A n c).ownBlock = some b) w (w1.setCell ⟨g, o + 3, none⟩ (.slice A U.length c))) := Lib.hid ((ht.mono (fun _ _ h => .inr h)).trans (ht2.mono (fun _ _ h => .inl h)) (fun _ _ h => h))
  have HB2 := Lib.hid (And.intro hb2 (And.intro hs2 hu2))
  have z3 : (w1.setCell ⟨g, o + 3, none⟩ (.slice A U.length c)).cell? ⟨g, o + 3, none⟩ = some (.slice A U.length c) := hb2.seg hs2 (j := 3) rfl
  have z2 : (w1.setCell ⟨g, o + 3, none⟩ (.slice A U.length c)).cell? ⟨g, o + 2, none⟩ = some (.int .i64 W.state) := hb2.seg hs2 (j := 2) rfl
  have z5 : (w1.setCell ⟨g, o + 3, none⟩ (.slice A U.length c)).cell? ⟨g, o + 5, none⟩ = some (.int .i64 W.next) := hb2.seg hs2 (j := 5) rfl
  have z4 : (w1.setCell ⟨g, o + 3, none⟩ (.slice A U.length c)).cell? ⟨g, o + 4, none⟩ = some (.int .i64 W.offset) := hb2.seg hs2 (j := 4) rfl
  have HU := Lib.hid hU
  clear hw ho ht hb1 hb2 hs2 hu2 ht2 c3 hU
  go_upto_region 1 with fail
  clear d3 f3
  generalize hW2 : w1.setCell ⟨g, o + 3, none⟩ (.slice A U.length c) = w2 at *
  generalize hC2 : cs.setIfInBounds (o + 3) (.slice A U.length c) = cs2 at *
  clear hW2 hC2
  by_cases hl : 0 < U.length
  case pos =>
    have hd1 : decide (0 < U.length) = true := decide_eq_true hl
    have hd2 : decide ((0 : Int) < (U.length : Int)) = true := decide_eq_true (by omega)
    have HP : Hid (MarkP w g o cs (W.mark x) A n c w2) := Lib.hid (by
      have hm : W.mark x = { W with parts := U } := by unfold Wt.mark; rw [HU.out, if_neg (fun e => by rw [e] at hl; simp at hl)]
      rw [hm]
      exact ⟨_, HB2.out.1, HB2.out.2.2, HB2.out.2.1, HO2.out, HT2.out⟩)
    clear hl z2 z4 z5
    go_wp2_with fail
    refine bodyPost_ret (v := .tuple #[]) (results_none (by rfl) _ _ _) rfl ?_
    exact ⟨rfl, HP.out⟩
  case neg =>
  have hUn : U = [] := List.eq_nil_of_length_eq_zero (by omega)
  have hd1 : decide (0 < U.length) = false := decide_eq_false hl
  have hd2 : decide ((0 : Int) < (U.length : Int)) = false := decide_eq_false (by omega)
  have HUN := Lib.hid hUn
  by_cases h3 : W.state = 3
  case pos =>
    have e3 := eqb h3
    have f4 := HB2.out.1.frozen (o + 4)
    have hb3 := HB2.out.1.set_ (o + 4) (.int .i64 W.next)
    have hs3 := HB2.out.2.1.set (j := 4) (by simp [wcells]) (.int .i64 W.next)
    have hu3 := HB2.out.2.2.set (j := 4) (by omega) (.int .i64 W.next)
    have y2 : (w2.setCell ⟨g, o + 4, none⟩ (.int .i64 W.next)).cell? ⟨g, o + 2, none⟩ = some (.int .i64 W.state) := hb3.seg hs3 (j := 2) rfl
    have k2 := hb3.frozen (o + 2)
    have hb4 := hb3.set_ (o + 2) (.int .i64 1)
    have hs4 := hs3.set (j := 2) (by simp [wcells]) (.int .i64 1)
    have hu4 := hu3.set (j := 2) (by omega) (.int .i64 1)
    have y5 : ((w2.setCell ⟨g, o + 4, none⟩ (.int .i64 W.next)).setCell ⟨g, o + 2, none⟩ (.int .i64 1)).cell? ⟨g, o + 5, none⟩ = some (.int .i64 W.next) := hb4.seg hs4 (j := 5) rfl
    have k5 := hb4.frozen (o + 5)
    have ht5 : Turn (fun b => b = g) w2 (((w2.setCell ⟨g, o + 4, none⟩ (.int .i64 W.next)).setCell ⟨g, o + 2, none⟩ (.int .i64 1)).setCell ⟨g, o + 5, none⟩ (.int .i64 0)) := (((Turn.refl (fun b => b = g) w2).setCell (p := ⟨g, o + 4, none⟩) (fun _ => rfl) _).setCell (p := ⟨g, o + 2, none⟩) (fun _ => rfl) _).setCell (p := ⟨g, o + 5, none⟩) (fun _ => rfl) _
    have HP : Hid (MarkP w g o cs (W.mark x) A n c (((w2.setCell ⟨g, o + 4, none⟩ (.int .i64 W.next)).setCell ⟨g, o + 2, none⟩ (.int .i64 1)).setCell ⟨g, o + 5, none⟩ (.int .i64 0))) := Lib.hid (by
      have hm : W.mark x = { W with parts := [], offset := W.next, state := 1, next := 0 } := by unfold Wt.mark; rw [HU.out, if_pos HUN.out, if_pos h3]
      rw [hm]
      have ho := HO2.out
      rw [HUN.out] at ho hs4
      refine ⟨_, hb4.set_ (o + 5) _, hu4.set (j := 5) (by omega) _, hs4.set (j := 5) (by simp [wcells]) _, ho.keep ht5 (fun b hb e => ?_), HT2.out.trans (ht5.mono (fun _ _ h => .inl h)) (fun _ _ h => h)⟩
      have : (Value.slice A n c).ownBlock = some b := (own_any A n _ c).trans hb
      exact HG.out (e ▸ this))
    clear hb3 hs3 hu3 hb4 hs4 hu4 ht5 hUn hl h3
    generalize W.state = st at *
    generalize W.next = nx at *
    go_wp2_with fail
    go_end0
    exact ⟨rfl, HP.out⟩
  case neg =>
    have e3 := neb h3
    have k2 := HB2.out.1.frozen (o + 2)
    have hb4 := HB2.out.1.set_ (o + 2) (.int .i64 1)
    have hs4 := HB2.out.2.1.set (j := 2) (by simp [wcells]) (.int .i64 1)
    have hu4 := HB2.out.2.2.set (j := 2) (by omega) (.int .i64 1)
    have y5 : (w2.setCell ⟨g, o + 2, none⟩ (.int .i64 1)).cell? ⟨g, o + 5, none⟩ = some (.int .i64 W.next) := hb4.seg hs4 (j := 5) rfl
    have k5 := hb4.frozen (o + 5)
    have ht5 : Turn (fun b => b = g) w2 ((w2.setCell ⟨g, o + 2, none⟩ (.int .i64 1)).setCell ⟨g, o + 5, none⟩ (.int .i64 0)) := ((Turn.refl (fun b => b = g) w2).setCell (p := ⟨g, o + 2, none⟩) (fun _ => rfl) _).setCell (p := ⟨g, o + 5, none⟩) (fun _ => rfl) _
    have HP : Hid (MarkP w g o cs (W.mark x) A n c ((w2.setCell ⟨g, o + 2, none⟩ (.int .i64 1)).setCell ⟨g, o + 5, none⟩ (.int .i64 0))) := Lib.hid (by
      have hm : W.mark x = { W with parts := [], offset := W.offset, state := 1, next := 0 } := by unfold Wt.mark; rw [HU.out, if_pos HUN.out, if_neg h3]
      rw [hm]
      have ho := HO2.out
      rw [HUN.out] at ho hs4
      refine ⟨_, hb4.set_ (o + 5) _, hu4.set (j := 5) (by omega) _, hs4.set (j := 5) (by simp [wcells]) _, ho.keep ht5 (fun b hb e => ?_), HT2.out.trans (ht5.mono (fun _ _ h => .inl h)) (fun _ _ h => h)⟩
      have : (Value.slice A n c).ownBlock = some b := (own_any A n _ c).trans hb
      exact HG.out (e ▸ this))
    clear hb4 hs4 hu4 ht5 hUn hl h3
    generalize W.state = st at *
    generalize W.next = nx at *
    go_wp2_with fail
    go_end0
    exact ⟨rfl, HP.out⟩
end
end Go.Proofs.YtpmdicbhliclcaaGreat
