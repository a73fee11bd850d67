/-
  A partition's view in memory: a broker is fenced. Conditions: numbers of 32 bits.
-/
import Derived.Test.YtpmdicbhliclcaaGreatElect
namespace Go.Proofs.YtpmdicbhliclcaaGreat
open Go.RowKit Go.Maps
set_option linter.unusedVariables false
def Vw.fence (V : Vw) (b : Int) : Vw :=
  if V.minds b = true then { leader := if V.leader = b then -1 else V.leader, epoch := if V.leader = b then V.epoch + 1 else V.epoch, version := V.version + 1, isr := if 1 < V.isr.length then wout V.isr b else V.isr } else V
section
variable {w w' : World} {g o n c : Nat} {A : Option Addr} {cs : Array Value} {V : Vw}
set_option maxRecDepth 100000 in
set_option maxHeartbeats 8000000 in
theorem fence_any (hb : Blk w g 75 cs) (hs : Seg cs o (vcells V (.slice A n c))) (ho : OwnK w 3 1 (.slice A n c) (intsOf V.isr)) (hn : n ≤ 1000000) (hg : (Value.slice A n c).ownBlock ≠ some g)
    (he : 0 ≤ V.epoch ∧ V.epoch ≤ V.version) (hv : V.version ≤ 2147483647) (x : Int) (hx : V.minds x = true → V.version < 2147483647) :
    Calls Tryz.prog 77 #[.pointer (some ⟨g, o, none⟩), .int .i64 x] w fun r w' => r = .returned (.tuple #[]) ∧ ViP w g o cs (V.fence x) (.slice A n c) w' := by
  have hm := minds_any hb hs (ho.rd (X := No) (fun _ _ h => h)) hn x
  have hlen := (ho.rd (X := No) (fun _ _ h => h)).lenI
  have HO := Lib.hid ho
  have HG := Lib.hid hg
  have H0 := Lib.hid (And.intro hb (And.intro hs (Upd.refl cs o 4)))
  have T0 := Lib.hid (Turn.refl (fun b => b = g) w)
  cases hmi : V.minds x with
  | false =>
    have HEQ : Hid (V.fence x = V) := Lib.hid (by unfold Vw.fence; rw [if_neg (by rw [hmi]; decide)])
    rw [hmi] at hm
    clear hb hs ho hg he hv hx hmi hlen
    go_enter Tryz.func77, Tryz.ntmps77
    go_wp2_with fail
    refine hm.mono ?_
    rintro r w1 ⟨rfl, rfl⟩
    clear hm
    go_wp2_with fail
    refine bodyPost_ret (v := .tuple #[]) (results_none (by rfl) _ _ _) rfl ?_
    refine ⟨rfl, cs, .slice A n c, H0.out.1, H0.out.2.2, by rw [HEQ.out]; exact H0.out.2.1, by rw [HEQ.out]; exact HO.out, fun b hb => .inl hb, T0.out.mono (fun _ _ h => .inl h)⟩
  | true =>
  have hv1 := hx hmi
  have we : IntKind.i64.wrap (V.epoch + 1) = V.epoch + 1 := by rw [IntWalk.i64_in _ (by omega)]
  have wv : IntKind.i64.wrap (V.version + 1) = V.version + 1 := by rw [IntWalk.i64_in _ (by omega)]
  have HFE : Hid (V.fence x = { leader := if V.leader = x then -1 else V.leader, epoch := if V.leader = x then V.epoch + 1 else V.epoch, version := V.version + 1, isr := if 1 < V.isr.length then wout V.isr x else V.isr }) := Lib.hid (if_pos hmi)
  have hw := fun (W : World) (h : OwnK W 3 1 (.slice A n c) (intsOf V.isr)) => without_any h hn x
  have HLEN := Lib.hid hlen
  rw [hmi] at hm
  clear hb hs ho hg he hv hx hmi hv1 hlen
  obtain ⟨a, e, d, I⟩ := V
  dsimp only at *
  go_enter Tryz.func77, Tryz.ntmps77
  go_wp2_with fail
  refine hm.mono ?_
  rintro r w1 ⟨rfl, rfl⟩
  clear hm
  by_cases ha : a = x
  case pos =>
    have ea := eqb ha
    have HA0 := Lib.hid ha
    have y0 : w1.cell? ⟨g, o, none⟩ = some (.int .i64 a) := H0.out.1.seg H0.out.2.1 (j := 0) rfl
    have c1 : w1.cell? ⟨g, o, none⟩ = some (.int .i64 a) := H0.out.1.seg H0.out.2.1 (j := 0) rfl
    have f1 := H0.out.1.frozen o
    have hb1 := H0.out.1.set_ o (.int .i64 (-1))
    have hs1 : Seg (cs.setIfInBounds o (.int .i64 (-1))) o (vcells { leader := -1, epoch := e, version := d, isr := I } (.slice A n c)) := H0.out.2.1.set (j := 0) (by simp [vcells]) (.int .i64 (-1))
    have hu1 : Upd cs (cs.setIfInBounds o (.int .i64 (-1))) o 4 := H0.out.2.2.set (j := 0) (by omega) (.int .i64 (-1))
    have ht1 : Turn (fun b => b = g) w1 (w1.setCell ⟨g, o, none⟩ (.int .i64 (-1))) := (Turn.refl (fun b => b = g) w1).setCell (p := ⟨g, o, none⟩) (fun _ => rfl) _
    have H1 := Lib.hid (And.intro hb1 (And.intro hs1 hu1))
    have T1 := Lib.hid (T0.out.trans ht1 (fun _ _ h => h))
    clear hb1 hs1 hu1 ht1
    go_upto_region 3 with fail
    generalize w1.setCell ⟨g, o, none⟩ (.int .i64 (-1)) = W1 at *
    generalize cs.setIfInBounds o (.int .i64 (-1)) = cs1 at *
    clear c1 f1
    clear y0
    have c2 : W1.cell? ⟨g, o + 1, none⟩ = some (.int .i64 e) := H1.out.1.seg H1.out.2.1 (j := 1) rfl
    have f2 := H1.out.1.frozen (o + 1)
    have hb2 := H1.out.1.set_ (o + 1) (.int .i64 (e + 1))
    have hs2 : Seg (cs1.setIfInBounds (o + 1) (.int .i64 (e + 1))) o (vcells { leader := -1, epoch := e + 1, version := d, isr := I } (.slice A n c)) := H1.out.2.1.set (j := 1) (by simp [vcells]) (.int .i64 (e + 1))
    have hu2 : Upd cs (cs1.setIfInBounds (o + 1) (.int .i64 (e + 1))) o 4 := H1.out.2.2.set (j := 1) (by omega) (.int .i64 (e + 1))
    have ht2 : Turn (fun b => b = g) W1 (W1.setCell ⟨g, o + 1, none⟩ (.int .i64 (e + 1))) := (Turn.refl (fun b => b = g) W1).setCell (p := ⟨g, o + 1, none⟩) (fun _ => rfl) _
    have H2 := Lib.hid (And.intro hb2 (And.intro hs2 hu2))
    have T2 := Lib.hid (T1.out.trans ht2 (fun _ _ h => h))
    clear hb2 hs2 hu2 ht2
    go_upto_region 4 with fail
    generalize W1.setCell ⟨g, o + 1, none⟩ (.int .i64 (e + 1)) = W2 at *
    generalize cs1.setIfInBounds (o + 1) (.int .i64 (e + 1)) = cs2 at *
    clear c2 f2
    have z2 : W2.cell? ⟨g, o + 3, none⟩ = some (.slice A n c) := H2.out.1.seg H2.out.2.1 (j := 3) rfl
    by_cases h1 : 1 < n
    case neg =>
      have d1 : decide (1 < n) = false := decide_eq_false h1
      have d2 : decide ((1 : Int) < (n : Int)) = false := decide_eq_false (by omega)
      have HEQ : Hid (({ leader := a, epoch := e, version := d, isr := I } : Vw).fence x = { leader := -1, epoch := e + 1, version := d + 1, isr := I }) := Lib.hid (by rw [HFE.out]; rw [if_pos ha, if_pos ha, if_neg (by have := HLEN.out; omega)])
      clear h1
      go_upto_region 6 with fail
      clear z2
      have c3 : W2.cell? ⟨g, o + 2, none⟩ = some (.int .i64 d) := H2.out.1.seg H2.out.2.1 (j := 2) rfl
      have f3 := H2.out.1.frozen (o + 2)
      have hb3 := H2.out.1.set_ (o + 2) (.int .i64 (d + 1))
      have hs3 : Seg (cs2.setIfInBounds (o + 2) (.int .i64 (d + 1))) o (vcells { leader := -1, epoch := e + 1, version := d + 1, isr := I } (.slice A n c)) := H2.out.2.1.set (j := 2) (by simp [vcells]) (.int .i64 (d + 1))
      have hu3 : Upd cs (cs2.setIfInBounds (o + 2) (.int .i64 (d + 1))) o 4 := H2.out.2.2.set (j := 2) (by omega) (.int .i64 (d + 1))
      have ht3 : Turn (fun b => b = g) W2 (W2.setCell ⟨g, o + 2, none⟩ (.int .i64 (d + 1))) := (Turn.refl (fun b => b = g) W2).setCell (p := ⟨g, o + 2, none⟩) (fun _ => rfl) _
      have H3 := Lib.hid (And.intro hb3 (And.intro hs3 hu3))
      have T3 := Lib.hid (T2.out.trans ht3 (fun _ _ h => h))
      clear hb3 hs3 hu3 ht3
      go_wp2_with fail
      go_end0
      refine ⟨rfl, _, .slice A n c, H3.out.1, H3.out.2.2, by rw [HEQ.out]; exact H3.out.2.1, by rw [HEQ.out]; exact HO.out.keep T3.out (fun b hb e => HG.out (e ▸ hb)), fun b hb => .inl hb, T3.out.mono (fun _ _ h => .inl h)⟩
    case pos =>
      have d1 : decide (1 < n) = true := decide_eq_true h1
      have d2 : decide ((1 : Int) < (n : Int)) = true := decide_eq_true (by omega)
      have HEQ : Hid (({ leader := a, epoch := e, version := d, isr := I } : Vw).fence x = { leader := -1, epoch := e + 1, version := d + 1, isr := wout I x }) := Lib.hid (by rw [HFE.out]; rw [if_pos ha, if_pos ha, if_pos (by have := HLEN.out; omega)])
      have hcall := hw W2 (HO.out.keep T2.out (fun b hb e => HG.out (e ▸ hb)))
      clear h1
      go_wp2_with fail
      refine hcall.mono ?_
      rintro r V0 ⟨rfl, hov, htv⟩
      have HOV := Lib.hid hov
      have HTV := Lib.hid htv
      have HK := Lib.hid (And.intro (H2.out.1.keep htv HG.out) (And.intro H2.out.2.1 H2.out.2.2))
      have TK := Lib.hid (Turn.refl (fun b => b = g) V0)
      clear hcall hov htv z2
      generalize (wout I x).length = m at *
      have H90 := HK
      have T90 := TK
      have c91 : V0.cell? ⟨g, o + 3, none⟩ = some (.slice A n c) := H90.out.1.seg H90.out.2.1 (j := 3) rfl
      have f91 := H90.out.1.frozen (o + 3)
      have hb91 := H90.out.1.set_ (o + 3) (.slice A m c)
      have hs91 : Seg (cs2.setIfInBounds (o + 3) (.slice A m c)) o (vcells { leader := -1, epoch := e + 1, version := d, isr := I } (.slice A m c)) := H90.out.2.1.set (j := 3) (by simp [vcells]) (.slice A m c)
      have hu91 : Upd cs (cs2.setIfInBounds (o + 3) (.slice A m c)) o 4 := H90.out.2.2.set (j := 3) (by omega) (.slice A m c)
      have ht91 : Turn (fun b => b = g) V0 (V0.setCell ⟨g, o + 3, none⟩ (.slice A m c)) := (Turn.refl (fun b => b = g) V0).setCell (p := ⟨g, o + 3, none⟩) (fun _ => rfl) _
      have H91 := Lib.hid (And.intro hb91 (And.intro hs91 hu91))
      have T91 := Lib.hid (T90.out.trans ht91 (fun _ _ h => h))
      clear hb91 hs91 hu91 ht91
      go_upto_region 6 with fail
      generalize V0.setCell ⟨g, o + 3, none⟩ (.slice A m c) = W91 at *
      generalize cs2.setIfInBounds (o + 3) (.slice A m c) = cs91 at *
      clear c91 f91
      have c92 : W91.cell? ⟨g, o + 2, none⟩ = some (.int .i64 d) := H91.out.1.seg H91.out.2.1 (j := 2) rfl
      have f92 := H91.out.1.frozen (o + 2)
      have hb92 := H91.out.1.set_ (o + 2) (.int .i64 (d + 1))
      have hs92 : Seg (cs91.setIfInBounds (o + 2) (.int .i64 (d + 1))) o (vcells { leader := -1, epoch := e + 1, version := d + 1, isr := I } (.slice A m c)) := H91.out.2.1.set (j := 2) (by simp [vcells]) (.int .i64 (d + 1))
      have hu92 : Upd cs (cs91.setIfInBounds (o + 2) (.int .i64 (d + 1))) o 4 := H91.out.2.2.set (j := 2) (by omega) (.int .i64 (d + 1))
      have ht92 : Turn (fun b => b = g) W91 (W91.setCell ⟨g, o + 2, none⟩ (.int .i64 (d + 1))) := (Turn.refl (fun b => b = g) W91).setCell (p := ⟨g, o + 2, none⟩) (fun _ => rfl) _
      have H92 := Lib.hid (And.intro hb92 (And.intro hs92 hu92))
      have T92 := Lib.hid (T91.out.trans ht92 (fun _ _ h => h))
      clear hb92 hs92 hu92 ht92
      go_wp2_with fail
      go_end0
      refine ⟨rfl, _, .slice A m c, H92.out.1, H92.out.2.2, by rw [HEQ.out]; exact H92.out.2.1, ?_, fun b hb => .inl ((own_any A n m c).trans hb), ?_⟩
      · rw [HEQ.out]
        exact HOV.out.keep T92.out (fun b hb e => HG.out (e ▸ (own_any A n m c).trans hb))
      · exact ((T2.out.mono (fun _ _ h => .inl h)).trans (HTV.out.mono (fun _ _ h => .inr h)) (fun _ _ h => h)).trans (T92.out.mono (fun _ _ h => .inl h)) (fun _ _ h => h)
  case neg =>
    have ea := neb ha
    have y0 : w1.cell? ⟨g, o, none⟩ = some (.int .i64 a) := H0.out.1.seg H0.out.2.1 (j := 0) rfl
    go_upto_region 4 with fail
    clear y0
    have z0 : w1.cell? ⟨g, o + 3, none⟩ = some (.slice A n c) := H0.out.1.seg H0.out.2.1 (j := 3) rfl
    by_cases h1 : 1 < n
    case neg =>
      have d1 : decide (1 < n) = false := decide_eq_false h1
      have d2 : decide ((1 : Int) < (n : Int)) = false := decide_eq_false (by omega)
      have HEQ : Hid (({ leader := a, epoch := e, version := d, isr := I } : Vw).fence x = { leader := a, epoch := e, version := d + 1, isr := I }) := Lib.hid (by rw [HFE.out]; rw [if_neg ha, if_neg ha, if_neg (by have := HLEN.out; omega)])
      clear h1
      go_upto_region 6 with fail
      clear z0
      have c1 : w1.cell? ⟨g, o + 2, none⟩ = some (.int .i64 d) := H0.out.1.seg H0.out.2.1 (j := 2) rfl
      have f1 := H0.out.1.frozen (o + 2)
      have hb1 := H0.out.1.set_ (o + 2) (.int .i64 (d + 1))
      have hs1 : Seg (cs.setIfInBounds (o + 2) (.int .i64 (d + 1))) o (vcells { leader := a, epoch := e, version := d + 1, isr := I } (.slice A n c)) := H0.out.2.1.set (j := 2) (by simp [vcells]) (.int .i64 (d + 1))
      have hu1 : Upd cs (cs.setIfInBounds (o + 2) (.int .i64 (d + 1))) o 4 := H0.out.2.2.set (j := 2) (by omega) (.int .i64 (d + 1))
      have ht1 : Turn (fun b => b = g) w1 (w1.setCell ⟨g, o + 2, none⟩ (.int .i64 (d + 1))) := (Turn.refl (fun b => b = g) w1).setCell (p := ⟨g, o + 2, none⟩) (fun _ => rfl) _
      have H1 := Lib.hid (And.intro hb1 (And.intro hs1 hu1))
      have T1 := Lib.hid (T0.out.trans ht1 (fun _ _ h => h))
      clear hb1 hs1 hu1 ht1
      go_wp2_with fail
      go_end0
      refine ⟨rfl, _, .slice A n c, H1.out.1, H1.out.2.2, by rw [HEQ.out]; exact H1.out.2.1, by rw [HEQ.out]; exact HO.out.keep T1.out (fun b hb e => HG.out (e ▸ hb)), fun b hb => .inl hb, T1.out.mono (fun _ _ h => .inl h)⟩
    case pos =>
      have d1 : decide (1 < n) = true := decide_eq_true h1
      have d2 : decide ((1 : Int) < (n : Int)) = true := decide_eq_true (by omega)
      have HEQ : Hid (({ leader := a, epoch := e, version := d, isr := I } : Vw).fence x = { leader := a, epoch := e, version := d + 1, isr := wout I x }) := Lib.hid (by rw [HFE.out]; rw [if_neg ha, if_neg ha, if_pos (by have := HLEN.out; omega)])
      have hcall := hw w1 (HO.out.keep T0.out (fun b hb e => HG.out (e ▸ hb)))
      clear h1
      go_wp2_with fail
      refine hcall.mono ?_
      rintro r V0 ⟨rfl, hov, htv⟩
      have HOV := Lib.hid hov
      have HTV := Lib.hid htv
      have HK := Lib.hid (And.intro (H0.out.1.keep htv HG.out) (And.intro H0.out.2.1 H0.out.2.2))
      have TK := Lib.hid (Turn.refl (fun b => b = g) V0)
      clear hcall hov htv z0
      generalize (wout I x).length = m at *
      have H90 := HK
      have T90 := TK
      have c91 : V0.cell? ⟨g, o + 3, none⟩ = some (.slice A n c) := H90.out.1.seg H90.out.2.1 (j := 3) rfl
      have f91 := H90.out.1.frozen (o + 3)
      have hb91 := H90.out.1.set_ (o + 3) (.slice A m c)
      have hs91 : Seg (cs.setIfInBounds (o + 3) (.slice A m c)) o (vcells { leader := a, epoch := e, version := d, isr := I } (.slice A m c)) := H90.out.2.1.set (j := 3) (by simp [vcells]) (.slice A m c)
      have hu91 : Upd cs (cs.setIfInBounds (o + 3) (.slice A m c)) o 4 := H90.out.2.2.set (j := 3) (by omega) (.slice A m c)
      have ht91 : Turn (fun b => b = g) V0 (V0.setCell ⟨g, o + 3, none⟩ (.slice A m c)) := (Turn.refl (fun b => b = g) V0).setCell (p := ⟨g, o + 3, none⟩) (fun _ => rfl) _
      have H91 := Lib.hid (And.intro hb91 (And.intro hs91 hu91))
      have T91 := Lib.hid (T90.out.trans ht91 (fun _ _ h => h))
      clear hb91 hs91 hu91 ht91
      go_upto_region 6 with fail
      generalize V0.setCell ⟨g, o + 3, none⟩ (.slice A m c) = W91 at *
      generalize cs.setIfInBounds (o + 3) (.slice A m c) = cs91 at *
      clear c91 f91
      have c92 : W91.cell? ⟨g, o + 2, none⟩ = some (.int .i64 d) := H91.out.1.seg H91.out.2.1 (j := 2) rfl
      have f92 := H91.out.1.frozen (o + 2)
      have hb92 := H91.out.1.set_ (o + 2) (.int .i64 (d + 1))
      have hs92 : Seg (cs91.setIfInBounds (o + 2) (.int .i64 (d + 1))) o (vcells { leader := a, epoch := e, version := d + 1, isr := I } (.slice A m c)) := H91.out.2.1.set (j := 2) (by simp [vcells]) (.int .i64 (d + 1))
      have hu92 : Upd cs (cs91.setIfInBounds (o + 2) (.int .i64 (d + 1))) o 4 := H91.out.2.2.set (j := 2) (by omega) (.int .i64 (d + 1))
      have ht92 : Turn (fun b => b = g) W91 (W91.setCell ⟨g, o + 2, none⟩ (.int .i64 (d + 1))) := (Turn.refl (fun b => b = g) W91).setCell (p := ⟨g, o + 2, none⟩) (fun _ => rfl) _
      have H92 := Lib.hid (And.intro hb92 (And.intro hs92 hu92))
      have T92 := Lib.hid (T91.out.trans ht92 (fun _ _ h => h))
      clear hb92 hs92 hu92 ht92
      go_wp2_with fail
      go_end0
      refine ⟨rfl, _, .slice A m c, H92.out.1, H92.out.2.2, by rw [HEQ.out]; exact H92.out.2.1, ?_, fun b hb => .inl ((own_any A n m c).trans hb), ?_⟩
      · rw [HEQ.out]
        exact HOV.out.keep T92.out (fun b hb e => HG.out (e ▸ (own_any A n m c).trans hb))
      · exact ((T0.out.mono (fun _ _ h => .inl h)).trans (HTV.out.mono (fun _ _ h => .inr h)) (fun _ _ h => h)).trans (T92.out.mono (fun _ _ h => .inl h)) (fun _ _ h => h)
end
end Go.Proofs.YtpmdicbhliclcaaGreat
