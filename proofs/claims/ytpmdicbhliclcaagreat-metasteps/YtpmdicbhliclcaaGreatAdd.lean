/-
  A partition comes into a writer's transaction; what is left of a controller where a list turned. Conditions: numbers of 32 bits, at most 1000000 partitions.
-/
import Derived.Test.YtpmdicbhliclcaaGreatIns
import Derived.Deep.Cut
namespace Go.Proofs.YtpmdicbhliclcaaGreat
open Go.RowKit Go.Maps
set_option linter.unusedVariables false
/-- What is known behind a call that turns a writer and its list. -/
def WaP (w : World) (g o : Nat) (cs : Array Value) (W : Wt) (pv : Value) (w' : World) : Prop :=
  ∃ cs' pv', Blk w' g 75 cs' ∧ Upd cs cs' o 6 ∧ Seg cs' o (wcells W pv') ∧ OwnK w' 3 1 pv' (intsOf W.parts) ∧ (∀ b, pv'.ownBlock = some b → pv.ownBlock = some b ∨ w.heap.size ≤ b) ∧ Turn (fun b => b = g ∨ pv.ownBlock = some b) w w'
section
variable {w w' : World} {g o n c : Nat} {A : Option Addr} {cs : Array Value} {W : Wt} {S : Nat → Prop} {M : Mt} {rv : Nat → Value} {p : Nat}
theorem MarkP.wa (h : MarkP w g o cs W A n c w') : WaP w g o cs W (.slice A n c) w' := by
  obtain ⟨cs', h1, h2, h3, h4, h5⟩ := h
  exact ⟨cs', _, h1, h2, h3, h4, fun b e => .inl ((own_any A n _ c).trans e), h5⟩
/-- A view, a writer turned, and its list. -/
theorem Mx.viewed {V : Vw} (h : Mx w g M cs rv) (hg : S g) (hS : ∀ k, k < 8 → ∀ b, (rv k).ownBlock = some b → S b) (hp : p < 4) (hw : ViP w g (7 + p * 4) cs V (rv p) w') : Mm w' (fun b => S b ∨ w.heap.size ≤ b) g (M.setV p V) ∧ Turn S w w' := by
  obtain ⟨cs', pv', h1, h2, h3, h4, h5, h6⟩ := hw
  refine ⟨⟨cs', _, h.view hp h1 h2 h3 h4 h5 h6, .inl hg, fun k hk b hb => ?_⟩, h6.mono (fun b _ e => e.elim (fun e => e ▸ hg) (fun e => hS p (by omega) b e))⟩
  by_cases hkp : k = p
  · subst hkp
    rw [setAt_self] at hb
    exact (h5 b hb).imp (fun e => hS k hk b e) (fun e => e)
  · rw [setAt_ne _ hkp] at hb
    exact .inl (hS k hk b hb)
theorem Mx.written {W : Wt} (h : Mx w g M cs rv) (hg : S g) (hS : ∀ k, k < 8 → ∀ b, (rv k).ownBlock = some b → S b) (hp : p < 4) (hw : WaP w g (23 + p * 6) cs W (rv (4 + p)) w') : Mm w' (fun b => S b ∨ w.heap.size ≤ b) g (M.setW p W) ∧ Turn S w w' := by
  obtain ⟨cs', pv', h1, h2, h3, h4, h5, h6⟩ := hw
  refine ⟨⟨cs', _, h.writer hp h1 h2 h3 h4 h5 h6, .inl hg, fun k hk b hb => ?_⟩, h6.mono (fun b _ e => e.elim (fun e => e ▸ hg) (fun e => hS (4 + p) (by omega) b e))⟩
  by_cases hkp : k = 4 + p
  · subst hkp
    rw [setAt_self] at hb
    exact (h5 b hb).imp (fun e => hS (4 + p) hk b e) (fun e => e)
  · rw [setAt_ne _ hkp] at hb
    exact .inl (hS k hk b hb)
set_option maxRecDepth 100000 in
set_option maxHeartbeats 4000000 in
theorem add_any (hb : Blk w g 75 cs) (hs : Seg cs o (wcells W (.slice A n c))) (ho : OwnK w 3 1 (.slice A n c) (intsOf W.parts)) (hn : n ≤ 1000000) (hg : (Value.slice A n c).ownBlock ≠ some g) (hr : W.parts.Pairwise (· < ·))
    (h0 : 0 ≤ W.num) (h1 : W.state = 1 → W.num < 2147483647) (x : Int) :
    Calls Tryz.prog 67 #[.pointer (some ⟨g, o, none⟩), .int .i64 x] w fun r w' => r = .returned (.tuple #[]) ∧ WaP w g o cs (W.add x) (.slice A n c) w' := by
  have c2 : w.cell? ⟨g, o + 2, none⟩ = some (.int .i64 W.state) := hb.seg hs (j := 2) rfl
  have HG := Lib.hid hg
  have HR := Lib.hid hr
  have HN := Lib.hid hn
  obtain ⟨U, hU⟩ : ∃ U, withs W.parts x = U := ⟨_, rfl⟩
  have HU := Lib.hid hU
  clear hU
  by_cases hst : W.state = 1
  case pos =>
    have e1 := eqb hst
    have hnm := h1 hst
    have c1 : w.cell? ⟨g, o + 1, none⟩ = some (.int .i64 W.num) := hb.seg hs (j := 1) rfl
    have f1 := hb.frozen (o + 1)
    have we : IntKind.i64.wrap (W.num + 1) = W.num + 1 := by rw [IntWalk.i64_in _ (by omega)]
    have hb1 := hb.set_ (o + 1) (.int .i64 (W.num + 1))
    have hs1 : Seg (cs.setIfInBounds (o + 1) (.int .i64 (W.num + 1))) o (wcells { W with num := W.num + 1 } (.slice A n c)) := hs.set (j := 1) (by simp [wcells]) _
    have hu1 : Upd cs (cs.setIfInBounds (o + 1) (.int .i64 (W.num + 1))) o 6 := (Upd.refl cs o 6).set (j := 1) (by omega) _
    have ht1 : Turn (fun b => b = g) w (w.setCell ⟨g, o + 1, none⟩ (.int .i64 (W.num + 1))) := (Turn.refl (fun b => b = g) w).setCell (p := ⟨g, o + 1, none⟩) (fun _ => rfl) _
    have d2 : (w.setCell ⟨g, o + 1, none⟩ (.int .i64 (W.num + 1))).cell? ⟨g, o + 2, none⟩ = some (.int .i64 W.state) := hb1.seg hs1 (j := 2) rfl
    have f2 := hb1.frozen (o + 2)
    have hb2 := hb1.set_ (o + 2) (.int .i64 2)
    have hs2 := hs1.set (j := 2) (by simp [wcells]) (.int .i64 2)
    have hu2 := hu1.set (j := 2) (by omega) (.int .i64 2)
    have ht2 := ht1.setCell (p := ⟨g, o + 2, none⟩) (fun _ => rfl) (.int .i64 2)
    have HM : Hid (W.add x = { W with num := W.num + 1, state := 2, parts := U }) := Lib.hid (by unfold Wt.add; rw [if_pos hst, HU.out])
    have HO := Lib.hid (ho.keep ht2 (fun b hb e => HG.out (e ▸ hb)))
    have H2 := Lib.hid (And.intro hb2 (And.intro hs2 hu2))
    have HT := Lib.hid ht2
    clear hb hs ho hg hr h0 h1 hn hb1 hs1 hu1 ht1 hb2 hs2 hu2 ht2 hst hnm
    obtain ⟨ss, nm, st, ps, os, nx⟩ := W
    dsimp only at *
    go_enter Tryz.func67, Tryz.ntmps67
    go_upto_region 3 with fail
    clear c2 c1 f1 d2 f2 e1 we
    generalize (w.setCell ⟨g, o + 1, none⟩ (.int .i64 (nm + 1))).setCell ⟨g, o + 2, none⟩ (.int .i64 2) = w1 at *
    generalize (cs.setIfInBounds (o + 1) (.int .i64 (nm + 1))).setIfInBounds (o + 2) (.int .i64 2) = cs1 at *
    have d3 : w1.cell? ⟨g, o + 3, none⟩ = some (.slice A n c) := H2.out.1.seg H2.out.2.1 (j := 3) rfl
    have hwi := with_any HO.out HN.out HR.out x
    go_wp2_with fail
    refine hwi.mono ?_
    rintro r w2 ⟨v, rfl, ho2, hv2, ht2⟩
    rw [HU.out] at ho2
    obtain ⟨A2, k2, rfl, -⟩ := ints_form ho2
    obtain ⟨v, hv⟩ : ∃ v, v = Value.slice A2 U.length k2 := ⟨_, rfl⟩
    have HV := Lib.hid hv
    rw [← hv] at ho2 hv2
    have hb3 := H2.out.1.keep ht2 HG.out
    have f3 := hb3.frozen (o + 3)
    have y3 : w2.cell? ⟨g, o + 3, none⟩ = some (.slice A n c) := hb3.seg H2.out.2.1 (j := 3) rfl
    have hb4 := hb3.set_ (o + 3) v
    have hs4 : Seg (cs1.setIfInBounds (o + 3) v) o (wcells ⟨ss, nm + 1, 2, U, os, nx⟩ v) := H2.out.2.1.set (j := 3) (by simp [wcells]) v
    have hu4 := H2.out.2.2.set (j := 3) (by omega) v
    have ht4 : Turn (fun b => b = g) w2 (w2.setCell ⟨g, o + 3, none⟩ v) := (Turn.refl (fun b => b = g) w2).setCell (p := ⟨g, o + 3, none⟩) (fun _ => rfl) _
    have hgl := H2.out.1.lt
    have hvg : v.ownBlock ≠ some g := fun e => by
      rcases hv2 g e with q | q
      · exact HG.out q
      · omega
    have HF : Hid (WaP w g o cs ⟨ss, nm + 1, 2, U, os, nx⟩ (.slice A n c) (w2.setCell ⟨g, o + 3, none⟩ v)) := Lib.hid ⟨_, v, hb4, hu4, hs4, ho2.keep ht4 (fun b hb e => hvg (e ▸ hb)), fun b e => (hv2 b e).imp_right (fun q => Nat.le_trans HT.out.size q), ((HT.out.mono (fun _ _ e => .inl e)).trans (ht2.mono (S' := fun b => b = g ∨ (Value.slice A n c).ownBlock = some b) (fun _ _ e => .inr e)) (fun _ _ e => e)).trans (ht4.mono (S' := fun b => b = g ∨ (Value.slice A n c).ownBlock = some b) (fun _ _ e => .inl e)) (fun _ _ e => e)⟩
    rw [hv] at HF
    clear hv
    clear hwi ho2 hv2 ht2 hb3 hb4 hs4 hu4 ht4 hgl hvg d3
    go_wp2_with fail
    go_end0
    rw [HM.out]
    exact ⟨rfl, HF.out⟩
  case neg =>
    have e1 := neb hst
    have HM : Hid (W.add x = { W with parts := U }) := Lib.hid (by unfold Wt.add; rw [if_neg hst, HU.out])
    have HO := Lib.hid ho
    have H2 := Lib.hid (And.intro hb (And.intro hs (Upd.refl cs o 6)))
    have HT := Lib.hid (Turn.refl (fun b => b = g) w)
    clear hb hs ho hg hr h0 h1 hn hst
    obtain ⟨ss, nm, st, ps, os, nx⟩ := W
    dsimp only at *
    go_enter Tryz.func67, Tryz.ntmps67
    go_upto_region 3 with fail
    clear c2 e1
    obtain ⟨w1, hw1⟩ : ∃ w1, w1 = w := ⟨_, rfl⟩
    obtain ⟨cs1, hcs1⟩ : ∃ cs1, cs1 = cs := ⟨_, rfl⟩
    have HT : Hid (Turn (fun b => b = g) w w1) := Lib.hid (by rw [hw1]; exact HT.out)
    rw [← hw1] at HO H2 ⊢
    rw [← hcs1] at H2
    have H2 : Hid (Blk w1 g 75 cs1 ∧ Seg cs1 o (wcells ⟨ss, nm, st, ps, os, nx⟩ (.slice A n c)) ∧ Upd cs cs1 o 6) := Lib.hid ⟨H2.out.1, H2.out.2.1, by rw [hcs1]; exact Upd.refl _ _ _⟩
    clear hw1 hcs1
    have d3 : w1.cell? ⟨g, o + 3, none⟩ = some (.slice A n c) := H2.out.1.seg H2.out.2.1 (j := 3) rfl
    have hwi := with_any HO.out HN.out HR.out x
    go_wp2_with fail
    refine hwi.mono ?_
    rintro r w2 ⟨v, rfl, ho2, hv2, ht2⟩
    rw [HU.out] at ho2
    obtain ⟨A2, k2, rfl, -⟩ := ints_form ho2
    obtain ⟨v, hv⟩ : ∃ v, v = Value.slice A2 U.length k2 := ⟨_, rfl⟩
    have HV := Lib.hid hv
    rw [← hv] at ho2 hv2
    have hb3 := H2.out.1.keep ht2 HG.out
    have f3 := hb3.frozen (o + 3)
    have y3 : w2.cell? ⟨g, o + 3, none⟩ = some (.slice A n c) := hb3.seg H2.out.2.1 (j := 3) rfl
    have hb4 := hb3.set_ (o + 3) v
    have hs4 : Seg (cs1.setIfInBounds (o + 3) v) o (wcells ⟨ss, nm, st, U, os, nx⟩ v) := H2.out.2.1.set (j := 3) (by simp [wcells]) v
    have hu4 := H2.out.2.2.set (j := 3) (by omega) v
    have ht4 : Turn (fun b => b = g) w2 (w2.setCell ⟨g, o + 3, none⟩ v) := (Turn.refl (fun b => b = g) w2).setCell (p := ⟨g, o + 3, none⟩) (fun _ => rfl) _
    have hgl := H2.out.1.lt
    have hvg : v.ownBlock ≠ some g := fun e => by
      rcases hv2 g e with q | q
      · exact HG.out q
      · omega
    have HF : Hid (WaP w g o cs ⟨ss, nm, st, U, os, nx⟩ (.slice A n c) (w2.setCell ⟨g, o + 3, none⟩ v)) := Lib.hid ⟨_, v, hb4, hu4, hs4, ho2.keep ht4 (fun b hb e => hvg (e ▸ hb)), fun b e => (hv2 b e).imp_right (fun q => Nat.le_trans HT.out.size q), ((HT.out.mono (fun _ _ e => .inl e)).trans (ht2.mono (S' := fun b => b = g ∨ (Value.slice A n c).ownBlock = some b) (fun _ _ e => .inr e)) (fun _ _ e => e)).trans (ht4.mono (S' := fun b => b = g ∨ (Value.slice A n c).ownBlock = some b) (fun _ _ e => .inl e)) (fun _ _ e => e)⟩
    rw [hv] at HF
    clear hv
    clear hwi ho2 hv2 ht2 hb3 hb4 hs4 hu4 ht4 hgl hvg d3
    go_wp2_with fail
    go_end0
    rw [HM.out]
    exact ⟨rfl, HF.out⟩
end
end Go.Proofs.YtpmdicbhliclcaaGreat
