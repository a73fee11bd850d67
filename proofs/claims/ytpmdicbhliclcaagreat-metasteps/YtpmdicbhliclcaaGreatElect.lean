/-
  A partition's view in memory: a broker is elected, the list is altered. Conditions: numbers of 32 bits.
-/
import Derived.Test.YtpmdicbhliclcaaGreatVi
namespace Go.Proofs.YtpmdicbhliclcaaGreat
open Go.RowKit Go.Maps
set_option linter.unusedVariables false
def Vw.elect (V : Vw) (b : Int) : Vw := { leader := b, epoch := V.epoch + 1, version := V.version + 1, isr := if b ∈ V.isr then V.isr else [b] }
def Vw.alter (V : Vw) (l : List Int) : Vw := { V with version := V.version + 1, isr := l }
/-- What is known behind a call that turns a view. -/
def ViP (w : World) (g o : Nat) (cs : Array Value) (V : Vw) (pv : Value) (w' : World) : Prop :=
  ∃ cs' pv', Blk w' g 75 cs' ∧ Upd cs cs' o 4 ∧ Seg cs' o (vcells V pv') ∧ OwnK w' 3 1 pv' (intsOf V.isr) ∧ (∀ b, pv'.ownBlock = some b → pv.ownBlock = some b ∨ w.heap.size ≤ b) ∧ Turn (fun b => b = g ∨ pv.ownBlock = some b) w w'
section
variable {w w' : World} {g o n c : Nat} {A : Option Addr} {cs : Array Value} {V : Vw}
set_option maxRecDepth 100000 in
set_option maxHeartbeats 4000000 in
theorem elect_any (hb : Blk w g 75 cs) (hs : Seg cs o (vcells V (.slice A n c))) (ho : OwnK w 3 1 (.slice A n c) (intsOf V.isr)) (hn : n ≤ 1000000) (hg : (Value.slice A n c).ownBlock ≠ some g)
    (he : 0 ≤ V.epoch ∧ V.epoch < 2147483647) (hv : 0 ≤ V.version ∧ V.version < 2147483647) (x : Int) :
    Calls Tryz.prog 85 #[.pointer (some ⟨g, o, none⟩), .int .i64 x] w fun r w' => r = .returned (.tuple #[]) ∧ ViP w g o cs (V.elect x) (.slice A n c) w' := by
  have hin := inStep_any hb hs (ho.rd (X := No) (fun _ _ h => h)) hn x
  have we : IntKind.i64.wrap (V.epoch + 1) = V.epoch + 1 := by rw [IntWalk.i64_in _ (by omega)]
  have wv : IntKind.i64.wrap (V.version + 1) = V.version + 1 := by rw [IntWalk.i64_in _ (by omega)]
  have HO := Lib.hid ho
  have HG := Lib.hid hg
  have HI := Lib.hid (show (V.elect x).isr = if x ∈ V.isr then V.isr else [x] from rfl)
  by_cases hx : x ∈ V.isr
  case pos =>
    rw [decide_eq_true hx] at hin
    have H0 := Lib.hid (And.intro hb (And.intro hs (Upd.refl cs o 4)))
    have T0 := Lib.hid (Turn.refl (fun b => b = g) w)
    have HEQ : Hid (V.elect x = { leader := x, epoch := V.epoch + 1, version := V.version + 1, isr := V.isr }) := Lib.hid (by unfold Vw.elect; rw [if_pos hx])
    clear hb hs ho hg he hv hx
    obtain ⟨a, e, d, I⟩ := V
    dsimp only at *
    go_enter Tryz.func85, Tryz.ntmps85
    go_wp2_with fail
    refine hin.mono ?_
    rintro r w1 ⟨rfl, rfl⟩
    clear hin
    go_upto_region 2 with fail
    have c1 : w1.cell? ⟨g, o, none⟩ = some (.int .i64 a) := H0.out.1.seg H0.out.2.1 (j := 0) rfl
    have f1 := H0.out.1.frozen o
    have hb1 := H0.out.1.set_ o (.int .i64 x)
    have hs1 : Seg (cs.setIfInBounds o (.int .i64 x)) o (vcells { leader := x, epoch := e, version := d, isr := I } (.slice A n c)) := H0.out.2.1.set (j := 0) (by simp [vcells]) (.int .i64 x)
    have hu1 : Upd cs (cs.setIfInBounds o (.int .i64 x)) o 4 := H0.out.2.2.set (j := 0) (by omega) (.int .i64 x)
    have ht1 : Turn (fun b => b = g) w1 (w1.setCell ⟨g, o, none⟩ (.int .i64 x)) := (Turn.refl (fun b => b = g) w1).setCell (p := ⟨g, o, none⟩) (fun _ => rfl) _
    have H1 := Lib.hid (And.intro hb1 (And.intro hs1 hu1))
    have T1 := Lib.hid (T0.out.trans ht1 (fun _ _ h => h))
    clear hb1 hs1 hu1 ht1
    go_upto_region 3 with fail
    generalize w1.setCell ⟨g, o, none⟩ (.int .i64 x) = W1 at *
    generalize cs.setIfInBounds o (.int .i64 x) = cs1 at *
    clear c1 f1
    have c2 : W1.cell? ⟨g, o + 1, none⟩ = some (.int .i64 e) := H1.out.1.seg H1.out.2.1 (j := 1) rfl
    have f2 := H1.out.1.frozen (o + 1)
    have hb2 := H1.out.1.set_ (o + 1) (.int .i64 (e + 1))
    have hs2 : Seg (cs1.setIfInBounds (o + 1) (.int .i64 (e + 1))) o (vcells { leader := x, epoch := e + 1, version := d, isr := I } (.slice A n c)) := H1.out.2.1.set (j := 1) (by simp [vcells]) (.int .i64 (e + 1))
    have hu2 : Upd cs (cs1.setIfInBounds (o + 1) (.int .i64 (e + 1))) o 4 := H1.out.2.2.set (j := 1) (by omega) (.int .i64 (e + 1))
    have ht2 : Turn (fun b => b = g) W1 (W1.setCell ⟨g, o + 1, none⟩ (.int .i64 (e + 1))) := (Turn.refl (fun b => b = g) W1).setCell (p := ⟨g, o + 1, none⟩) (fun _ => rfl) _
    have H2 := Lib.hid (And.intro hb2 (And.intro hs2 hu2))
    have T2 := Lib.hid (T1.out.trans ht2 (fun _ _ h => h))
    clear hb2 hs2 hu2 ht2
    go_upto_region 4 with fail
    generalize W1.setCell ⟨g, o + 1, none⟩ (.int .i64 (e + 1)) = W2 at *
    generalize cs1.setIfInBounds (o + 1) (.int .i64 (e + 1)) = cs2 at *
    clear c2 f2
    have c3 : W2.cell? ⟨g, o + 2, none⟩ = some (.int .i64 d) := H2.out.1.seg H2.out.2.1 (j := 2) rfl
    have f3 := H2.out.1.frozen (o + 2)
    have hb3 := H2.out.1.set_ (o + 2) (.int .i64 (d + 1))
    have hs3 : Seg (cs2.setIfInBounds (o + 2) (.int .i64 (d + 1))) o (vcells { leader := x, epoch := e + 1, version := d + 1, isr := I } (.slice A n c)) := H2.out.2.1.set (j := 2) (by simp [vcells]) (.int .i64 (d + 1))
    have hu3 : Upd cs (cs2.setIfInBounds (o + 2) (.int .i64 (d + 1))) o 4 := H2.out.2.2.set (j := 2) (by omega) (.int .i64 (d + 1))
    have ht3 : Turn (fun b => b = g) W2 (W2.setCell ⟨g, o + 2, none⟩ (.int .i64 (d + 1))) := (Turn.refl (fun b => b = g) W2).setCell (p := ⟨g, o + 2, none⟩) (fun _ => rfl) _
    have H3 := Lib.hid (And.intro hb3 (And.intro hs3 hu3))
    have T3 := Lib.hid (T2.out.trans ht3 (fun _ _ h => h))
    clear hb3 hs3 hu3 ht3
    go_wp2_with fail
    go_end0
    refine ⟨rfl, _, .slice A n c, H3.out.1, H3.out.2.2, by rw [HEQ.out]; exact H3.out.2.1, ?_, fun b hb => .inl hb, T3.out.mono (fun _ _ h => .inl h)⟩
    rw [HEQ.out]
    exact HO.out.keep T3.out (fun b hb e => HG.out (e ▸ hb))
  case neg =>
    rw [decide_eq_false hx] at hin
    have HEQ : Hid (V.elect x = { leader := x, epoch := V.epoch + 1, version := V.version + 1, isr := [x] }) := Lib.hid (by unfold Vw.elect; rw [if_neg hx])
    have hal := (Below.refl w.heap.size w).alloc (Nat.le_refl _) (.cells #[.int .i64 x] 3)
    have hgl := hb.lt
    have hb0 := hb.alloc (.cells #[.int .i64 x] 3)
    have hrow : OwnK (w.alloc (.cells #[.int .i64 x] 3)) 3 1 (.slice (some ⟨w.heap.size, 0, none⟩) 1 1) (intsOf [x]) := ownK_first (F := [x]) (Blk.new w 3 #[.int .i64 x]) (by unfold maxLen; omega) rfl (by simp) (fun q y hq => by
      rcases q with _ | q
      · injection hq with hq; subst hq; rfl
      · simp at hq)
    have H0 := Lib.hid (And.intro hb0 (And.intro hs (Upd.refl cs o 4)))
    have T0 := Lib.hid (Turn.refl (fun b => b = g) (w.alloc (.cells #[.int .i64 x] 3)))
    have HR := Lib.hid (And.intro hrow hal)
    have HGL := Lib.hid hgl
    clear hb hs ho hg he hv hx hb0 hrow hal hgl
    obtain ⟨a, e, d, I⟩ := V
    dsimp only at *
    go_enter Tryz.func85, Tryz.ntmps85
    go_wp2_with fail
    refine hin.mono ?_
    rintro r w1 ⟨rfl, rfl⟩
    clear hin
    have c1 : (w1.alloc (.cells #[.int .i64 x] 3)).cell? ⟨g, o + 3, none⟩ = some (.slice A n c) := H0.out.1.seg H0.out.2.1 (j := 3) rfl
    have f1 := H0.out.1.frozen (o + 3)
    have hb1 := H0.out.1.set_ (o + 3) (.slice (some ⟨w1.heap.size, 0, none⟩) 1 1)
    have hs1 : Seg (cs.setIfInBounds (o + 3) (.slice (some ⟨w1.heap.size, 0, none⟩) 1 1)) o (vcells { leader := a, epoch := e, version := d, isr := I } (.slice (some ⟨w1.heap.size, 0, none⟩) 1 1)) := H0.out.2.1.set (j := 3) (by simp [vcells]) (.slice (some ⟨w1.heap.size, 0, none⟩) 1 1)
    have hu1 : Upd cs (cs.setIfInBounds (o + 3) (.slice (some ⟨w1.heap.size, 0, none⟩) 1 1)) o 4 := H0.out.2.2.set (j := 3) (by omega) (.slice (some ⟨w1.heap.size, 0, none⟩) 1 1)
    have ht1 : Turn (fun b => b = g) (w1.alloc (.cells #[.int .i64 x] 3)) ((w1.alloc (.cells #[.int .i64 x] 3)).setCell ⟨g, o + 3, none⟩ (.slice (some ⟨w1.heap.size, 0, none⟩) 1 1)) := (Turn.refl (fun b => b = g) (w1.alloc (.cells #[.int .i64 x] 3))).setCell (p := ⟨g, o + 3, none⟩) (fun _ => rfl) _
    have H1 := Lib.hid (And.intro hb1 (And.intro hs1 hu1))
    have T1 := Lib.hid (T0.out.trans ht1 (fun _ _ h => h))
    clear hb1 hs1 hu1 ht1
    go_upto_region 2 with fail
    generalize (w1.alloc (.cells #[.int .i64 x] 3)).setCell ⟨g, o + 3, none⟩ (.slice (some ⟨w1.heap.size, 0, none⟩) 1 1) = W1 at *
    generalize cs.setIfInBounds (o + 3) (.slice (some ⟨w1.heap.size, 0, none⟩) 1 1) = cs1 at *
    clear c1 f1
    have c2 : W1.cell? ⟨g, o, none⟩ = some (.int .i64 a) := H1.out.1.seg H1.out.2.1 (j := 0) rfl
    have f2 := H1.out.1.frozen o
    have hb2 := H1.out.1.set_ o (.int .i64 x)
    have hs2 : Seg (cs1.setIfInBounds o (.int .i64 x)) o (vcells { leader := x, epoch := e, version := d, isr := I } (.slice (some ⟨w1.heap.size, 0, none⟩) 1 1)) := H1.out.2.1.set (j := 0) (by simp [vcells]) (.int .i64 x)
    have hu2 : Upd cs (cs1.setIfInBounds o (.int .i64 x)) o 4 := H1.out.2.2.set (j := 0) (by omega) (.int .i64 x)
    have ht2 : Turn (fun b => b = g) W1 (W1.setCell ⟨g, o, none⟩ (.int .i64 x)) := (Turn.refl (fun b => b = g) W1).setCell (p := ⟨g, o, none⟩) (fun _ => rfl) _
    have H2 := Lib.hid (And.intro hb2 (And.intro hs2 hu2))
    have T2 := Lib.hid (T1.out.trans ht2 (fun _ _ h => h))
    clear hb2 hs2 hu2 ht2
    go_upto_region 3 with fail
    generalize W1.setCell ⟨g, o, none⟩ (.int .i64 x) = W2 at *
    generalize cs1.setIfInBounds o (.int .i64 x) = cs2 at *
    clear c2 f2
    have c3 : W2.cell? ⟨g, o + 1, none⟩ = some (.int .i64 e) := H2.out.1.seg H2.out.2.1 (j := 1) rfl
    have f3 := H2.out.1.frozen (o + 1)
    have hb3 := H2.out.1.set_ (o + 1) (.int .i64 (e + 1))
    have hs3 : Seg (cs2.setIfInBounds (o + 1) (.int .i64 (e + 1))) o (vcells { leader := x, epoch := e + 1, version := d, isr := I } (.slice (some ⟨w1.heap.size, 0, none⟩) 1 1)) := H2.out.2.1.set (j := 1) (by simp [vcells]) (.int .i64 (e + 1))
    have hu3 : Upd cs (cs2.setIfInBounds (o + 1) (.int .i64 (e + 1))) o 4 := H2.out.2.2.set (j := 1) (by omega) (.int .i64 (e + 1))
    have ht3 : Turn (fun b => b = g) W2 (W2.setCell ⟨g, o + 1, none⟩ (.int .i64 (e + 1))) := (Turn.refl (fun b => b = g) W2).setCell (p := ⟨g, o + 1, none⟩) (fun _ => rfl) _
    have H3 := Lib.hid (And.intro hb3 (And.intro hs3 hu3))
    have T3 := Lib.hid (T2.out.trans ht3 (fun _ _ h => h))
    clear hb3 hs3 hu3 ht3
    go_upto_region 4 with fail
    generalize W2.setCell ⟨g, o + 1, none⟩ (.int .i64 (e + 1)) = W3 at *
    generalize cs2.setIfInBounds (o + 1) (.int .i64 (e + 1)) = cs3 at *
    clear c3 f3
    have c4 : W3.cell? ⟨g, o + 2, none⟩ = some (.int .i64 d) := H3.out.1.seg H3.out.2.1 (j := 2) rfl
    have f4 := H3.out.1.frozen (o + 2)
    have hb4 := H3.out.1.set_ (o + 2) (.int .i64 (d + 1))
    have hs4 : Seg (cs3.setIfInBounds (o + 2) (.int .i64 (d + 1))) o (vcells { leader := x, epoch := e + 1, version := d + 1, isr := I } (.slice (some ⟨w1.heap.size, 0, none⟩) 1 1)) := H3.out.2.1.set (j := 2) (by simp [vcells]) (.int .i64 (d + 1))
    have hu4 : Upd cs (cs3.setIfInBounds (o + 2) (.int .i64 (d + 1))) o 4 := H3.out.2.2.set (j := 2) (by omega) (.int .i64 (d + 1))
    have ht4 : Turn (fun b => b = g) W3 (W3.setCell ⟨g, o + 2, none⟩ (.int .i64 (d + 1))) := (Turn.refl (fun b => b = g) W3).setCell (p := ⟨g, o + 2, none⟩) (fun _ => rfl) _
    have H4 := Lib.hid (And.intro hb4 (And.intro hs4 hu4))
    have T4 := Lib.hid (T3.out.trans ht4 (fun _ _ h => h))
    clear hb4 hs4 hu4 ht4
    go_wp2_with fail
    go_end0
    have hfr : ∀ b, (Value.slice (some ⟨w1.heap.size, 0, none⟩) 1 1).ownBlock = some b → b = w1.heap.size := fun b hb => by
      have h1 : w1.heap.size = b := by simpa [Value.ownBlock] using hb
      exact h1.symm
    refine ⟨rfl, _, _, H4.out.1, H4.out.2.2, by rw [HEQ.out]; exact H4.out.2.1, ?_, fun b hb => .inr (Nat.le_of_eq (hfr b hb).symm), (Turn.of_below HR.out.2 _).trans (T4.out.mono (fun _ _ h => .inl h)) (fun _ _ h => h)⟩
    rw [HEQ.out]
    exact HR.out.1.keep T4.out (fun b hb e => by
      have h1 := hfr b hb
      have h2 := HGL.out
      omega)
set_option maxRecDepth 100000 in
set_option maxHeartbeats 4000000 in
theorem alter_any {B : Option Addr} {m k : Nat} {X : Nat → Prop} {U : List Int} (hb : Blk w g 75 cs) (hs : Seg cs o (vcells V (.slice A n c))) (hr : Rd w X 1 B m (intsOf U)) (hm : m ≤ 1000000)
    (hv : 0 ≤ V.version ∧ V.version < 2147483647) :
    Calls Tryz.prog 95 #[.pointer (some ⟨g, o, none⟩), .slice B m k] w fun r w' => r = .returned (.tuple #[]) ∧ ViP w g o cs (V.alter U) (.slice A n c) w' := by
  have hcp := copied_any (c := k) hr hm
  have wv : IntKind.i64.wrap (V.version + 1) = V.version + 1 := by rw [IntWalk.i64_in _ (by omega)]
  have HBB := Lib.hid (And.intro hb hs)
  have HGL := Lib.hid hb.lt
  have HEQ : Hid (V.alter U = { V with version := V.version + 1, isr := U }) := Lib.hid rfl
  clear hb hs hr hv
  obtain ⟨a, e, d, I⟩ := V
  dsimp only at *
  go_enter Tryz.func95, Tryz.ntmps95
  go_wp2_with fail
  refine hcp.mono ?_
  rintro r W0 ⟨pv, rfl, hop, hpv, hb0⟩
  obtain ⟨Ap, cp, rfl, -⟩ := ints_form hop
  have H0 := Lib.hid (And.intro (HBB.out.1.below hb0 HGL.out) (And.intro HBB.out.2 (Upd.refl cs o 4)))
  have T0 := Lib.hid (Turn.refl (fun b => b = g) W0)
  have HO := Lib.hid (And.intro hop (And.intro hpv hb0))
  clear hcp hop hpv hb0
  have c1 : W0.cell? ⟨g, o + 3, none⟩ = some (.slice A n c) := H0.out.1.seg H0.out.2.1 (j := 3) rfl
  have f1 := H0.out.1.frozen (o + 3)
  have hb1 := H0.out.1.set_ (o + 3) (.slice Ap U.length cp)
  have hs1 : Seg (cs.setIfInBounds (o + 3) (.slice Ap U.length cp)) o (vcells { leader := a, epoch := e, version := d, isr := I } (.slice Ap U.length cp)) := H0.out.2.1.set (j := 3) (by simp [vcells]) (.slice Ap U.length cp)
  have hu1 : Upd cs (cs.setIfInBounds (o + 3) (.slice Ap U.length cp)) o 4 := H0.out.2.2.set (j := 3) (by omega) (.slice Ap U.length cp)
  have ht1 : Turn (fun b => b = g) W0 (W0.setCell ⟨g, o + 3, none⟩ (.slice Ap U.length cp)) := (Turn.refl (fun b => b = g) W0).setCell (p := ⟨g, o + 3, none⟩) (fun _ => rfl) _
  have H1 := Lib.hid (And.intro hb1 (And.intro hs1 hu1))
  have T1 := Lib.hid (T0.out.trans ht1 (fun _ _ h => h))
  clear hb1 hs1 hu1 ht1
  go_upto_region 1 with fail
  generalize W0.setCell ⟨g, o + 3, none⟩ (.slice Ap U.length cp) = W1 at *
  generalize cs.setIfInBounds (o + 3) (.slice Ap U.length cp) = cs1 at *
  clear c1 f1
  have c2 : W1.cell? ⟨g, o + 2, none⟩ = some (.int .i64 d) := H1.out.1.seg H1.out.2.1 (j := 2) rfl
  have f2 := H1.out.1.frozen (o + 2)
  have hb2 := H1.out.1.set_ (o + 2) (.int .i64 (d + 1))
  have hs2 : Seg (cs1.setIfInBounds (o + 2) (.int .i64 (d + 1))) o (vcells { leader := a, epoch := e, version := d + 1, isr := I } (.slice Ap U.length cp)) := H1.out.2.1.set (j := 2) (by simp [vcells]) (.int .i64 (d + 1))
  have hu2 : Upd cs (cs1.setIfInBounds (o + 2) (.int .i64 (d + 1))) o 4 := H1.out.2.2.set (j := 2) (by omega) (.int .i64 (d + 1))
  have ht2 : Turn (fun b => b = g) W1 (W1.setCell ⟨g, o + 2, none⟩ (.int .i64 (d + 1))) := (Turn.refl (fun b => b = g) W1).setCell (p := ⟨g, o + 2, none⟩) (fun _ => rfl) _
  have H2 := Lib.hid (And.intro hb2 (And.intro hs2 hu2))
  have T2 := Lib.hid (T1.out.trans ht2 (fun _ _ h => h))
  clear hb2 hs2 hu2 ht2
  go_wp2_with fail
  go_end0
  refine ⟨rfl, _, _, H2.out.1, H2.out.2.2, by rw [HEQ.out]; exact H2.out.2.1, ?_, fun b hb => .inr (HO.out.2.1 b hb), (Turn.of_below HO.out.2.2 _).trans (T2.out.mono (fun _ _ h => .inl h)) (fun _ _ h => h)⟩
  rw [HEQ.out]
  exact HO.out.1.keep T2.out (fun b hb e => by
    have h1 := HO.out.2.1 b hb
    have h2 := HGL.out
    omega)
end
end Go.Proofs.YtpmdicbhliclcaaGreat
