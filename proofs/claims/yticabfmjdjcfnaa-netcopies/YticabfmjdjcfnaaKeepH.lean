/-
  net.All, with what its messages' bytes are clear of; a call that leaves these. Conditions: bounds.
-/
import Derived.Test.YticabfmjdjcfnaaKeepD
import Derived.Test.YticabfmjdjcfnaaKeepE
import Derived.Test.YticabfmjdjcfnaaKeepF
import Derived.Test.YticabfmjdjcfnaaAct
import Derived.Test.YticabfmjdjcfnaaTurns
import Derived.Test.YticabfmjdjcfnaaSame
import Derived.Test.YticabfmjdjcfnaaCopyN
import Derived.Test.YticabfmjdjcfnaaPlayed
namespace Go.Proofs.Yticabfmjdjcfnaa.K
open Go.RowKit
set_option linter.unusedVariables false
set_option linter.unusedSectionVars false
variable [Quiet]
theorem act_any {w : World} {S X : Nat → Prop} {g : Nat} {s : St} {cs ccs : Array Value} {x : Ac} (hN : Nt w S g s) (hR : RAt w (fun b => S b ∨ X b) s cs) (hX : ∀ b, X b → b < w.heap.size) (hx : AcAt w S x ccs) (hbl : x.m.b.length ≤ 1000000) (hcame : s.came ≤ 1000000000) :
    Calls Try.prog 16 #[.pointer (some ⟨g, 0, none⟩), .agg cs, .agg ccs] w (ActP w S X g (s.next x)) := by
  unfold St.next
  cases h0 : (x.what == 0) with
  | true =>
    rw [if_pos rfl]
    exact act_put hN hR hX hx h0 hbl hcame
  | false =>
    rw [if_neg (by simp)]
    cases hp : s.l[pick x.pick s.l.length]? with
    | none =>
      have hl0 : s.l.length = 0 := by
        rcases Nat.eq_zero_or_pos s.l.length with h | h
        · exact h
        · have := pick_lt x.pick h
          rw [List.getElem?_eq_getElem this] at hp
          cases hp
      show Calls _ _ _ _ (ActP w S X g s)
      cases h2 : (x.what == 2) with
      | true => exact act_dup0 hN hR hX hx h0 h2 hl0
      | false =>
        cases h3 : (x.what == 3) with
        | true => exact act_drop0 hN hR hX hx h0 h2 h3 hl0
        | false =>
          cases h1 : (x.what == 1) with
          | true => exact act_take0 hN hR hX hx h0 h2 h3 h1 hl0
          | false => exact act_peek0 hN hR hX hx h0 h2 h3 h1 hl0
    | some p =>
      obtain ⟨num, m⟩ := p
      show Calls _ _ _ _ (ActP w S X g (s.onPick x (num, m)))
      unfold St.onPick
      cases h2 : (x.what == 2) with
      | true =>
        rw [if_pos rfl]
        exact act_dup1 hN hR hX hx h0 h2 hcame hp
      | false =>
        rw [if_neg (by simp)]
        cases h3 : (x.what == 3) with
        | true =>
          rw [Bool.true_or, if_pos rfl]
          exact act_drop1 hN hR hX hx h0 h2 h3 hp
        | false =>
          rw [Bool.false_or]
          cases h1 : (x.what == 1) with
          | true =>
            rw [if_pos rfl]
            exact act_take1 hN hR hX hx h0 h2 h3 h1 hp
          | false =>
            rw [if_neg (by simp)]
            exact act_peek1 hN hR hX hx h0 h2 h3 h1 hp
end Go.Proofs.Yticabfmjdjcfnaa.K
namespace Go.Proofs.Yticabfmjdjcfnaa
open Go.RowKit Go.Shelf Go.Maps
set_option maxHeartbeats 4000000 in
theorem all_at {w : World} {S : Nat → Prop} {g m : Nat} {s : St} (h : NtAt w S g s m) : Calls Try.prog 20 #[.pointer (some ⟨g, 0, none⟩)] w fun e w' => ∃ mN, e = .returned (.func (.func 39) #[] #[.pointer (some ⟨w.heap.size, 0, none⟩)]) ∧ w'.cell? ⟨w.heap.size, 0, none⟩ = some (.map (some mN)) ∧ NM w' (fun b => ¬ S b ∨ b = m ∨ b = g) mN s.l ∧ w.heap.size < mN ∧ Below w.heap.size w w' := by
  have hmf := mf
  have hb1 : Below w.heap.size w (w.alloc (.cells #[.map none] 69)) := (Below.refl _ _).alloc (Nat.le_refl _) _
  have h1 := h.below hb1
  have k1 : Blk (w.alloc (.cells #[.map none] 69)) w.heap.size 69 #[.map none] := Blk.new _ _ _
  obtain ⟨c0, c1, c2⟩ := h1.blk.three
  have HSL := Lib.hid h.lt
  clear h
  go_enter Try.func20, Try.ntmps20
  go_wp2_with fail
  generalize w.alloc (.cells #[.map none] 69) = w1 at *
  have hlt := k1.lt
  refine (made_net h1).mono ?_
  rintro e w' ⟨rfl, rfl⟩
  go_wp2_with fail
  refine (clone_any h1.map).mono ?_
  rintro e w2 ⟨rfl, hN2, hb2⟩
  have k2 := k1.below hb2 k1.lt
  have hz2 := hb2.size
  have e2 : w2.cell? ⟨w.heap.size, 0, none⟩ = some (.map none) := k2.cell 0
  have f2 := k2.frozen 0
  go_wp2_with fail
  go_ret
  have hT : Turn (fun b => b = w.heap.size) w2 (w2.setCell ⟨w.heap.size, 0, none⟩ (.map (some w1.heap.size))) := (Turn.refl (fun b => b = w.heap.size) w2).setCell (p := ⟨w.heap.size, 0, none⟩) (fun _ => rfl) _
  refine ⟨w1.heap.size, rfl, ?_, (hN2.keep hT (fun b _ e => .inl (fun e' => ?_)) (by omega)), hlt, (hb1.trans (hb2.mono hb1.size)).setCell (Nat.le_refl _) _⟩
  · exact (k2.set_ 0 (.map (some w1.heap.size))).cell 0
  · have := HSL.out b e'
    omega
/-- A call by both: what it leaves, and that it turns none of the net's bytes. -/
theorem act_keeps {w : World} {S X : Nat → Prop} {g m : Nat} {s : St} {cs ccs : Array Value} {x : Ac} (hN : NtAt w S g s m) (hR : RAt w (fun b => S b ∨ X b) s cs) (hX : ∀ b, X b → b < w.heap.size) (hx : AcAt w S x ccs) (hbl : x.m.b.length ≤ 1000000) (hcame : s.came ≤ 1000000000) :
    Calls Try.prog 16 #[.pointer (some ⟨g, 0, none⟩), .agg cs, .agg ccs] w fun e w' => ∃ cs', e = .returned (.tuple #[.agg cs', .bool true]) ∧ ∃ S', (∀ b, S b → S' b) ∧ (∀ b, S' b → S b ∨ w.heap.size ≤ b) ∧ Turn (fun b => b = m ∨ b = g) w w' ∧ Nt w' S' g (s.next x) ∧ RAt w' (fun b => S' b ∨ X b) (s.next x) cs' := by
  letI : K.Quiet := ⟨fun b => S b ∧ b ≠ m ∧ b ≠ g, fun b => w.heap[b]?⟩
  refine (K.act_any (show K.Nt w S g s from ⟨m, ⟨hN, fun b e => e.1, fun e => e.2.1 rfl, fun e => e.2.2 rfl, fun b _ => rfl⟩⟩) hR hX hx hbl hcame).mono ?_
  rintro e w' ⟨cs', rfl, S', h1, h2, hT, hN', hR'⟩
  refine ⟨cs', rfl, S', h1, h2, ⟨hT.os, hT.tape, hT.output, hT.size, fun b hb hn => ?_⟩, hN'.old, hR'⟩
  by_cases hS : S b
  · obtain ⟨m', hm'⟩ := hN'
    exact hm'.qh b ⟨hS, fun e => hn (.inl e), fun e => hn (.inr e)⟩
  · exact hT.block b hb hS
section
variable {P : Program} {F : Fence} {n : Nat}
/-- The same where a round begins with no memory of its own. -/
theorem range_u {Ab : World → World → Prop} {g : Operand} {ps : Array Tmp} {assign body : Code} {Q : Exit → Act → World → Prop} {a : Act} {w : World}
    (hro : F.round = none) (h1 : 1 ≤ n) {gf : Nat} {lb : Array Value} (hg : a.eval g = .func (.func gf) #[] lb) (hFg : F.fn gf) (eg : ∀ args w, (callFunc gf args).run P w = .ok (.enter gf args) w)
    {V : Nat → Array Value → World → Prop} {N : Nat} {Kp : Array Value → World → World → Prop} (hseq : SeqV Ab F (n - 1) P gf lb V N Kp w)
    (hKt : ∀ {x : Array Value} {A B C : World}, Kp x A B → Kp x B C → Kp x A C) (hKb : ∀ (x : Array Value) (W W' : World), Turn (two w.heap.size) W W' → w.heap.size + 2 ≤ W.heap.size → Kp x W W') (hps : ∀ k x W, V k x W → x.size = ps.size)
    (hAb : ∀ A B b, Ab A B → two w.heap.size b → b < A.heap.size → B.heap[b]? = A.heap[b]?)
    (I : Nat → World → Prop) (Ix : Code → Nat → World → Prop) (hI : ∀ k A B, I k A → Turn (two w.heap.size) A B → I k B) (hIx : ∀ c k A B, Ix c k A → Turn (two w.heap.size) A B → Ix c k B) (hIa : ∀ k A B, I k A → Ab A B → I k B) (hIxa : ∀ c k A B, Ix c k A → Ab A B → Ix c k B) (h0 : I 0 w) (a₁ : Array Value → Act)
    (hassign : ∀ (l : Nat) (k : Nat) (x : Array Value) (W : World) (K : Act → World → Prop), k < N → V k x W → K (a₁ x) W →
      assign.wpIn (F.inRound l) (n - 1 - 1) P (Exit.then K (fun _ _ _ => False)) { tmps := (ps.zip x).foldl (fun t (p, v) => t.setIfInBounds p v) a.tmps, defers := [] } W)
    (hbody : ∀ (l : Nat) (k : Nat) (x : Array Value) (W0 W : World), I k W0 → k < N → V k x W0 → w.heap.size + 2 ≤ W0.heap.size → Turn (two w.heap.size) W0 W → body.wpIn (F.inRound l) (n - 1 - 1) P (postN w.heap.size (Kp x) I Ix k W) (a₁ x) W)
    (hdone : ∀ (W : World), I N W → W.heap[w.heap.size]? = some (.deferred (some [])) → Q .normal { a with defers := { target := .collected w.heap.size, args := #[] } :: a.defers } W)
    (hstop : ∀ (c : Code) (k : Nat) (W : World), k < N → Ix c k W → W.heap[w.heap.size]? = some (.deferred (some [])) → c.wpIn F n P Q { a with defers := { target := .collected w.heap.size, args := #[] } :: a.defers } W) :
    (Code.rangeFunc g ps assign body).wpIn F n P Q a w := by
  refine wpIn_rangeFunc ?_
  intro fn hfn
  rw [hro]
  obtain ⟨rec, hrec⟩ : ∃ rec : LoopState → Option Code → Loop, rec = fun st pe => { state := st, pending := pe, fn, tmps := a.tmps, params := ps, assign, body, defers := w.heap.size } := ⟨_, rfl⟩
  obtain ⟨W1, hW1⟩ : ∃ W1, (w.alloc (.deferred (some []))).alloc (.loop (rec .ready none)) = W1 := ⟨_, rfl⟩
  have hL1 : W1.heap[w.heap.size + 1]? = some (.loop (rec .ready none)) := by
    rw [← hW1]; have := World.alloc_heap_new (w.alloc (.deferred (some []))) (.loop (rec .ready none)); rwa [World.size_alloc] at this
  have hK1 : W1.heap[w.heap.size]? = some (.deferred (some [])) := by
    rw [← hW1]; exact (Below.heap_alloc _ _ _ (by simp)).trans (World.alloc_heap_new w _)
  have hT1 : ∀ S, Turn S w W1 := fun S => by rw [← hW1]; exact ((Turn.refl S w).alloc _).alloc _
  have hI1 : I 0 W1 := hI 0 _ _ h0 (hT1 _)
  refine ⟨w.heap.size + 1, [{ target := .collected w.heap.size, args := #[] }], W1, { target := .fn (.func gf) lb, args := #[.func (.yield (w.heap.size + 1)) #[] #[]] }, W1, gf,
    #[.func (.yield (w.heap.size + 1)) #[] #[]] ++ lb, W1, ?_, ?_, ?_, ?_, fun _ => h1, ?_⟩
  · rw [← hW1, hrec]; exact run_enterLoop_outer _ _ _ _ _
  · simp only [resolve, hg]
    simp [go_sem]
  · intro f' hf'; simp [Target.leads] at hf'; subst hf'; exact hFg
  · simp [invoke, go_sem, eg]
  refine (hseq (w.heap.size + 1)
    (fun k W => I k W ∧ W.heap[w.heap.size + 1]? = some (.loop (rec .ready none)) ∧ W.heap[w.heap.size]? = some (.deferred (some [])))
    (fun k W => ∃ c, Ix c k W ∧ W.heap[w.heap.size + 1]? = some (.loop (rec .done (some c))) ∧ W.heap[w.heap.size]? = some (.deferred (some []))) W1 (hT1 _) (by rw [← hW1]; simp)
    (fun k A A' hs ht => ⟨hIa k A A' hs.1 ht, (hAb A A' _ ht (.inr rfl) (lt_of_heap hs.2.1)).trans hs.2.1, (hAb A A' _ ht (.inl rfl) (lt_of_heap hs.2.2)).trans hs.2.2⟩)
    (fun k A A' hs ht => by
      obtain ⟨c, hc, hl, hk⟩ := hs
      exact ⟨c, hIxa c k A A' hc ht, (hAb A A' _ ht (.inr rfl) (lt_of_heap hl)).trans hl, (hAb A A' _ ht (.inl rfl) (lt_of_heap hk)).trans hk⟩)
    ?_ ⟨hI1, hL1, hK1⟩).mono ?_
  · rintro k x W ⟨hi, hl, hk⟩ hkN hv
    have hlt : w.heap.size + 1 < W.heap.size := lt_of_heap hl
    have hy := run_yield (P := P) (args := x) hl (by rw [hrec]; exact hps k x W hv)
    rw [hrec] at hy
    have hla := hl
    have hka := hk
    have hKp0 : Kp x W W := hKb _ _ _ (Turn.refl _ _) (by omega)
    have hsz : w.heap.size + 2 ≤ W.heap.size := by omega
    have hWb : w.heap.size + 2 ≤ W.heap.size := by omega
    refine ⟨fn, _, assign, body, hy, roundIn_of_wpIn hfn (hassign _ k x W _ hkN hv ⟨_, run_beginRound hla (by rw [hrec]), ?_⟩)⟩
    have hTa : Turn (two w.heap.size) W W := Turn.refl _ _
    obtain ⟨W0, hW0⟩ : ∃ W0, W0 = W := ⟨_, rfl⟩
    rw [← hW0] at hla hka hKp0 hsz hTa hWb hi hv ⊢
    have hT2 : Turn (two w.heap.size) W0 (W0.putObj (w.heap.size + 1) (.loop { rec .ready none with state := .busy })) := turn_putObj _ _ _ (.inr rfl)
    have hl2 : (W0.putObj (w.heap.size + 1) (.loop { rec .ready none with state := .busy })).heap[w.heap.size + 1]? = some (.loop { rec .ready none with state := .busy }) := World.putObj_heap_same (lt_of_heap hla)
    have hk2 : (W0.putObj (w.heap.size + 1) (.loop { rec .ready none with state := .busy })).heap[w.heap.size]? = some (.deferred (some [])) := (World.putObj_heap_other (by omega)).trans hka
    have hKp2 := hKt hKp0 (hKb x _ _ hT2 hsz)
    refine wpIn_mono (hbody _ k x W0 _ hi hkN hv hWb (hTa.trans hT2 (fun _ _ e => e))) ?_
    have fin : ∀ (jump : Option Code) (W3 : World), Both w.heap.size (W0.putObj (w.heap.size + 1) (.loop { rec .ready none with state := .busy })) W3 →
        (Instr.endRound (w.heap.size + 1) jump).run P W3 = .ok (.bool jump.isNone) (W3.putObj (w.heap.size + 1) (.loop (rec (if jump.isNone then .ready else .done) jump))) ∧
        W3.heap[w.heap.size + 1]? = some (.loop { rec .ready none with state := .busy }) ∧
        (W3.putObj (w.heap.size + 1) (.loop (rec (if jump.isNone then .ready else .done) jump))).heap[w.heap.size + 1]? = some (.loop (rec (if jump.isNone then .ready else .done) jump)) ∧
        (W3.putObj (w.heap.size + 1) (.loop (rec (if jump.isNone then .ready else .done) jump))).heap[w.heap.size]? = some (.deferred (some [])) := fun jump W3 hk3 => by
      have hl3 := hk3.2.trans hl2
      have := run_endRound (P := P) jump hl3
      rw [hrec] at this ⊢
      exact ⟨this, by rw [hrec] at hl3; exact hl3, World.putObj_heap_same (lt_of_heap hl3), (World.putObj_heap_other (by omega)).trans (hk3.1.trans hk2)⟩
    have hT4 : ∀ (W3 : World) (o : Obj), Turn (two w.heap.size) W3 (W3.putObj (w.heap.size + 1) o) := fun W3 o => turn_putObj _ _ _ (.inr rfl)
    rintro e a3 W3 hp
    cases e with
    | normal =>
      obtain ⟨hk3, hkp3, hi3⟩ := hp
      obtain ⟨hr, hl3, hl4, hk4⟩ := fin none W3 hk3
      have h5 : Kp x W0 (W3.putObj (w.heap.size + 1) (.loop (rec (if (none : Option Code).isNone then .ready else .done) none))) := hKt (hKt hKp2 hkp3) (hKb x _ _ (hT4 _ _) (by
        have h1 := lt_of_heap hl3
        omega))
      exact ⟨_, _, hr, .inl ⟨rfl, ⟨hI _ _ _ hi3 (hT4 _ _), hl4, hk4⟩, h5⟩⟩
    | ret =>
      obtain ⟨hk3, hkp3, hi3⟩ := hp
      obtain ⟨hr, hl3, hl4, hk4⟩ := fin (some .ret) W3 hk3
      have h5 : Kp x W0 (W3.putObj (w.heap.size + 1) (.loop (rec (if (some .ret : Option Code).isNone then .ready else .done) (some .ret)))) := hKt (hKt hKp2 hkp3) (hKb x _ _ (hT4 _ _) (by
        have h1 := lt_of_heap hl3
        omega))
      exact ⟨_, _, hr, .inr ⟨rfl, ⟨.ret, hIx _ _ _ _ hi3 (hT4 _ _), hl4, hk4⟩, h5⟩⟩
    | exit id =>
      obtain ⟨hk3, hkp3, hi3⟩ := hp
      obtain ⟨hr, hl3, hl4, hk4⟩ := fin (some (.exit id)) W3 hk3
      have h5 : Kp x W0 (W3.putObj (w.heap.size + 1) (.loop (rec (if (some (.exit id) : Option Code).isNone then .ready else .done) (some (.exit id))))) := hKt (hKt hKp2 hkp3) (hKb x _ _ (hT4 _ _) (by
        have h1 := lt_of_heap hl3
        omega))
      exact ⟨_, _, hr, .inr ⟨rfl, ⟨.exit id, hIx _ _ _ _ hi3 (hT4 _ _), hl4, hk4⟩, h5⟩⟩
    | goto t =>
      obtain ⟨hk3, hkp3, hi3⟩ := hp
      obtain ⟨hr, hl3, hl4, hk4⟩ := fin (some (.goto t)) W3 hk3
      have h5 : Kp x W0 (W3.putObj (w.heap.size + 1) (.loop (rec (if (some (.goto t) : Option Code).isNone then .ready else .done) (some (.goto t))))) := hKt (hKt hKp2 hkp3) (hKb x _ _ (hT4 _ _) (by
        have h1 := lt_of_heap hl3
        omega))
      exact ⟨_, _, hr, .inr ⟨rfl, ⟨.goto t, hIx _ _ _ _ hi3 (hT4 _ _), hl4, hk4⟩, h5⟩⟩
    | panic ch => exact hp.elim
    | outgrown => exact hp.elim
  · rintro e W2 ⟨⟨v, rfl⟩, (⟨hi, hl, hk⟩ | ⟨k, hkN, c, hi, hl, hk⟩)⟩
    · exact ⟨none, _, by have := run_endLoop (P := P) hl (by rw [hrec]; simp); rw [hrec] at this; exact this, hdone _ (hI _ _ _ hi (turn_putObj _ _ _ (.inr rfl))) ((World.putObj_heap_other (by omega)).trans hk)⟩
    · exact ⟨some c, _, by have := run_endLoop (P := P) hl (by rw [hrec]; simp); rw [hrec] at this; exact this, hstop c k _ hkN (hIx _ _ _ _ hi (turn_putObj _ _ _ (.inr rfl))) ((World.putObj_heap_other (by omega)).trans hk)⟩
end
end Go.Proofs.Yticabfmjdjcfnaa
