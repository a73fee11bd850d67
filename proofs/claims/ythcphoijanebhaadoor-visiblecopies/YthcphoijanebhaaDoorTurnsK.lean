/-
  A range over a function where a round that leaves keeps as well what the iterator reads: the caller's laws. Nothing is assumed.
-/
import Derived.Test.YthcphoijanebhaaDoorTurns
namespace Go.Proofs.YthcphoijanebhaaDoor
open Go.RowKit
/-- What an iterator owes that hands on N times, each time what encs says, where a round that leaves keeps as well what the iterator reads. -/
def SeqK (F : Fence) (n : Nat) (P : Program) (g : Nat) (lb : Array Value) (encs : Nat → Array Value) (N : Nat) (Kp : World → World → Prop) (w : World) : Prop :=
  ∀ (l : Nat) (J Jx : Nat → World → Prop) (W : World), Turn No w W → Abide J → Abide Jx →
    (∀ k W1, J k W1 → k < N → YieldAt F (n - 1) P l (encs k) W1 fun e W' => (e = .returned (.bool true) ∧ J (k + 1) W' ∧ Kp W1 W') ∨ (e = .returned (.bool false) ∧ Jx k W' ∧ Kp W1 W')) →
    J 0 W →
    CallsIn F n P g (#[.func (.yield l) #[] #[]] ++ lb) W fun e W' => (∃ v, e = .returned v) ∧ (J N W' ∨ ∃ k, k < N ∧ Jx k W')
/-- How the body of a round may be left. -/
def postK (B : Nat) (Kp : World → World → Prop) (I : Nat → World → Prop) (Ix : Code → Nat → World → Prop) (k : Nat) (W : World) : Exit → Act → World → Prop
  | .normal, _, W' => Both B W W' ∧ Kp W W' ∧ I (k + 1) W'
  | .ret, _, W' => Both B W W' ∧ Kp W W' ∧ Ix .ret k W'
  | .exit id, _, W' => Both B W W' ∧ Kp W W' ∧ Ix (.exit id) k W'
  | .goto t, _, W' => Both B W W' ∧ Kp W W' ∧ Ix (.goto t) k W'
  | .panic _, _, _ => False
  | .outgrown, _, _ => False
variable {P : Program} {F : Fence} {n : Nat}
theorem range_k {g : Operand} {ps : Array Tmp} {assign body : Code} {Q : Exit → Act → World → Prop} {a : Act} {w : World}
    (hro : F.round = none) (h1 : 1 ≤ n) {gf : Nat} {lb : Array Value} (hg : a.eval g = .func (.func gf) #[] lb) (hFg : F.fn gf) (eg : ∀ args w, (callFunc gf args).run P w = .ok (.enter gf args) w)
    {encs : Nat → Array Value} {N : Nat} {Kp : World → World → Prop} (hseq : SeqK F (n - 1) P gf lb encs N Kp w)
    (hKt : ∀ {A B C : World}, Kp A B → Kp B C → Kp A C) (hKb : ∀ (W W' : World), Turn (two w.heap.size) W W' → w.heap.size + 2 ≤ W.heap.size → Kp W W') (hps : ∀ k, (encs k).size = ps.size)
    (I : Nat → World → Prop) (Ix : Code → Nat → World → Prop) (hI : AbideB w.heap.size I) (hIx : ∀ c, AbideB w.heap.size (Ix c)) (h0 : I 0 w) (ob : Nat → Obj) (a₁ : Nat → Nat → Act)
    (hassign : ∀ (l : Nat) (k : Nat) (W : World) (K : Act → World → Prop), k < N → K (a₁ k W.heap.size) (W.alloc (ob k)) →
      assign.wpIn (F.inRound l) (n - 1 - 1) P (Exit.then K (fun _ _ _ => False)) { tmps := (ps.zip (encs k)).foldl (fun t (p, v) => t.setIfInBounds p v) a.tmps, defers := [] } W)
    (hbody : ∀ (l : Nat) (k : Nat) (W0 W : World), I k W0 → k < N → W.heap[W0.heap.size]? = some (ob k) → w.heap.size + 2 ≤ W0.heap.size → Turn (two w.heap.size) W0 W → body.wpIn (F.inRound l) (n - 1 - 1) P (postK w.heap.size Kp I Ix k W) (a₁ k W0.heap.size) W)
    (hdone : ∀ (W : World), I N W → W.heap[w.heap.size]? = some (.deferred (some [])) → Q .normal { a with defers := { target := .collected w.heap.size, args := #[] } :: a.defers } W)
    (hstop : ∀ (c : Code) (k : Nat) (W : World), k < N → Ix c k W → W.heap[w.heap.size]? = some (.deferred (some [])) → c.wpIn F n P Q { a with defers := { target := .collected w.heap.size, args := #[] } :: a.defers } W) :
    (Code.rangeFunc g ps assign body).wpIn F n P Q a w := by
  refine wpIn_rangeFunc ?_
  intro fn hfn
  rw [hro]
  obtain ⟨rec, hrec⟩ : ∃ rec : LoopState → Option Code → Loop, rec = fun st pe => { state := st, pending := pe, fn, tmps := a.tmps, params := ps, assign, body, defers := w.heap.size } := ⟨_, rfl⟩
  obtain ⟨W1, hW1⟩ : ∃ W1, (w.alloc (.deferred (some []))).alloc (.loop (rec .ready none)) = W1 := ⟨_, rfl⟩
  have hL1 : W1.heap[w.heap.size + 1]? = some (.loop (rec .ready none)) := by
    rw [← hW1]; have := World.alloc_heap_new (w.alloc (.deferred (some []))) (.loop (rec .ready none)); rwa [World.size_alloc] at this
  have hK1 : W1.heap[w.heap.size]? = some (.deferred (some [])) := by
    rw [← hW1]; exact (Below.heap_alloc _ _ _ (by simp)).trans (World.alloc_heap_new w _)
  have hT1 : ∀ S, Turn S w W1 := fun S => by rw [← hW1]; exact ((Turn.refl S w).alloc _).alloc _
  have hI1 : I 0 W1 := hI 0 _ _ h0 (hT1 _)
  refine ⟨w.heap.size + 1, [{ target := .collected w.heap.size, args := #[] }], W1, { target := .fn (.func gf) lb, args := #[.func (.yield (w.heap.size + 1)) #[] #[]] }, W1, gf,
    #[.func (.yield (w.heap.size + 1)) #[] #[]] ++ lb, W1, ?_, ?_, ?_, ?_, fun _ => h1, ?_⟩
  · rw [← hW1, hrec]; exact run_enterLoop_outer _ _ _ _ _
  · simp only [resolve, hg]
    simp [go_sem]
  · intro f' hf'; simp [Target.leads] at hf'; subst hf'; exact hFg
  · simp [invoke, go_sem, eg]
  have hno : ∀ {A A' : World} (S : Nat → Prop), Turn No A A' → Turn S A A' := fun S h => h.mono (fun _ _ e => e.elim)
  refine (hseq (w.heap.size + 1)
    (fun k W => I k W ∧ W.heap[w.heap.size + 1]? = some (.loop (rec .ready none)) ∧ W.heap[w.heap.size]? = some (.deferred (some [])))
    (fun k W => ∃ c, Ix c k W ∧ W.heap[w.heap.size + 1]? = some (.loop (rec .done (some c))) ∧ W.heap[w.heap.size]? = some (.deferred (some []))) W1 (hT1 _)
    (fun k A A' hs ht => ⟨hI k A A' hs.1 (hno _ ht), (ht.block _ (lt_of_heap hs.2.1) (fun h => h)).trans hs.2.1, (ht.block _ (lt_of_heap hs.2.2) (fun h => h)).trans hs.2.2⟩)
    (fun k A A' hs ht => by
      obtain ⟨c, hc, hl, hk⟩ := hs
      exact ⟨c, hIx c k A A' hc (hno _ ht), (ht.block _ (lt_of_heap hl) (fun h => h)).trans hl, (ht.block _ (lt_of_heap hk) (fun h => h)).trans hk⟩)
    ?_ ⟨hI1, hL1, hK1⟩).mono ?_
  · rintro k W ⟨hi, hl, hk⟩ hkN
    have hlt : w.heap.size + 1 < W.heap.size := lt_of_heap hl
    have hy := run_yield (P := P) (args := encs k) hl (by rw [hrec]; exact hps k)
    rw [hrec] at hy
    have hla : (W.alloc (ob k)).heap[w.heap.size + 1]? = some (.loop (rec .ready none)) := (Below.heap_alloc W _ _ hlt).trans hl
    have hka : (W.alloc (ob k)).heap[w.heap.size]? = some (.deferred (some [])) := (Below.heap_alloc W _ _ (by omega)).trans hk
    have hna : (W.alloc (ob k)).heap[W.heap.size]? = some (ob k) := World.alloc_heap_new W _
    have hKp0 : Kp W (W.alloc (ob k)) := hKb _ _ (turn_alloc W _ _) (by omega)
    have hsz : w.heap.size + 2 ≤ (W.alloc (ob k)).heap.size := by simp; omega
    have hWb : w.heap.size + 2 ≤ W.heap.size := by omega
    refine ⟨fn, _, assign, body, hy, roundIn_of_wpIn hfn (hassign _ k W _ hkN ⟨_, run_beginRound hla (by rw [hrec]), ?_⟩)⟩
    have hTa : Turn (two w.heap.size) W (W.alloc (ob k)) := turn_alloc W _ _
    obtain ⟨W0, hW0⟩ : ∃ W0, W0 = W.alloc (ob k) := ⟨_, rfl⟩
    rw [← hW0] at hla hka hna hKp0 hsz hTa ⊢
    have hT2 : Turn (two w.heap.size) W0 (W0.putObj (w.heap.size + 1) (.loop { rec .ready none with state := .busy })) := turn_putObj _ _ _ (.inr rfl)
    have hl2 : (W0.putObj (w.heap.size + 1) (.loop { rec .ready none with state := .busy })).heap[w.heap.size + 1]? = some (.loop { rec .ready none with state := .busy }) := World.putObj_heap_same (lt_of_heap hla)
    have hk2 : (W0.putObj (w.heap.size + 1) (.loop { rec .ready none with state := .busy })).heap[w.heap.size]? = some (.deferred (some [])) := (World.putObj_heap_other (by omega)).trans hka
    have hn2 : (W0.putObj (w.heap.size + 1) (.loop { rec .ready none with state := .busy })).heap[W.heap.size]? = some (ob k) := (World.putObj_heap_other (by omega)).trans hna
    have hKp2 := hKt hKp0 (hKb _ _ hT2 hsz)
    refine wpIn_mono (hbody _ k W _ hi hkN hn2 hWb (hTa.trans hT2 (fun _ _ e => e))) ?_
    have fin : ∀ (jump : Option Code) (W3 : World), Both w.heap.size (W0.putObj (w.heap.size + 1) (.loop { rec .ready none with state := .busy })) W3 →
        (Instr.endRound (w.heap.size + 1) jump).run P W3 = .ok (.bool jump.isNone) (W3.putObj (w.heap.size + 1) (.loop (rec (if jump.isNone then .ready else .done) jump))) ∧
        W3.heap[w.heap.size + 1]? = some (.loop { rec .ready none with state := .busy }) ∧
        (W3.putObj (w.heap.size + 1) (.loop (rec (if jump.isNone then .ready else .done) jump))).heap[w.heap.size + 1]? = some (.loop (rec (if jump.isNone then .ready else .done) jump)) ∧
        (W3.putObj (w.heap.size + 1) (.loop (rec (if jump.isNone then .ready else .done) jump))).heap[w.heap.size]? = some (.deferred (some [])) := fun jump W3 hk3 => by
      have hl3 := hk3.2.trans hl2
      have := run_endRound (P := P) jump hl3
      rw [hrec] at this ⊢
      exact ⟨this, by rw [hrec] at hl3; exact hl3, World.putObj_heap_same (lt_of_heap hl3), (World.putObj_heap_other (by omega)).trans (hk3.1.trans hk2)⟩
    have hT4 : ∀ (W3 : World) (o : Obj), Turn (two w.heap.size) W3 (W3.putObj (w.heap.size + 1) o) := fun W3 o => turn_putObj _ _ _ (.inr rfl)
    rintro e a3 W3 hp
    cases e with
    | normal =>
      obtain ⟨hk3, hkp3, hi3⟩ := hp
      obtain ⟨hr, hl3, hl4, hk4⟩ := fin none W3 hk3
      have h5 : Kp W (W3.putObj (w.heap.size + 1) (.loop (rec (if (none : Option Code).isNone then .ready else .done) none))) := hKt (hKt hKp2 hkp3) (hKb _ _ (hT4 _ _) (by
        have h1 := lt_of_heap hl3
        omega))
      exact ⟨_, _, hr, .inl ⟨rfl, ⟨hI _ _ _ hi3 (hT4 _ _), hl4, hk4⟩, h5⟩⟩
    | ret =>
      obtain ⟨hk3, hkp3, hi3⟩ := hp
      obtain ⟨hr, hl3, hl4, hk4⟩ := fin (some .ret) W3 hk3
      have h5 : Kp W (W3.putObj (w.heap.size + 1) (.loop (rec (if (some .ret : Option Code).isNone then .ready else .done) (some .ret)))) := hKt (hKt hKp2 hkp3) (hKb _ _ (hT4 _ _) (by
        have h1 := lt_of_heap hl3
        omega))
      exact ⟨_, _, hr, .inr ⟨rfl, ⟨.ret, hIx _ _ _ _ hi3 (hT4 _ _), hl4, hk4⟩, h5⟩⟩
    | exit id =>
      obtain ⟨hk3, hkp3, hi3⟩ := hp
      obtain ⟨hr, hl3, hl4, hk4⟩ := fin (some (.exit id)) W3 hk3
      have h5 : Kp W (W3.putObj (w.heap.size + 1) (.loop (rec (if (some (.exit id) : Option Code).isNone then .ready else .done) (some (.exit id))))) := hKt (hKt hKp2 hkp3) (hKb _ _ (hT4 _ _) (by
        have h1 := lt_of_heap hl3
        omega))
      exact ⟨_, _, hr, .inr ⟨rfl, ⟨.exit id, hIx _ _ _ _ hi3 (hT4 _ _), hl4, hk4⟩, h5⟩⟩
    | goto t =>
      obtain ⟨hk3, hkp3, hi3⟩ := hp
      obtain ⟨hr, hl3, hl4, hk4⟩ := fin (some (.goto t)) W3 hk3
      have h5 : Kp W (W3.putObj (w.heap.size + 1) (.loop (rec (if (some (.goto t) : Option Code).isNone then .ready else .done) (some (.goto t))))) := hKt (hKt hKp2 hkp3) (hKb _ _ (hT4 _ _) (by
        have h1 := lt_of_heap hl3
        omega))
      exact ⟨_, _, hr, .inr ⟨rfl, ⟨.goto t, hIx _ _ _ _ hi3 (hT4 _ _), hl4, hk4⟩, h5⟩⟩
    | panic ch => exact hp.elim
    | outgrown => exact hp.elim
  · rintro e W2 ⟨⟨v, rfl⟩, (⟨hi, hl, hk⟩ | ⟨k, hkN, c, hi, hl, hk⟩)⟩
    · exact ⟨none, _, by have := run_endLoop (P := P) hl (by rw [hrec]; simp); rw [hrec] at this; exact this, hdone _ (hI _ _ _ hi (turn_putObj _ _ _ (.inr rfl))) ((World.putObj_heap_other (by omega)).trans hk)⟩
    · exact ⟨some c, _, by have := run_endLoop (P := P) hl (by rw [hrec]; simp); rw [hrec] at this; exact this, hstop c k _ hkN (hIx _ _ _ _ hi (turn_putObj _ _ _ (.inr rfl))) ((World.putObj_heap_other (by omega)).trans hk)⟩
theorem range_kz {g : Operand} {ps : Array Tmp} {assign body : Code} {Q : Exit → Act → World → Prop} {a : Act} {w : World}
    (hro : F.round = none) (h1 : 1 ≤ n) {gf : Nat} {lb : Array Value} (hg : a.eval g = .func (.func gf) #[] lb) (hFg : F.fn gf) (eg : ∀ args w, (callFunc gf args).run P w = .ok (.enter gf args) w)
    {encs : Nat → Array Value} {N : Nat} {Kp : World → World → Prop} (hseq : SeqK F (n - 1) P gf lb encs N Kp w)
    (hKt : ∀ {A B C : World}, Kp A B → Kp B C → Kp A C) (hKb : ∀ (W W' : World), Turn (two w.heap.size) W W' → w.heap.size + 2 ≤ W.heap.size → Kp W W') (hps : ∀ k, (encs k).size = ps.size)
    (I : Nat → World → Prop) (Ix : Code → Nat → World → Prop) (hI : AbideB w.heap.size I) (hIx : ∀ c, AbideB w.heap.size (Ix c)) (h0 : I 0 w) (a₁ : Nat → Act)
    (hassign : ∀ (l : Nat) (k : Nat) (W : World) (K : Act → World → Prop), k < N → K (a₁ k) W →
      assign.wpIn (F.inRound l) (n - 1 - 1) P (Exit.then K (fun _ _ _ => False)) { tmps := (ps.zip (encs k)).foldl (fun t (p, v) => t.setIfInBounds p v) a.tmps, defers := [] } W)
    (hbody : ∀ (l : Nat) (k : Nat) (W0 W : World), I k W0 → k < N → w.heap.size + 2 ≤ W0.heap.size → Turn (two w.heap.size) W0 W → body.wpIn (F.inRound l) (n - 1 - 1) P (postK w.heap.size Kp I Ix k W) (a₁ k) W)
    (hdone : ∀ (W : World), I N W → W.heap[w.heap.size]? = some (.deferred (some [])) → Q .normal { a with defers := { target := .collected w.heap.size, args := #[] } :: a.defers } W)
    (hstop : ∀ (c : Code) (k : Nat) (W : World), k < N → Ix c k W → W.heap[w.heap.size]? = some (.deferred (some [])) → c.wpIn F n P Q { a with defers := { target := .collected w.heap.size, args := #[] } :: a.defers } W) :
    (Code.rangeFunc g ps assign body).wpIn F n P Q a w := by
  refine wpIn_rangeFunc ?_
  intro fn hfn
  rw [hro]
  obtain ⟨rec, hrec⟩ : ∃ rec : LoopState → Option Code → Loop, rec = fun st pe => { state := st, pending := pe, fn, tmps := a.tmps, params := ps, assign, body, defers := w.heap.size } := ⟨_, rfl⟩
  obtain ⟨W1, hW1⟩ : ∃ W1, (w.alloc (.deferred (some []))).alloc (.loop (rec .ready none)) = W1 := ⟨_, rfl⟩
  have hL1 : W1.heap[w.heap.size + 1]? = some (.loop (rec .ready none)) := by
    rw [← hW1]; have := World.alloc_heap_new (w.alloc (.deferred (some []))) (.loop (rec .ready none)); rwa [World.size_alloc] at this
  have hK1 : W1.heap[w.heap.size]? = some (.deferred (some [])) := by
    rw [← hW1]; exact (Below.heap_alloc _ _ _ (by simp)).trans (World.alloc_heap_new w _)
  have hT1 : ∀ S, Turn S w W1 := fun S => by rw [← hW1]; exact ((Turn.refl S w).alloc _).alloc _
  have hI1 : I 0 W1 := hI 0 _ _ h0 (hT1 _)
  refine ⟨w.heap.size + 1, [{ target := .collected w.heap.size, args := #[] }], W1, { target := .fn (.func gf) lb, args := #[.func (.yield (w.heap.size + 1)) #[] #[]] }, W1, gf,
    #[.func (.yield (w.heap.size + 1)) #[] #[]] ++ lb, W1, ?_, ?_, ?_, ?_, fun _ => h1, ?_⟩
  · rw [← hW1, hrec]; exact run_enterLoop_outer _ _ _ _ _
  · simp only [resolve, hg]
    simp [go_sem]
  · intro f' hf'; simp [Target.leads] at hf'; subst hf'; exact hFg
  · simp [invoke, go_sem, eg]
  have hno : ∀ {A A' : World} (S : Nat → Prop), Turn No A A' → Turn S A A' := fun S h => h.mono (fun _ _ e => e.elim)
  refine (hseq (w.heap.size + 1)
    (fun k W => I k W ∧ W.heap[w.heap.size + 1]? = some (.loop (rec .ready none)) ∧ W.heap[w.heap.size]? = some (.deferred (some [])))
    (fun k W => ∃ c, Ix c k W ∧ W.heap[w.heap.size + 1]? = some (.loop (rec .done (some c))) ∧ W.heap[w.heap.size]? = some (.deferred (some []))) W1 (hT1 _)
    (fun k A A' hs ht => ⟨hI k A A' hs.1 (hno _ ht), (ht.block _ (lt_of_heap hs.2.1) (fun h => h)).trans hs.2.1, (ht.block _ (lt_of_heap hs.2.2) (fun h => h)).trans hs.2.2⟩)
    (fun k A A' hs ht => by
      obtain ⟨c, hc, hl, hk⟩ := hs
      exact ⟨c, hIx c k A A' hc (hno _ ht), (ht.block _ (lt_of_heap hl) (fun h => h)).trans hl, (ht.block _ (lt_of_heap hk) (fun h => h)).trans hk⟩)
    ?_ ⟨hI1, hL1, hK1⟩).mono ?_
  · rintro k W ⟨hi, hl, hk⟩ hkN
    have hlt : w.heap.size + 1 < W.heap.size := lt_of_heap hl
    have hy := run_yield (P := P) (args := encs k) hl (by rw [hrec]; exact hps k)
    rw [hrec] at hy
    have hla := hl
    have hka := hk
    have hKp0 : Kp W W := hKb _ _ (Turn.refl _ W) (by omega)
    have hsz : w.heap.size + 2 ≤ W.heap.size := by omega
    have hWb : w.heap.size + 2 ≤ W.heap.size := by omega
    refine ⟨fn, _, assign, body, hy, roundIn_of_wpIn hfn (hassign _ k W _ hkN ⟨_, run_beginRound hla (by rw [hrec]), ?_⟩)⟩
    have hTa : Turn (two w.heap.size) W W := Turn.refl _ W
    have hT2 : Turn (two w.heap.size) W (W.putObj (w.heap.size + 1) (.loop { rec .ready none with state := .busy })) := turn_putObj _ _ _ (.inr rfl)
    have hl2 : (W.putObj (w.heap.size + 1) (.loop { rec .ready none with state := .busy })).heap[w.heap.size + 1]? = some (.loop { rec .ready none with state := .busy }) := World.putObj_heap_same (lt_of_heap hla)
    have hk2 : (W.putObj (w.heap.size + 1) (.loop { rec .ready none with state := .busy })).heap[w.heap.size]? = some (.deferred (some [])) := (World.putObj_heap_other (by omega)).trans hka
    have hKp2 := hKt hKp0 (hKb _ _ hT2 hsz)
    refine wpIn_mono (hbody _ k W _ hi hkN hWb (hTa.trans hT2 (fun _ _ e => e))) ?_
    have fin : ∀ (jump : Option Code) (W3 : World), Both w.heap.size (W.putObj (w.heap.size + 1) (.loop { rec .ready none with state := .busy })) W3 →
        (Instr.endRound (w.heap.size + 1) jump).run P W3 = .ok (.bool jump.isNone) (W3.putObj (w.heap.size + 1) (.loop (rec (if jump.isNone then .ready else .done) jump))) ∧
        W3.heap[w.heap.size + 1]? = some (.loop { rec .ready none with state := .busy }) ∧
        (W3.putObj (w.heap.size + 1) (.loop (rec (if jump.isNone then .ready else .done) jump))).heap[w.heap.size + 1]? = some (.loop (rec (if jump.isNone then .ready else .done) jump)) ∧
        (W3.putObj (w.heap.size + 1) (.loop (rec (if jump.isNone then .ready else .done) jump))).heap[w.heap.size]? = some (.deferred (some [])) := fun jump W3 hk3 => by
      have hl3 := hk3.2.trans hl2
      have := run_endRound (P := P) jump hl3
      rw [hrec] at this ⊢
      exact ⟨this, by rw [hrec] at hl3; exact hl3, World.putObj_heap_same (lt_of_heap hl3), (World.putObj_heap_other (by omega)).trans (hk3.1.trans hk2)⟩
    have hT4 : ∀ (W3 : World) (o : Obj), Turn (two w.heap.size) W3 (W3.putObj (w.heap.size + 1) o) := fun W3 o => turn_putObj _ _ _ (.inr rfl)
    rintro e a3 W3 hp
    cases e with
    | normal =>
      obtain ⟨hk3, hkp3, hi3⟩ := hp
      obtain ⟨hr, hl3, hl4, hk4⟩ := fin none W3 hk3
      have h5 : Kp W (W3.putObj (w.heap.size + 1) (.loop (rec (if (none : Option Code).isNone then .ready else .done) none))) := hKt (hKt hKp2 hkp3) (hKb _ _ (hT4 _ _) (by
        have h1 := lt_of_heap hl3
        omega))
      exact ⟨_, _, hr, .inl ⟨rfl, ⟨hI _ _ _ hi3 (hT4 _ _), hl4, hk4⟩, h5⟩⟩
    | ret =>
      obtain ⟨hk3, hkp3, hi3⟩ := hp
      obtain ⟨hr, hl3, hl4, hk4⟩ := fin (some .ret) W3 hk3
      have h5 : Kp W (W3.putObj (w.heap.size + 1) (.loop (rec (if (some .ret : Option Code).isNone then .ready else .done) (some .ret)))) := hKt (hKt hKp2 hkp3) (hKb _ _ (hT4 _ _) (by
        have h1 := lt_of_heap hl3
        omega))
      exact ⟨_, _, hr, .inr ⟨rfl, ⟨.ret, hIx _ _ _ _ hi3 (hT4 _ _), hl4, hk4⟩, h5⟩⟩
    | exit id =>
      obtain ⟨hk3, hkp3, hi3⟩ := hp
      obtain ⟨hr, hl3, hl4, hk4⟩ := fin (some (.exit id)) W3 hk3
      have h5 : Kp W (W3.putObj (w.heap.size + 1) (.loop (rec (if (some (.exit id) : Option Code).isNone then .ready else .done) (some (.exit id))))) := hKt (hKt hKp2 hkp3) (hKb _ _ (hT4 _ _) (by
        have h1 := lt_of_heap hl3
        omega))
      exact ⟨_, _, hr, .inr ⟨rfl, ⟨.exit id, hIx _ _ _ _ hi3 (hT4 _ _), hl4, hk4⟩, h5⟩⟩
    | goto t =>
      obtain ⟨hk3, hkp3, hi3⟩ := hp
      obtain ⟨hr, hl3, hl4, hk4⟩ := fin (some (.goto t)) W3 hk3
      have h5 : Kp W (W3.putObj (w.heap.size + 1) (.loop (rec (if (some (.goto t) : Option Code).isNone then .ready else .done) (some (.goto t))))) := hKt (hKt hKp2 hkp3) (hKb _ _ (hT4 _ _) (by
        have h1 := lt_of_heap hl3
        omega))
      exact ⟨_, _, hr, .inr ⟨rfl, ⟨.goto t, hIx _ _ _ _ hi3 (hT4 _ _), hl4, hk4⟩, h5⟩⟩
    | panic ch => exact hp.elim
    | outgrown => exact hp.elim
  · rintro e W2 ⟨⟨v, rfl⟩, (⟨hi, hl, hk⟩ | ⟨k, hkN, c, hi, hl, hk⟩)⟩
    · exact ⟨none, _, by have := run_endLoop (P := P) hl (by rw [hrec]; simp); rw [hrec] at this; exact this, hdone _ (hI _ _ _ hi (turn_putObj _ _ _ (.inr rfl))) ((World.putObj_heap_other (by omega)).trans hk)⟩
    · exact ⟨some c, _, by have := run_endLoop (P := P) hl (by rw [hrec]; simp); rw [hrec] at this; exact this, hstop c k _ hkN (hIx _ _ _ _ hi (turn_putObj _ _ _ (.inr rfl))) ((World.putObj_heap_other (by omega)).trans hk)⟩
end Go.Proofs.YthcphoijanebhaaDoor
