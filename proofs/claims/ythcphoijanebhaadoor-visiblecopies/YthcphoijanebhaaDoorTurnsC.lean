/-
  A range over a function whose rounds turn blocks that change from round to round (a row that grows): the caller's law. It follows the library's own law for a range over a function step by step. Nothing is assumed.
-/
import Derived.Test.YthcphoijanebhaaDoorTurnsK
namespace Go.Proofs.YthcphoijanebhaaDoor
open Go.RowKit
/-- The caller's own blocks, and those of its loop. -/
def Dd (C : World → Nat → Prop) (B : Nat) : World → Nat → Prop := fun W x => C W x ∨ two B x
/-- Only the caller's own blocks have turned, and what is its own now was so or is new. -/
def KeepC (D : World → Nat → Prop) (W W' : World) : Prop := W.heap.size ≤ W'.heap.size ∧ (∀ x, x < W.heap.size → ¬ D W x → W'.heap[x]? = W.heap[x]?) ∧ (∀ x, D W' x → D W x ∨ W.heap.size ≤ x)
theorem KeepC.refl (D : World → Nat → Prop) (W : World) : KeepC D W W := ⟨Nat.le_refl _, fun _ _ _ => rfl, fun _ h => .inl h⟩
theorem KeepC.trans {D : World → Nat → Prop} {A B C : World} (h : KeepC D A B) (k : KeepC D B C) : KeepC D A C :=
  ⟨Nat.le_trans h.1 k.1, fun x hx hn => (k.2.1 x (Nat.lt_of_lt_of_le hx h.1) (fun q => (h.2.2 x q).elim hn (fun e => by omega))).trans (h.2.1 x hx hn), fun x q => by
    rcases k.2.2 x q with q | q
    · exact h.2.2 x q
    · exact .inr (Nat.le_trans h.1 q)⟩
/-- What the caller knows between two rounds hangs on its own blocks and on what lay there before. -/
structure Cons (D : World → Nat → Prop) (B : Nat) (J : Nat → World → Prop) : Prop where
  ab : ∀ k A A' T, J k A → Turn T A A' → (∀ x, T x → B ≤ x ∧ ¬ D A x) → J k A' ∧ ∀ x, D A' x → D A x
  lt : ∀ k A, J k A → ∀ x, D A x → x < A.heap.size
/-- What an iterator owes that hands on N times, each time what encs says. -/
def SeqC (F : Fence) (n : Nat) (P : Program) (g : Nat) (lb : Array Value) (encs : Nat → Array Value) (N : Nat) (C : World → Nat → Prop) (w : World) : Prop :=
  ∀ (l : Nat) (J Jx : Nat → World → Prop) (W : World), Turn No w W → w.heap.size + 2 ≤ W.heap.size → Cons (Dd C w.heap.size) (w.heap.size + 2) J →
    (∀ k A A' T, Jx k A → Turn T A A' → (∀ x, T x → w.heap.size + 2 ≤ x ∧ ¬ Dd C w.heap.size A x) → Jx k A') →
    (∀ k W1, J k W1 → k < N → YieldAt F (n - 1) P l (encs k) W1 fun e W' => (e = .returned (.bool true) ∧ J (k + 1) W' ∧ KeepC (Dd C w.heap.size) W1 W') ∨ (e = .returned (.bool false) ∧ Jx k W' ∧ KeepC (Dd C w.heap.size) W1 W')) →
    J 0 W →
    CallsIn F n P g (#[.func (.yield l) #[] #[]] ++ lb) W fun e W' => (∃ v, e = .returned v) ∧ (J N W' ∨ ∃ k, k < N ∧ Jx k W')
/-- How the body of a round may be left: by its end alone. -/
def postC (B : Nat) (C : World → Nat → Prop) (I : Nat → World → Prop) (k : Nat) (W : World) : Exit → Act → World → Prop
  | .normal, _, W' => Both B W W' ∧ KeepC C W W' ∧ I (k + 1) W'
  | _, _, _ => False
variable {P : Program} {F : Fence} {n : Nat}
theorem range_c {g : Operand} {ps : Array Tmp} {assign body : Code} {Q : Exit → Act → World → Prop} {a : Act} {w : World}
    (hro : F.round = none) (h1 : 1 ≤ n) {gf : Nat} {lb : Array Value} (hg : a.eval g = .func (.func gf) #[] lb) (hFg : F.fn gf) (eg : ∀ args w, (callFunc gf args).run P w = .ok (.enter gf args) w)
    {encs : Nat → Array Value} {N : Nat} {C : World → Nat → Prop} (hseq : SeqC F (n - 1) P gf lb encs N C w) (hps : ∀ k, (encs k).size = ps.size)
    (I : Nat → World → Prop) (hI : ∀ k A A' T, I k A → Turn T A A' → (∀ x, T x → w.heap.size ≤ x ∧ ¬ C A x) → I k A' ∧ ∀ x, C A' x → C A x)
    (hlt : ∀ k A, I k A → ∀ x, C A x → x < A.heap.size ∧ (x < w.heap.size ∨ w.heap.size + 2 ≤ x)) (h0 : I 0 w) (a₁ : Nat → Act)
    (hassign : ∀ (l : Nat) (k : Nat) (W : World) (K : Act → World → Prop), k < N → K (a₁ k) W →
      assign.wpIn (F.inRound l) (n - 1 - 1) P (Exit.then K (fun _ _ _ => False)) { tmps := (ps.zip (encs k)).foldl (fun t (p, v) => t.setIfInBounds p v) a.tmps, defers := [] } W)
    (hbody : ∀ (l : Nat) (k : Nat) (W : World), I k W → k < N → w.heap.size + 2 ≤ W.heap.size → body.wpIn (F.inRound l) (n - 1 - 1) P (postC w.heap.size C I k W) (a₁ k) W)
    (hdone : ∀ (W : World), I N W → W.heap[w.heap.size]? = some (.deferred (some [])) → Q .normal { a with defers := { target := .collected w.heap.size, args := #[] } :: a.defers } W) :
    (Code.rangeFunc g ps assign body).wpIn F n P Q a w := by
  refine wpIn_rangeFunc ?_
  intro fn hfn
  rw [hro]
  obtain ⟨rec, hrec⟩ : ∃ rec : LoopState → Option Code → Loop, rec = fun st pe => { state := st, pending := pe, fn, tmps := a.tmps, params := ps, assign, body, defers := w.heap.size } := ⟨_, rfl⟩
  obtain ⟨W1, hW1⟩ : ∃ W1, (w.alloc (.deferred (some []))).alloc (.loop (rec .ready none)) = W1 := ⟨_, rfl⟩
  have hL1 : W1.heap[w.heap.size + 1]? = some (.loop (rec .ready none)) := by
    rw [← hW1]; have := World.alloc_heap_new (w.alloc (.deferred (some []))) (.loop (rec .ready none)); rwa [World.size_alloc] at this
  have hK1 : W1.heap[w.heap.size]? = some (.deferred (some [])) := by
    rw [← hW1]; exact (Below.heap_alloc _ _ _ (by simp)).trans (World.alloc_heap_new w _)
  have hT1 : ∀ S, Turn S w W1 := fun S => by rw [← hW1]; exact ((Turn.refl S w).alloc _).alloc _
  have hI1 : I 0 W1 := (hI 0 _ _ No h0 (hT1 _) (fun _ h => h.elim)).1
  have hno2 : ∀ k A, I k A → ∀ x, two w.heap.size x → ¬ C A x := fun k A hi x hx hc => by
    have := (hlt k A hi x hc).2
    rcases hx with e | e <;> omega
  refine ⟨w.heap.size + 1, [{ target := .collected w.heap.size, args := #[] }], W1, { target := .fn (.func gf) lb, args := #[.func (.yield (w.heap.size + 1)) #[] #[]] }, W1, gf,
    #[.func (.yield (w.heap.size + 1)) #[] #[]] ++ lb, W1, ?_, ?_, ?_, ?_, fun _ => h1, ?_⟩
  · rw [← hW1, hrec]; exact run_enterLoop_outer _ _ _ _ _
  · simp only [resolve, hg]
    simp [go_sem]
  · intro f' hf'; simp [Target.leads] at hf'; subst hf'; exact hFg
  · simp [invoke, go_sem, eg]
  refine (hseq (w.heap.size + 1)
    (fun k W => I k W ∧ W.heap[w.heap.size + 1]? = some (.loop (rec .ready none)) ∧ W.heap[w.heap.size]? = some (.deferred (some [])))
    (fun _ _ => False) W1 (hT1 _) (by rw [← hW1]; simp)
    ⟨fun k A A' T hs ht hT => by
      obtain ⟨i1, i2⟩ := hI k A A' T hs.1 ht (fun x hx => ⟨by have := (hT x hx).1; omega, fun q => (hT x hx).2 (.inl q)⟩)
      refine ⟨⟨i1, (ht.block _ (lt_of_heap hs.2.1) (fun q => by have := (hT _ q).1; omega)).trans hs.2.1, (ht.block _ (lt_of_heap hs.2.2) (fun q => by have := (hT _ q).1; omega)).trans hs.2.2⟩, fun x q => ?_⟩
      rcases q with q | q
      · exact .inl (i2 x q)
      · exact .inr q,
    fun k A hs x q => by
      rcases q with q | q
      · exact (hlt k A hs.1 x q).1
      · have h1 := lt_of_heap hs.2.1
        rcases q with e | e <;> omega⟩
    (fun _ _ _ _ h _ _ => h)
    ?_ ⟨hI1, hL1, hK1⟩).mono ?_
  · rintro k W ⟨hi, hl, hk⟩ hkN
    have hlt1 : w.heap.size + 1 < W.heap.size := lt_of_heap hl
    have hy := run_yield (P := P) (args := encs k) hl (by rw [hrec]; exact hps k)
    rw [hrec] at hy
    refine ⟨fn, _, assign, body, hy, roundIn_of_wpIn hfn (hassign _ k W _ hkN ⟨_, run_beginRound hl (by rw [hrec]), ?_⟩)⟩
    have hT2 : Turn (fun x => x = w.heap.size + 1) W (W.putObj (w.heap.size + 1) (.loop { rec .ready none with state := .busy })) := turn_putObj _ _ _ rfl
    have hl2 : (W.putObj (w.heap.size + 1) (.loop { rec .ready none with state := .busy })).heap[w.heap.size + 1]? = some (.loop { rec .ready none with state := .busy }) := World.putObj_heap_same (lt_of_heap hl)
    have hk2 : (W.putObj (w.heap.size + 1) (.loop { rec .ready none with state := .busy })).heap[w.heap.size]? = some (.deferred (some [])) := (World.putObj_heap_other (by omega)).trans hk
    have hI2 := hI k _ _ _ hi hT2 (fun x e => ⟨by omega, hno2 k W hi x (.inr e)⟩)
    have hKp2 : KeepC (Dd C w.heap.size) W (W.putObj (w.heap.size + 1) (.loop { rec .ready none with state := .busy })) :=
      ⟨hT2.size, fun x hx hn => hT2.block x hx (fun e => hn (.inr (.inr e))), fun x q => .inl (by
        rcases q with q | q
        · exact .inl (hI2.2 x q)
        · exact .inr q)⟩
    have hsz2 := Nat.le_trans (show w.heap.size + 2 ≤ W.heap.size by omega) hT2.size
    refine wpIn_mono (hbody _ k _ hI2.1 hkN hsz2) ?_
    rintro e a3 W3 hp
    cases e with
    | normal =>
      obtain ⟨hk3, hkp3, hi3⟩ := hp
      have hl3 := hk3.2.trans hl2
      have hr := run_endRound (P := P) none hl3
      rw [hrec] at hr
      have hl3' := hl3
      rw [hrec] at hl3'
      have hT4 : Turn (fun x => x = w.heap.size + 1) W3 (W3.putObj (w.heap.size + 1) (.loop (rec .ready none))) := turn_putObj _ _ _ rfl
      have hI4 := hI _ _ _ _ hi3 hT4 (fun x e => ⟨by omega, hno2 _ _ hi3 x (.inr e)⟩)
      have h5 : KeepC (Dd C w.heap.size) W (W3.putObj (w.heap.size + 1) (.loop (rec .ready none))) :=
        hKp2.trans (KeepC.trans (B := W3) ⟨hkp3.1, fun x hx hn => hkp3.2.1 x hx (fun q => hn (.inl q)), fun x q => by
          rcases q with q | q
          · exact (hkp3.2.2 x q).imp .inl id
          · exact .inl (.inr q)⟩
        ⟨hT4.size, fun x hx hn => hT4.block x hx (fun e => hn (.inr (.inr e))), fun x q => .inl (by
          rcases q with q | q
          · exact .inl (hI4.2 x q)
          · exact .inr q)⟩)
      refine ⟨_, _, hr, .inl ⟨rfl, ?_, ?_⟩⟩
      · have h6 : W3.heap[w.heap.size + 1]? = some (.loop { rec .ready none with state := .busy }) := hl3
        rw [hrec] at hI4 ⊢
        exact ⟨hI4.1, World.putObj_heap_same (lt_of_heap hl3), (World.putObj_heap_other (by omega)).trans (hk3.1.trans hk2)⟩
      · rw [hrec] at h5; exact h5
    | ret => exact hp.elim
    | exit id => exact hp.elim
    | goto t => exact hp.elim
    | panic ch => exact hp.elim
    | outgrown => exact hp.elim
  · rintro e W2 ⟨⟨v, rfl⟩, (⟨hi, hl, hk⟩ | ⟨k, hkN, hf⟩)⟩
    · have hT : Turn (fun x => x = w.heap.size + 1) W2 (W2.putObj (w.heap.size + 1) (.loop { rec .ready none with state := .exhausted })) := turn_putObj _ _ _ rfl
      exact ⟨none, _, by have := run_endLoop (P := P) hl (by rw [hrec]; simp); rw [hrec] at this; exact this, hdone _ (hI _ _ _ _ hi (turn_putObj (S := fun x => x = w.heap.size + 1) _ _ _ rfl) (fun x e => ⟨by omega, hno2 _ _ hi x (.inr e)⟩)).1 ((World.putObj_heap_other (by omega)).trans hk)⟩
    · exact hf.elim
end Go.Proofs.YthcphoijanebhaaDoor
