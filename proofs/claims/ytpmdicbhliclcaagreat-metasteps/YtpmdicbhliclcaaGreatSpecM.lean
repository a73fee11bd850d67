/-
  What a controller is between two calls, and what each call makes of it: in numbers alone. Nothing is assumed.
-/
import Derived.Test.YtpmdicbhliclcaaGreatArg3
namespace Go.Proofs.YtpmdicbhliclcaaGreat
open Go.RowKit Go.Maps
set_option linter.unusedVariables false
theorem rise_pw {V : List Int} {m : Int} : Rise V m ↔ (∀ y ∈ V, 0 ≤ y ∧ y < m) ∧ V.Pairwise (· < ·) := by
  unfold Rise
  refine and_congr_right fun _ => ?_
  rw [List.pairwise_iff_getElem]
  constructor
  · intro h i j hi hj hij
    exact h i j _ _ hij (List.getElem?_eq_getElem hi) (List.getElem?_eq_getElem hj)
  · intro h i j y z hij hy hz
    obtain ⟨hi, rfl⟩ := List.getElem?_eq_some_iff.1 hy
    obtain ⟨hj, rfl⟩ := List.getElem?_eq_some_iff.1 hz
    exact h i j hi hj hij
instance (V : List Int) (m : Int) : Decidable (Rise V m) := decidable_of_iff _ rise_pw.symm
theorem rise_at {V : List Int} {m : Int} (h : Rise V m) : ∀ (i : Nat) (y : Int), V[i]? = some y → (i : Int) ≤ y
  | 0, y, hy => (h.1 y (List.mem_iff_getElem?.2 ⟨0, hy⟩)).1
  | i + 1, y, hy => by
    have hl := (List.getElem?_eq_some_iff.1 hy).1
    obtain ⟨z, hz⟩ : ∃ z, V[i]? = some z := ⟨_, List.getElem?_eq_getElem (by omega)⟩
    have h1 := rise_at h i z hz
    have h2 := h.2 i (i + 1) z y (by omega) hz hy
    omega
theorem rise_len {V : List Int} {m : Nat} (h : Rise V m) : V.length ≤ m := by
  rcases hn : V.length with _ | n
  · omega
  · obtain ⟨y, hy⟩ : ∃ y, V[n]? = some y := ⟨_, List.getElem?_eq_getElem (by omega)⟩
    have h1 := rise_at h n y hy
    have h2 := h.1 y (List.mem_iff_getElem?.2 ⟨n, hy⟩)
    omega
/-- Lists that rise and have the same are the same. -/
theorem pw_ext : ∀ {A B : List Int}, A.Pairwise (· < ·) → B.Pairwise (· < ·) → (∀ y, y ∈ A ↔ y ∈ B) → A = B
  | [], [], _, _, _ => rfl
  | [], b :: B, _, _, h => absurd ((h b).2 (by simp)) (by simp)
  | a :: A, [], _, _, h => absurd ((h a).1 (by simp)) (by simp)
  | a :: A, b :: B, ha, hb, h => by
    rw [List.pairwise_cons] at ha hb
    have hab : a = b := by
      have h1 := (h a).1 (by simp)
      have h2 := (h b).2 (by simp)
      rw [List.mem_cons] at h1 h2
      rcases h1 with h1 | h1
      · exact h1
      · rcases h2 with h2 | h2
        · exact h2.symm
        · have := ha.1 b h2
          have := hb.1 a h1
          omega
    subst hab
    congr 1
    refine pw_ext ha.2 hb.2 (fun y => ?_)
    have hy := h y
    rw [List.mem_cons, List.mem_cons] at hy
    constructor
    · intro q
      have := ha.1 y q
      rcases hy.1 (.inr q) with e | e
      · omega
      · exact e
    · intro q
      have := hb.1 y q
      rcases hy.2 (.inr q) with e | e
      · omega
      · exact e
/-- A number is put into its place, if it is not there. -/
def ins : List Int → Int → List Int
  | [], x => [x]
  | y :: r, x => if x < y then x :: y :: r else if x = y then y :: r else y :: ins r x
def withs (V : List Int) (x : Int) : List Int := if x ∈ V then V else V.take (V.countP (· < x)) ++ x :: V.drop (V.countP (· < x))
theorem withs_ins : ∀ {V : List Int} {x : Int}, V.Pairwise (· < ·) → withs V x = ins V x
  | [], x, _ => by simp [withs, ins]
  | y :: r, x, h => by
    rw [List.pairwise_cons] at h
    have ih := withs_ins (x := x) h.2
    unfold withs at *
    rw [ins]
    by_cases h1 : x < y
    · have hno : x ∉ y :: r := by
        rw [List.mem_cons]
        rintro (e | e)
        · omega
        · have := h.1 x e; omega
      have hc : (y :: r).countP (· < x) = 0 := by
        rw [List.countP_eq_zero]
        intro a ha
        rw [List.mem_cons] at ha
        simp
        rcases ha with rfl | ha
        · omega
        · have := h.1 a ha; omega
      rw [if_neg hno, if_pos h1, hc]
      rfl
    · rw [if_neg h1]
      by_cases h2 : x = y
      · subst h2
        rw [if_pos (by simp), if_pos rfl]
      · rw [if_neg h2]
        have hc : (y :: r).countP (· < x) = r.countP (· < x) + 1 := by
          rw [List.countP_cons, if_pos (by simp; omega)]
        by_cases h3 : x ∈ r
        · rw [if_pos (by simp [h3])]
          rw [if_pos h3] at ih
          rw [← ih]
        · rw [if_neg (by simp [h3, h2]), hc]
          rw [if_neg h3] at ih
          show y :: (r.take (r.countP (· < x)) ++ x :: r.drop (r.countP (· < x))) = _
          rw [ih]
theorem mem_ins : ∀ {V : List Int} {x y : Int}, y ∈ ins V x ↔ y = x ∨ y ∈ V
  | [], x, y => by simp [ins]
  | z :: r, x, y => by
    unfold ins
    split
    · simp
    · split
      · rename_i h1 h2; subst h2; simp
      · rw [List.mem_cons, mem_ins, List.mem_cons]
        constructor
        · rintro (e | e | e)
          · exact .inr (.inl e)
          · exact .inl e
          · exact .inr (.inr e)
        · rintro (e | e | e)
          · exact .inr (.inl e)
          · exact .inl e
          · exact .inr (.inr e)
theorem ins_pw : ∀ {V : List Int} {x : Int}, V.Pairwise (· < ·) → (ins V x).Pairwise (· < ·)
  | [], x, _ => by simp [ins]
  | y :: r, x, h => by
    have h' := h
    rw [List.pairwise_cons] at h
    unfold ins
    split
    · rename_i h1
      rw [List.pairwise_cons]
      refine ⟨fun a ha => ?_, h'⟩
      rw [List.mem_cons] at ha
      rcases ha with rfl | ha
      · exact h1
      · have := h.1 a ha; omega
    · split
      · exact h'
      · rename_i h1 h2
        rw [List.pairwise_cons]
        refine ⟨fun a ha => ?_, ins_pw h.2⟩
        rw [mem_ins] at ha
        rcases ha with rfl | ha
        · omega
        · exact h.1 a ha
theorem withs_rise {V : List Int} {m x : Int} (h : Rise V m) (hx : 0 ≤ x ∧ x < m) : Rise (withs V x) m := by
  rw [rise_pw] at h ⊢
  rw [withs_ins h.2]
  refine ⟨fun y hy => ?_, ins_pw h.2⟩
  rw [mem_ins] at hy
  rcases hy with rfl | hy
  · exact hx
  · exact h.1 y hy
theorem upTo_pw (n : Nat) : (upTo n).Pairwise (· < ·) := by
  unfold upTo
  rw [List.pairwise_map]
  exact (List.pairwise_lt_range).imp (fun h => by omega)
theorem mem_upTo {n : Nat} {y : Int} : y ∈ upTo n ↔ 0 ≤ y ∧ y < (n : Int) := by
  unfold upTo
  rw [List.mem_map]
  constructor
  · rintro ⟨i, hi, rfl⟩
    rw [List.mem_range] at hi
    omega
  · rintro ⟨h0, h1⟩
    exact ⟨y.toNat, by rw [List.mem_range]; omega, by omega⟩
theorem upTo_rise (n : Nat) : Rise (upTo n) n := rise_pw.2 ⟨fun y hy => mem_upTo.1 hy, upTo_pw n⟩
/-- As the document lists them. -/
theorem withs_upTo {V : List Int} {n : Nat} {x : Int} (h : Rise V n) (hx : 0 ≤ x ∧ x < (n : Int)) : (upTo n).filter (fun i => decide (i = x ∨ i ∈ V)) = withs V x := by
  rw [rise_pw] at h
  rw [withs_ins h.2]
  refine pw_ext ((upTo_pw n).filter _) (ins_pw h.2) (fun y => ?_)
  rw [List.mem_filter, mem_ins, mem_upTo]
  simp only [decide_eq_true_eq]
  constructor
  · exact fun q => q.2
  · intro q
    refine ⟨?_, q⟩
    rcases q with rfl | q
    · exact hx
    · exact h.1 y q
theorem wout_rise {V : List Int} {m x : Int} (h : Rise V m) : Rise (wout V x) m := by
  rw [rise_pw] at h ⊢
  exact ⟨fun y hy => h.1 y (List.mem_filter.1 hy).1, h.2.filter _⟩
theorem wout_ne {V : List Int} {m x : Int} (h : Rise V m) (hl : 1 < V.length) : wout V x ≠ [] := by
  intro e
  obtain ⟨a, ha⟩ : ∃ a, V[0]? = some a := ⟨_, List.getElem?_eq_getElem (by omega)⟩
  obtain ⟨b, hb⟩ : ∃ b, V[1]? = some b := ⟨_, List.getElem?_eq_getElem (by omega)⟩
  have hab := h.2 0 1 a b (by omega) ha hb
  have h1 : ∀ y ∈ V, y = x := fun y hy => by
    rcases Decidable.em (y = x) with q | q
    · exact q
    · have : y ∈ wout V x := List.mem_filter.2 ⟨hy, by simp [q]⟩
      rw [e] at this
      cases this
  have := h1 a (List.mem_iff_getElem?.2 ⟨0, ha⟩)
  have := h1 b (List.mem_iff_getElem?.2 ⟨1, hb⟩)
  omega
theorem rise_one {x m : Int} (h : 0 ≤ x ∧ x < m) : Rise [x] m := rise_pw.2 ⟨fun y hy => by rw [List.mem_singleton] at hy; exact hy ▸ h, by simp⟩
/-- What a view, a writer, a controller is between two calls. -/
structure Vw.ok (nb : Nat) (V : Vw) : Prop where
  e0 : 0 ≤ V.epoch
  ev : V.epoch ≤ V.version
  v1 : V.version ≤ 2147483647
  rise : Rise V.isr nb
  ne : V.isr ≠ []
structure Wt.ok (np : Nat) (W : Wt) : Prop where
  s0 : 0 ≤ W.session
  s1 : W.session ≤ 2147483647
  n0 : 0 ≤ W.num
  n1 : W.num ≤ 2147483647
  t0 : 1 ≤ W.state
  t1 : W.state ≤ 4
  o0 : 0 ≤ W.offset
  o1 : W.offset ≤ 2147483647
  x0 : 0 ≤ W.next
  x1 : W.next ≤ 2147483647
  rise : Rise W.parts np
  non : W.state = 1 → W.parts = []
structure Mt.ok (M : Mt) : Prop where
  nb : 1 ≤ M.nb ∧ M.nb ≤ 4
  np : 1 ≤ M.np ∧ M.np ≤ 4
  ni : 1 ≤ M.ni ∧ M.ni ≤ 4
  vw : ∀ p, p < M.np → (M.views p).ok M.nb
  wr : ∀ i, i < M.ni → (M.wrs i).ok M.np
theorem Vw.ok.len {nb : Nat} {V : Vw} (h : V.ok nb) : V.isr.length ≤ nb := rise_len h.rise
theorem Wt.ok.len {np : Nat} {W : Wt} (h : W.ok np) : W.parts.length ≤ np := rise_len h.rise
theorem Vw.ok.fence {nb : Nat} {V : Vw} {x : Int} (h : V.ok nb) (hx : V.minds x = true → V.version < 2147483647) : (V.fence x).ok nb := by
  unfold Vw.fence
  by_cases hm : V.minds x = true
  · rw [if_pos hm]
    have h1 := hx hm
    have h2 := h.e0
    have h3 := h.ev
    refine ⟨?_, ?_, ?_, ?_, ?_⟩
    · show 0 ≤ (if V.leader = x then V.epoch + 1 else V.epoch)
      split <;> omega
    · show (if V.leader = x then V.epoch + 1 else V.epoch) ≤ V.version + 1
      split <;> omega
    · show V.version + 1 ≤ 2147483647
      omega
    · show Rise (if 1 < V.isr.length then wout V.isr x else V.isr) nb
      split
      · exact wout_rise h.rise
      · exact h.rise
    · show (if 1 < V.isr.length then wout V.isr x else V.isr) ≠ []
      split
      · exact wout_ne h.rise (by assumption)
      · exact h.ne
  · rw [if_neg hm]
    exact h
theorem Vw.ok.elect {nb : Nat} {V : Vw} {x : Int} (h : V.ok nb) (hx : 0 ≤ x ∧ x < (nb : Int)) (hv : V.version ≠ 2147483647) : (V.elect x).ok nb := by
  have h2 := h.e0
  have h3 := h.ev
  have h4 := h.v1
  refine ⟨?_, ?_, ?_, ?_, ?_⟩
  · show 0 ≤ V.epoch + 1; omega
  · show V.epoch + 1 ≤ V.version + 1; omega
  · show V.version + 1 ≤ 2147483647; omega
  · show Rise (if x ∈ V.isr then V.isr else [x]) nb
    split
    · exact h.rise
    · exact rise_one hx
  · show (if x ∈ V.isr then V.isr else [x]) ≠ []
    split
    · exact h.ne
    · simp
theorem Vw.ok.alter {nb : Nat} {V : Vw} {l : List Int} (h : V.ok nb) (hl : Rise l nb) (hn : l ≠ []) (hv : V.version ≠ 2147483647) : (V.alter l).ok nb := by
  have h2 := h.e0
  have h3 := h.ev
  have h4 := h.v1
  exact ⟨h2, show V.epoch ≤ V.version + 1 by omega, show V.version + 1 ≤ 2147483647 by omega, hl, hn⟩
def Wt.add (W : Wt) (x : Int) : Wt := if W.state = 1 then { W with num := W.num + 1, state := 2, parts := withs W.parts x } else { W with parts := withs W.parts x }
theorem Wt.ok.begin {np : Nat} {W : Wt} (h : W.ok np) (hs : W.session ≠ 2147483647) : W.begin.ok np := by
  have h1 := h.s0
  have h2 := h.s1
  have h3 := h.t0
  have h4 := h.t1
  unfold Wt.begin
  split
  · exact ⟨show 0 ≤ W.session + 1 by omega, show W.session + 1 ≤ 2147483647 by omega, h.n0, h.n1, show (1 : Int) ≤ 4 by omega, show (4 : Int) ≤ 4 by omega, h.o0, h.o1, h.x0, h.x1, h.rise, fun e => absurd (show (4 : Int) = 1 from e) (by omega)⟩
  · exact ⟨show 0 ≤ W.session + 1 by omega, show W.session + 1 ≤ 2147483647 by omega, h.n0, h.n1, h.t0, h.t1, h.o0, h.o1, h.x0, h.x1, h.rise, h.non⟩
theorem Wt.ok.add {np : Nat} {W : Wt} {x : Int} (h : W.ok np) (hx : 0 ≤ x ∧ x < (np : Int)) (hs : W.state = 1 → W.num ≠ 2147483647) : (W.add x).ok np := by
  have h1 := h.n0
  have h2 := h.n1
  unfold Wt.add
  split
  · have := hs (by assumption)
    exact ⟨h.s0, h.s1, show 0 ≤ W.num + 1 by omega, show W.num + 1 ≤ 2147483647 by omega, show (1 : Int) ≤ 2 by omega, show (2 : Int) ≤ 4 by omega, h.o0, h.o1, h.x0, h.x1, withs_rise h.rise hx, fun e => absurd (show (2 : Int) = 1 from e) (by omega)⟩
  · exact ⟨h.s0, h.s1, h.n0, h.n1, h.t0, h.t1, h.o0, h.o1, h.x0, h.x1, withs_rise h.rise hx, fun e => absurd e (by assumption)⟩
theorem Wt.ok.end_ {np : Nat} {W : Wt} {commit : Bool} {off : Int} (h : W.ok np) (ho : 0 ≤ off ∧ off ≤ 2147483647) : (W.end_ commit off).ok np := by
  unfold Wt.end_
  split
  · split
    · exact ⟨h.s0, h.s1, h.n0, h.n1, show (1 : Int) ≤ 3 by omega, show (3 : Int) ≤ 4 by omega, h.o0, h.o1, ho.1, ho.2, h.rise, fun e => absurd (show (3 : Int) = 1 from e) (by omega)⟩
    · exact ⟨h.s0, h.s1, h.n0, h.n1, show (1 : Int) ≤ 4 by omega, show (4 : Int) ≤ 4 by omega, h.o0, h.o1, h.x0, h.x1, h.rise, fun e => absurd (show (4 : Int) = 1 from e) (by omega)⟩
  · split
    · exact ⟨h.s0, h.s1, h.n0, h.n1, h.t0, h.t1, ho.1, ho.2, h.x0, h.x1, h.rise, h.non⟩
    · exact h
theorem Wt.ok.mark {np : Nat} {W : Wt} {x : Int} (h : W.ok np) (hw : W.ending = true) : (W.mark x).ok np := by
  have hst : W.state = 3 ∨ W.state = 4 := by simpa [Wt.ending] using hw
  unfold Wt.mark
  split
  · refine ⟨h.s0, h.s1, h.n0, h.n1, show (1 : Int) ≤ 1 by omega, show (1 : Int) ≤ 4 by omega, ?_, ?_, show (0 : Int) ≤ 0 by omega, show (0 : Int) ≤ 2147483647 by omega, Rise.nil _, fun _ => rfl⟩
    · show 0 ≤ (if W.state = 3 then W.next else W.offset)
      split
      · exact h.x0
      · exact h.o0
    · show (if W.state = 3 then W.next else W.offset) ≤ 2147483647
      split
      · exact h.x1
      · exact h.o1
  · exact ⟨h.s0, h.s1, h.n0, h.n1, h.t0, h.t1, h.o0, h.o1, h.x0, h.x1, wout_rise h.rise, fun e => absurd (show W.state = 1 from e) (by omega)⟩
/-- A view, a writer of its own turns. -/
theorem Mt.ok.view {M : Mt} {p : Nat} {V : Vw} (h : M.ok) (hV : V.ok M.nb) : ({ M with views := setAt M.views p V } : Mt).ok :=
  ⟨h.nb, h.np, h.ni, fun q hq => by
    show (setAt M.views p V q).ok M.nb
    unfold setAt
    split
    · exact hV
    · exact h.vw q hq, h.wr⟩
theorem Mt.ok.writer {M : Mt} {i : Nat} {W : Wt} (h : M.ok) (hW : W.ok M.np) : ({ M with wrs := setAt M.wrs i W } : Mt).ok :=
  ⟨h.nb, h.np, h.ni, h.vw, fun q hq => by
    show (setAt M.wrs i W q).ok M.np
    unfold setAt
    split
    · exact hW
    · exact h.wr q hq⟩
theorem Mt.ok.live {M : Mt} {b : Nat} {x : Bool} (h : M.ok) : ({ M with lives := setAt M.lives b x } : Mt).ok := ⟨h.nb, h.np, h.ni, h.vw, h.wr⟩
/-- Would some view change, and can't? -/
def Mt.ends (M : Mt) (n : Nat) (x : Int) : Bool := (List.range n).any fun p => (M.views p).minds x && decide ((M.views p).version = 2147483647)
def Mt.fenceE (M : Mt) (x : Int) : Int := if ¬ (0 ≤ x ∧ x < (M.nb : Int)) then 2 else if M.ends M.np x = true then 204 else 0
def Mt.fenceTo (M : Mt) (n : Nat) (x : Int) : Mt := { M with lives := setAt M.lives x.toNat false, views := fun p => if p < n then (M.views p).fence x else M.views p }
def Mt.electE (M : Mt) (p b : Int) (un : Bool) : Int :=
  if ¬ ((0 ≤ p ∧ p < (M.np : Int)) ∧ 0 ≤ b ∧ b < (M.nb : Int)) then 2 else if M.lives b.toNat = false then 201 else if un = false ∧ b ∉ (M.views p.toNat).isr then 202 else if (M.views p.toNat).version = 2147483647 then 204 else 0
def Mt.alterE (M : Mt) (p l e v : Int) (I : List Int) : Int :=
  if ¬ ((0 ≤ p ∧ p < (M.np : Int)) ∧ Rise I M.nb ∧ l ∈ I) then 2 else if ¬ ((M.views p.toNat).leader = l ∧ (M.views p.toNat).epoch = e ∧ (M.views p.toNat).version = v) then 200 else if (I.any fun x => !M.lives x.toNat) = true then 201 else if (M.views p.toNat).version = 2147483647 then 204 else 0
def Mt.addE (M : Mt) (i s p : Int) : Int :=
  if ¬ ((0 ≤ i ∧ i < (M.ni : Int)) ∧ 0 ≤ p ∧ p < (M.np : Int)) then 2 else if (M.wrs i.toNat).session ≠ s then 200 else if (M.wrs i.toNat).ending = true then 203 else if (M.wrs i.toNat).state = 1 ∧ (M.wrs i.toNat).num = 2147483647 then 204 else 0
def Mt.endE (M : Mt) (i s off : Int) : Int :=
  if ¬ ((0 ≤ i ∧ i < (M.ni : Int)) ∧ off ≤ 2147483647 ∧ (M.wrs i.toNat).offset ≤ off) then 2 else if (M.wrs i.toNat).session ≠ s then 200 else if (M.wrs i.toNat).ending = true then 203 else 0
def Mt.markedE (M : Mt) (i n p : Int) : Int :=
  if ¬ ((0 ≤ i ∧ i < (M.ni : Int)) ∧ 0 ≤ p ∧ p < (M.np : Int)) then 2 else if (M.wrs i.toNat).wants n p = false then 200 else 0
def Mt.setV (M : Mt) (p : Nat) (V : Vw) : Mt := { M with views := setAt M.views p V }
def Mt.setW (M : Mt) (i : Nat) (W : Wt) : Mt := { M with wrs := setAt M.wrs i W }
end Go.Proofs.YtpmdicbhliclcaaGreat
