/-
  Logs that were copied from leaders, each of which has an epoch of its own: what is kept is what both begin with alike, and coming nearer takes an epoch each time. Nothing is assumed.
-/
import Derived.Test.YtabbkghnijebpaaSameS
namespace Go.Proofs.Ytabbkghnijebpaa
/-- Two logs of which entries of one epoch are copies of one log. -/
def Kin (fa : Nat → Int × Int) (na : Nat) (fb : Nat → Int × Int) (nb : Nat) : Prop :=
  ∀ x y, x < na → y < nb → (fa x).1 = (fb y).1 → ∀ u, u ≤ x → u ≤ y → fa u = fb u
/-- s entries stand alike at the beginning, and no more. -/
def Alike (fa : Nat → Int × Int) (na : Nat) (fb : Nat → Int × Int) (nb s : Nat) : Prop :=
  s ≤ na ∧ s ≤ nb ∧ (∀ u, u < s → fa u = fb u) ∧ (s < na → s < nb → fa s ≠ fb s)
section
variable {fa fb : Nat → Int × Int} {na nb s : Nat}
theorem Alike.max (h : Alike fa na fb nb s) {n : Nat} (hna : n ≤ na) (hnb : n ≤ nb) (hu : ∀ u, u < n → fa u = fb u) : n ≤ s := by
  rcases Nat.lt_or_ge s n with g | g
  · exact absurd (hu s g) (h.2.2.2 (by omega) (by omega))
  · exact g
theorem starts_less {E : Nat → Int} {m n : Nat} (hmn : m < n) (hlt : ∀ u, u < m → E u < E (n - 1)) : (starts E m).length < (starts E n).length := by
  obtain ⟨r, hr⟩ := starts_prefix (E := E) (m := m) (n := n) (by omega)
  rcases Nat.lt_or_ge (starts E m).length (starts E n).length with g | g
  · exact g
  exfalso
  have none : ∀ x, m ≤ x → x < n → ¬ (x = 0 ∨ E x ≠ E (x - 1)) := fun x h1 h2 hs => by
    have h3 := starts_at (E := E) h2 hs
    have h4 := (List.getElem?_eq_some_iff.1 h3).1
    obtain ⟨r', hr'⟩ := starts_prefix (E := E) (m := m) (n := x) h1
    rw [hr', List.length_append] at h4
    omega
  have hm0 : 0 < m := by
    rcases Nat.eq_zero_or_pos m with h | h
    · exact absurd (.inl h) (none m (Nat.le_refl _) hmn)
    · exact h
  have same : ∀ k, m + k ≤ n → E (m + k - 1) = E (m - 1) := by
    intro k
    induction k with
    | zero => intro _; rfl
    | succ k ih =>
      intro hk
      have h1 := none (m + k) (by omega) (by omega)
      have h2 : E (m + k) = E (m + k - 1) := by
        rcases Decidable.em (E (m + k) = E (m + k - 1)) with g | g
        · exact g
        · exact absurd (.inr g) h1
      have e : m + (k + 1) - 1 = m + k := by omega
      rw [e, h2]
      exact ih (by omega)
  have h1 := same (n - m) (by omega)
  have e : m + (n - m) - 1 = n - 1 := by omega
  rw [e] at h1
  have h2 := hlt (m - 1) (by omega)
  omega
theorem starts_pos {E : Nat → Int} {n : Nat} (h : 0 < n) : 0 < (starts E n).length := by
  have := starts_at (E := E) (i := 0) (n := n) h (.inl rfl)
  have := (List.getElem?_eq_some_iff.1 this).1
  omega
theorem meet_alike (hk : Kin fa na fb nb) (ga : Good (fun i => (fa i).1) na) (gb : Good (fun i => (fb i).1) nb) (hs : Alike fa na fb nb s) :
    ∀ {n t : Nat}, n ≤ nb → s ≤ n → (meet (fun i => (fa i).1) na (fun i => (fb i).1) n t).1 = s ∧ (meet (fun i => (fa i).1) na (fun i => (fb i).1) n t).2 ≤ t + (starts (fun i => (fb i).1) n).length := by
  intro n
  induction n using Nat.strongRecOn with
  | _ n ih =>
    intro t hn hsn
    by_cases hF : Fits (fun i => (fa i).1) na n (lastTo (fun i => (fb i).1) n)
    · rw [meet_fits hF]
      refine ⟨?_, by simp⟩
      show n = s
      rcases Nat.eq_zero_or_pos n with h0 | h0
      · omega
      · obtain ⟨h1, h2⟩ := hF
        unfold lastTo at h2
        rw [if_neg (by omega), if_neg (by omega)] at h2
        have := hs.max h1 hn (fun u hu => hk (n - 1) (n - 1) (by omega) (by omega) h2 u (by omega) (by omega))
        omega
    · have h0 : 0 < n := by
        rcases Nat.eq_zero_or_pos n with h | h
        · subst h; exact absurd fits_zero hF
        · exact h
      obtain ⟨hs1, hs2, hs3, hs4⟩ := hs
      have e1 : lastTo (fun i => (fb i).1) n = (fb (n - 1)).1 := by unfold lastTo; rw [if_neg (by omega)]
      have hsn' : s < n := by
        rcases Nat.lt_or_ge s n with h | h
        · exact h
        · exfalso
          apply hF
          refine ⟨by omega, ?_⟩
          rw [e1]
          unfold lastTo
          rw [if_neg (by omega)]
          show (fa (n - 1)).1 = (fb (n - 1)).1
          rw [hs3 (n - 1) (by omega)]
      obtain ⟨at_, hat⟩ : ∃ q, q = nab (fun i => (fa i).1) (fb (n - 1)).1 na := ⟨_, rfl⟩
      have hatn : at_ ≤ na := by rw [hat]; exact nab_le _ _ _
      have hsat : s ≤ at_ := by
        rcases Nat.lt_or_ge at_ s with h | h
        · have h1 : (fb (n - 1)).1 < (fa at_).1 := nab_above (E := fun i => (fa i).1) (e := (fb (n - 1)).1) (n := na) (by omega) (by omega)
          have h2 := hs3 at_ h
          have h3 : (fb at_).1 ≤ (fb (n - 1)).1 := gb.le (i := at_) (j := n - 1) (by omega) (by omega)
          rw [h2] at h1
          omega
        · exact h
      have hof : lastTo (fun i => (fa i).1) at_ ≤ (fb (n - 1)).1 := by
        unfold lastTo
        split
        · have := (gb (n - 1) (by omega)).1
          show (0 : Int) ≤ (fb (n - 1)).1
          simp at this
          omega
        · have h1 := nab_last (E := fun i => (fa i).1) (e := (fb (n - 1)).1) (n := na) (by omega)
          rw [← hat] at h1
          exact h1
      have hsof : s ≤ nab (fun i => (fb i).1) (lastTo (fun i => (fa i).1) at_) n := by
        rcases Nat.lt_or_ge (nab (fun i => (fb i).1) (lastTo (fun i => (fa i).1) at_) n) s with h | h
        · obtain ⟨u, hu⟩ : ∃ u, u = nab (fun i => (fb i).1) (lastTo (fun i => (fa i).1) at_) n := ⟨_, rfl⟩
          have h1 : lastTo (fun i => (fa i).1) at_ < (fb u).1 := nab_above (E := fun i => (fb i).1) (e := lastTo (fun i => (fa i).1) at_) (n := n) (by omega) (by omega)
          have h2 := hs3 u (by omega)
          unfold lastTo at h1
          rw [if_neg (by omega)] at h1
          have h3 : (fa u).1 ≤ (fa (at_ - 1)).1 := ga.le (i := u) (j := at_ - 1) (by omega) (by omega)
          rw [h2] at h3
          simp at h1
          omega
        · exact h
      have hnr : nearer (fun i => (fa i).1) na (fun i => (fb i).1) n = min (min (nab (fun i => (fb i).1) (lastTo (fun i => (fa i).1) at_) n) at_) (n - 1) := by
        unfold nearer
        rw [e1, ← hat]
      rw [meet_not hF]
      obtain ⟨n', hn'⟩ : ∃ n', n' = nearer (fun i => (fa i).1) na (fun i => (fb i).1) n := ⟨_, rfl⟩
      rw [← hn']
      have hlt : n' < n := by rw [hn']; exact nearer_lt h0
      have hsn2 : s ≤ n' := by rw [hn', hnr]; omega
      obtain ⟨i1, i2⟩ := ih n' hlt (t := t + 1) (by omega) hsn2
      refine ⟨i1, ?_⟩
      by_cases hlo : lastTo (fun i => (fa i).1) at_ < (fb (n - 1)).1
      · have := starts_less (E := fun i => (fb i).1) hlt (fun u hu => by
          have h1 : (fb u).1 ≤ lastTo (fun i => (fa i).1) at_ := nab_below (E := fun i => (fb i).1) (n := n) (gb.less hn) (by omega)
          show (fb u).1 < (fb (n - 1)).1
          omega)
        omega
      · have heq : lastTo (fun i => (fa i).1) at_ = (fb (n - 1)).1 := by omega
        have hat0 : 0 < at_ := by
          rcases Nat.eq_zero_or_pos at_ with h | h
          · rw [h] at heq
            have := (gb (n - 1) (by omega)).1
            simp [lastTo] at heq this
            omega
          · exact h
        unfold lastTo at heq
        rw [if_neg (by omega)] at heq
        have hkk := hk (at_ - 1) (n - 1) (by omega) (by omega) heq
        have hatlt : at_ < n := by
          rcases Nat.lt_or_ge at_ n with h | h
          · exact h
          · exfalso
            apply hF
            refine ⟨by omega, ?_⟩
            rw [e1]
            unfold lastTo
            rw [if_neg (by omega)]
            show (fa (n - 1)).1 = (fb (n - 1)).1
            rw [hkk (n - 1) (by omega) (Nat.le_refl _)]
        have h1 : at_ ≤ s := Alike.max ⟨hs1, hs2, hs3, hs4⟩ hatn (by omega) (fun u hu => hkk u (by omega) (by omega))
        have hn's : n' = s := by omega
        have hfit : Fits (fun i => (fa i).1) na n' (lastTo (fun i => (fb i).1) n') := by
          refine ⟨by omega, ?_⟩
          unfold lastTo
          split
          · rfl
          · show (fa (n' - 1)).1 = (fb (n' - 1)).1
            rw [hs3 (n' - 1) (by omega)]
        rw [meet_fits hfit]
        have := starts_pos (E := fun i => (fb i).1) h0
        show t + 1 ≤ t + _
        omega
end
/-- A log: how many entries, and which. -/
structure Lo where
  n : Nat
  f : Nat → Int × Int
/-- Logs that were copied from leaders: the one of place i leads in the epoch i + 1. -/
def Hist (l : List Lo) : Prop :=
  ∀ (i : Nat) (g : Lo), l[i]? = some g → g.n ≤ 5 * (i + 1) ∧ (∀ x, x < g.n → ∃ (j : Nat) (T : Lo), (g.f x).1 = (j : Int) + 1 ∧ j ≤ i ∧ l[j]? = some T ∧ x < T.n ∧ ∀ y, y ≤ x → g.f y = T.f y) ∧ ∀ x, 0 < x → x < g.n → (g.f (x - 1)).1 ≤ (g.f x).1
/-- The log of a leader that takes over c entries and appends k. -/
def lead (i : Nat) (F : Nat → Int × Int) (c k : Nat) : Lo := ⟨c + k, fun x => if x < c then F x else ((i : Int) + 1, 100 * (i : Int) + ((x - c : Nat) : Int))⟩
theorem Hist.more {l : List Lo} (h : Hist l) {c k p : Nat} {G : Lo} (hp : c = 0 ∨ (l[p]? = some G ∧ c ≤ G.n)) (hk : k ≤ 5) : Hist (l ++ [lead l.length G.f c k]) := by
  intro i g hg
  rcases Nat.lt_or_ge i l.length with hi | hi
  · rw [List.getElem?_append_left hi] at hg
    obtain ⟨h1, h2, h3⟩ := h i g hg
    refine ⟨h1, fun x hx => ?_, h3⟩
    obtain ⟨j, T, q1, q2, q3, q4⟩ := h2 x hx
    exact ⟨j, T, q1, q2, by rw [List.getElem?_append_left (by omega)]; exact q3, q4⟩
  · rw [List.getElem?_append_right hi] at hg
    have hi0 : i - l.length = 0 := by
      rcases hq : i - l.length with _ | q
      · rfl
      · rw [hq] at hg; simp at hg
    rw [hi0] at hg
    simp at hg
    subst hg
    obtain rfl : i = l.length := by omega
    have old : ∀ x, x < c → (lead l.length G.f c k).f x = G.f x := fun x hx => by unfold lead; simp [hx]
    have new : ∀ x, ¬ x < c → (lead l.length G.f c k).f x = ((l.length : Int) + 1, 100 * (l.length : Int) + ((x - c : Nat) : Int)) := fun x hx => by unfold lead; simp [hx]
    have hG : 0 < c → l[p]? = some G ∧ c ≤ G.n ∧ p < l.length := fun h0 => by
      rcases hp with hp | hp
      · omega
      · exact ⟨hp.1, hp.2, (List.getElem?_eq_some_iff.1 hp.1).1⟩
    refine ⟨?_, fun x hx => ?_, fun x h0 hx => ?_⟩
    · show c + k ≤ 5 * (l.length + 1)
      rcases Nat.eq_zero_or_pos c with hc | hc
      · omega
      · obtain ⟨g1, g2, g3⟩ := hG hc
        have := (h p G g1).1
        omega
    · by_cases hxc : x < c
      · obtain ⟨g1, g2, g3⟩ := hG (by omega)
        obtain ⟨j, T, q1, q2, q3, q4, q5⟩ := (h p G g1).2.1 x (by omega)
        refine ⟨j, T, by rw [old x hxc]; exact q1, by omega, by rw [List.getElem?_append_left (by omega)]; exact q3, q4, fun y hy => ?_⟩
        rw [old y (by omega)]
        exact q5 y hy
      · refine ⟨l.length, lead l.length G.f c k, by rw [new x hxc], Nat.le_refl _, by simp, hx, fun y _ => rfl⟩
    · by_cases hxc : x < c
      · obtain ⟨g1, g2, g3⟩ := hG (by omega)
        rw [old x hxc, old (x - 1) (by omega)]
        exact (h p G g1).2.2 x h0 (by omega)
      · rw [new x hxc]
        by_cases hx1 : x - 1 < c
        · obtain ⟨g1, g2, g3⟩ := hG (by omega)
          obtain ⟨j, T, q1, q2, _⟩ := (h p G g1).2.1 (x - 1) (by omega)
          rw [old (x - 1) hx1, q1]
          show (j : Int) + 1 ≤ (l.length : Int) + 1
          omega
        · rw [new (x - 1) hx1]
          exact Int.le_refl _
theorem Hist.kin {l : List Lo} (h : Hist l) {i j : Nat} {a b : Lo} (ha : l[i]? = some a) (hb : l[j]? = some b) {na nb : Nat} (hna : na ≤ a.n) (hnb : nb ≤ b.n) : Kin a.f na b.f nb := by
  intro x y hx hy e u hu1 hu2
  obtain ⟨p, T, q1, _, q3, _, q5⟩ := (h i a ha).2.1 x (by omega)
  obtain ⟨p', T', q1', _, q3', _, q5'⟩ := (h j b hb).2.1 y (by omega)
  have : p = p' := by omega
  subst this
  rw [q3] at q3'
  injection q3' with q3'
  subst q3'
  rw [q5 u hu1, q5' u hu2]
theorem Hist.may {l : List Lo} (h : Hist l) (hl : l.length ≤ 8) {i : Nat} {a : Lo} (ha : l[i]? = some a) {na : Nat} (hna : na ≤ a.n) : May (fun x => (a.f x).1) na := by
  have hi := (List.getElem?_eq_some_iff.1 ha).1
  obtain ⟨h1, h2, h3⟩ := h i a ha
  refine ⟨by omega, fun x hx => ?_⟩
  obtain ⟨j, T, q1, q2, _⟩ := h2 x (by omega)
  refine ⟨?_, ?_, fun h0 => h3 x h0 (by omega)⟩
  · show 1 ≤ (a.f x).1
    omega
  · show (a.f x).1 ≤ 2147483647
    omega
end Go.Proofs.Ytabbkghnijebpaa
