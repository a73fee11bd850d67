/-
  A row of logs in memory. Nothing is assumed but bounds.
-/
import Derived.Test.YtabbkghnijebpaaOpen3
namespace Go.Proofs.Ytabbkghnijebpaa
open Go.RowKit
/-- The value v is a row of these logs; none of them lies in the row's block. -/
def LogsAt (w : World) (v : Value) (lo : List Lo) : Prop :=
  ∃ css, OwnK w 25 1 v css ∧ css.length = lo.length ∧ ∀ (i : Nat) (L : Lo) (cs : Array Value), lo[i]? = some L → css[i]? = some cs → ∃ A c, cs = #[.slice A L.n c] ∧ Lg w (fun b => v.ownBlock = some b) A L.n L.f ∧ L.n ≤ c ∧ c ≤ maxLen
section
variable {w w' : World} {v v' : Value} {lo : List Lo}
theorem LogsAt.nil (w : World) : LogsAt w (.slice none 0 0) [] := ⟨[], OwnK.nil w 25 1, rfl, fun i L cs e => by simp at e⟩
theorem LogsAt.below (h : LogsAt w v lo) (hb : Below w.heap.size w w') : LogsAt w' v lo := by
  obtain ⟨css, h1, h2, h3⟩ := h
  refine ⟨css, h1.below hb, h2, fun i L cs e1 e2 => ?_⟩
  obtain ⟨A, c, q1, q2, q3⟩ := h3 i L cs e1 e2
  exact ⟨A, c, q1, q2.below hb, q3⟩
theorem LogsAt.form (h : LogsAt w v lo) : ∃ A c, v = .slice A lo.length c ∧ lo.length ≤ c ∧ c ≤ maxLen := by
  obtain ⟨css, h1, h2, h3⟩ := h
  obtain ⟨A, q, c, e, hq, h4, h5⟩ := h1.form
  rw [h2] at hq
  subst hq
  exact ⟨A, c, e, h4, h5⟩
theorem LogsAt.at_ {V : Option Addr} {n c0 : Nat} (h : LogsAt w (.slice V n c0) lo) {i : Nat} {L : Lo} (hi : lo[i]? = some L) : ∃ ad A c, V = some ad ∧ ad.block < w.heap.size ∧ w.cell? (ad.add i) = some (.slice A L.n c) ∧ Lg w No A L.n L.f ∧ L.n ≤ c ∧ c ≤ maxLen := by
  obtain ⟨css, h1, h2, h3⟩ := h
  have hlt := (List.getElem?_eq_some_iff.1 hi).1
  have hcs := List.getElem?_eq_getElem (show i < css.length by omega)
  obtain ⟨A, c, q1, q2, q3, q4⟩ := h3 i L _ hi hcs
  obtain ⟨ad, e1, e2, _, e4, _⟩ := (h1.rd (X := No) (fun _ _ h => h)).load hcs
  rw [q1, Nat.mul_one] at e4
  exact ⟨ad, A, c, e1, e2, e4 _ rfl, q2.wide (fun _ _ h => h.elim), q3, q4⟩
theorem logs_snoc {A : Option Addr} {c : Nat} {L : Lo} (hl : Lg w (fun b => v.ownBlock = some b) A L.n L.f) (hc : L.n ≤ c) (hm : c ≤ maxLen) {css : List (Array Value)} (hcss : css.length = lo.length)
    (h3 : ∀ (i : Nat) (L : Lo) (cs : Array Value), lo[i]? = some L → css[i]? = some cs → ∃ A c, cs = #[.slice A L.n c] ∧ Lg w (fun b => v.ownBlock = some b) A L.n L.f ∧ L.n ≤ c ∧ c ≤ maxLen)
    (ho : OwnK w' 25 1 v' (css ++ [#[.slice A L.n c]])) (hg : Grew v w v' w') : LogsAt w' v' (lo ++ [L]) := by
  have move : ∀ {A : Option Addr} {n : Nat} {f : Nat → Int × Int}, Lg w (fun b => v.ownBlock = some b) A n f → Lg w' (fun b => v'.ownBlock = some b) A n f := fun {A n f} q => by
    have q1 : Lg w (fun b => v.ownBlock = some b ∨ w.heap.size ≤ b) A n f := q.wide (fun b hb e => e.elim id (fun e => absurd e (by omega)))
    have q2 := q1.keep (hg.turn (S := fun b => v.ownBlock = some b) (fun g e => e)) (fun b _ e => .inl e)
    exact q2.wide (fun b _ e => hg.2 b e)
  refine ⟨_, ho, by simp [hcss], fun i M cs e1 e2 => ?_⟩
  rcases Nat.lt_or_ge i lo.length with hi | hi
  · rw [List.getElem?_append_left hi] at e1
    rw [List.getElem?_append_left (by omega)] at e2
    obtain ⟨A', c', q1, q2, q3⟩ := h3 i M cs e1 e2
    exact ⟨A', c', q1, move q2, q3⟩
  · rw [List.getElem?_append_right hi] at e1
    rw [List.getElem?_append_right (by omega), hcss] at e2
    rcases hd : i - lo.length with _ | q
    · rw [hd] at e1 e2
      simp at e1 e2
      subst e1 e2
      exact ⟨A, c, rfl, move hl, hc, hm⟩
    · rw [hd] at e1; simp at e1
end
theorem lead_old {i c k x : Nat} {F : Nat → Int × Int} (h : x < c) : (lead i F c k).f x = F x := by unfold lead; simp [h]
theorem lead_new {i c k x : Nat} {F : Nat → Int × Int} : (lead i F c k).f (c + x) = ((i : Int) + 1, 100 * (i : Int) + (x : Int)) := by
  have h : ¬ c + x < c := by omega
  unfold lead
  simp [h]
theorem OwnL.congr {w : World} {v : Value} {n : Nat} {f g : Nat → Int × Int} (h : OwnL w v n f) (hg : ∀ i, i < n → f i = g i) : OwnL w v n g := by
  unfold OwnL
  have : ((List.range n).map fun i => entA (g i)) = (List.range n).map fun i => entA (f i) := by
    apply List.map_congr_left
    intro i hi
    rw [hg i (List.mem_range.1 hi)]
  rw [this]
  exact h
theorem tmod_nat (x n : Nat) : Int.tmod (x : Int) (n : Int) = ((x % n : Nat) : Int) := by
  rw [Int.tmod_eq_emod_of_nonneg (by omega)]
  exact (Int.natCast_emod x n).symm
/-- The three bytes of a place, in the form in which a load asks for them. -/
theorem Rows3.at_ {w : World} {A : Option Addr} {n : Nat} {z : Nat → Nat × Nat × Nat} (h : Rows3 w A n z) {i : Nat} (hi : i < n) : (z i).1 < 256 ∧ (z i).2.1 < 256 ∧ (z i).2.2 < 256 ∧ ∃ ad, A = some ad ∧ ad.block < w.heap.size ∧ w.cell? (ad.add (i * 3)) = some (.int .u8 ((z i).1 : Int)) ∧ w.cell? ⟨(ad.add (i * 3)).block, (ad.add (i * 3)).off + 1, none⟩ = some (.int .u8 ((z i).2.1 : Int)) ∧ w.cell? ⟨(ad.add (i * 3)).block, (ad.add (i * 3)).off + 2, none⟩ = some (.int .u8 ((z i).2.2 : Int)) := by
  obtain ⟨h1, h2, h3, ad, e, hl, c0, c1, c2⟩ := h i hi
  exact ⟨h1, h2, h3, ad, e, hl, c0, by rw [add_off ad _ (by omega)]; exact c1, by rw [add_off ad _ (by omega)]; exact c2⟩
end Go.Proofs.Ytabbkghnijebpaa
