/-
  waystationlaw05.act: a call by both, and both tell the same. Conditions: bounds.
-/
import Derived.Test.YticabfmjdjcfnaaActC
import Derived.Test.YticabfmjdjcfnaaActD
import Derived.Test.YticabfmjdjcfnaaActE
import Derived.Test.YticabfmjdjcfnaaPl
namespace Go.Proofs.Yticabfmjdjcfnaa
open Go.RowKit
/-- A net behind a call that picks. -/
def St.onPick (s : St) (x : Ac) (p : Int × Msg) : St := if x.what == 2 then s.putA p.2 else if x.what == 3 || x.what == 1 then s.cut (pick x.pick s.l.length) else s
/-- A net behind a call. -/
def St.next (s : St) (x : Ac) : St := if x.what == 0 then s.putA x.m else (s.l[pick x.pick s.l.length]?).elim s (s.onPick x)
theorem came_next (s : St) (x : Ac) : (s.next x).came ≤ s.came + 1 := by
  unfold St.next
  split
  · exact came_putA s x.m
  · cases s.l[pick x.pick s.l.length]? with
    | none => simp
    | some p =>
      show (s.onPick x p).came ≤ _
      unfold St.onPick
      split
      · exact came_putA s p.2
      · split
        · exact Nat.le_succ _
        · exact Nat.le_succ _
theorem act_any {w : World} {S X : Nat → Prop} {g : Nat} {s : St} {cs ccs : Array Value} {x : Ac} (hN : Nt w S g s) (hR : RAt w (fun b => S b ∨ X b) s cs) (hX : ∀ b, X b → b < w.heap.size) (hx : AcAt w S x ccs) (hbl : x.m.b.length ≤ 1000000) (hcame : s.came ≤ 1000000000) :
    Calls Try.prog 16 #[.pointer (some ⟨g, 0, none⟩), .agg cs, .agg ccs] w (ActP w S X g (s.next x)) := by
  unfold St.next
  cases h0 : (x.what == 0) with
  | true =>
    rw [if_pos rfl]
    exact act_put hN hR hX hx h0 hbl hcame
  | false =>
    rw [if_neg (by simp)]
    cases hp : s.l[pick x.pick s.l.length]? with
    | none =>
      have hl0 : s.l.length = 0 := by
        rcases Nat.eq_zero_or_pos s.l.length with h | h
        · exact h
        · have := pick_lt x.pick h
          rw [List.getElem?_eq_getElem this] at hp
          cases hp
      show Calls _ _ _ _ (ActP w S X g s)
      cases h2 : (x.what == 2) with
      | true => exact act_dup0 hN hR hX hx h0 h2 hl0
      | false =>
        cases h3 : (x.what == 3) with
        | true => exact act_drop0 hN hR hX hx h0 h2 h3 hl0
        | false =>
          cases h1 : (x.what == 1) with
          | true => exact act_take0 hN hR hX hx h0 h2 h3 h1 hl0
          | false => exact act_peek0 hN hR hX hx h0 h2 h3 h1 hl0
    | some p =>
      obtain ⟨num, m⟩ := p
      show Calls _ _ _ _ (ActP w S X g (s.onPick x (num, m)))
      unfold St.onPick
      cases h2 : (x.what == 2) with
      | true =>
        rw [if_pos rfl]
        exact act_dup1 hN hR hX hx h0 h2 hcame hp
      | false =>
        rw [if_neg (by simp)]
        cases h3 : (x.what == 3) with
        | true =>
          rw [Bool.true_or, if_pos rfl]
          exact act_drop1 hN hR hX hx h0 h2 h3 hp
        | false =>
          rw [Bool.false_or]
          cases h1 : (x.what == 1) with
          | true =>
            rw [if_pos rfl]
            exact act_take1 hN hR hX hx h0 h2 h3 h1 hp
          | false =>
            rw [if_neg (by simp)]
            exact act_peek1 hN hR hX hx h0 h2 h3 h1 hp
end Go.Proofs.Yticabfmjdjcfnaa
