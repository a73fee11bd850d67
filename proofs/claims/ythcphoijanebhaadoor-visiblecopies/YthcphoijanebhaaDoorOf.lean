/-
  A table of no entries, a table of any entries, or why there is none. Conditions: at most 1000000 entries.
-/
import Derived.Test.YthcphoijanebhaaDoorAppend
import Derived.Laws.ResultCell
namespace Go.Proofs.YthcphoijanebhaaDoor
open Go.RowKit Go.Shelf Go.Maps
attribute [local go_sem] Oper.semAt_some
set_option linter.unusedVariables false
/-- What was made meanwhile. -/
def NewB (w w' : World) : Nat → Prop := fun b => w.heap.size ≤ b ∧ b < w'.heap.size
section
variable {w w' : World} {g : Nat} {l : List Ent} {S : Nat → Prop} {e : Ent}
theorem tb_new {v : Value} {mp : Nat → Nat} (hX : TX w' g v (fun i => wr (i : Int) l) mp) (hg : w.heap.size ≤ g ∧ ∀ i, i < 8 → w.heap.size ≤ mp i) (hb : Below w.heap.size w w') (ho : OwnK w 45 6 v (cellsOf l)) (hr : AllR l) (hl : l.length ≤ 4096) :
    Tb w' (fun b => NewB w w' b ∨ v.ownBlock = some b) g l := by
  have hlow : ∀ b, own g mp b → NewB w w' b := fun b h => ⟨by
    rcases h with rfl | ⟨i, hi, rfl⟩
    · exact hg.1
    · exact hg.2 i hi, hX.lt h⟩
  exact ⟨⟨v, mp, hX, ho.below hb, fun b h e => by have := ho.lt e; have := (hlow b h).1; omega, fun b h => h.elim (fun h => .inl (hlow b h)) .inr⟩, hr, hl⟩
theorem new_any (w : World) : Calls Tryd.prog 60 #[] w fun r w' => ∃ g, r = .returned (.pointer (some ⟨g, 0, none⟩)) ∧ Tb w' (NewB w w') g [] ∧ Below w.heap.size w w' := by
  have hcall := tableOf_any (w := w) (X := No) (A := none) (n := 0) (c := 0) (l := []) Rd.none_ (fun x hx => by cases hx) (by omega)
  go_enter Tryd.func60, Tryd.ntmps60
  go_wp2_with fail
  refine hcall.mono ?_
  rintro r w1 ⟨g, mp, rfl, hX, hg, hb⟩
  have HF := Lib.hid (And.intro ((tb_new hX hg hb (OwnK.nil w 45 6) (fun x hx => by cases hx) (by simp)).wide (S' := NewB w w1) (fun b _ h => h.elim id (fun h => by cases h))) hb)
  clear hX hg hb
  go_wp2_with fail
  go_ret
  exact ⟨g, rfl, HF.out⟩
/-- The first error of appending entries behind others, or 0. -/
def allE (pre : List Ent) : List Ent → Int
  | [] => 0
  | e :: r => if appendE pre e = 0 then allE (pre ++ [e]) r else appendE pre e
theorem allE_app (a b : List Ent) : ∀ pre, allE pre (a ++ b) = if allE pre a = 0 then allE (pre ++ a) b else allE pre a := by
  induction a with
  | nil => intro pre; simp [allE]
  | cons e a ih =>
    intro pre
    show (if appendE pre e = 0 then allE (pre ++ [e]) (a ++ b) else appendE pre e) = if (if appendE pre e = 0 then allE (pre ++ [e]) a else appendE pre e) = 0 then allE (pre ++ e :: a) b else (if appendE pre e = 0 then allE (pre ++ [e]) a else appendE pre e)
    by_cases h : appendE pre e = 0
    · simp only [h, if_true]
      rw [ih, List.append_assoc]; rfl
    · simp only [h, if_false]
theorem allE_one (pre : List Ent) (e : Ent) : allE pre [e] = appendE pre e := by
  show (if appendE pre e = 0 then 0 else appendE pre e) = _
  by_cases h : appendE pre e = 0 <;> simp [h]
theorem allE_take {l : List Ent} {k : Nat} {e : Ent} (h : l[k]? = some e) (hz : allE [] (l.take k) = 0) : allE [] (l.take (k + 1)) = appendE (l.take k) e := by
  have : l.take (k + 1) = l.take k ++ [e] := by rw [List.take_add_one, h]; rfl
  rw [this, allE_app, if_pos hz, List.nil_append, allE_one]
theorem allE_stop {l : List Ent} {k : Nat} {e : Ent} (h : l[k]? = some e) (hz : allE [] (l.take k) = 0) (hn : appendE (l.take k) e ≠ 0) : allE [] l = appendE (l.take k) e := by
  conv => lhs; rw [← List.take_append_drop (k + 1) l]
  rw [allE_app, allE_take h hz, if_neg hn]
end
end Go.Proofs.YthcphoijanebhaaDoor
