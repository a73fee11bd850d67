/-
  What follows for a log all of whose entries Check took: at most one open transaction of an ID, and how each entry stands to those ahead of it. Nothing is assumed.
-/
import Derived.Test.YtafgcafhgnfegaaRefD
import Derived.Test.YtafgcafhgnfegaaRefW
namespace Go.Proofs.Ytafgcafhgnfegaa
open Go.RowKit Go.Maps
set_option linter.unusedVariables false
/-- All of its entries were taken by Check, as they came. -/
inductive Taken : List Ent → Prop
  | nil : Taken []
  | snoc {l : List Ent} {e : Ent} : Taken l → checkE l e = 0 → Taken (l ++ [e])
theorem taken_append {l : List Ent} {e : Ent} (h : checkE l e = 0) : appendE l e = 0 := by
  by_cases q : appendE l e = 0
  · exact q
  · rw [check_err q] at h; exact absurd h q
theorem Taken.right {l : List Ent} (h : Taken l) : AllR l := by
  induction h with
  | nil => intro e he; cases he
  | snoc h1 h2 ih => exact ih.snoc (append_zero (taken_append h2)).1
/-- How many data or markers of a transaction there are. -/
def cnt (l : List Ent) (id n : Int) : Int := ((l.filter fun x => decide (x.id = id ∧ x.num = n)).length : Int)
theorem cnt_snoc (l : List Ent) (e : Ent) (id n : Int) : cnt (l ++ [e]) id n = cnt l id n + if e.id = id ∧ e.num = n then 1 else 0 := by
  unfold cnt
  rw [List.filter_append]
  by_cases h : e.id = id ∧ e.num = n
  · simp [h]
  · simp [h]
theorem cnt_none {l : List Ent} {id n : Int} (h : ∀ x ∈ l, x.id = id → x.num ≠ n) : cnt l id n = 0 := by
  unfold cnt
  rw [List.filter_eq_nil_iff.2 (fun x hx q => by simp at q; exact h x hx q.1 q.2)]
  rfl
theorem marked_le {l : List Ent} {id : Int} (hr : AllR l) : ∀ {x : Ent}, x ∈ l → x.id = id → x.kind ≠ 1 → x.num ≤ (wr id l).marked := by
  induction l using snoc_induction with
  | h0 => intro x hx; cases hx
  | h1 l e ih =>
    intro x hx hid hk
    rw [wr_marked hr]
    unfold markedTo
    rw [top_snoc]
    have ih := @ih hr.front.1
    have hm := wr_marked hr.front.1 id
    unfold markedTo at hm
    rcases List.mem_append.1 hx with q | q
    · have := ih q hid hk
      split <;> omega
    · simp at q; subst q
      have := right_kind hr.front.2
      rw [if_pos ⟨hid, by omega⟩]; omega
theorem other_no {o : List (Int × Nat)} {n : Int} (h : ¬ other o n = true) : ∀ p ∈ o, p.1 = n := by
  intro p hp
  unfold other at h
  simp only [List.any_eq_true, not_exists] at h
  have := h p
  simp [hp] at this
  exact this
/-- What a log has of an ID where all of it was taken. -/
def Good (l : List Ent) (id : Int) : Prop :=
  (wr id l).opens.length ≤ 1 ∧ (∀ p ∈ (wr id l).opens, p.1 = (wr id l).high ∧ (wr id l).marked < (wr id l).high) ∧ ((wr id l).marked < (wr id l).high → (wr id l).next = cnt l id (wr id l).high)
/-- An entry of an ID that was taken. -/
structure Fits (l : List Ent) (e : Ent) : Prop where
  le : ∀ x ∈ l, x.id = e.id → x.num ≤ e.num
  data : ∀ x ∈ l, x.id = e.id → x.num = e.num → x.kind = 1
  seq : e.kind = 1 → e.seq = cnt l e.id e.num
/-- What Check asks of data and markers of an ID. -/
theorem check_asks {l : List Ent} {e : Ent} (hz : checkE l e = 0) (hid : e.id ≠ -1) : (wr e.id l).marked < e.num ∧ (wr e.id l).high ≤ e.num ∧ ¬ other (wr e.id l).opens e.num = true ∧ (e.kind = 1 → e.seq = nextOf (wr e.id l) e.num) := by
  by_cases hk : e.kind = 1
  · rw [check_data (taken_append hz) hid hk] at hz
    by_cases h1 : e.num ≤ (wr e.id l).marked ∨ e.num < (wr e.id l).high
    · rw [if_pos h1] at hz; omega
    rw [if_neg h1] at hz
    by_cases h2 : other (wr e.id l).opens e.num = true
    · rw [if_pos h2] at hz; omega
    rw [if_neg h2] at hz
    by_cases h3 : e.num = (wr e.id l).high ∧ e.seq < (wr e.id l).next
    · rw [if_pos h3] at hz; omega
    rw [if_neg h3] at hz
    by_cases h4 : e.seq = nextOf (wr e.id l) e.num
    · exact ⟨by omega, by omega, h2, fun _ => h4⟩
    · rw [if_neg h4] at hz; omega
  · rw [check_mark (taken_append hz) hid hk] at hz
    by_cases h1 : e.num ≤ (wr e.id l).marked
    · rw [if_pos h1] at hz; omega
    rw [if_neg h1] at hz
    by_cases h2 : e.num < (wr e.id l).high ∨ other (wr e.id l).opens e.num = true
    · rw [if_pos h2] at hz; omega
    exact ⟨by omega, by omega, fun q => h2 (.inr q), fun q => absurd q hk⟩
theorem taken_good {l : List Ent} (h : Taken l) (id : Int) (hid : id ≠ -1) : Good l id := by
  induction h with
  | nil => exact ⟨by simp [wr_nil, Wr.none_], fun p hp => by simp [wr_nil, Wr.none_] at hp, fun q => by simp [wr_nil, Wr.none_] at q⟩
  | @snoc l e h1 h2 ih =>
    have hr := h1.right
    have hre := (append_zero (taken_append h2)).1
    have hkd := right_kind hre
    unfold Good
    rw [wr_snoc]
    by_cases he : e.id = id
    case neg =>
      rw [if_neg he]
      refine ⟨ih.1, ih.2.1, fun q => ?_⟩
      rw [cnt_snoc, if_neg (fun z => he z.1), ih.2.2 q]; omega
    case pos =>
      rw [if_pos he]
      obtain ⟨a1, a2, a3, a4⟩ := check_asks h2 (by rw [he]; exact hid)
      rw [he] at a1 a2 a3 a4
      have ho := other_no a3
      obtain ⟨g1, g2, g3⟩ := ih
      have hh := wr_high l id
      generalize hx : wr id l = x at *
      have hup := up_opens x e
      have hun := up_next x e
      have hhi : (x.up e).high = e.num := by rw [hup.2.2.2]; omega
      unfold Wr.note
      by_cases hk : e.kind = 1
      · rw [if_pos hk]
        have a4 := a4 hk
        unfold nextOf at a4
        have e1 : ((x.up e).data l.length e).high = e.num := hhi
        have e2 : ((x.up e).data l.length e).marked = x.marked := hup.2.2.1
        have e3 : ((x.up e).data l.length e).next = max (x.up e).next (e.seq + 1) := by
          show (if e.num = (x.up e).high then _ else _) = _
          rw [if_pos hhi.symm]
        have e4 : ((x.up e).data l.length e).opens = if e.num ∈ x.ended ∨ e.num ∈ keys x.opens then x.opens else x.opens ++ [(e.num, l.length)] := by
          show (if e.num ∈ (x.up e).ended ∨ e.num ∈ keys (x.up e).opens then (x.up e).opens else (x.up e).opens ++ [(e.num, l.length)]) = _
          rw [hup.1, hup.2.1]
        rw [e1, e2, e3, e4]
        refine ⟨?_, ?_, ?_⟩
        · split
          · exact g1
          · rename_i c
            have : x.opens = [] := by
              cases ho' : x.opens with
              | nil => rfl
              | cons p r => exact absurd (.inr (List.mem_map.2 ⟨p, by rw [ho']; exact List.mem_cons_self, ho p (by rw [ho']; exact List.mem_cons_self)⟩)) c
            rw [this]; simp
        · intro p hp
          refine ⟨?_, a1⟩
          split at hp
          · exact ho p hp
          · rcases List.mem_append.1 hp with q | q
            · exact ho p q
            · rw [List.mem_singleton.1 q]
        · intro _
          rw [cnt_snoc, if_pos ⟨he, rfl⟩, hun]
          by_cases hlt : x.high < e.num
          · rw [if_pos hlt] at a4 ⊢
            have : cnt l id e.num = 0 := cnt_none fun y hy hyi hyn => by
              have := high_le hy hyi
              omega
            rw [this]; omega
          · rw [if_neg hlt] at a4 ⊢
            have hq : x.high = e.num := by omega
            have := g3 (by omega)
            rw [hq] at this
            rw [← this]; omega
      · rw [if_neg hk]
        have e1 : ((x.up e).mark e).high = e.num := hhi
        have e2 : ((x.up e).mark e).marked = max x.marked e.num := by
          show max (x.up e).marked e.num = _
          rw [hup.2.2.1]
        have e4 : ((x.up e).mark e).opens = [] := by
          show (x.up e).opens.filter _ = _
          rw [hup.1]
          refine List.filter_eq_nil_iff.2 fun p hp => ?_
          simp [ho p hp]
        rw [e1, e2, e4]
        exact ⟨by simp, fun p hp => (nomatch hp), fun q => by omega⟩
theorem taken_fits {l : List Ent} {e : Ent} (h : Taken l) (hz : checkE l e = 0) (hid : e.id ≠ -1) : Fits l e := by
  obtain ⟨a1, a2, a3, a4⟩ := check_asks hz hid
  have hg := (taken_good h e.id hid).2.2
  have hh := wr_high l e.id
  refine ⟨fun x hx hxi => ?_, fun x hx hxi hxn => ?_, fun hk => ?_⟩
  · have := high_le hx hxi
    omega
  · by_cases hk : x.kind = 1
    · exact hk
    · have := marked_le h.right hx hxi hk
      omega
  · rw [a4 hk]
    unfold nextOf
    by_cases hlt : (wr e.id l).high < e.num
    · rw [if_pos hlt, cnt_none fun y hy hyi hyn => by
        have := high_le hy hyi
        omega]
    · rw [if_neg hlt, hg (by omega), show (wr e.id l).high = e.num by omega]
/-- Each place of a log that was taken. -/
theorem taken_at {l : List Ent} (h : Taken l) : ∀ {i : Nat} {e : Ent}, l[i]? = some e → e.id ≠ -1 → Fits (l.take i) e := by
  induction h with
  | nil => intro i e he; cases he
  | @snoc l x h1 h2 ih =>
    intro i e he hid
    by_cases hi : i < l.length
    · rw [List.getElem?_append_left hi] at he
      rw [List.take_append_of_le_length (Nat.le_of_lt hi)]
      exact ih he hid
    · have hil : i = l.length := by
        have := (List.getElem?_eq_some_iff.1 he).1
        simp at this; omega
      subst hil
      simp at he
      subst he
      rw [List.take_left]
      exact taken_fits h1 h2 hid
/-- How many of some are of an entry's transaction (none of nobody's). -/
def cn (l : List Ent) (e : Ent) : Int := if e.id < 0 then 0 else cnt l e.id e.num
theorem cn_nil (e : Ent) : cn [] e = 0 := by unfold cn cnt; split <;> rfl
theorem cn_take {l : List Ent} {k : Nat} {x : Ent} (h : l[k]? = some x) (e : Ent) : cn (l.take (k + 1)) e = cn (l.take k) e + if ¬ e.id < 0 ∧ x.id = e.id ∧ x.num = e.num then 1 else 0 := by
  unfold cn
  rw [List.take_add_one, h]
  by_cases hn : e.id < 0
  · simp [hn]
  · rw [if_neg hn, if_neg hn, show (some x).toList = [x] from rfl, cnt_snoc]
    simp [hn]
theorem cn_bounds (l : List Ent) (e : Ent) : 0 ≤ cn l e ∧ cn l e ≤ l.length := by
  unfold cn cnt
  have := List.length_filter_le (fun x => decide (x.id = e.id ∧ x.num = e.num)) l
  split <;> omega
theorem mem_take_at {l : List Ent} {j p : Nat} {x : Ent} (h : l[j]? = some x) (hj : j < p) : x ∈ l.take p := List.mem_of_getElem? (i := j) (by rw [List.getElem?_take, if_pos hj]; exact h)
end Go.Proofs.Ytafgcafhgnfegaa
