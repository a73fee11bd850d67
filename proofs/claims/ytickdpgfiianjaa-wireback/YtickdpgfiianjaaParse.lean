/-
  What wire.taker, wire.takeData and wire.takeMarker answer; and the entry of a body, told by places in it. Nothing is assumed but that the bytes are there.
-/
import Derived.Test.YtickdpgfiianjaaNumber
namespace Go.Proofs.Ytickdpgfiianjaa
open Go.RowKit
def dataTk (ep id : Int) (l : List UInt8) (k : Nat) : Option (Ent × Nat) :=
  if id = -1 then
    match tk (l.drop k) with
    | .num v j => some (⟨ep, id, 0, 0, 1, unf v⟩, k + j)
    | _ => none
  else
    match tk (l.drop k) with
    | .num n j =>
      match tk (l.drop (k + j)) with
      | .num s i =>
        match tk (l.drop (k + j + i)) with
        | .num v h => some (⟨ep, id, n, s, 1, unf v⟩, k + j + i + h)
        | _ => none
      | _ => none
    | _ => none
def markTk (kd ep id : Int) (l : List UInt8) (k : Nat) : Option (Ent × Nat) :=
  match tk (l.drop k) with
  | .num n j => some (⟨ep, id, n, 0, kd, 0⟩, k + j)
  | _ => none
def endTk (l : List UInt8) : Option (Ent × Nat) → Option Ent
  | some (e, k) => if k = l.length ∧ Right e then some e else none
  | none => none
theorem endTk_fin {l : List UInt8} {e : Ent} {k : Nat} (hk : k ≤ l.length) : endTk l (some (e, k)) = fin e (l.drop k) := by
  unfold endTk fin
  by_cases h : k = l.length
  · subst h; simp
  · have : l.drop k ≠ [] := by rw [ne_eq, List.drop_eq_nil_iff]; omega
    simp only [h, this, false_and, if_false]
theorem tk_drop {l : List UInt8} {k n j : Nat} (h : tk (l.drop k) = .num n j) : 0 < j ∧ k + j ≤ l.length ∧ n < 9223372036854775808 := by
  have := tk_bound h
  rw [List.length_drop] at this
  omega
theorem data_eq (ep id : Int) (l : List UInt8) (k : Nat) : entryData ep id (l.drop k) = endTk l (dataTk ep id l k) := by
  unfold entryData dataTk
  split
  · rcases h : tk (l.drop k) with _ | _ | ⟨v, j⟩
    · rfl
    · rfl
    · have := tk_drop h
      simp only
      rw [endTk_fin this.2.1, List.drop_drop]
  · rcases h : tk (l.drop k) with _ | _ | ⟨v, j⟩
    · rfl
    · rfl
    · have h1 := tk_drop h
      simp only [List.drop_drop]
      rcases h' : tk (l.drop (k + j)) with _ | _ | ⟨v', j'⟩
      · rfl
      · rfl
      · simp only
        have h2 := tk_drop h'
        rcases h'' : tk (l.drop (k + j + j')) with _ | _ | ⟨v'', j''⟩
        · rfl
        · rfl
        · have h3 := tk_drop h''
          simp only
          rw [endTk_fin h3.2.1]
theorem mark_eq (kd ep id : Int) (l : List UInt8) (k : Nat) : entryMark kd ep id (l.drop k) = endTk l (markTk kd ep id l k) := by
  unfold entryMark markTk
  rcases h : tk (l.drop k) with _ | _ | ⟨v, j⟩
  · rfl
  · rfl
  · have := tk_drop h
    simp only
    rw [endTk_fin this.2.1, List.drop_drop]
/-- Behind the kind and the epoch. -/
def entryId (l : List UInt8) (kd : Nat) (ep : Int) (k : Nat) : Option Ent :=
  match l[k]? with
  | none => none
  | some i => if kd = 1 then endTk l (dataTk ep ((i.toNat : Int) - 1) l (k + 1)) else endTk l (markTk kd ep ((i.toNat : Int) - 1) l (k + 1))
theorem entryOf_cons (kd : UInt8) (b : List UInt8) : entryOf (kd :: b) = if kd.toNat < 1 ∨ 3 < kd.toNat then none else match tk ((kd :: b).drop 1) with
    | .num ep j => entryId (kd :: b) kd.toNat ep (1 + j)
    | _ => none := by
  show (if _ then _ else _) = _
  split
  · rfl
  · simp only [List.drop_succ_cons, List.drop_zero]
    rcases h : tk b with _ | _ | ⟨ep, j⟩
    · rfl
    · rfl
    · simp only
      unfold entryId
      rw [show 1 + j = j + 1 from by omega, List.getElem?_cons_succ]
      have hj := (tk_bound h).2.2
      rcases hb : b[j]? with _ | i
      · rw [List.drop_eq_nil_of_le (List.getElem?_eq_none_iff.1 hb)]
      · rw [drop_cons hb]
        simp only
        rw [← data_eq, ← mark_eq, List.drop_succ_cons]
/-- What is known behind wire.takeData and wire.takeMarker. -/
def Took (w : World) (p q r g : Nat) (A : Option Addr) (n c : Nat) (l : List UInt8) (o : Option (Ent × Nat)) (e : Ending) (w' : World) : Prop :=
  Below p w w' ∧ match o with
  | some (x, k) => e = .returned (.tuple #[]) ∧ Taking w' p q r A n c 121 l k ∧ Blk w' g 38 x.cells ∧ (∀ i, i ≠ p → i ≠ g → w'.heap[i]? = w.heap[i]?)
  | none => e = panicE 121
set_option maxRecDepth 100000 in
set_option maxHeartbeats 1000000 in
theorem takeMarker_any {w : World} {p q r g : Nat} {A : Option Addr} {n c : Nat} {l : List UInt8} {k : Nat} (kd ep id : Int) (h : Taking w p q r A n c 121 l k) (hg : Blk w g 38 (Ent.mk ep id 0 0 kd 0).cells) (hpg : p < g) :
    Calls Try.prog 63 #[nextV p q r, .pointer (some ⟨g, 0, none⟩)] w (Took w p q r g A n c l (markTk kd ep id l k)) := by
  go_enter Try.func63, Try.ntmps63
  go_wp2_with fail
  refine (number_any h).mono ?_
  rintro e w1 ⟨ho, hm⟩
  rcases ht : tk (l.drop k) with _ | _ | ⟨m, j⟩
  · rw [ht] at hm
    simp only at hm
    subst hm
    have HT : Hid (markTk kd ep id l k = none) := Lib.hid (by unfold markTk; rw [ht])
    unfold panicE
    go_wp2_with fail
    refine ⟨rfl, ho.below (Nat.le_refl _), ?_⟩
    rw [HT.out]
    rfl
  · rw [ht] at hm
    simp only at hm
    subst hm
    have HT : Hid (markTk kd ep id l k = none) := Lib.hid (by unfold markTk; rw [ht])
    unfold panicE
    go_wp2_with fail
    refine ⟨rfl, ho.below (Nat.le_refl _), ?_⟩
    rw [HT.out]
    rfl
  · rw [ht] at hm
    obtain ⟨rfl, ht1⟩ := hm
    have hg1 := ho.blk hg (by omega)
    have e2 : w1.cell? ⟨g, 2, none⟩ = some (.int .i64 0) := hg1.cell 2
    have z2 := hg1.frozen 2
    have HT : Hid (markTk kd ep id l k = some (⟨ep, id, m, 0, kd, 0⟩, k + j)) := Lib.hid (by unfold markTk; rw [ht])
    have HG := Lib.hid (hg1.set_ 2 (.int .i64 (m : Int)))
    clear ht hg1 hg
    go_wp2_with fail
    go_end0
    refine ⟨(ho.below (Nat.le_refl _)).setCell (p := ⟨g, 2, none⟩) (by show p ≤ g; omega) _, ?_⟩
    rw [HT.out]
    refine ⟨rfl, ht1.below ((Below.refl g w1).setCell (p := ⟨g, 2, none⟩) (Nat.le_refl _) _) hpg, HG.out, fun i hi hi2 => (Below.heap_setCell w1 _ _ i (by show i ≠ g; exact hi2)).trans (ho.2.2.2.2 i hi)⟩
end Go.Proofs.Ytickdpgfiianjaa
