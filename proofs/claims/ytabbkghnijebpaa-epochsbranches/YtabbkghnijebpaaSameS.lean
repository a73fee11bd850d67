/-
  Whether two lists of starts are the same; entries that are compared. Conditions: bounds.
-/
import Derived.Test.YtabbkghnijebpaaRefStarts
import Derived.Laws.StructEq
namespace Go.Proofs.Ytabbkghnijebpaa
open Go.RowKit
theorem guard63 : Try.prog.eqGuardType Try.prog.depth 63 = false := by kernel_rfl
theorem guard59 : Try.prog.eqGuardType Try.prog.depth 59 = false := by kernel_rfl
set_option maxRecDepth 100000 in
theorem neq63 (a b : Int) (w : World) : (binOp .neq 63 (.agg #[.int .i64 a, .int .i64 b]) (.agg #[.int .i64 a, .int .i64 b])).run Try.prog w = .ok (.bool false) w := by
  have e : (Op.equalIn 10000 63 (.agg #[.int .i64 a, .int .i64 b]) (.agg #[.int .i64 a, .int .i64 b])).run Try.prog w = .ok true w := by
    have hS : Try.prog.underlying 63 = some (.struct (Try.prog.fieldsOf 63)) := by kernel_rfl
    have hp : Try.prog.stoodInHeld 63 = false := by kernel_rfl
    rw [show (10000 : Nat) = 9999 + 1 from rfl, run_equalIn_agg w 9999 63 _ _ hS hp]
    have u2 := Try.underlying2
    have u3 := Try.underlying3
    have a2 := Try.isAgg2
    have a3 := Try.isAgg3
    have z2 := Try.sizeOf2
    have z3 := Try.sizeOf3
    simp only [Program.fieldsOf, Try.underlying63]
    go_simp
  rw [run_neq_struct, e]; rfl
set_option maxRecDepth 100000 in
theorem eql59 (p q : Int × Int) (w : World) : (binOp .eql 59 (.agg (entA p)) (.agg (entA q))).run Try.prog w = .ok (.bool (decide (p = q))) w := by
  have e : (Op.equalIn 10000 59 (.agg (entA p)) (.agg (entA q))).run Try.prog w = .ok (decide (p = q)) w := by
    have hS : Try.prog.underlying 59 = some (.struct (Try.prog.fieldsOf 59)) := by kernel_rfl
    have hp : Try.prog.stoodInHeld 59 = false := by kernel_rfl
    rw [show (10000 : Nat) = 9999 + 1 from rfl, run_equalIn_agg w 9999 59 _ _ hS hp]
    have u2 := Try.underlying2
    have u3 := Try.underlying3
    have u57 := Try.underlying57
    have a2 := Try.isAgg2
    have a3 := Try.isAgg3
    have a57 := Try.isAgg57
    have z2 := Try.sizeOf2
    have z3 := Try.sizeOf3
    have z57 := Try.sizeOf57
    obtain ⟨p1, p2⟩ := p
    obtain ⟨q1, q2⟩ := q
    simp only [Program.fieldsOf, Try.underlying59, entA]
    go_simp
    by_cases h1 : p1 = q1 <;> by_cases h2 : p2 = q2 <;> simp [h1, h2]
  rw [run_eql_struct, e]; rfl
/-- The cells of a start. -/
theorem Sts.at_ {w : World} {X : Nat → Prop} {A : Option Addr} {n : Nat} {E : Nat → Int} {l : List Nat} (h : Sts w X A n E l) {k : Nat} (hk : k < n) : ∃ ad i, A = some ad ∧ ad.block < w.heap.size ∧ l[k]? = some i ∧ w.cell? (ad.add (k * 2)) = some (.int .i64 (E i)) ∧ w.cell? ⟨(ad.add (k * 2)).block, (ad.add (k * 2)).off + 1, none⟩ = some (.int .i64 (i : Int)) := by
  have hl : l.length = n := by have := h.1; simpa using this
  have hi : l[k]? = some (l[k]'(by omega)) := List.getElem?_eq_getElem (by omega)
  obtain ⟨ad, h1, h2, h3, h4, h5⟩ := Rd.load h (i := k) (cs := stA E (l[k]'(by omega))) (by rw [List.getElem?_map, hi]; rfl)
  exact ⟨ad, _, h1, h2, hi, h4 _ rfl, h5 0 _ rfl⟩
theorem Sts.below {w w' : World} {X : Nat → Prop} {A : Option Addr} {n : Nat} {E : Nat → Int} {l : List Nat} (h : Sts w X A n E l) (hb : Below w.heap.size w w') : Sts w' X A n E l := Rd.below h hb
theorem Sts.len {w : World} {X : Nat → Prop} {A : Option Addr} {n : Nat} {E : Nat → Int} {l : List Nat} (h : Sts w X A n E l) : l.length = n := by have := h.1; simpa using this
set_option maxRecDepth 100000 in
set_option maxHeartbeats 4000000 in
theorem sameStarts_any {w : World} {X X' : Nat → Prop} {A A' : Option Addr} {n c c' : Nat} {E : Nat → Int} {l : List Nat} (hr : Sts w X A n E l) (hr' : Sts w X' A' n E l) (hn : n < 1000000) :
    Calls Try.prog 16 #[.slice A n c, .slice A' n c'] w fun e w' => e = .returned (.bool true) ∧ Below w.heap.size w w' := by
  have hgd := guard63
  have bn : ((n : Int) != (n : Int)) = false := by simp
  go_enter Try.func16, Try.ntmps16
  go_wp2_with fail
  go_loopw [5] (fun i wr => ∃ k : Nat, k ≤ n ∧ i = .int .i64 k ∧ Below w.heap.size w wr) (fun i _ => n - (intOf i).toNat)
  case atStart => exact ⟨0, by omega, rfl, Below.refl _ _⟩
  case round =>
    obtain ⟨k, hk, rfl, hb⟩ := hrel
    by_cases hlt : k < n
    · obtain ⟨ad, i, rfl, -, he, c0, c1⟩ := (hr.below hb).at_ hlt
      obtain ⟨ad', i', rfl, -, he', d0, d1⟩ := (hr'.below hb).at_ hlt
      rw [he] at he'
      injection he' with he'
      subst he'
      have hq := neq63 (E i) (i : Int)
      clear he
      go_wp2_with fail
      go_quiet (fail)
      go_wp2_with fail
      go_roundw
      case rel => exact ⟨k + 1, by omega, by go_num, below_drewN hb _⟩
      case measure => simp [intOf]; omega
    · have hd : decide (k < n) = false := by simpa using hlt
      go_wp2_with fail
      go_ret
      exact ⟨rfl, hb⟩
end Go.Proofs.Ytabbkghnijebpaa
