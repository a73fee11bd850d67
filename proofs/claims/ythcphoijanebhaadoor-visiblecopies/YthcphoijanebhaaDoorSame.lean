/-
  Whether two tables have the same log. Nothing is assumed.
-/
import Derived.Test.YthcphoijanebhaaDoorMisc
import Derived.BigQuiet
namespace Go.Proofs.YthcphoijanebhaaDoor
open Go.RowKit Go.Maps
set_option linter.unusedVariables false
theorem ent_eq (a b : Ent) : decide (a = b) = (a.epoch == b.epoch && (a.id == b.id && (a.num == b.num && (a.seq == b.seq && (a.kind == b.kind && a.value == b.value))))) := by
  obtain ⟨a1, a2, a3, a4, a5, a6⟩ := a
  obtain ⟨b1, b2, b3, b4, b5, b6⟩ := b
  rw [Bool.eq_iff_iff]
  simp
theorem guard26 : Tryd.prog.eqGuardType Tryd.prog.depth 45 = false := by kernel_rfl
theorem equalIn26 (a b : Ent) (w : World) : (Op.equalIn 10000 45 (.agg a.cells) (.agg b.cells)).run Tryd.prog w = .ok (decide (a = b)) w := by
  have hS : Tryd.prog.underlying 45 = some (.struct (Tryd.prog.fieldsOf 45)) := by kernel_rfl
  have hp : Tryd.prog.stoodInHeld 45 = false := by kernel_rfl
  rw [show (10000 : Nat) = 9999 + 1 from rfl, run_equalIn_agg w 9999 45 _ _ hS hp]
  have u2 := Tryd.underlying2
  have u3 := Tryd.underlying3
  have u24 := Tryd.underlying43
  have a2 := Tryd.isAgg2
  have a3 := Tryd.isAgg3
  have a24 := Tryd.isAgg43
  have z2 := Tryd.sizeOf2
  have z3 := Tryd.sizeOf3
  have z24 := Tryd.sizeOf43
  simp only [Program.fieldsOf, Tryd.underlying45, Ent.cells]
  go_simp
  rw [ent_eq]
  by_cases h1 : a.epoch = b.epoch <;> by_cases h2 : a.id = b.id <;> by_cases h3 : a.num = b.num <;> by_cases h4 : a.seq = b.seq <;> by_cases h5 : a.kind = b.kind <;> by_cases h6 : a.value = b.value <;> simp [h1, h2, h3, h4, h5, h6]
theorem eql26 (a b : Ent) (w : World) : (binOp .eql 45 (.agg a.cells) (.agg b.cells)).run Tryd.prog w = .ok (.bool (decide (a = b))) w := by
  rw [run_eql_struct, equalIn26]; rfl
theorem neq26 (a b : Ent) (w : World) : (binOp .neq 45 (.agg a.cells) (.agg b.cells)).run Tryd.prog w = .ok (.bool (!(decide (a = b)))) w := by
  rw [run_neq_struct, equalIn26]; rfl
section
variable {w w' : World} {g : Nat} {l l' : List Ent} {S : Nat → Prop} {e : Ent}
theorem Rd.drewN {X : Nat → Prop} {k n : Nat} {A : Option Addr} {css : List (Array Value)} (h : Rd w X k A n css) (q : Nat) : Rd (w.drewN q) X k A n css := h.below (below_drewN (Below.refl _ w) q)
set_option maxRecDepth 100000 in
set_option maxHeartbeats 4000000 in
theorem refSame_any {X Y : Nat → Prop} {A B : Option Addr} {n m c d : Nat} (h1 : Rd w X 6 A n (cellsOf l)) (h2 : Rd w Y 6 B m (cellsOf l')) (hn : n ≤ 1000000) (hm : m ≤ 1000000) :
    Calls Tryd.prog 13 #[.slice A n c, .slice B m d] w fun r w' => r = .returned (.bool (decide (l = l'))) ∧ ∃ q, w' = w.drewN q := by
  have hl1 := h1.lenE
  have hl2 := h2.lenE
  by_cases h0 : n = m
  case neg =>
    have H : Hid (decide (l = l') = false) := Lib.hid (decide_eq_false (fun e => by subst e; omega))
    have hb : ((n : Int) != (m : Int)) = true := by simp; omega
    clear h1 h2 hl1 hl2 h0
    go_enter Tryd.func13, Tryd.ntmps13
    go_wp2_with fail
    go_ret
    exact ⟨ret_bool H.out.symm, 0, rfl⟩
  subst h0
  have hb : ((n : Int) != (n : Int)) = false := by simp
  have H1 := Lib.hid h1
  have H2 := Lib.hid h2
  have HL1 := Lib.hid hl1
  have HL2 := Lib.hid hl2
  clear h1 h2 hl1 hl2
  go_enter Tryd.func13, Tryd.ntmps13
  go_wp2_with fail
  go_loopw [5] (fun i wr => ∃ k : Nat, k ≤ n ∧ i = .int .i64 k ∧ Hid (l.take k = l'.take k) ∧ ∃ q, wr = w.drewN q) (fun i _ => n - (iOf i).toNat)
  case atStart => exact ⟨0, by omega, rfl, Lib.hid rfl, 0, rfl⟩
  case round =>
    obtain ⟨k, hk, rfl, HT, q, rfl⟩ := hrel
    by_cases hlt : k < n
    case neg =>
      have hd1 : decide (k < n) = false := by simpa using hlt
      have H : Hid (decide (l = l') = true) := Lib.hid (decide_eq_true (by
        have := HT.out
        rwa [List.take_of_length_le (by have := HL1.out; omega), List.take_of_length_le (by have := HL2.out; omega)] at this))
      go_wp2_with fail
      go_ret
      exact ⟨ret_bool H.out.symm, q, rfl⟩
    case pos =>
    obtain ⟨e1, he1⟩ : ∃ e, l[k]? = some e := ⟨_, List.getElem?_eq_getElem (by rw [HL1.out]; exact hlt)⟩
    obtain ⟨e2, he2⟩ : ∃ e, l'[k]? = some e := ⟨_, List.getElem?_eq_getElem (by rw [HL2.out]; exact hlt)⟩
    obtain ⟨a1, rfl, -, -, c0, c1, c2, c3, c4, c5⟩ := H1.out.ent he1
    obtain ⟨a2, rfl, -, -, d0, d1, d2, d3, d4, d5⟩ := H2.out.ent he2
    have hd1 : decide (k < n) = true := by simpa using hlt
    have hq := neq26 e1 e2
    unfold Ent.cells at hq
    by_cases hee : e1 = e2
    case pos =>
      have H : Hid (l.take (k + 1) = l'.take (k + 1)) := Lib.hid (by rw [List.take_add_one, List.take_add_one, he1, he2, HT.out, hee])
      rw [decide_eq_true hee] at hq
      clear hee he1 he2
      go_wp2_with fail
      go_quiet (fail)
      go_wp2_with fail
      go_roundw
      case rel => exact ⟨k + 1, by omega, by go_num, H, _, (by first | rfl | rw [World.drewN_drewN])⟩
      case measure => simp [iOf]; omega
    case neg =>
      have H : Hid (decide (l = l') = false) := Lib.hid (decide_eq_false (fun e => by
        subst e
        rw [he1] at he2
        injection he2 with he2
        exact hee he2))
      rw [decide_eq_false hee] at hq
      clear hee he1 he2
      go_wp2_with fail
      go_quiet (fail)
      go_wp2_with fail
      go_ret
      exact ⟨ret_bool H.out.symm, _, (by first | rfl | rw [World.drewN_drewN])⟩
end
end Go.Proofs.YthcphoijanebhaaDoor
