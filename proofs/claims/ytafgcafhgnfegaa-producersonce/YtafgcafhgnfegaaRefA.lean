/-
  The document's answers: whether a transaction has a marker; the log behind an entry. Conditions: bounds.
-/
import Derived.Test.YtafgcafhgnfegaaMisc
import Derived.Test.YtafgcafhgnfegaaRefRight
namespace Go.Proofs.Ytafgcafhgnfegaa
open Go.RowKit Go.Maps
set_option linter.unusedVariables false
section
variable {w w' : World} {X : Nat → Prop} {A : Option Addr} {n c : Nat} {l : List Ent} {e : Ent}
theorem isMk_take {k : Nat} {id num : Int} (h : l[k]? = some e) : isMk (l.take (k + 1)) id num = (isMk (l.take k) id num || decide (e.id = id ∧ e.num = num ∧ 1 < e.kind)) := by
  rw [List.take_add_one, h]
  exact isMk_snoc _ _ _ _
theorem isMk_found {k : Nat} {id num : Int} (h : l[k]? = some e) (he : e.id = id ∧ e.num = num ∧ 1 < e.kind) : isMk l id num = true := by
  unfold isMk
  rw [List.any_eq_true]
  exact ⟨e, List.mem_of_getElem? h, decide_eq_true he⟩
set_option maxRecDepth 100000 in
set_option maxHeartbeats 4000000 in
theorem marked_any (h : Rd w X 6 A n (cellsOf l)) (hn : n ≤ 1000000) (id num : Int) : Calls Try.prog 63 #[.slice A n c, .int .i64 id, .int .i64 num] w fun r w' => r = .returned (.bool (isMk l id num)) ∧ w = w' := by
  have HLEN := Lib.hid h.lenE
  have HH := Lib.hid h
  clear h
  go_enter Try.func63, Try.ntmps63
  go_wp2_with fail
  go_loop [7] (fun i => ∃ k : Nat, k ≤ n ∧ i = .int .i64 k ∧ Hid (isMk (l.take k) id num = false)) (fun i => n - (iOf i).toNat)
  case atStart => exact ⟨0, by omega, rfl, Lib.hid rfl⟩
  case round =>
    obtain ⟨k, hk, rfl, HM⟩ := hrel
    by_cases hlt : k < n
    case neg =>
      have hd1 : decide (k < n) = false := by simpa using hlt
      have H : Hid (isMk l id num = false) := Lib.hid (by have := HM.out; rwa [List.take_of_length_le (by have := HLEN.out; omega)] at this)
      go_wp2_with fail
      go_ret
      exact ⟨ret_bool H.out.symm, rfl⟩
    case pos =>
    obtain ⟨e, he⟩ : ∃ e, l[k]? = some e := ⟨_, List.getElem?_eq_getElem (by rw [HLEN.out]; exact hlt)⟩
    obtain ⟨ad, rfl, hadl, -, c0, c1, c2, c3, c4, c5⟩ := HH.out.ent he
    have hd1 : decide (k < n) = true := by simpa using hlt
    have HE := Lib.hid he
    clear he
    have next : ¬ (e.id = id ∧ e.num = num ∧ 1 < e.kind) → Hid (isMk (l.take (k + 1)) id num = false) := fun q => Lib.hid (by rw [isMk_take HE.out, HM.out, decide_eq_false q]; rfl)
    by_cases h1 : e.id = id
    case neg =>
      have b1 := neb h1
      have HN := next (fun q => h1 q.1)
      clear next h1
      go_wp2_with fail
      go_round
      case rel => exact ⟨k + 1, by omega, by go_num, HN⟩
      case measure => simp [iOf]; omega
    case pos =>
    have b1 := eqb h1
    by_cases h2 : e.num = num
    case neg =>
      have b2 := neb h2
      have HN := next (fun q => h2 q.2.1)
      clear next h2 h1
      go_wp2_with fail
      go_round
      case rel => exact ⟨k + 1, by omega, by go_num, HN⟩
      case measure => simp [iOf]; omega
    case pos =>
    have b2 := eqb h2
    by_cases h3 : 1 < e.kind
    case neg =>
      have b3 : decide (1 < e.kind) = false := by simpa using h3
      have HN := next (fun q => h3 q.2.2)
      clear next h2 h1
      go_wp2_with fail
      go_round
      case rel => exact ⟨k + 1, by omega, by go_num, HN⟩
      case measure => simp [iOf]; omega
    case pos =>
    have b3 : decide (1 < e.kind) = true := by simpa using h3
    have H : Hid (isMk l id num = true) := Lib.hid (isMk_found HE.out ⟨h1, h2, h3⟩)
    clear next h2 h1
    go_wp2_with fail
    go_ret
    exact ⟨ret_bool H.out.symm, rfl⟩
end
end Go.Proofs.Ytafgcafhgnfegaa
