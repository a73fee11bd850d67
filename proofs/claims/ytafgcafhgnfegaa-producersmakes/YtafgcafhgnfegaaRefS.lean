/-
  The document's answer: how many entries are stable. Conditions: at most 5000 entries, all of which may be.
-/
import Derived.Test.YtafgcafhgnfegaaRefO
import Derived.Test.YtafgcafhgnfegaaStable
namespace Go.Proofs.Ytafgcafhgnfegaa
open Go.RowKit Go.Maps
set_option linter.unusedVariables false
section
variable {w w' : World} {X : Nat → Prop} {A : Option Addr} {n c : Nat} {l : List Ent} {e : Ent}
theorem lowest_snoc (n : Nat) (o : List (Int × Nat)) (p : Int × Nat) : lowest n (o ++ [p]) = min (lowest n o) p.2 := by
  unfold lowest; rw [List.foldl_append]; rfl
theorem lowest_take {o : List (Int × Nat)} {i : Nat} {p : Int × Nat} (h : o[i]? = some p) (n : Nat) : lowest n (o.take (i + 1)) = min (lowest n (o.take i)) p.2 := by
  rw [List.take_add_one, h]; exact lowest_snoc _ _ _
set_option maxRecDepth 100000 in
set_option maxHeartbeats 4000000 in
theorem refStable_any (h : Rd w X 6 A n (cellsOf l)) (hn : n ≤ 5000) (hr : AllR l) : Calls Try.prog 36 #[.slice A n c] w fun r w' => r = .returned (.int .i64 (stab l 4 : Int)) ∧ Below w.heap.size w w' := by
  have hlen := h.lenE
  have HH := Lib.hid h
  have HR := Lib.hid hr
  have hs0 : (n : Int) = (stab l 0 : Int) := by rw [← hlen]; rfl
  have HS0 := Lib.hid hs0
  clear h hr hlen hs0
  go_enter Try.func36, Try.ntmps36
  go_wp2_with fail
  go_loopw [3, 4] (fun s i wv => ∃ k : Nat, k ≤ 4 ∧ i = .int .i64 k ∧ s = .int .i64 (stab l k : Int) ∧ Below w.heap.size w wv) (fun _ i _ => 4 - (iOf i).toNat)
  case atStart => exact ⟨0, by omega, rfl, by rw [HS0.out], Below.refl _ _⟩
  case round =>
    obtain ⟨k, hk, rfl, rfl, hb⟩ := hrel
    have HB := Lib.hid hb
    clear hb
    by_cases hlt : k < 4
    case neg =>
      have hd1 : decide ((k : Int) < 4) = false := by simpa using (by omega : ¬ (k : Int) < 4)
      obtain rfl : k = 4 := by omega
      go_wp2_with fail
      go_ret
      exact ⟨rfl, HB.out⟩
    case pos =>
    have hd1 : decide ((k : Int) < 4) = true := by simpa using (by omega : (k : Int) < 4)
    have hcall := refOpens_any (c := c) (HH.out.below HB.out) hn (k : Int)
    have HST : Hid (stab l (k + 1) = lowest (stab l k) (opens l (k : Int))) := Lib.hid (by
      show lowest (stab l k) (Go.Proofs.Ytafgcafhgnfegaa.wr (k : Int) l).opens = _
      rw [wr_opens HR.out])
    generalize stab l k = s0 at *
    go_wp2_with fail
    refine hcall.mono ?_
    rintro r w2 ⟨A2, c2, rfl, hO, hv, hb2⟩
    have HO := Lib.hid hO
    have HB2 := Lib.hid (HB.out.trans (hb2.mono HB.out.size))
    clear hcall hO hv hb2
    generalize opens l (k : Int) = o at *
    go_wp2_with fail
    have hol : o.length ≤ maxLen := by
      obtain ⟨Aq, cq, e1, h1, h2⟩ := HO.out.formO
      omega
    have hol2 : o.length ≤ 9223372036854775807 := by unfold maxLen at hol; omega
    clear hol
    go_loop [3, 6] (fun s i => ∃ j : Nat, j ≤ o.length ∧ i = .int .i64 j ∧ s = .int .i64 (lowest s0 (o.take j) : Int)) (fun _ i => o.length - (iOf i).toNat)
    case atStart => exact ⟨0, by omega, rfl, rfl⟩
    case round =>
      obtain ⟨j, hj, rfl, rfl⟩ := hrel
      by_cases hlj : j < o.length
      case pos =>
        have hd2 : decide (j < o.length) = true := by simpa using hlj
        obtain ⟨p, hp⟩ : ∃ p, o[j]? = some p := ⟨_, List.getElem?_eq_getElem hlj⟩
        obtain ⟨a5, e5, -, -, -, r1⟩ := (HO.out.rd (X := No) (fun _ _ h => h)).load (i := j) (cs := opA p) (by unfold opsOf; rw [List.getElem?_map, hp]; rfl)
        have r1 := r1 0 (.int .i64 (p.2 : Int)) rfl
        subst e5
        have HL := Lib.hid (lowest_take hp s0)
        generalize lowest s0 (o.take j) = q at *
        obtain ⟨r, hr5⟩ : ∃ r : Nat, min q p.2 = r := ⟨_, rfl⟩
        have hmin : min (q : Int) (p.2 : Int) = (r : Int) := by omega
        have HR5 := Lib.hid hr5
        clear hp hr5
        go_wp2_with fail
        go_round
        case rel => exact ⟨j + 1, by omega, by go_num, by rw [HL.out, HR5.out]⟩
        case measure => simp [iOf]; omega
      case neg =>
        have hd2 : decide (j < o.length) = false := by simpa using hlj
        obtain rfl : j = o.length := by omega
        have HE : Hid (lowest s0 (o.take o.length) = stab l (k + 1)) := Lib.hid (by rw [List.take_length, HST.out])
        go_wp2_with fail
        go_roundw
        case rel => exact ⟨k + 1, by omega, by go_num, by rw [HE.out], HB2.out⟩
        case measure => simp [iOf]; omega
end
end Go.Proofs.Ytafgcafhgnfegaa
