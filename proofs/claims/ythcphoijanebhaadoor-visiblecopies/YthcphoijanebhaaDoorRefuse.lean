/-
  What refuses an entry: some of the program's reasons, each by itself. Nothing is assumed.
-/
import Derived.Test.YthcphoijanebhaaDoorRefuse0
namespace Go.Proofs.YthcphoijanebhaaDoor
open Go.RowKit Go.Maps
set_option linter.unusedVariables false
section
variable {w : World} {g : Nat} {v : Value} {x : Nat → Wr} {mp : Nat → Nat} {i : Nat}
set_option maxRecDepth 100000 in
set_option maxHeartbeats 1000000 in
theorem elderData_any (h : TX w g v x mp) (hi : i < 4) (ep n s k va : Int) (hn : In64 n) :
    Calls Tryd.prog 83 #[.pointer (some ⟨g, 0, none⟩), .agg #[.int .i64 ep, .int .i64 (i : Int), .int .i64 n, .int .i64 s, .int .i64 k, .int .i64 va]] w fun e w' => e = .returned (.int .i64 (elderD (x i) n)) ∧ Below w.heap.size w w' := by
  obtain ⟨c0, c1, c2, c3, c4⟩ := h.cells hi
  have hg := h.blk.lt
  have HO := Lib.hid (h.om i hi)
  clear h
  have HB := Lib.hid ((Below.refl w.heap.size w).alloc (Nat.le_refl _) (.cells #[.int .i64 ep, .int .i64 (i : Int), .int .i64 n, .int .i64 s, .int .i64 k, .int .i64 va] 45))
  by_cases h1 : n ≤ (x i).marked
  · have hd : decide (n ≤ (x i).marked) = true := by simpa using h1
    have hw := fun W => when_is (b := true) (n := 181) (r := elderD (x i) n) (by unfold elderD; rw [if_pos (.inl h1)]; rfl) W
    generalize elderD (x i) n = r at hw ⊢
    go_enter Tryd.func83, Tryd.ntmps83
    go_wp2_with fail
    go_quiet (fail)
    go_wp2_with fail
    go_quiet ((go_at_call 91; first | exact Calls.quiet_of_same (hw _) | exact quiet_again (hw _) | exact quiet_more (hw _)))
    go_wp2_with fail
    go_ret
    exact ⟨rfl, (by first | exact below_drewN HB.out _ | exact below_drewN (below_drewN HB.out _) _)⟩
  · have hd : decide (n ≤ (x i).marked) = false := by simpa using h1
    by_cases h2 : n < (x i).high
    · have hd2 : decide (n < (x i).high) = true := by simpa using h2
      have hw := fun W => when_is (b := true) (n := 181) (r := elderD (x i) n) (by unfold elderD; rw [if_pos (.inr h2)]; rfl) W
      generalize elderD (x i) n = r at hw ⊢
      go_enter Tryd.func83, Tryd.ntmps83
      go_wp2_with fail
      go_quiet (fail)
      go_wp2_with fail
      go_quiet ((go_at_call 91; first | exact Calls.quiet_of_same (hw _) | exact quiet_again (hw _) | exact quiet_more (hw _)))
      go_wp2_with fail
      go_ret
      exact ⟨rfl, (by first | exact below_drewN HB.out _ | exact below_drewN (below_drewN HB.out _) _)⟩
    · have hd2 : decide (n < (x i).high) = false := by simpa using h2
      have hw := fun W => when_is (b := false) (n := 181) (r := elderD (x i) n) (by unfold elderD; rw [if_neg (by omega)]; rfl) W
      generalize elderD (x i) n = r at hw ⊢
      go_enter Tryd.func83, Tryd.ntmps83
      go_wp2_with fail
      go_quiet (fail)
      go_wp2_with fail
      go_quiet ((go_at_call 91; first | exact Calls.quiet_of_same (hw _) | exact quiet_again (hw _) | exact quiet_more (hw _)))
      go_wp2_with fail
      go_ret
      exact ⟨rfl, (by first | exact below_drewN HB.out _ | exact below_drewN (below_drewN HB.out _) _)⟩
set_option maxRecDepth 100000 in
set_option maxHeartbeats 1000000 in
theorem besideOpen_any (h : TX w g v x mp) (hi : i < 4) (ep n s k va : Int) (hn : In64 n) :
    Calls Tryd.prog 84 #[.pointer (some ⟨g, 0, none⟩), .agg #[.int .i64 ep, .int .i64 (i : Int), .int .i64 n, .int .i64 s, .int .i64 k, .int .i64 va]] w fun e w' => e = .returned (.int .i64 (besideO (x i) n)) ∧ Below w.heap.size w w' := by
  obtain ⟨c0, c1, c2, c3, c4⟩ := h.cells hi
  have hg := h.blk.lt
  have HO := Lib.hid (h.om i hi)
  clear h
  have HB := Lib.hid ((Below.refl w.heap.size w).alloc (Nat.le_refl _) (.cells #[.int .i64 ep, .int .i64 (i : Int), .int .i64 n, .int .i64 s, .int .i64 k, .int .i64 va] 45))
  have hoo : ∀ q, Calls Tryd.prog 94 #[.pointer (some ⟨g, 1 + i * 5, none⟩), .int .i64 n] ((w.alloc (.cells #[.int .i64 ep, .int .i64 (i : Int), .int .i64 n, .int .i64 s, .int .i64 k, .int .i64 va] 45)).drewN q) fun e w' => e = .returned (.bool (other (x i).opens n)) ∧ w' = (w.alloc (.cells #[.int .i64 ep, .int .i64 (i : Int), .int .i64 n, .int .i64 s, .int .i64 k, .int .i64 va] 45)).drewN q := fun q =>
    (otherOpen_any (g := g) (o := 1 + i * 5) ((below_drewN ((Below.refl w.heap.size w).alloc (Nat.le_refl _) (.cells #[.int .i64 ep, .int .i64 (i : Int), .int .i64 n, .int .i64 s, .int .i64 k, .int .i64 va] 45)) q).cell (p := ⟨g, 1 + i * 5 + 3, none⟩) hg |>.trans c3) (HO.out.grow _ q) hn).mono fun e w' ⟨h1, h2⟩ => ⟨h1, h2.symm⟩
  cases ho : other (x i).opens n
  case false =>
    rw [ho] at hoo
    have hw := fun W => when_is (b := false) (n := 182) (r := besideO (x i) n) (by unfold besideO; rw [ho]) W
    generalize besideO (x i) n = r at hw ⊢
    go_enter Tryd.func84, Tryd.ntmps84
    go_wp2_with fail
    go_quiet (first | (go_at_call 94; exact Calls.quiet_of_same (hoo _)) | (go_at_call 91; first | exact Calls.quiet_of_same (hw _) | exact quiet_again (hw _) | exact quiet_more (hw _)))
    go_wp2_with fail
    go_ret
    exact ⟨rfl, (by first | exact below_drewN HB.out _ | exact below_drewN (below_drewN HB.out _) _)⟩
  case true =>
    rw [ho] at hoo
    have hw := fun W => when_is (b := true) (n := 182) (r := besideO (x i) n) (by unfold besideO; rw [ho]) W
    generalize besideO (x i) n = r at hw ⊢
    go_enter Tryd.func84, Tryd.ntmps84
    go_wp2_with fail
    go_quiet (first | (go_at_call 94; exact Calls.quiet_of_same (hoo _)) | (go_at_call 91; first | exact Calls.quiet_of_same (hw _) | exact quiet_again (hw _) | exact quiet_more (hw _)))
    go_wp2_with fail
    go_ret
    exact ⟨rfl, (by first | exact below_drewN HB.out _ | exact below_drewN (below_drewN HB.out _) _)⟩
set_option maxRecDepth 100000 in
set_option maxHeartbeats 1000000 in
theorem doubleData_any (h : TX w g v x mp) (hi : i < 4) (ep n s k va : Int) (hn : In64 n) :
    Calls Tryd.prog 85 #[.pointer (some ⟨g, 0, none⟩), .agg #[.int .i64 ep, .int .i64 (i : Int), .int .i64 n, .int .i64 s, .int .i64 k, .int .i64 va]] w fun e w' => e = .returned (.int .i64 (doubleD (x i) n s)) ∧ Below w.heap.size w w' := by
  obtain ⟨c0, c1, c2, c3, c4⟩ := h.cells hi
  have hg := h.blk.lt
  have HO := Lib.hid (h.om i hi)
  clear h
  have HB := Lib.hid ((Below.refl w.heap.size w).alloc (Nat.le_refl _) (.cells #[.int .i64 ep, .int .i64 (i : Int), .int .i64 n, .int .i64 s, .int .i64 k, .int .i64 va] 45))
  by_cases h1 : n = (x i).high
  · have hd := eqb h1
    have H1 := Lib.hid h1
    clear h1
    by_cases h2 : s < (x i).next
    · have hd2 : decide (s < (x i).next) = true := by simpa using h2
      have hw := fun W => when_is (b := true) (n := 183) (r := doubleD (x i) n s) (by unfold doubleD; rw [if_pos ⟨H1.out, h2⟩]; rfl) W
      generalize doubleD (x i) n s = r at hw ⊢
      go_enter Tryd.func85, Tryd.ntmps85
      go_wp2_with fail
      go_quiet (fail)
      go_wp2_with fail
      go_quiet ((go_at_call 91; first | exact Calls.quiet_of_same (hw _) | exact quiet_again (hw _) | exact quiet_more (hw _)))
      go_wp2_with fail
      go_ret
      exact ⟨rfl, (by first | exact below_drewN HB.out _ | exact below_drewN (below_drewN HB.out _) _)⟩
    · have hd2 : decide (s < (x i).next) = false := by simpa using h2
      have hw := fun W => when_is (b := false) (n := 183) (r := doubleD (x i) n s) (by unfold doubleD; rw [if_neg (fun q => h2 q.2)]; rfl) W
      generalize doubleD (x i) n s = r at hw ⊢
      go_enter Tryd.func85, Tryd.ntmps85
      go_wp2_with fail
      go_quiet (fail)
      go_wp2_with fail
      go_quiet ((go_at_call 91; first | exact Calls.quiet_of_same (hw _) | exact quiet_again (hw _) | exact quiet_more (hw _)))
      go_wp2_with fail
      go_ret
      exact ⟨rfl, (by first | exact below_drewN HB.out _ | exact below_drewN (below_drewN HB.out _) _)⟩
  · have hd := neb h1
    have hw := fun W => when_is (b := false) (n := 183) (r := doubleD (x i) n s) (by unfold doubleD; rw [if_neg (fun q => h1 q.1)]; rfl) W
    generalize doubleD (x i) n s = r at hw ⊢
    go_enter Tryd.func85, Tryd.ntmps85
    go_wp2_with fail
    go_quiet (fail)
    go_wp2_with fail
    go_quiet ((go_at_call 91; first | exact Calls.quiet_of_same (hw _) | exact quiet_again (hw _) | exact quiet_more (hw _)))
    go_wp2_with fail
    go_ret
    exact ⟨rfl, (by first | exact below_drewN HB.out _ | exact below_drewN (below_drewN HB.out _) _)⟩
end
end Go.Proofs.YthcphoijanebhaaDoor
