/-
  What refuses an entry: the other reasons. Nothing is assumed.
-/
import Derived.Test.YthcphoijanebhaaDoorRefuse0
namespace Go.Proofs.YthcphoijanebhaaDoor
open Go.RowKit Go.Maps
set_option linter.unusedVariables false
section
variable {w : World} {g : Nat} {v : Value} {x : Nat → Wr} {mp : Nat → Nat} {i : Nat}
set_option maxRecDepth 100000 in
set_option maxHeartbeats 1000000 in
theorem notNext_any (h : TX w g v x mp) (hi : i < 4) (ep n s k va : Int) (hn : In64 n) :
    Calls Tryd.prog 86 #[.pointer (some ⟨g, 0, none⟩), .agg #[.int .i64 ep, .int .i64 (i : Int), .int .i64 n, .int .i64 s, .int .i64 k, .int .i64 va]] w fun e w' => e = .returned (.int .i64 (notNext (x i) n s)) ∧ Below w.heap.size w w' := by
  obtain ⟨c0, c1, c2, c3, c4⟩ := h.cells hi
  have hg := h.blk.lt
  have HO := Lib.hid (h.om i hi)
  clear h
  have HB := Lib.hid ((Below.refl w.heap.size w).alloc (Nat.le_refl _) (.cells #[.int .i64 ep, .int .i64 (i : Int), .int .i64 n, .int .i64 s, .int .i64 k, .int .i64 va] 45))
  by_cases h1 : (x i).high < n
  · have hd : decide ((x i).high < n) = true := by simpa using h1
    by_cases h2 : s = 0
    · have hd2 := eqn h2
      have H2 := Lib.hid h2
      clear h2
      have hw := fun W => when_is (b := false) (n := 184) (r := notNext (x i) n s) (by unfold notNext nextOf; rw [if_pos h1, if_pos H2.out]; rfl) W
      generalize notNext (x i) n s = r at hw ⊢
      go_enter Tryd.func86, Tryd.ntmps86
      go_wp2_with fail
      go_quiet (fail)
      go_wp2_with fail
      go_quiet (fail)
      go_wp2_with (go_at_call 91; refine (hw _).mono ?_; rintro e w9 ⟨rfl, rfl⟩)
      go_ret
      exact ⟨rfl, (by first | exact below_drewN HB.out _ | exact below_drewN (below_drewN HB.out _) _)⟩
    · have hd2 := nen h2
      have hw := fun W => when_is (b := true) (n := 184) (r := notNext (x i) n s) (by unfold notNext nextOf; rw [if_pos h1, if_neg h2]; rfl) W
      generalize notNext (x i) n s = r at hw ⊢
      go_enter Tryd.func86, Tryd.ntmps86
      go_wp2_with fail
      go_quiet (fail)
      go_wp2_with fail
      go_quiet (fail)
      go_wp2_with (go_at_call 91; refine (hw _).mono ?_; rintro e w9 ⟨rfl, rfl⟩)
      go_ret
      exact ⟨rfl, (by first | exact below_drewN HB.out _ | exact below_drewN (below_drewN HB.out _) _)⟩
  · have hd : decide ((x i).high < n) = false := by simpa using h1
    by_cases h2 : s = (x i).next
    · have hd2 := eqn h2
      have H2 := Lib.hid h2
      clear h2
      have hw := fun W => when_is (b := false) (n := 184) (r := notNext (x i) n s) (by unfold notNext nextOf; rw [if_neg h1, if_pos H2.out]; rfl) W
      generalize notNext (x i) n s = r at hw ⊢
      go_enter Tryd.func86, Tryd.ntmps86
      go_wp2_with fail
      go_quiet (fail)
      go_wp2_with fail
      go_quiet (fail)
      go_wp2_with (go_at_call 91; refine (hw _).mono ?_; rintro e w9 ⟨rfl, rfl⟩)
      go_ret
      exact ⟨rfl, (by first | exact below_drewN HB.out _ | exact below_drewN (below_drewN HB.out _) _)⟩
    · have hd2 := nen h2
      have hw := fun W => when_is (b := true) (n := 184) (r := notNext (x i) n s) (by unfold notNext nextOf; rw [if_neg h1, if_neg h2]; rfl) W
      generalize notNext (x i) n s = r at hw ⊢
      go_enter Tryd.func86, Tryd.ntmps86
      go_wp2_with fail
      go_quiet (fail)
      go_wp2_with fail
      go_quiet (fail)
      go_wp2_with (go_at_call 91; refine (hw _).mono ?_; rintro e w9 ⟨rfl, rfl⟩)
      go_ret
      exact ⟨rfl, (by first | exact below_drewN HB.out _ | exact below_drewN (below_drewN HB.out _) _)⟩
set_option maxRecDepth 100000 in
set_option maxHeartbeats 1000000 in
theorem doubleMarker_any (h : TX w g v x mp) (hi : i < 4) (ep n s k va : Int) (hn : In64 n) :
    Calls Tryd.prog 87 #[.pointer (some ⟨g, 0, none⟩), .agg #[.int .i64 ep, .int .i64 (i : Int), .int .i64 n, .int .i64 s, .int .i64 k, .int .i64 va]] w fun e w' => e = .returned (.int .i64 (doubleM (x i) n)) ∧ Below w.heap.size w w' := by
  obtain ⟨c0, c1, c2, c3, c4⟩ := h.cells hi
  have hg := h.blk.lt
  have HO := Lib.hid (h.om i hi)
  clear h
  have HB := Lib.hid ((Below.refl w.heap.size w).alloc (Nat.le_refl _) (.cells #[.int .i64 ep, .int .i64 (i : Int), .int .i64 n, .int .i64 s, .int .i64 k, .int .i64 va] 45))
  by_cases h1 : n ≤ (x i).marked
  · have hd : decide (n ≤ (x i).marked) = true := by simpa using h1
    have hw := fun W => when_is (b := true) (n := 183) (r := doubleM (x i) n) (by unfold doubleM; rw [if_pos h1]; rfl) W
    generalize doubleM (x i) n = r at hw ⊢
    go_enter Tryd.func87, Tryd.ntmps87
    go_wp2_with fail
    go_quiet ((go_at_call 91; first | exact Calls.quiet_of_same (hw _) | exact quiet_again (hw _) | exact quiet_more (hw _)))
    go_wp2_with fail
    go_ret
    exact ⟨rfl, (by first | exact below_drewN HB.out _ | exact below_drewN (below_drewN HB.out _) _)⟩
  · have hd : decide (n ≤ (x i).marked) = false := by simpa using h1
    have hw := fun W => when_is (b := false) (n := 183) (r := doubleM (x i) n) (by unfold doubleM; rw [if_neg h1]; rfl) W
    generalize doubleM (x i) n = r at hw ⊢
    go_enter Tryd.func87, Tryd.ntmps87
    go_wp2_with fail
    go_quiet ((go_at_call 91; first | exact Calls.quiet_of_same (hw _) | exact quiet_again (hw _) | exact quiet_more (hw _)))
    go_wp2_with fail
    go_ret
    exact ⟨rfl, (by first | exact below_drewN HB.out _ | exact below_drewN (below_drewN HB.out _) _)⟩
set_option maxRecDepth 100000 in
set_option maxHeartbeats 1000000 in
theorem elderMarker_any (h : TX w g v x mp) (hi : i < 4) (ep n s k va : Int) (hn : In64 n) :
    Calls Tryd.prog 88 #[.pointer (some ⟨g, 0, none⟩), .agg #[.int .i64 ep, .int .i64 (i : Int), .int .i64 n, .int .i64 s, .int .i64 k, .int .i64 va]] w fun e w' => e = .returned (.int .i64 (elderM (x i) n)) ∧ Below w.heap.size w w' := by
  obtain ⟨c0, c1, c2, c3, c4⟩ := h.cells hi
  have hg := h.blk.lt
  have HO := Lib.hid (h.om i hi)
  clear h
  have HB := Lib.hid ((Below.refl w.heap.size w).alloc (Nat.le_refl _) (.cells #[.int .i64 ep, .int .i64 (i : Int), .int .i64 n, .int .i64 s, .int .i64 k, .int .i64 va] 45))
  have hoo : ∀ q, Calls Tryd.prog 94 #[.pointer (some ⟨g, 1 + i * 5, none⟩), .int .i64 n] ((w.alloc (.cells #[.int .i64 ep, .int .i64 (i : Int), .int .i64 n, .int .i64 s, .int .i64 k, .int .i64 va] 45)).drewN q) fun e w' => e = .returned (.bool (other (x i).opens n)) ∧ w' = (w.alloc (.cells #[.int .i64 ep, .int .i64 (i : Int), .int .i64 n, .int .i64 s, .int .i64 k, .int .i64 va] 45)).drewN q := fun q =>
    (otherOpen_any (g := g) (o := 1 + i * 5) ((below_drewN ((Below.refl w.heap.size w).alloc (Nat.le_refl _) (.cells #[.int .i64 ep, .int .i64 (i : Int), .int .i64 n, .int .i64 s, .int .i64 k, .int .i64 va] 45)) q).cell (p := ⟨g, 1 + i * 5 + 3, none⟩) hg |>.trans c3) (HO.out.grow _ q) hn).mono fun e w' ⟨h1, h2⟩ => ⟨h1, h2.symm⟩
  by_cases h1 : n < (x i).high
  · have hd : decide (n < (x i).high) = true := by simpa using h1
    have hw := fun W => when_is (b := true) (n := 181) (r := elderM (x i) n) (by unfold elderM; rw [if_pos (.inl h1)]; rfl) W
    generalize elderM (x i) n = r at hw ⊢
    go_enter Tryd.func88, Tryd.ntmps88
    go_wp2_with fail
    go_quiet (fail)
    go_wp2_with fail
    go_quiet (first | (go_at_call 94; first | exact Calls.quiet_of_same (hoo _) | exact quiet_again (hoo _) | exact quiet_more (hoo _)) | (go_at_call 91; first | exact Calls.quiet_of_same (hw _) | exact quiet_again (hw _) | exact quiet_more (hw _)))
    go_wp2_with fail
    go_ret
    exact ⟨rfl, (by first | exact below_drewN HB.out _ | exact below_drewN (below_drewN HB.out _) _)⟩
  · have hd : decide (n < (x i).high) = false := by simpa using h1
    cases ho : other (x i).opens n
    case false =>
      rw [ho] at hoo
      have hw := fun W => when_is (b := false) (n := 181) (r := elderM (x i) n) (by unfold elderM; rw [if_neg (by rw [ho]; simp; omega)]; rfl) W
      generalize elderM (x i) n = r at hw ⊢
      go_enter Tryd.func88, Tryd.ntmps88
      go_wp2_with fail
      go_quiet (fail)
      go_wp2_with fail
      go_quiet (first | (go_at_call 94; first | exact Calls.quiet_of_same (hoo _) | exact quiet_again (hoo _) | exact quiet_more (hoo _)) | (go_at_call 91; first | exact Calls.quiet_of_same (hw _) | exact quiet_again (hw _) | exact quiet_more (hw _)))
      go_wp2_with fail
      go_ret
      exact ⟨rfl, (by first | exact below_drewN HB.out _ | exact below_drewN (below_drewN HB.out _) _)⟩
    case true =>
      rw [ho] at hoo
      have hw := fun W => when_is (b := true) (n := 181) (r := elderM (x i) n) (by unfold elderM; rw [if_pos (.inr ho)]; rfl) W
      generalize elderM (x i) n = r at hw ⊢
      go_enter Tryd.func88, Tryd.ntmps88
      go_wp2_with fail
      go_quiet (fail)
      go_wp2_with fail
      go_quiet (first | (go_at_call 94; first | exact Calls.quiet_of_same (hoo _) | exact quiet_again (hoo _) | exact quiet_more (hoo _)) | (go_at_call 91; first | exact Calls.quiet_of_same (hw _) | exact quiet_again (hw _) | exact quiet_more (hw _)))
      go_wp2_with fail
      go_ret
      exact ⟨rfl, (by first | exact below_drewN HB.out _ | exact below_drewN (below_drewN HB.out _) _)⟩
end
end Go.Proofs.YthcphoijanebhaaDoor
