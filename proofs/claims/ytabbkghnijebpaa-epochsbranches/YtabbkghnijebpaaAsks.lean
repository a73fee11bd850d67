/-
  Why a log can't be asked; what Last, Fits, End and Cut answer. Conditions: bounds.
-/
import Derived.Test.YtabbkghnijebpaaMany
namespace Go.Proofs.Ytabbkghnijebpaa
open Go.RowKit
/-- A log can be asked for an epoch and a number. -/
def Can (E : Nat → Int) (n : Nat) (ep m : Int) : Prop := 0 ≤ ep ∧ 0 ≤ m ∧ May E n
instance (E : Nat → Int) (n : Nat) (ep m : Int) : Decidable (Can E n ep m) := by unfold Can; infer_instance
def askE (E : Nat → Int) (n : Nat) (ep m : Int) : Int := if Can E n ep m then 0 else 2
set_option maxRecDepth 100000 in
set_option maxHeartbeats 4000000 in
theorem asked_any {w : World} {X : Nat → Prop} {A : Option Addr} {n c : Nat} {f : Nat → Int × Int} (h : Lg w X A n f) (hc : n ≤ 1000000000) (ep m : Int) :
    Calls Try.prog 26 #[.slice A n c, .int .i64 ep, .int .i64 m] w fun e w' => e = .returned (.int .i64 (askE (fun i => (f i).1) n ep m)) ∧ Below w.heap.size w w' := by
  have hcall := may_any (c := c) h hc
  clear h
  go_enter Try.func26, Try.ntmps26
  go_wp2_with fail
  refine wp_scope_jumps 0 (fun a' w' => (∃ u0 u1 u2 u3 u4 u5 u6 u7 u8 u9 u10 u11 u12 u13 u14 u15 : Value, a' = { tmps := #[u0, u1, u2, u3, u4, u5, u6, u7, u8, u9, u10, u11, u12, u13, u14, u15], defers := [] }) ∧ Hid (¬ Can (fun i => (f i).1) n ep m) ∧ Below w.heap.size w w') (fun _ _ => 0) rfl ?_ ?_
  · by_cases h1 : ep < 0
    case pos =>
      have h1' : decide (ep < 0) = true := by simpa using h1
      go_wp2_with fail
      go_step3
      refine ⟨rfl, ⟨_, _, _, _, _, _, _, _, _, _, _, _, _, _, _, _, rfl⟩, Lib.hid (fun h => by have := h.1; omega), Below.refl _ _⟩
    case neg =>
    have h1' : decide (ep < 0) = false := by simpa using h1
    by_cases h2 : m < 0
    case pos =>
      have h2' : decide (m < 0) = true := by simpa using h2
      go_wp2_with fail
      go_step3
      refine ⟨rfl, ⟨_, _, _, _, _, _, _, _, _, _, _, _, _, _, _, _, rfl⟩, Lib.hid (fun h => by have := h.2.1; omega), Below.refl _ _⟩
    case neg =>
    have h2' : decide (m < 0) = false := by simpa using h2
    by_cases h3 : May (fun i => (f i).1) n
    case pos =>
      have h3' : decide (May (fun i => (f i).1) n) = true := by simpa using h3
      rw [h3'] at hcall
      have HE : Hid (askE (fun i => (f i).1) n ep m = 0) := Lib.hid (by unfold askE; rw [if_pos ⟨by omega, by omega, h3⟩])
      clear h3'
      go_wp2_with fail
      refine hcall.mono ?_
      rintro e w2 ⟨rfl, hb2⟩
      go_wp2_with fail
      simp only [Exit.jump]
      go_ret
      exact ⟨by rw [HE.out]; rfl, hb2⟩
    case neg =>
      have h3' : decide (May (fun i => (f i).1) n) = false := by simpa using h3
      rw [h3'] at hcall
      have HE := Lib.hid h3
      clear h3 h3'
      go_wp2_with fail
      refine hcall.mono ?_
      rintro e w2 ⟨rfl, hb2⟩
      go_wp2_with fail
      go_step3
      refine ⟨rfl, ⟨_, _, _, _, _, _, _, _, _, _, _, _, _, _, _, _, rfl⟩, Lib.hid (fun h => HE.out h.2.2), hb2⟩
  · rintro a' w' ⟨⟨u0, u1, u2, u3, u4, u5, u6, u7, u8, u9, u10, u11, u12, u13, u14, u15, rfl⟩, hm, hb⟩
    have HE : Hid (askE (fun i => (f i).1) n ep m = 2) := Lib.hid (by unfold askE; rw [if_neg hm.out])
    go_wp2_with fail
    simp only [Exit.jump]
    go_ret
    exact ⟨by rw [HE.out]; rfl, hb⟩
theorem ask_yes {E : Nat → Int} {n : Nat} {ep m : Int} (h : Can E n ep m) : askE E n ep m = 0 := by unfold askE; rw [if_pos h]
theorem ask_no {E : Nat → Int} {n : Nat} {ep m : Int} (h : ¬ Can E n ep m) : askE E n ep m = 2 := by unfold askE; rw [if_neg h]
set_option maxRecDepth 100000 in
set_option maxHeartbeats 4000000 in
theorem Last_any {w : World} {X : Nat → Prop} {A : Option Addr} {n c : Nat} {f : Nat → Int × Int} (h : Lg w X A n f) (hc : n ≤ 1000000000) :
    Calls Try.prog 13 #[.slice A n c] w fun e w' => e = .returned (.tuple #[.int .i64 (if May (fun i => (f i).1) n then lastTo (fun i => (f i).1) n else 0), .int .i64 (askE (fun i => (f i).1) n 0 0)]) ∧ Below w.heap.size w w' := by
  have hcall := asked_any (c := c) h hc 0 0
  by_cases hm : May (fun i => (f i).1) n
  case pos =>
    rw [ask_yes ⟨by omega, by omega, hm⟩] at hcall ⊢
    rw [if_pos hm]
    go_enter Try.func13, Try.ntmps13
    go_wp2_with fail
    refine hcall.mono ?_
    rintro e w2 ⟨rfl, hb2⟩
    have hl := last_any (c := c) (h.below hb2) hc
    go_wp2_with fail
    refine hl.mono ?_
    rintro e w3 ⟨rfl, rfl⟩
    go_wp2_with fail
    go_ret2
    exact ⟨rfl, hb2⟩
  case neg =>
    rw [ask_no (fun h => hm h.2.2)] at hcall ⊢
    rw [if_neg hm]
    go_enter Try.func13, Try.ntmps13
    go_wp2_with fail
    refine hcall.mono ?_
    rintro e w2 ⟨rfl, hb2⟩
    go_wp2_with fail
    go_ret2
    exact ⟨rfl, hb2⟩
set_option maxRecDepth 100000 in
set_option maxHeartbeats 4000000 in
theorem Fits_any {w : World} {X : Nat → Prop} {A : Option Addr} {n c : Nat} {f : Nat → Int × Int} (h : Lg w X A n f) (hc : n ≤ 1000000000) (hnc : n ≤ c) (m ep : Int) :
    Calls Try.prog 20 #[.slice A n c, .int .i64 m, .int .i64 ep] w fun e w' => e = .returned (.tuple #[.bool (decide (Can (fun i => (f i).1) n ep m ∧ Fits (fun i => (f i).1) n m.toNat ep)), .int .i64 (askE (fun i => (f i).1) n ep m)]) ∧ Below w.heap.size w w' := by
  have hcall := asked_any (c := c) h hc ep m
  by_cases hm : Can (fun i => (f i).1) n ep m
  case pos =>
    rw [ask_yes hm] at hcall ⊢
    have hE : decide (Can (fun i => (f i).1) n ep m ∧ Fits (fun i => (f i).1) n m.toNat ep) = decide (Fits (fun i => (f i).1) n m.toNat ep) := by simp [hm]
    rw [hE]
    go_enter Try.func20, Try.ntmps20
    go_wp2_with fail
    refine hcall.mono ?_
    rintro e w2 ⟨rfl, hb2⟩
    have hl := fits_any (c := c) (h.below hb2) hc hnc m hm.2.1 ep
    go_wp2_with fail
    refine hl.mono ?_
    rintro e w3 ⟨rfl, rfl⟩
    go_wp2_with fail
    go_ret2
    exact ⟨rfl, hb2⟩
  case neg =>
    rw [ask_no hm] at hcall ⊢
    have hE : decide (Can (fun i => (f i).1) n ep m ∧ Fits (fun i => (f i).1) n m.toNat ep) = false := by simp [hm]
    rw [hE]
    go_enter Try.func20, Try.ntmps20
    go_wp2_with fail
    refine hcall.mono ?_
    rintro e w2 ⟨rfl, hb2⟩
    go_wp2_with fail
    go_ret2
    exact ⟨rfl, hb2⟩
set_option maxRecDepth 100000 in
set_option maxHeartbeats 4000000 in
theorem End_any {w : World} {X : Nat → Prop} {A : Option Addr} {n c : Nat} {f : Nat → Int × Int} (h : Lg w X A n f) (hc : n ≤ 1000000000) (hnc : n ≤ c) (ep : Int) :
    Calls Try.prog 18 #[.slice A n c, .int .i64 ep] w fun e w' => e = .returned (.tuple #[.int .i64 (if Can (fun i => (f i).1) n ep 0 then lastTo (fun i => (f i).1) (nab (fun i => (f i).1) ep n) else 0), .int .i64 (if Can (fun i => (f i).1) n ep 0 then (nab (fun i => (f i).1) ep n : Int) else 0), .int .i64 (askE (fun i => (f i).1) n ep 0)]) ∧ Below w.heap.size w w' := by
  have hcall := asked_any (c := c) h hc ep 0
  by_cases hm : Can (fun i => (f i).1) n ep 0
  case pos =>
    rw [ask_yes hm] at hcall ⊢
    rw [if_pos hm, if_pos hm]
    go_enter Try.func18, Try.ntmps18
    go_wp2_with fail
    refine hcall.mono ?_
    rintro e w2 ⟨rfl, hb2⟩
    have hl := end_any (c := c) (h.below hb2) hc hnc hm.2.2.2 ep
    go_wp2_with fail
    refine hl.mono ?_
    rintro e w3 ⟨rfl, hb3⟩
    go_wp2_with fail
    go_ret3
    exact ⟨rfl, hb2.trans (hb3.mono hb2.size)⟩
  case neg =>
    rw [ask_no hm] at hcall ⊢
    rw [if_neg hm, if_neg hm]
    go_enter Try.func18, Try.ntmps18
    go_wp2_with fail
    refine hcall.mono ?_
    rintro e w2 ⟨rfl, hb2⟩
    go_wp2_with fail
    go_ret3
    exact ⟨rfl, hb2⟩
set_option maxRecDepth 100000 in
set_option maxHeartbeats 4000000 in
theorem Cut_any {w : World} {X : Nat → Prop} {A : Option Addr} {n c : Nat} {f : Nat → Int × Int} (h : Lg w X A n f) (hc : n ≤ 1000000000) (ep m : Int) :
    Calls Try.prog 21 #[.slice A n c, .int .i64 ep, .int .i64 m] w fun e w' => e = .returned (.tuple #[.int .i64 (if Can (fun i => (f i).1) n ep m then ((min (nab (fun i => (f i).1) ep n) m.toNat : Nat) : Int) else 0), .int .i64 (askE (fun i => (f i).1) n ep m)]) ∧ Below w.heap.size w w' := by
  have hcall := asked_any (c := c) h hc ep m
  by_cases hm : Can (fun i => (f i).1) n ep m
  case pos =>
    rw [ask_yes hm] at hcall ⊢
    rw [if_pos hm]
    generalize hk : min (nab (fun i => (f i).1) ep n) m.toNat = k
    go_enter Try.func21, Try.ntmps21
    go_wp2_with fail
    refine hcall.mono ?_
    rintro e w2 ⟨rfl, hb2⟩
    have hl := cut_any (c := c) (h.below hb2) hc hm.2.2.2 ep m hm.2.1
    rw [hk] at hl
    clear hk
    go_wp2_with fail
    refine hl.mono ?_
    rintro e w3 ⟨rfl, hb3⟩
    go_wp2_with fail
    go_ret2
    exact ⟨rfl, hb2.trans (hb3.mono hb2.size)⟩
  case neg =>
    rw [ask_no hm] at hcall ⊢
    rw [if_neg hm]
    go_enter Try.func21, Try.ntmps21
    go_wp2_with fail
    refine hcall.mono ?_
    rintro e w2 ⟨rfl, hb2⟩
    go_wp2_with fail
    go_ret2
    exact ⟨rfl, hb2⟩
end Go.Proofs.Ytabbkghnijebpaa
