/-
  What refuses an entry whoever wrote it; the lists of what refuses. Conditions: bounds.
-/
import Derived.Test.YthcphoijanebhaaDoorTabOf2
import Derived.Test.YthcphoijanebhaaDoorRefuse
import Derived.Test.YthcphoijanebhaaDoorRefuse2
namespace Go.Proofs.YthcphoijanebhaaDoor
open Go.RowKit Go.Maps
set_option linter.unusedVariables false
section
variable {w : World} {g : Nat}
theorem noTable_yes (h : w.cell? ⟨g, 21, none⟩ = some (.bool true)) (e : Ent) : Calls Tryd.prog 79 #[.pointer (some ⟨g, 0, none⟩), e.val] w fun r w' => r = .returned (.int .i64 0) ∧ Below w.heap.size w w' := by
  have hg := block_lt_of_cell h
  have HB := Lib.hid ((Below.refl w.heap.size w).alloc (Nat.le_refl _) (.cells e.cells 45))
  have hc : (w.alloc (.cells e.cells 45)).cell? ⟨g, 21, none⟩ = some (.bool true) := ((Below.refl w.heap.size w).alloc (Nat.le_refl _) (.cells e.cells 45)).cell (p := ⟨g, 21, none⟩) hg |>.trans h
  have HC := Lib.hid hc
  clear hc h
  unfold Ent.val
  unfold Ent.cells at *
  go_enter Tryd.func79, Tryd.ntmps79
  go_wp2_with fail
  refine (there_yes HC.out).mono ?_
  rintro r w1 ⟨rfl, rfl⟩
  go_wp2_with fail
  refine (when_any _ _ _).mono ?_
  rintro r w1 ⟨rfl, rfl⟩
  go_wp2_with fail
  go_ret
  exact ⟨rfl, HB.out⟩
theorem noTable_no (e : Ent) : Calls Tryd.prog 79 #[.pointer none, e.val] w fun r w' => r = .returned (.int .i64 1) ∧ Below w.heap.size w w' := by
  have HB := Lib.hid ((Below.refl w.heap.size w).alloc (Nat.le_refl _) (.cells e.cells 45))
  unfold Ent.val
  unfold Ent.cells at *
  go_enter Tryd.func79, Tryd.ntmps79
  go_wp2_with fail
  refine (there_no _).mono ?_
  rintro r w1 ⟨rfl, rfl⟩
  go_wp2_with fail
  refine (when_any _ _ _).mono ?_
  rintro r w1 ⟨rfl, rfl⟩
  go_wp2_with fail
  go_ret
  exact ⟨rfl, HB.out⟩
theorem noEntry_any (p : Value) (e : Ent) : Calls Tryd.prog 80 #[p, e.val] w fun r w' => r = .returned (.int .i64 (errOf e)) ∧ Below w.heap.size w w' := by
  have HB := Lib.hid ((Below.refl w.heap.size w).alloc (Nat.le_refl _) (.cells e.cells 45))
  have hE : Hid (.agg #[.int .i64 e.epoch, .int .i64 e.id, .int .i64 e.num, .int .i64 e.seq, .int .i64 e.kind, .int .i64 e.value] = e.val) := Lib.hid rfl
  unfold Ent.val
  unfold Ent.cells at *
  go_enter Tryd.func80, Tryd.ntmps80
  go_wp2_with fail
  rw [hE.out]
  refine (check_any e _).mono ?_
  rintro r w1 ⟨rfl, hb⟩
  have HB1 := Lib.hid (HB.out.trans (hb.mono (by simp)))
  clear hb hE
  go_wp2_with fail
  go_ret
  exact ⟨rfl, HB1.out⟩
def fullE (n : Nat) : Int := if 4096 ≤ n then 3 else 0
theorem full_any {A : Option Addr} {n c : Nat} (h : w.cell? ⟨g, 0, none⟩ = some (.slice A n c)) (e : Ent) : Calls Tryd.prog 81 #[.pointer (some ⟨g, 0, none⟩), e.val] w fun r w' => r = .returned (.int .i64 (fullE n)) ∧ Below w.heap.size w w' := by
  have hg := block_lt_of_cell h
  have HB := Lib.hid ((Below.refl w.heap.size w).alloc (Nat.le_refl _) (.cells e.cells 45))
  unfold Ent.val
  unfold Ent.cells at *
  by_cases h1 : 4096 ≤ n
  · have hw := fun W => when_is (b := true) (n := 3) (r := fullE n) (by unfold fullE; rw [if_pos h1]; rfl) W
    have hd : decide ((4096 : Int) ≤ (n : Int)) = true := by simpa using (by omega : (4096 : Int) ≤ (n : Int))
    generalize fullE n = q at hw ⊢
    clear h1
    go_enter Tryd.func81, Tryd.ntmps81
    go_wp2_with fail
    refine (hw _).mono ?_
    rintro r w1 ⟨rfl, rfl⟩
    go_wp2_with fail
    go_ret
    exact ⟨rfl, HB.out⟩
  · have hw := fun W => when_is (b := false) (n := 3) (r := fullE n) (by unfold fullE; rw [if_neg h1]; rfl) W
    have hd : decide ((4096 : Int) ≤ (n : Int)) = false := by simpa using (by omega : ¬ (4096 : Int) ≤ (n : Int))
    generalize fullE n = q at hw ⊢
    clear h1
    go_enter Tryd.func81, Tryd.ntmps81
    go_wp2_with fail
    refine (hw _).mono ?_
    rintro r w1 ⟨rfl, rfl⟩
    go_wp2_with fail
    go_ret
    exact ⟨rfl, HB.out⟩
/-- The epoch of the last entry, 0 of none. -/
def lastE (l : List Ent) : Int := match l.getLast? with | some e => e.epoch | none => 0
theorem lastE_nil : lastE [] = 0 := rfl
theorem lastE_snoc (l : List Ent) (e : Ent) : lastE (l ++ [e]) = e.epoch := by unfold lastE; rw [List.getLast?_concat]
theorem lastE_at {l : List Ent} {e : Ent} (h : l[l.length - 1]? = some e) : lastE l = e.epoch := by unfold lastE; rw [List.getLast?_eq_getElem?, h]
theorem epoch_any {X : Nat → Prop} {A : Option Addr} {n c : Nat} {l : List Ent} (h : Rd w X 6 A n (cellsOf l)) (hn : n ≤ 1000000) : Calls Tryd.prog 93 #[.slice A n c] w fun r w' => r = .returned (.int .i64 (lastE l)) ∧ w = w' := by
  have hlen := h.lenE
  by_cases h0 : n = 0
  · subst h0
    obtain rfl : l = [] := List.eq_nil_of_length_eq_zero hlen
    clear h hlen
    go_enter Tryd.func93, Tryd.ntmps93
    go_wp2_with fail
    go_ret
    exact ⟨rfl, rfl⟩
  · obtain ⟨e, hat⟩ : ∃ e, l[l.length - 1]? = some e := ⟨_, List.getElem?_eq_getElem (by omega)⟩
    have HL := Lib.hid (lastE_at hat)
    rw [hlen] at hat
    obtain ⟨ad, rfl, hadl, -, c0, -⟩ := h.ent hat
    have HL0 := Lib.hid h0
    have hd : ((n : Int) == 0) = false := by simpa using (by omega : ¬ (n : Int) = 0)
    have e1 : IntKind.i64.wrap ((n : Int) - 1) = ((n - 1 : Nat) : Int) := by rw [IntWalk.i64_in _ (by omega)]; omega
    have e2 : (n : Int) - 1 = ((n - 1 : Nat) : Int) := by omega
    have b1 : (n : Int) - 1 < (n : Int) := by omega
    have b2 : 0 ≤ (n : Int) - 1 := by omega
    have b3 : ((n : Int) - 1).toNat = n - 1 := by omega
    have b4 : n - 1 < n := by omega
    clear h hlen h0 hat
    go_enter Tryd.func93, Tryd.ntmps93
    go_wp2_with fail
    go_ret
    rw [HL.out]
    exact ⟨rfl, rfl⟩
def fallsE (l : List Ent) (e : Ent) : Int := if e.epoch < lastE l then 180 else 0
set_option maxRecDepth 100000 in
set_option maxHeartbeats 1000000 in
theorem falls_any {X : Nat → Prop} {A : Option Addr} {n c : Nat} {l : List Ent} (h : w.cell? ⟨g, 0, none⟩ = some (.slice A n c)) (hr : Rd w X 6 A n (cellsOf l)) (hn : n ≤ 1000000) (e : Ent) : Calls Tryd.prog 82 #[.pointer (some ⟨g, 0, none⟩), e.val] w fun r w' => r = .returned (.int .i64 (fallsE l e)) ∧ Below w.heap.size w w' := by
  have hg := block_lt_of_cell h
  have HB := Lib.hid ((Below.refl w.heap.size w).alloc (Nat.le_refl _) (.cells e.cells 45))
  have hcall : ∀ q, Calls Tryd.prog 93 #[.slice A n c] ((w.alloc (.cells e.cells 45)).drewN q) fun r w' => r = .returned (.int .i64 (lastE l)) ∧ w' = (w.alloc (.cells e.cells 45)).drewN q := fun q =>
    (epoch_any (hr.below (below_drewN ((Below.refl w.heap.size w).alloc (Nat.le_refl _) (.cells e.cells 45)) q)) hn).mono fun r w' ⟨h1, h2⟩ => ⟨h1, h2.symm⟩
  unfold Ent.val
  unfold Ent.cells at *
  by_cases h1 : e.epoch < lastE l
  · have hw := fun W => when_is (b := true) (n := 180) (r := fallsE l e) (by unfold fallsE; rw [if_pos h1]; rfl) W
    have hd : decide (e.epoch < lastE l) = true := by simpa using h1
    generalize fallsE l e = q at hw ⊢
    clear h1 hr
    go_enter Tryd.func82, Tryd.ntmps82
    go_wp2_with fail
    go_quiet (first | (go_at_call 93; exact Calls.quiet_of_same (hcall _)) | (go_at_call 91; first | exact Calls.quiet_of_same (hw _) | exact quiet_again (hw _) | exact quiet_more (hw _)))
    go_wp2_with fail
    go_ret
    exact ⟨rfl, (by first | exact below_drewN HB.out _ | exact below_drewN (below_drewN HB.out _) _)⟩
  · have hw := fun W => when_is (b := false) (n := 180) (r := fallsE l e) (by unfold fallsE; rw [if_neg h1]; rfl) W
    have hd : decide (e.epoch < lastE l) = false := by simpa using h1
    generalize fallsE l e = q at hw ⊢
    clear h1 hr
    go_enter Tryd.func82, Tryd.ntmps82
    go_wp2_with fail
    go_quiet (first | (go_at_call 93; exact Calls.quiet_of_same (hcall _)) | (go_at_call 91; first | exact Calls.quiet_of_same (hw _) | exact quiet_again (hw _) | exact quiet_more (hw _)))
    go_wp2_with fail
    go_ret
    exact ⟨rfl, (by first | exact below_drewN HB.out _ | exact below_drewN (below_drewN HB.out _) _)⟩
/-- A list of functions. -/
def fcells (fs : List Nat) : List (Array Value) := fs.map fun f => #[.func (.func f) #[] #[]]
def NewF (w : World) (fs : List Nat) (e : Ending) (w' : World) : Prop := ∃ A c, e = .returned (.slice A fs.length c) ∧ Rd w' No 1 A fs.length (fcells fs) ∧ Below w.heap.size w w'
theorem rd_blk {X : Nat → Prop} {t k : Nat} {cs : Array Value} {css : List (Array Value)} (hb : Blk w g t cs) (hs : Sized k css) (hf : cs.toList = flatA css) (hX : ¬ X g) : Rd w X k (some ⟨g, 0, none⟩) css.length css :=
  ⟨rfl, hs, fun _ => ⟨_, rfl, hb.lt, hX, fun j u hu => by
    rw [← hf, Array.getElem?_toList] at hu
    have : (⟨g, 0, none⟩ : Addr).add j = ⟨g, j, none⟩ := by unfold Addr.add; split <;> simp_all
    rw [this, hb.cell j]
    exact hu⟩⟩
theorem sizedF (fs : List Nat) : Sized 1 (fcells fs) := fun c hc => by
  obtain ⟨f, _, rfl⟩ := List.mem_map.1 hc
  exact ⟨rfl, by simp [Value.oneCell']⟩
theorem flatF (fs : List Nat) : flatA (fcells fs) = fs.map fun f => .func (.func f) #[] #[] := by
  unfold flatA fcells
  induction fs with
  | nil => rfl
  | cons f fs ih => simp only [List.map_cons, List.flatMap_cons, ih]; rfl
theorem rd_fs {t : Nat} {fs : List Nat} (hb : Blk w g t (fs.map fun f => Value.func (.func f) #[] #[]).toArray) : Rd w No 1 (some ⟨g, 0, none⟩) fs.length (fcells fs) := by
  have := rd_blk (X := No) hb (sizedF fs) (by rw [flatF]) (fun h => h)
  simpa [fcells] using this
theorem byLog_any : Calls Tryd.prog 73 #[] w (NewF w [79, 80, 81, 82]) := by
  go_enter Tryd.func73, Tryd.ntmps73
  go_wp2_with fail
  go_ret
  exact ⟨_, _, rfl, rd_fs (fs := [79, 80, 81, 82]) (Blk.new w 121 _), (Below.refl _ _).alloc (Nat.le_refl _) _⟩
def byW (e : Ent) : List Nat := if e.id = -1 then [] else if e.kind = 1 then [83, 84, 85, 86] else [87, 88]
set_option maxHeartbeats 1000000 in
theorem byWriter_any (e : Ent) : Calls Tryd.prog 74 #[e.val] w (NewF w (byW e)) := by
  have HB := Lib.hid ((Below.refl w.heap.size w).alloc (Nat.le_refl _) (.cells e.cells 45))
  by_cases h1 : e.id = -1
  · have HW : Hid (byW e = []) := Lib.hid (by unfold byW; rw [if_pos h1])
    have hb := eqb h1
    clear h1
    unfold Ent.val
    unfold Ent.cells at *
    go_enter Tryd.func74, Tryd.ntmps74
    go_wp2_with fail
    go_ret
    rw [HW.out]
    exact ⟨_, _, rfl, Rd.none_, HB.out⟩
  · by_cases h2 : e.kind = 1
    · have HW : Hid (byW e = [83, 84, 85, 86]) := Lib.hid (by unfold byW; rw [if_neg h1, if_pos h2])
      have hb := neb h1
      have hb2 := eqb h2
      clear h1 h2
      unfold Ent.val
      unfold Ent.cells at *
      go_enter Tryd.func74, Tryd.ntmps74
      go_wp2_with fail
      go_ret
      rw [HW.out]
      exact ⟨_, _, rfl, by have := rd_fs (fs := [83, 84, 85, 86]) (Blk.new (w.alloc (.cells #[.int .i64 e.epoch, .int .i64 e.id, .int .i64 e.num, .int .i64 e.seq, .int .i64 e.kind, .int .i64 e.value] 45)) 121 _); simpa using this, HB.out.alloc (by simp) _⟩
    · have HW : Hid (byW e = [87, 88]) := Lib.hid (by unfold byW; rw [if_neg h1, if_neg h2])
      have hb := neb h1
      have hb2 := neb h2
      clear h1 h2
      unfold Ent.val
      unfold Ent.cells at *
      go_enter Tryd.func74, Tryd.ntmps74
      go_wp2_with fail
      go_ret
      rw [HW.out]
      exact ⟨_, _, rfl, by have := rd_fs (fs := [87, 88]) (Blk.new (w.alloc (.cells #[.int .i64 e.epoch, .int .i64 e.id, .int .i64 e.num, .int .i64 e.seq, .int .i64 e.kind, .int .i64 e.value] 45)) 121 _); simpa using this, HB.out.alloc (by simp) _⟩
end
end Go.Proofs.YthcphoijanebhaaDoor
