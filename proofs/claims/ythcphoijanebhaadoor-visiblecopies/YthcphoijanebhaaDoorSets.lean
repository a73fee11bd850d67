/-
  Whose an entry is; a set of transactions: what is asked of it and what comes to it. Nothing is assumed.
-/
import Derived.Test.YthcphoijanebhaaDoorPmap
import Derived.Test.YthcphoijanebhaaDoorRefuse0
namespace Go.Proofs.YthcphoijanebhaaDoor
open Go.RowKit Go.Maps
set_option linter.unusedVariables false
def Ent.key (e : Ent) : Int × Int := (e.id, e.num)
set_option maxRecDepth 100000 in
theorem equal83 {p q : Int × Int} (hp : In64P p) (hq : In64P q) (w : World) : (Op.equal 83 (pr p) (pr q)).run Tryd.prog w = .ok (decide (p = q)) w := by
  obtain ⟨r, h, hr⟩ := run_equal_deep w (m := 2) (by omega) (by kernel_rfl) wide83 (key_pr hp) (key_pr hq)
  rw [h]
  congr 1
  rw [Bool.eq_iff_iff, hr, decide_eq_true_eq]
  exact ⟨fun e => kl_inj hp hq e, fun e => by rw [e]⟩
theorem eql83 {p q : Int × Int} (hp : In64P p) (hq : In64P q) (w : World) : (binOp .eql 83 (pr p) (pr q)).run Tryd.prog w = .ok (.bool (decide (p = q))) w := by
  have := equal83 hp hq w
  unfold pr at this ⊢
  unfold Op.equal Op.maxDepth at this
  rw [run_eql_struct, this]; rfl
theorem neq83 {p q : Int × Int} (hp : In64P p) (hq : In64P q) (w : World) : (binOp .neq 83 (pr p) (pr q)).run Tryd.prog w = .ok (.bool (!(decide (p = q)))) w := by
  have := equal83 hp hq w
  unfold pr at this ⊢
  unfold Op.equal Op.maxDepth at this
  rw [run_neq_struct, this]; rfl
theorem guard83 : Tryd.prog.eqGuardType Tryd.prog.depth 83 = false := by kernel_rfl
theorem und83 : Tryd.prog.underlying 83 = some (.array 2 2) := by kernel_rfl
section
variable {w w' : World} {m n : Nat} {f : Int × Int → Option Nat} {p : Int × Int} {e : Ent}
set_option maxRecDepth 100000 in
set_option maxHeartbeats 1000000 in
theorem whose_any (e : Ent) (w : World) : Calls Tryd.prog 43 #[e.val] w fun r w' => r = .returned (pr e.key) ∧ Below w.heap.size w w' := by
  have HB := Lib.hid ((Below.refl w.heap.size w).alloc (Nat.le_refl _) (.cells e.cells 45))
  have HBX : Hid (Blk (w.alloc (.cells e.cells 45)) w.heap.size 45 e.cells) := Lib.hid (Blk.new w 45 _)
  unfold Ent.val
  unfold Ent.cells at HB HBX ⊢
  go_enter Tryd.func43, Tryd.ntmps43
  go_wp2_with fail
  have hx : Blk ((w.alloc (.cells #[.int .i64 e.epoch, .int .i64 e.id, .int .i64 e.num, .int .i64 e.seq, .int .i64 e.kind, .int .i64 e.value] 45)).alloc (.cells #[.int .i64 e.id, .int .i64 e.num] 83)) (w.heap.size + 1) 83 #[.int .i64 e.id, .int .i64 e.num] := by
    have := Blk.new (w.alloc (.cells #[.int .i64 e.epoch, .int .i64 e.id, .int .i64 e.num, .int .i64 e.seq, .int .i64 e.kind, .int .i64 e.value] 45)) 83 #[.int .i64 e.id, .int .i64 e.num]
    simpa using this
  exact bodyPost_ret (v := pr e.key) (results_cell_row (by rfl) _ _ (w.heap.size + 1) 83 _ (0, 0) _ (by rfl) hx und83 (by rfl) (by kernel_rfl)) rfl ⟨rfl, HB.out.alloc HB.out.size _⟩
/-- Has a set the transaction among the first so many? -/
def hasAt (f : Int × Int → Option Nat) (p : Int × Int) (k : Int) : Bool := match f p with
  | some a => decide ((a : Int) < k)
  | none => false
set_option maxRecDepth 100000 in
set_option maxHeartbeats 1000000 in
theorem has_any (h : PM w m n f) (hp : In64P p) (k : Int) : Calls Tryd.prog 42 #[.map (some m), pr p, .int .i64 k] w fun r w' => r = .returned (.bool (hasAt f p k)) ∧ Below w.heap.size w w' := by
  have HB := Lib.hid ((Below.refl w.heap.size w).alloc (Nat.le_refl _) (.cells #[.int .i64 p.1, .int .i64 p.2] 83))
  have h2 := (h.keepB (w' := w.alloc (.cells #[.int .i64 p.1, .int .i64 p.2] 83)) (Below.heap_alloc w _ m h.lt)).look_ok hp
  unfold pr at h2 ⊢
  cases hf : f p with
  | none =>
    have e : hasAt f p k = false := by unfold hasAt; rw [hf]
    rw [e]
    rw [hf] at h2
    simp only [Option.getD_none, Option.isSome_none] at h2
    go_enter Tryd.func42, Tryd.ntmps42
    go_wp2_with fail
    go_ret
    exact ⟨rfl, HB.out⟩
  | some a =>
    have e : hasAt f p k = decide ((a : Int) < k) := by unfold hasAt; rw [hf]
    rw [e]
    rw [hf] at h2
    simp only [Option.getD_some, Option.isSome_some] at h2
    go_enter Tryd.func42, Tryd.ntmps42
    go_wp2_with fail
    go_ret
    exact ⟨rfl, HB.out⟩
/-- What a set is behind a transaction that came. -/
def setF (f : Int × Int → Option Nat) (p : Int × Int) (v : Nat) : Int × Int → Option Nat := fun q => if q = p then some ((f p).getD v) else f q
theorem setF_there {f : Int × Int → Option Nat} {p : Int × Int} {a : Nat} (h : f p = some a) (v : Nat) : setF f p v = f := by
  funext q
  unfold setF
  split
  · rename_i e
    rw [e, h]; rfl
  · rfl
set_option maxRecDepth 100000 in
set_option maxHeartbeats 1000000 in
theorem add_any (h : PM w m n f) (hp : In64P p) (v : Nat) (hn : n < maxLen) : Calls Tryd.prog 64 #[.map (some m), pr p, .int .i64 (v : Int)] w fun r w' => r = .returned (.tuple #[]) ∧ PM w' m (n + 1) (setF f p v) ∧ Turn (fun b => b = m) w w' := by
  have hm := h.lt
  have hB := (h.keepB (w' := w.alloc (.cells #[.int .i64 p.1, .int .i64 p.2] 83)) (Below.heap_alloc w _ m h.lt))
  have h2 := hB.look_ok hp
  have HT : Hid (Turn (fun b => b = m) w (w.alloc (.cells #[.int .i64 p.1, .int .i64 p.2] 83))) := Lib.hid ((Turn.refl _ w).alloc _)
  have HH := Lib.hid hB
  cases hf : f p with
  | none =>
    have e : setF f p v = fun q => if q = p then some v else f q := by unfold setF; rw [hf]; rfl
    rw [e]
    obtain ⟨w', hrun, hpm, hg⟩ := hB.store hp v hn
    rw [hf] at h2
    simp only [Option.getD_none, Option.isSome_none] at h2
    unfold pr at h2 hrun ⊢
    have HF : Hid (PM w' m (n + 1) (fun q => if q = p then some v else f q) ∧ Turn (fun b => b = m) w w') := Lib.hid ⟨hpm, HT.out.trans (Turn.of_grown hg (fun r e => by injection e with e; exact e.symm)) (fun _ _ h => h)⟩
    clear hpm hg hB h hf
    go_enter Tryd.func64, Tryd.ntmps64
    go_wp2_with fail
    go_end0
    exact ⟨rfl, HF.out⟩
  | some a =>
    rw [setF_there hf]
    rw [hf] at h2
    simp only [Option.getD_some, Option.isSome_some] at h2
    unfold pr at h2 ⊢
    have HF : Hid (PM (w.alloc (.cells #[.int .i64 p.1, .int .i64 p.2] 83)) m (n + 1) f) := Lib.hid (by
      obtain ⟨D, ⟨es, clock, hb, F, hs, hD⟩, h2⟩ := hB
      exact ⟨D, ⟨es, clock, hb, F, by omega, hD⟩, h2⟩)
    clear hB h hf
    go_enter Tryd.func64, Tryd.ntmps64
    go_wp2_with fail
    go_end0
    exact ⟨rfl, HF.out, HT.out⟩
end
end Go.Proofs.YthcphoijanebhaaDoor
