/-
  The document's answers: two writers the same, another transaction open, why an entry is refused. Conditions: bounds.
-/
import Derived.Test.YtafgcafhgnfegaaRefW
import Derived.Test.YtafgcafhgnfegaaChecks
namespace Go.Proofs.Ytafgcafhgnfegaa
open Go.RowKit Go.Maps
set_option linter.unusedVariables false
section
variable {w w' : World} {X Y : Nat → Prop} {A B : Option Addr} {n c d : Nat} {l : List Ent} {e : Ent} {o : List (Int × Nat)}
set_option maxRecDepth 100000 in
theorem neq54 (a b : Int) (w : World) : (binOp .neq 54 (.agg #[.int .i64 a, .int .i64 b]) (.agg #[.int .i64 a, .int .i64 b])).run Try.prog w = .ok (.bool false) w := by
  have e : (Op.equalIn 10000 54 (.agg #[.int .i64 a, .int .i64 b]) (.agg #[.int .i64 a, .int .i64 b])).run Try.prog w = .ok true w := by
    have hS : Try.prog.underlying 54 = some (.struct (Try.prog.fieldsOf 54)) := by kernel_rfl
    have hp : Try.prog.stoodInHeld 54 = false := by kernel_rfl
    rw [show (10000 : Nat) = 9999 + 1 from rfl, run_equalIn_agg w 9999 54 _ _ hS hp]
    have u2 := Try.underlying2
    have u3 := Try.underlying3
    have a2 := Try.isAgg2
    have a3 := Try.isAgg3
    have z2 := Try.sizeOf2
    have z3 := Try.sizeOf3
    simp only [Program.fieldsOf, Try.underlying54]
    go_simp
  rw [run_neq_struct, e]; rfl
theorem guard54 : Try.prog.eqGuardType Try.prog.depth 54 = false := by kernel_rfl
theorem Rd.op {i : Nat} {p : Int × Nat} (h : Rd w X 2 A n (opsOf o)) (hp : o[i]? = some p) : ∃ ad, A = some ad ∧ w.cell? (ad.add (i * 2)) = some (.int .i64 p.1) ∧ w.cell? ⟨(ad.add (i * 2)).block, (ad.add (i * 2)).off + 1, none⟩ = some (.int .i64 (p.2 : Int)) := by
  obtain ⟨ad, e, _, _, h0, h1⟩ := h.load (i := i) (cs := opA p) (by unfold opsOf; rw [List.getElem?_map, hp]; rfl)
  exact ⟨ad, e, h0 _ rfl, h1 0 _ rfl⟩
set_option maxRecDepth 100000 in
set_option maxHeartbeats 4000000 in
theorem sameWriter_yes (hi nx mk : Int) (h1 : Rd w X 2 A o.length (opsOf o)) (h2 : Rd w Y 2 B o.length (opsOf o)) (hl : o.length ≤ 5000) :
    Calls Try.prog 29 #[.agg #[.int .i64 hi, .int .i64 nx, .int .i64 mk, .slice A o.length c], .agg #[.int .i64 hi, .int .i64 nx, .int .i64 mk, .slice B o.length d]] w fun r w' => r = .returned (.bool true) ∧ Below w.heap.size w w' := by
  have b0 : (hi != hi) = false := by simp
  have b1 : (nx != nx) = false := by simp
  have b2 : (mk != mk) = false := by simp
  have b3 : ((o.length : Int) != (o.length : Int)) = false := by simp
  have hb := ((Below.refl w.heap.size w).alloc (Nat.le_refl _) (.cells #[.int .i64 hi, .int .i64 nx, .int .i64 mk, .slice A o.length c] 41)).alloc (by simp) (.cells #[.int .i64 hi, .int .i64 nx, .int .i64 mk, .slice B o.length d] 41)
  have k1 : Blk ((w.alloc (.cells #[.int .i64 hi, .int .i64 nx, .int .i64 mk, .slice A o.length c] 41)).alloc (.cells #[.int .i64 hi, .int .i64 nx, .int .i64 mk, .slice B o.length d] 41)) w.heap.size 41 #[.int .i64 hi, .int .i64 nx, .int .i64 mk, .slice A o.length c] := (Blk.new w 41 _).alloc _
  have k2 : Blk ((w.alloc (.cells #[.int .i64 hi, .int .i64 nx, .int .i64 mk, .slice A o.length c] 41)).alloc (.cells #[.int .i64 hi, .int .i64 nx, .int .i64 mk, .slice B o.length d] 41)) (w.heap.size + 1) 41 #[.int .i64 hi, .int .i64 nx, .int .i64 mk, .slice B o.length d] := by
    have := Blk.new (w.alloc (.cells #[.int .i64 hi, .int .i64 nx, .int .i64 mk, .slice A o.length c] 41)) 41 #[.int .i64 hi, .int .i64 nx, .int .i64 mk, .slice B o.length d]
    simpa using this
  have HB := Lib.hid hb
  have HK := Lib.hid (And.intro k1 k2)
  have HR1 := Lib.hid (h1.below hb)
  have HR2 := Lib.hid (h2.below hb)
  clear hb k1 k2 h1 h2
  go_enter Try.func29, Try.ntmps29
  go_wp2_with fail
  generalize (w.alloc (.cells #[.int .i64 hi, .int .i64 nx, .int .i64 mk, .slice A o.length c] 41)).alloc (.cells #[.int .i64 hi, .int .i64 nx, .int .i64 mk, .slice B o.length d] 41) = w2 at *
  go_loopw [5] (fun i wv => ∃ k q : Nat, k ≤ o.length ∧ i = .int .i64 k ∧ wv = w2.drewN q) (fun i _ => o.length - (iOf i).toNat)
  case atStart => exact ⟨0, 0, by omega, rfl, rfl⟩
  case round =>
    obtain ⟨k, q, hk, rfl, rfl⟩ := hrel
    have x3 : w2.cell? ⟨w.heap.size, 3, none⟩ = some (.slice A o.length c) := HK.out.1.cell 3
    have y3 : w2.cell? ⟨w.heap.size + 1, 3, none⟩ = some (.slice B o.length d) := HK.out.2.cell 3
    by_cases hlt : k < o.length
    case neg =>
      have hd1 : decide (k < o.length) = false := by simpa using hlt
      go_wp2_with fail
      go_ret
      exact ⟨rfl, below_drewN HB.out _⟩
    case pos =>
    obtain ⟨p, hp⟩ : ∃ p, o[k]? = some p := ⟨_, List.getElem?_eq_getElem hlt⟩
    have hd1 : decide (k < o.length) = true := by simpa using hlt
    obtain ⟨a1, rfl, c0, c1⟩ := HR1.out.op hp
    obtain ⟨a2, rfl, d0, d1⟩ := HR2.out.op hp
    have hq := neq54 p.1 (p.2 : Int)
    clear hp
    go_wp2_with fail
    go_quiet (fail)
    go_wp2_with fail
    go_roundw
    case rel => exact ⟨k + 1, _, by omega, by go_num, (by first | rfl | rw [World.drewN_drewN])⟩
    case measure => simp [iOf]; omega
theorem other_take {k : Nat} {p : Int × Nat} (h : o[k]? = some p) (num : Int) : other (o.take (k + 1)) num = (other (o.take k) num || decide (p.1 ≠ num)) := by
  unfold other
  rw [List.take_add_one, h, List.any_append]
  simp
theorem other_found {k : Nat} {p : Int × Nat} (h : o[k]? = some p) {num : Int} (hp : p.1 ≠ num) : other o num = true := by
  unfold other
  rw [List.any_eq_true]
  exact ⟨p, List.mem_of_getElem? h, decide_eq_true hp⟩
set_option maxRecDepth 100000 in
set_option maxHeartbeats 4000000 in
theorem refOther_any (hi nx mk num : Int) (h : Rd w X 2 A o.length (opsOf o)) (hl : o.length ≤ 5000) : Calls Try.prog 45 #[.agg #[.int .i64 hi, .int .i64 nx, .int .i64 mk, .slice A o.length c], .int .i64 num] w fun r w' => r = .returned (.bool (other o num)) ∧ Below w.heap.size w w' := by
  have hb := (Below.refl w.heap.size w).alloc (Nat.le_refl _) (.cells #[.int .i64 hi, .int .i64 nx, .int .i64 mk, .slice A o.length c] 41)
  have k1 := Blk.new w 41 #[.int .i64 hi, .int .i64 nx, .int .i64 mk, .slice A o.length c]
  have HR := Lib.hid (h.below hb)
  have HB := Lib.hid hb
  have HK := Lib.hid k1
  clear hb k1 h
  go_enter Try.func45, Try.ntmps45
  go_wp2_with fail
  generalize w.alloc (.cells #[.int .i64 hi, .int .i64 nx, .int .i64 mk, .slice A o.length c] 41) = w2 at *
  go_loop [5] (fun i => ∃ k : Nat, k ≤ o.length ∧ i = .int .i64 k ∧ Hid (other (o.take k) num = false)) (fun i => o.length - (iOf i).toNat)
  case atStart => exact ⟨0, by omega, rfl, Lib.hid rfl⟩
  case round =>
    obtain ⟨k, hk, rfl, HO⟩ := hrel
    have x3 : w2.cell? ⟨w.heap.size, 3, none⟩ = some (.slice A o.length c) := HK.out.cell 3
    by_cases hlt : k < o.length
    case neg =>
      have hd1 : decide (k < o.length) = false := by simpa using hlt
      have H : Hid (other o num = false) := Lib.hid (by have := HO.out; rwa [List.take_of_length_le (by omega)] at this)
      go_wp2_with fail
      go_ret
      exact ⟨ret_bool H.out.symm, HB.out⟩
    case pos =>
    obtain ⟨p, hp⟩ : ∃ p, o[k]? = some p := ⟨_, List.getElem?_eq_getElem hlt⟩
    have hd1 : decide (k < o.length) = true := by simpa using hlt
    obtain ⟨a1, rfl, c0, c1⟩ := HR.out.op hp
    by_cases h1 : p.1 = num
    case pos =>
      have H : Hid (other (o.take (k + 1)) num = false) := Lib.hid (by rw [other_take hp, HO.out]; simp [h1])
      have hb1 := eqn h1
      clear h1 hp
      go_wp2_with fail
      go_round
      case rel => exact ⟨k + 1, by omega, by go_num, H⟩
      case measure => simp [iOf]; omega
    case neg =>
      have H : Hid (other o num = true) := Lib.hid (other_found hp h1)
      have hb1 := nen h1
      clear h1 hp
      go_wp2_with fail
      go_ret
      exact ⟨ret_bool H.out.symm, HB.out⟩
end
end Go.Proofs.Ytafgcafhgnfegaa
