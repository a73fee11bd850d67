/-
  For all parts waystationlaw01.SumsParts returns true: sums.Of answers the sum of all parts, one behind the other, and of no iterator 0. Conditions: none.
-/
import Derived.Test.YtnlokmamflpffaaOf
import Derived.WalkKit
import Derived.ProofKit
import Derived.OpenShut
import Derived.ChangeOld
import Derived.Below
import Derived.Deep.Matrix
namespace Go.Proofs.Ytnlokmamflpffaa.sumsParts
open Go.ChangeShapes Go.WideShapes Go.ChangeAt Go.RowKit
set_option linter.unusedVariables false
theorem flat_len : ∀ (qs : List Part), (∀ p : Part, p ∈ qs → p.2.2.2.length ≤ 500) → ((qs.map (fun p : Part => p.2.2.2)).flatten).length ≤ 500 * qs.length
  | [], _ => by simp
  | q :: qs, h => by
    have h1 := flat_len qs (fun p hp => h p (List.mem_cons_of_mem _ hp))
    have h2 := h q List.mem_cons_self
    simp only [List.map_cons, List.flatten_cons, List.length_append, List.length_cons]
    omega
set_option maxHeartbeats 2000000 in
set_option maxRecDepth 100000 in
theorem walk (A : Option Addr) (N C : Nat) (ps : List Part) (w : World) (hp : Parts w w.heap.size A N ps) (hN : N ≤ 9223372036854775807) (hlen : ∀ p : Part, p ∈ ps → p.2.1 ≤ 9223372036854775807) :
    Calls Try.prog 5 #[.slice A N C] w fun e w' => e = .returned (.bool true) ∧ Below w.heap.size w w' := by
  have hmf : ∀ (fn : Fn) (first cap : Array Value) (w : World), (Instr.makeFunc fn first cap).run Try.prog w = .ok (.func fn first cap) w := fun _ _ _ _ => rfl
  have hbx : Blk (w.alloc (.cells #[.slice A N C] 29)) w.heap.size 29 #[.slice A N C] := Blk.new _ _ _
  have hb1 : Below w.heap.size w (w.alloc (.cells #[.slice A N C] 29)) := (Below.refl _ _).alloc (Nat.le_refl _) _
  have hz1 : w.heap.size < (w.alloc (.cells #[.slice A N C] 29)).heap.size := by simp
  have hc1 : (w.alloc (.cells #[.slice A N C] 29)).cell? ⟨w.heap.size, 0, none⟩ = some (.slice A N C) := hbx.cell 0
  by_cases h50 : 50 < N
  · go_enter Try.func5, Try.ntmps5
    go_wp2_with fail
    refine (works_any _).mono ?_
    rintro e w' ⟨rfl, hb⟩
    go_wp2_with fail
    go_ret
    exact ⟨rfl, hb1.trans (hb.mono (by omega))⟩
  go_enter Try.func5, Try.ntmps5
  go_wp2_with fail
  generalize w.alloc (.cells #[.slice A N C] 29) = w1 at *
  have hp1 := (hp.below hb1)
  clear hp
  go_loopw [3, 4] (fun v i wr => ∃ k : Nat, k ≤ N ∧ i = .int .i64 k ∧ Own wr w1.heap.size v ((ps.take k).map (fun p : Part => p.2.2.2)).flatten ∧ Below w1.heap.size w1 wr ∧ (∀ (j : Nat) (p : Part), j < k → ps[j]? = some p → p.2.1 ≤ 500)) (fun _ i _ => N - (intOf i).toNat)
  case atStart => exact ⟨0, by omega, rfl, Own.nil _ _, Below.refl _ _, fun j p hj => by omega⟩
  case round =>
    obtain ⟨k, hk, rfl, ho, hbr, h5⟩ := hrel
    have H5 := Lib.hid h5
    clear h5
    have hcr : wr.cell? ⟨w.heap.size, 0, none⟩ = some (.slice A N C) := (hbr.cell (p := ⟨w.heap.size, 0, none⟩) hz1).trans hc1
    have hpr := hp1.below (hbr.mono (Nat.le_of_lt hz1))
    have hzr := hbr.size
    by_cases hlt : k < N
    · obtain ⟨ad, p, rfl, had, hpk, hpm, hcp, hbp⟩ := hpr.at_ hlt
      have hle := hlen p hpm
      have HPK := Lib.hid hpk
      clear hpk
      by_cases hbig : 500 < p.2.1
      · go_wp2_with fail
        refine (works_any wr).mono ?_
        rintro e w' ⟨rfl, hb⟩
        go_wp2_with fail
        go_ret
        exact ⟨rfl, (hb1.trans (hbr.mono (Nat.le_of_lt hz1))).trans (hb.mono (by omega))⟩
      · have hfl : (((ps.take k).map (fun p : Part => p.2.2.2)).flatten).length < 1000000 := by
          have hf := flat_len (ps.take k) (fun p hpm => by
            obtain ⟨j, hj, rfl⟩ := List.getElem_of_mem hpm
            have hj' : j < k := by rw [List.length_take] at hj; omega
            rw [List.getElem_take]
            rw [(hpr.2.2 _ (List.getElem_mem _)).1]
            exact H5.out j _ hj' (List.getElem?_eq_getElem _))
          rw [List.length_take] at hf
          omega
        go_wp2_with (at_builtin; refine stop ?_)
        refine Stop.go (wpList_append_want _ (by rfl) _ _ (by rfl) w1.heap.size _ _ (by rfl) ho w.heap.size p.1 p.2.1 p.2.2.1 p.2.2.2 (by rfl) hbp hfl (by omega) hzr ?_)
        intro v2 w2 ho2 hb2
        go_wp2_with fail
        go_roundw
        case rel =>
          refine ⟨k + 1, by omega, by go_num, ?_, hbr.trans hb2, ?_⟩
          · rw [take_snoc_some HPK.out, List.map_append, List.flatten_append]
            simpa using ho2
          · intro j q hj hq
            by_cases hjk : j < k
            · exact H5.out j q hjk hq
            · have : j = k := by omega
              subst this
              rw [HPK.out] at hq
              injection hq with hq
              subst hq
              omega
        case measure => simp [intOf]; omega
    · obtain rfl : k = N := by omega
      have h500 : ∀ p : Part, p ∈ ps → p.2.1 ≤ 500 := by
        intro p hpm
        obtain ⟨j, hj, rfl⟩ := List.getElem_of_mem hpm
        exact H5.out j _ (by have := hpr.1; omega) (List.getElem?_eq_getElem hj)
      have HT : Hid (ps.take k = ps) := Lib.hid (List.take_of_length_le (by have := hpr.1; omega))
      rw [HT.out] at ho
      have hfl : ((ps.map (fun p : Part => p.2.2.2)).flatten).length < 1000000 := by
        have hf := flat_len ps (fun p hpm => by rw [(hpr.2.2 p hpm).1]; exact h500 p hpm)
        have := hpr.1
        omega
      obtain ⟨A3, q3, c3, rfl, hq3⟩ := ho.form2
      have hq3' : q3 < 1000000 := by omega
      clear hq3
      go_wp2_with fail
      refine (of_any w.heap.size A k C ps wr (by omega) hcr ⟨hpr.1, fun h => by obtain ⟨ad, e, hl, hc⟩ := hpr.2.1 h; exact ⟨ad, e, by omega, hc⟩, fun p hpm => (hpr.2.2 p hpm).more (by omega)⟩ (by omega) h500).mono ?_
      rintro e w4 ⟨rfl, hb4⟩
      have hz4 := hb4.size
      have ho4 := ho.below hb4 (Nat.le_refl _)
      go_wp2_with fail
      refine (refSum_any A3 q3 c3 _ _ w4 ho4.bys hq3').mono ?_
      rintro e w5 ⟨rfl, rfl⟩
      go_wp2_with fail
      refine (of_none w4).mono ?_
      rintro e w5 ⟨rfl, hb5⟩
      have hz5 := hb5.size
      go_wp2_with fail
      refine (works_any w5).mono ?_
      rintro e w6 ⟨rfl, hb6⟩
      go_wp2_with fail
      go_ret
      exact ⟨rfl, (((hb1.trans (hbr.mono (Nat.le_of_lt hz1))).trans (hb4.mono (by omega))).trans (hb5.mono (by omega))).trans (hb6.mono (by omega))⟩

theorem own : ownKnob Try.prog.godebug = none := by kernel_rfl
theorem laidOut : laidOutB Try.prog = true := by kernel_rfl
theorem cells22 : Try.prog.cellsOf 22 = 1 := by kernel_rfl
theorem cells5 : Try.prog.cellsOf 5 = 1 := by kernel_rfl
def mkPart (a : Option Addr) (n c : Nat) (l : List UInt8) : Part := (a, n, c, l)
/-- What was read of the parts, as the walk wants it. -/
theorem parts_of {W : World} {a : Addr} {len cap : Nat} {A : Nat → Option Addr} {L C : Nat → Nat} {Z : Nat → List Int} (hl : len ≤ cap)
    (h : ∀ r, r < cap → W.cell? (a.add r) = some (.slice (A r) (L r) (C r)) ∧ L r ≤ C r ∧ C r ≤ maxLen ∧ (Z r).length = C r ∧ (∀ n ∈ Z r, (Lit.int .u8 n).wf = true) ∧ (A r = none → C r = 0) ∧
        ∀ a', A r = some a' → 0 ≤ a'.block ∧ ∀ c, c < C r → W.cell? (a'.add c) = some (.int .u8 ((Z r).getD c 0))) :
    ∃ ps : List Part, Parts W W.heap.size (some a) len ps ∧ ∀ p : Part, p ∈ ps → p.2.1 ≤ 9223372036854775807 := by
  have each : ∀ r, r < cap → ∃ l : List UInt8, Bys W W.heap.size (A r) (L r) l := by
    intro r hr
    obtain ⟨_, h1, h2, h3, h4, h5, h6⟩ := h r hr
    have hrow : IsRow .u8 W (A r) (L r) (C r) (Z r) := by
      cases hA : A r with
      | none =>
        have hC := h5 hA
        refine .inl ⟨rfl, by omega, hC, List.eq_nil_of_length_eq_zero (by omega)⟩
      | some x => exact .inr ⟨x, rfl, h1, h2, h3, fun i hi => (h6 x hA).2 i (by omega), h4⟩
    obtain ⟨l, hb, _⟩ := hrow.bys
    exact ⟨l, hb⟩
  obtain ⟨f, hf⟩ := Go.Deep.choose_lt each
  refine ⟨(List.range len).map (fun r => mkPart (A r) (L r) (C r) (f r)), ⟨by simp, fun h0 => ⟨a, rfl, ?_, fun j p hp => ?_⟩, fun p hp => ?_⟩, fun p hp => ?_⟩
  · have := block_lt_of_cell (h 0 (by omega)).1
    rwa [block_of_add] at this
  · have hj : j < len := by
      have := (List.getElem?_eq_some_iff.1 hp).1
      simpa using this
    rw [List.getElem?_map, List.getElem?_range hj] at hp
    injection hp with hp
    subst hp
    exact (h j (by omega)).1
  · obtain ⟨r, hr, rfl⟩ := List.mem_map.1 hp
    exact hf r (by have := List.mem_range.1 hr; omega)
  · obtain ⟨r, hr, rfl⟩ := List.mem_map.1 hp
    have h1 := (h r (by have := List.mem_range.1 hr; omega)).2.1
    have h2 := (h r (by have := List.mem_range.1 hr; omega)).2.2.1
    unfold maxLen at h2
    show L r ≤ _
    omega
set_option maxRecDepth 100000 in
theorem lifted (os : Os) (started : os.Started) (H : Type) (enc : TypeId × Value → H) :
    ReturnsInHanded {} Try.checked os 5 .any (Rows.sumsPartsSpec.pre6 enc Try.prog Try.f5 Rows.sumsPartsRow.domain false) (Rows.sumsPartsSpec.post enc Try.prog Try.f5 false true false false) := by
  refine returnsInHanded_of_change (C := Try.checked) own started (by kernel_rfl) Try.func5
    (ChangeSpec.witness6 (enc := enc) (C := Try.checked) false ⟨#[], #[.slice none 0 0], []⟩ 8 (by kernel_rfl) (by kernel_rfl) (by kernel_rfl) (by kernel_rfl)) ?_
  intro W base args ds gs before hval0 hW hcnd _
  have hval : ∀ (j : Nat) t v, Try.f5.params[j]? = some t → args[j]? = some v → Value.okWide Try.prog W .any base t v := hval0
  have hW' := hW
  obtain ⟨p, q, hA0, hV, rfl, hfz, hnd⟩ := hW
  have hA : DataW.TrodAll enc Try.prog W 0 (fun _ => true) true Try.f5.params.toList args.toList ds p := hA0
  rw [Try.params5] at hA hval
  obtain ⟨v0, vs0, d0, ds0, p0, q0, hargs, rfl, rfl, h0, r0⟩ := trodAll_cons hA
  obtain ⟨rfl, rfl, rfl⟩ := trodAll_nil r0
  obtain rfl : args = #[v0] := by cases args; simp_all
  obtain ⟨rfl, rfl⟩ := trodVars_none hV
  obtain ⟨a0, len0, cap0, rfl⟩ := okWide_slice Try.underlying29 (hval 0 29 v0 rfl rfl)
  have k0 := h0
  have lt0 : ∀ x ∈ p0, x.block < W.heap.size := by obtain ⟨m, hm⟩ := k0; exact DataW.trod_lt m _ _ _ hm
  obtain ⟨ps, hps, hbd, hlen⟩ : ∃ ps : List Part, Parts W W.heap.size a0 len0 ps ∧ len0 ≤ 9223372036854775807 ∧ ∀ p : Part, p ∈ ps → p.2.1 ≤ 9223372036854775807 := by
    obtain ⟨fuel, hf⟩ := h0
    rcases Go.Deep.open_int_rows Try.underlying29 Try.underlying22 Try.underlying5 cells22 cells5 hf with ⟨hcs, _⟩ | ⟨a, len, cap, A, L, C, Z, hcs, _, hl, hm, _, hrows⟩
    · simp [Value.cells] at hcs
      obtain ⟨rfl, rfl, rfl⟩ := hcs
      exact ⟨[], ⟨rfl, fun h => absurd h (by omega), fun p hp => by cases hp⟩, by omega, fun p hp => by cases hp⟩
    · simp [Value.cells] at hcs
      obtain ⟨rfl, rfl, rfl⟩ := hcs
      obtain ⟨ps, h1, h2⟩ := parts_of hl hrows
      exact ⟨ps, h1, by unfold maxLen at hm; omega, h2⟩
  clear hA0 hval0
  refine (walk a0 len0 cap0 ps W hps hbd hlen).mono fun e W' ⟨he, bel⟩ => ?_
  subst he
  exact ⟨_, rfl, _, _, _, [], _, [], hW', trodAll_mk1 (shut_bool Try.underlying4 _), (trodAll_cons_mk (Below.trod laidOut (by kernel_rfl) (of_decide_eq_true (by kernel_rfl)) k0 bel lt0) trodAll_mk0), rfl, bel.frame _, fun h => by cases h⟩

theorem over : Rows.sumsPartsRow.holds Try.pinned (OpenSpec.ofChange Rows.sumsPartsSpec) :=
  OpenClaim.holds_of_wide 5 Try.f5 rfl rfl rfl rfl rfl rfl rfl ⟨rfl, rfl, rfl, rfl, rfl⟩ rfl rfl rfl rfl rfl (by kernel_rfl) Try.func5 (by kernel_rfl)
    (of_decide_eq_true (by kernel_rfl)) (by unfold Func.isWrapper; first | (rw [if_pos (by decide +kernel)]; kernel_rfl) | (rw [if_neg (by decide +kernel)]; exact ⟨rfl, rfl⟩))
    (fun os started H enc _ => lifted os started H enc)

theorem proved : Rows.SumsPartsSaid := over
end Go.Proofs.Ytnlokmamflpffaa.sumsParts
namespace Go.Proofs.Ytnlokmamflpffaa
theorem sumsParts_holds : Rows.SumsPartsSaid := sumsParts.proved
#print axioms sumsParts_holds
end Go.Proofs.Ytnlokmamflpffaa
