/-
  For all bytes b waystationlaw01.SumsOpens returns true: sums.Open answers what the document's own Open answers, in new memory, and the bytes stay. Conditions: none.
-/
import Derived.Test.YtnlokmamflpffaaRefs
import Derived.WalkKit
import Derived.ProofKit
import Derived.OpenShut
import Derived.ShutString
import Derived.ChangeOld
import Derived.Below
namespace Go.Proofs.Ytnlokmamflpffaa.sumsOpens
open Go.ChangeShapes Go.WideShapes Go.ChangeAt Go.RowKit
open Go.ChangeMaps (open_string shut_string)
set_option linter.unusedVariables false

theorem own : ownKnob Try.prog.godebug = none := by kernel_rfl
theorem laidOut : laidOutB Try.prog = true := by kernel_rfl

theorem only_setCell {a w : World} {g : Nat} (h : a.grownBy w (some g)) (i : Nat) (u : Value) : a.grownBy (w.setCell ⟨g, i, none⟩ u) (some g) :=
  ⟨h.os, h.tape, h.output, by simpa [World.setCell] using h.size, fun j hj hne => (Below.heap_setCell w ⟨g, i, none⟩ u j (fun e => hne (by rw [e]))).trans (h.block j hj hne)⟩
/-- What holds at the head of each round of the loop that writes into x. -/
def Turning (W : World) (row : Option Nat) (lx : List UInt8) (k : Nat) (wr : World) : Prop :=
  W.grownBy wr row ∧ ∀ g, row = some g → ∃ cur, Blk wr g 5 cur ∧ ∀ j u, k ≤ j → lx[j]? = some u → cur[j]? = some (.int .u8 (u.toNat : Int))
theorem Turning.start {W : World} {base : Nat} {v : Value} {lx : List UInt8} (h : Own W base v lx) : Turning W v.ownBlock lx 0 W := by
  refine ⟨World.grownBy.refl W _, fun g hg => ?_⟩
  rcases h.2 with ⟨rfl, _⟩ | ⟨g', cap, cur, rfl, _, hh, _, _, _, htake⟩
  · cases hg
  · injection hg with hg
    have hg' : g' = g := hg
    subst hg'
    refine ⟨cur, hh, fun j u _ hu => ?_⟩
    have h1 : (cur.toList.take (lx.length * 1))[j]? = some (byteV u) := by rw [htake, List.getElem?_map, hu]; rfl
    rw [List.getElem?_take] at h1
    split at h1
    · rw [← Array.getElem?_toList]; exact h1
    · cases h1
theorem Turning.next {W wr : World} {g : Nat} {lx : List UInt8} {k : Nat} (h : Turning W (some g) lx k wr) (u : Value) : Turning W (some g) lx (k + 1) (wr.setCell ⟨g, k, none⟩ u) := by
  refine ⟨only_setCell h.1 k u, fun g' hg => ?_⟩
  injection hg with hg
  subst hg
  obtain ⟨cur, hb, hc⟩ := h.2 g rfl
  refine ⟨_, hb.set_ k u, fun j x hj hx => ?_⟩
  rw [Array.getElem?_setIfInBounds, if_neg (by omega)]
  exact hc j x (by omega) hx
theorem own_at_row {W : World} {base : Nat} {A : Option Addr} {n c : Nat} {l : List UInt8} (h : Own W base (.slice A n c) l) (hn : 0 < n) : ∃ g, A = some ⟨g, 0, none⟩ ∧ (Value.slice A n c).ownBlock = some g := by
  rcases h.2 with ⟨e, h0⟩ | ⟨g, cap, cur, e, _⟩
  · injection e with _ e2 _; omega
  · injection e with e1 _ _; subst e1; exact ⟨g, rfl, rfl⟩
theorem own_keep {w w' : World} {base B : Nat} {v : Value} {l : List UInt8} {row : Option Nat} (h : Own w base v l) (hg : w.grownBy w' row) (hr : ∀ g, row = some g → g < B) (hB : B ≤ base) : Own w' base v l := by
  refine World.ownsRow.kept h hg ?_
  cases hv : v.ownBlock with
  | none => exact .inl rfl
  | some k =>
    refine .inr (fun e => ?_)
    have h1 := World.ownsRow.lt h k hv
    have h2 := hr k e.symm
    omega
set_option maxHeartbeats 2000000 in
set_option maxRecDepth 100000 in
theorem walk (a0 : Option Addr) (len0 cap0 : Nat) (z0 : List Int) (w : World) (w0 : IsRow .u8 w a0 len0 cap0 z0) :
    Calls Try.prog 7 #[.slice a0 len0 cap0] w fun e w' => e = .returned (.bool true) ∧ Below w.heap.size w w' := by
  obtain ⟨l, hl, hc1, hc2⟩ := w0.bys
  clear w0
  by_cases hlong : 2000 < len0
  · unfold maxLen at hc2
    go_enter Try.func7, Try.ntmps7
    go_wp2_with fail
    refine (works_any w).mono ?_
    rintro e w' ⟨rfl, hb⟩
    go_wp2_with fail
    go_ret
    exact ⟨rfl, hb⟩
  have hln := hl.1
  have HL := Lib.hid hln
  clear hln
  have HC2 := Lib.hid hc2
  unfold maxLen at hc2
  go_enter Try.func7, Try.ntmps7
  go_wp2_with (at_builtin; refine stop ?_)
  refine Stop.go (wpList_append_want _ (by rfl) _ _ (by rfl) w.heap.size _ [] (by rfl) (own_empty _ _ (Nat.le_refl _)) w.heap.size a0 len0 cap0 l (by rfl) (hl.alloc (Nat.le_refl _) _) (by simp) (by omega) (le_alloc (Nat.le_refl _) _) ?_)
  intro v1 w1 ho1 hb1
  rw [List.nil_append] at ho1
  have hb1' : Below w.heap.size w w1 := ((Below.refl _ _).alloc (Nat.le_refl _) _).trans hb1
  have hz1 := hb1'.size
  clear hb1
  obtain ⟨A1, k1, c1, rfl, hk1⟩ := ho1.form2
  obtain ⟨hcap1, hcap2⟩ := ho1.cap
  have hk1' : k1 < 3000 := by rw [hk1, HL.out]; omega
  clear hk1
  have HCAP := Lib.hid hcap2
  clear hcap2
  have hm1 := ho1.bys
  go_wp2_with (at_builtin; refine stop ?_)
  refine (open_any A1 k1 c1 l w1 hm1 hcap1 HCAP.out (by omega)).mono ?_
  rintro e w2 ⟨hb2, vx, rfl, hox⟩
  generalize hE : (if opens l = true then (0 : Int) else 110) = E at *
  have HE := Lib.hid hE
  clear hE
  generalize hLx : (if opens l = true then l.take (l.length - 4) else []) = lx at *
  have HLX := Lib.hid hLx
  clear hLx
  have hz2 := hb2.size
  have hb2' : Below w.heap.size w w2 := hb1'.trans (hb2.mono hz1)
  go_wp2_with (at_builtin; refine stop ?_)
  refine (refOpen_any a0 len0 cap0 l w2 ((hl.below hb2').more (by omega)) hc1 (by omega)).mono ?_
  rintro e w3 ⟨hb3, vw, rfl, how⟩
  have hz3 := hb3.size
  have hb3' : Below w.heap.size w w3 := hb2'.trans (hb3.mono (by omega))
  rw [HE.out]
  rw [HLX.out] at how
  obtain ⟨Ax, kx, cx, rfl, hkx⟩ := hox.form2
  obtain ⟨Aw, kw, cw, rfl, hkw⟩ := how.form2
  rw [← hkx] at hkw
  subst hkw
  have hkx' : lx.length = kw := hkx.symm
  have HKX := Lib.hid hkx'
  clear hkx hkx'
  have hox3 := hox.below hb3 (Nat.le_refl _)
  have hst := Turning.start hox3
  have hrow : Hid (∀ g, (Value.slice Ax kw cx).ownBlock = some g → w1.heap.size ≤ g ∧ g < w2.heap.size) := Lib.hid fun g hg => World.ownsRow.lt hox g hg
  have hcx := hox.cap
  unfold maxLen at hcx
  have hm3 := (hm1.below hb2).below (hb3.mono hz2)
  have hl3 := hl.below hb3'
  clear hm1 ho1 hox
  go_wp2_with fail
  generalize hrw : (Value.slice Ax kw cx).ownBlock = row at *
  have hat : Hid (0 < kw → ∃ g, Ax = some ⟨g, 0, none⟩ ∧ row = some g) := Lib.hid fun h => by
    obtain ⟨g, h1, h2⟩ := own_at_row hox3 h
    exact ⟨g, h1, by rw [← hrw, h2]⟩
  clear hrw hox3
  go_loopw [8] (fun i wr => ∃ k : Nat, k ≤ kw ∧ i = .int .i64 k ∧ Turning w3 row lx k wr) (fun i _ => kw - (intOf i).toNat)
  case atStart => exact ⟨0, by omega, rfl, hst⟩
  case round =>
    obtain ⟨k, hk, rfl, ht⟩ := hrel
    clear hst
    by_cases hlt : k < kw
    · obtain ⟨g, rfl, rfl⟩ := hat.out (by omega)
      obtain ⟨cur, hblk, hcs⟩ := ht.2 g rfl
      have hku : k < lx.length := by rw [HKX.out]; exact hlt
      have hcell := (hblk.cell k).trans (hcs k lx[k] (Nat.le_refl _) (List.getElem?_eq_getElem hku))
      have hfr := hblk.frozen k
      generalize lx[k] = u at *
      clear hcs hku
      go_wp2_with fail
      go_roundw
      case rel => exact ⟨k + 1, by omega, by go_num, ht.next _⟩
      case measure => simp [intOf]; omega
    · have hgr := ht.1
      have hzr := hgr.size
      have hbr : Below w1.heap.size w3 wr := below_of_grown hgr (by omega) (fun g e => (hrow.out g e).1)
      have hmr := hm3.below hbr
      have hlr := hl3.below (hbr.mono hz1)
      have hwr := own_keep how hgr (fun g e => (hrow.out g e).2) (Nat.le_refl _)
      clear ht hgr how hm3 hl3 hat
      go_wp2_with fail
      refine (open_any A1 k1 c1 l wr (hmr.more (by omega)) hcap1 HCAP.out (by omega)).mono ?_
      rintro e w5 ⟨hb5, vy, rfl, hoy⟩
      rw [HE.out]
      rw [HLX.out] at hoy
      have hz5 := hb5.size
      obtain ⟨Ay, ky, cy, rfl, hky⟩ := hoy.form2
      clear hky
      have q1 := conv_str w5 _ Ay ky cy lx hoy.bys
      have q2 := conv_str w5 _ Aw kw cw lx (hwr.below hb5 (Nat.le_refl _)).bys
      have q3 := conv_str w5 _ A1 k1 c1 l (hmr.below (hb5.mono (by omega)))
      have q4 := conv_str w5 _ a0 len0 cap0 l (hlr.below (hb5.mono (by omega)))
      have t1 := str_toList l
      have t2 := str_toList lx
      go_wp2_with fail
      refine (num_any E w5).mono ?_
      rintro e w6 ⟨rfl, rfl⟩
      go_wp2_with fail
      refine (num_any E w5).mono ?_
      rintro e w6 ⟨rfl, rfl⟩
      go_wp2_with fail
      refine (works_any w5).mono ?_
      rintro e w6 ⟨rfl, hb6⟩
      clear q1 q2 q3 q4 t1 t2
      go_wp2_with fail
      go_ret
      exact ⟨rfl, ((hb3'.trans (hbr.mono hz1)).trans (hb5.mono (by omega))).trans (hb6.mono (by omega))⟩

set_option maxRecDepth 100000 in
theorem lifted (os : Os) (started : os.Started) (H : Type) (enc : TypeId × Value → H) :
    ReturnsInHanded {} Try.checked os 7 .any (Rows.sumsOpensSpec.pre6 enc Try.prog Try.f7 Rows.sumsOpensRow.domain false) (Rows.sumsOpensSpec.post enc Try.prog Try.f7 false true false false) := by
  refine returnsInHanded_of_change (C := Try.checked) own started (by kernel_rfl) Try.func7
    (ChangeSpec.witness6 (enc := enc) (C := Try.checked) false ⟨#[], #[.slice none 0 0], []⟩ 8 (by kernel_rfl) (by kernel_rfl) (by kernel_rfl) (by kernel_rfl)) ?_
  intro W base args ds gs before hval0 hW hcnd _
  have hval : ∀ (j : Nat) t v, Try.f7.params[j]? = some t → args[j]? = some v → Value.okWide Try.prog W .any base t v := hval0
  have hW' := hW
  obtain ⟨p, q, hA0, hV, rfl, hfz, hnd⟩ := hW
  have hA : DataW.TrodAll enc Try.prog W 0 (fun _ => true) true Try.f7.params.toList args.toList ds p := hA0
  rw [Try.params7] at hA hval
  obtain ⟨v0, vs0, d0, ds0, p0, q0, hargs, rfl, rfl, h0, r0⟩ := trodAll_cons hA
  obtain ⟨rfl, rfl, rfl⟩ := trodAll_nil r0
  obtain rfl : args = #[v0] := by cases args; simp_all
  obtain ⟨rfl, rfl⟩ := trodVars_none hV
  obtain ⟨a0, len0, cap0, rfl⟩ := okWide_slice Try.underlying22 (hval 0 22 v0 rfl rfl)
  have k0 := h0
  have lt0 : ∀ x ∈ p0, x.block < W.heap.size := by obtain ⟨m, hm⟩ := k0; exact DataW.trod_lt m _ _ _ hm
  obtain ⟨z0, w0⟩ : ∃ zs, IsRow .u8 W a0 len0 cap0 zs := by
    obtain ⟨fuel, hf⟩ := h0
    rcases open_ints Try.underlying22 Try.underlying5 (by kernel_rfl) hf with ⟨hcs, _⟩ | ⟨x, l, c, zs, hcs, _, hl, hm, hz, _, hcell, hwz⟩
    · simp [Value.cells] at hcs
      obtain ⟨rfl, rfl, rfl⟩ := hcs
      exact ⟨[], .inl ⟨rfl, rfl, rfl, rfl⟩⟩
    · simp [Value.cells] at hcs
      obtain ⟨rfl, rfl, rfl⟩ := hcs
      exact ⟨zs, .inr ⟨_, rfl, hl, hm, by simpa using hz, hcell, hwz⟩⟩
  clear hA0 hval0
  refine (walk a0 len0 cap0 z0 W w0).mono fun e W' ⟨he, bel⟩ => ?_
  subst he
  exact ⟨_, rfl, _, _, _, [], _, [], hW', trodAll_mk1 (shut_bool Try.underlying4 _), (trodAll_cons_mk (Below.trod laidOut (by kernel_rfl) (of_decide_eq_true (by kernel_rfl)) k0 bel lt0) trodAll_mk0), rfl, bel.frame _, fun h => by cases h⟩

theorem over : Rows.sumsOpensRow.holds Try.pinned (OpenSpec.ofChange Rows.sumsOpensSpec) :=
  OpenClaim.holds_of_wide 7 Try.f7 rfl rfl rfl rfl rfl rfl rfl ⟨rfl, rfl, rfl, rfl, rfl⟩ rfl rfl rfl rfl rfl (by kernel_rfl) Try.func7 (by kernel_rfl)
    (of_decide_eq_true (by kernel_rfl)) (by unfold Func.isWrapper; first | (rw [if_pos (by decide +kernel)]; kernel_rfl) | (rw [if_neg (by decide +kernel)]; exact ⟨rfl, rfl⟩))
    (fun os started H enc _ => lifted os started H enc)

theorem proved : Rows.SumsOpensSaid := over
end Go.Proofs.Ytnlokmamflpffaa.sumsOpens
namespace Go.Proofs.Ytnlokmamflpffaa
theorem sumsOpens_holds : Rows.SumsOpensSaid := sumsOpens.proved
#print axioms sumsOpens_holds
end Go.Proofs.Ytnlokmamflpffaa
