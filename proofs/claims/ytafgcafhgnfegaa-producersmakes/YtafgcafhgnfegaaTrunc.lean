/-
  What Truncate leaves of a table. Nothing is assumed.
-/
import Derived.Test.YtafgcafhgnfegaaMisc
namespace Go.Proofs.Ytafgcafhgnfegaa
open Go.RowKit Go.Maps
set_option linter.unusedVariables false
section
variable {w w' : World} {g : Nat} {l : List Ent} {S : Nat → Prop} {e : Ent}
theorem slice66_to (a : Option Addr) (n c k : Nat) (hk : k ≤ c) (W : World) : (Instr.slice 66 (.slice a n c) none (some (.int .i64 (k : Int))) none).run Try.prog W = .ok (.slice a k c) W := by
  obtain ⟨j, hj, hz0, hz1, hz2⟩ := info_parts el66.info
  have ha : a.map (fun x : Addr => x.add 0) = a := by cases a <;> simp [Addr.add]
  simp [Instr.slice, run_underlying Try.underlying66, Instr.sliceBounds, Instr.sliceBound, asIntOf, hk, sizeOf, typeInfo, hj, ha]
theorem OwnK.take {e k n c : Nat} {A : Option Addr} {css : List (Array Value)} (h : OwnK w e k (.slice A n c) css) {q : Nat} (hq : q ≤ css.length) : OwnK w e k (.slice A q c) (css.take q) := by
  have hlen : (css.take q).length = q := by rw [List.length_take]; omega
  refine ⟨⟨?_, ?_⟩, h.2.take q⟩
  · exact length_flatA (h.2.take q)
  · rw [hlen]
    rcases h.1.2 with ⟨e1, h0⟩ | ⟨g, cap, cur, e1, h1, h2, h3, h4, h5, h6⟩
    · injection e1 with e1 e2 e3
      subst e1 e2 e3
      left
      exact ⟨by rw [show q = 0 by omega], by omega⟩
    · injection e1 with e1 e2 e3
      subst e1 e3
      refine .inr ⟨g, c, cur, rfl, h1, h2, by omega, h4, h5, ?_⟩
      have hfl : flatA css = flatA (css.take q) ++ flatA (css.drop q) := by rw [← flatA_append, List.take_append_drop]
      have hl1 : (flatA (css.take q)).length = q * k := by rw [length_flatA (h.2.take q), hlen]
      have hle : q * k ≤ css.length * k := Nat.mul_le_mul_right k hq
      have := congrArg (fun z => z.take (q * k)) h6
      simp only [List.take_take, Nat.min_eq_left hle] at this
      rw [this, hfl, List.take_append_of_le_length (by omega), List.take_of_length_le (by omega)]
theorem trunc_nil (n : Int) (w : World) : Calls Try.prog 23 #[.pointer none, .int .i64 n] w fun r w' => r = .returned (.int .i64 1) ∧ w = w' := by
  go_enter Try.func23, Try.ntmps23
  go_wp2_with fail
  refine (there_no _).mono ?_
  rintro r w1 ⟨rfl, rfl⟩
  go_wp2_with fail
  go_ret
  exact ⟨rfl, rfl⟩
theorem trunc_no (h : Tb w S g l) {n : Int} (hn : n < 0 ∨ (l.length : Int) < n) : Calls Try.prog 23 #[.pointer (some ⟨g, 0, none⟩), .int .i64 n] w fun r w' => r = .returned (.int .i64 4) ∧ w = w' := by
  obtain ⟨⟨v, mp, h1, h2, h4, h3⟩, hr, hl⟩ := h
  obtain ⟨c0, c21⟩ := h1.cellv
  obtain ⟨A, q, c, rfl, hq, hc, hm⟩ := h2.form
  have hq' : q = l.length := by rw [hq]; simp [cellsOf]
  subst hq'
  clear h1 h2 h4 h3 hq hc hm
  by_cases h0 : n < 0
  · have hd : decide (n < 0) = true := by simpa using h0
    clear hn
    go_enter Try.func23, Try.ntmps23
    go_wp2_with fail
    refine (there_yes c21).mono ?_
    rintro r w1 ⟨rfl, rfl⟩
    go_wp2_with fail
    go_ret
    exact ⟨rfl, rfl⟩
  · have hd : decide (n < 0) = false := by simpa using h0
    have hd2 : decide ((l.length : Int) < n) = true := by simpa using (by omega : (l.length : Int) < n)
    clear hn
    go_enter Try.func23, Try.ntmps23
    go_wp2_with fail
    refine (there_yes c21).mono ?_
    rintro r w1 ⟨rfl, rfl⟩
    go_wp2_with fail
    go_ret
    exact ⟨rfl, rfl⟩
set_option maxRecDepth 100000 in
set_option maxHeartbeats 1000000 in
theorem trunc_yes (h : Tb w S g l) {n : Nat} (hn : n ≤ l.length) : Calls Try.prog 23 #[.pointer (some ⟨g, 0, none⟩), .int .i64 (n : Int)] w fun r w' => r = .returned (.int .i64 0) ∧ Tb w' (More S w w') g (l.take n) ∧ Turn S w w' := by
  obtain ⟨⟨v, mp, h1, h2, h4, h3⟩, hr, hl⟩ := h
  obtain ⟨c0, c21⟩ := h1.cellv
  obtain ⟨A, q, c, rfl, hq, hc, hm⟩ := h2.form
  have hq' : q = l.length := by rw [hq]; simp [cellsOf]
  subst hq'
  have ho := h2.take (q := n) (by omega)
  have hct : (cellsOf l).take n = cellsOf (l.take n) := by unfold cellsOf; rw [List.map_take]
  rw [hct] at ho
  have hd : decide ((n : Int) < 0) = false := by simp
  have hd2 : decide (l.length < n) = false := by simpa using hn
  have hsl := slice66_to A l.length c n (by omega)
  have hcall := tableOf_any (w := w) (c := c) (ho.rd (X := No) (fun _ _ h => h)) (hr.take n) (by omega)
  have HX := Lib.hid h1
  have HO := Lib.hid ho
  have HN := Lib.hid h4
  have HS := Lib.hid h3
  have HR := Lib.hid (hr.take n)
  clear h1 h2 h4 h3 hq hc hm ho hct
  go_enter Try.func23, Try.ntmps23
  go_wp2_with fail
  refine (there_yes c21).mono ?_
  rintro r w1 ⟨rfl, rfl⟩
  go_wp2_with fail
  refine hcall.mono ?_
  rintro r w2 ⟨z, mp2, rfl, hX, hg, hb⟩
  go_wp2_with (with_reducible refine at_load 77 rfl ?_)
  refine Stop.go (wpList_load_blk (by rfl) 77 _ (by rfl) z (by rfl) 77 _ hX.blk _ Try.underlying77 (by rfl) (by kernel_rfl) ?_)
  have HX2 := Lib.hid hX
  have HB2 := Lib.hid (And.intro hg hb)
  have hbg : Blk w2 g 77 _ := HX.out.blk.below hb HX.out.blk.lt
  clear hX hg hb hcall hsl
  go_wp2_with (with_reducible refine at_store 77 rfl ?_)
  refine Stop.go (wpList_store_blk (by rfl) (by rfl) 77 _ _ (by rfl) g _ (tabA (.slice A n c) (fun i => wr (i : Int) (l.take n)) mp2) (by rfl) (by rfl) 77 hbg (by rfl) (by kernel_rfl) (by simp [tabA, Value.oneCell']) ?_)
  intro w3 f3 g3 s3
  have hob : Value.ownBlock (.slice A n c) = Value.ownBlock (.slice A l.length c) := by cases A <;> rfl
  have hgl := HX.out.blk.lt
  have hmp : ∀ i, i < 8 → mp2 i ≠ g := fun i hi => by have := HB2.out.1.2 i hi; omega
  have hT : Turn S w w3 := (Turn.of_below HB2.out.2 S).trans (Turn.of_grown g3 (fun r e => by injection e with e; subst e; exact HS.out g (.inl (.inl rfl)))) (fun _ _ h => h)
  have hX3 : TX w3 g (.slice A n c) (fun i => wr (i : Int) (l.take n)) mp2 := ⟨f3, fun i hi => (HX2.out.om i hi).keepB (g3.block _ (HX2.out.om i hi).lt (fun e => hmp (2 * i) (by omega) (by injection e))), fun i hi => (HX2.out.em i hi).keepB (g3.block _ (HX2.out.em i hi).lt (fun e => hmp (2 * i + 1) (by omega) (by injection e))), HX2.out.rise⟩
  have hO3 : OwnK w3 26 6 (.slice A n c) (cellsOf (l.take n)) := HO.out.keepB (fun b eb => (g3.block b (Nat.lt_of_lt_of_le (HO.out.lt eb) HB2.out.2.size) (fun e => by injection e with e; subst e; exact HN.out b (.inl rfl) (hob ▸ eb))).trans (HB2.out.2.block b (HO.out.lt eb)))
  have HF : Hid (Tb w3 (More S w w3) g (l.take n) ∧ Turn S w w3) := Lib.hid (by
    refine ⟨⟨⟨_, mp2, hX3, hO3, fun b hb eb => ?_, fun b hb => ?_⟩, HR.out, by rw [List.length_take]; omega⟩, hT⟩
    · rcases hb with rfl | ⟨i, hi, rfl⟩
      · exact HN.out b (.inl rfl) (hob ▸ eb)
      · have := HO.out.lt eb
        have := HB2.out.1.2 i hi
        omega
    · rcases hb with (rfl | ⟨i, hi, rfl⟩) | hb
      · exact .inl (HS.out b (.inl (.inl rfl)))
      · exact .inr ⟨HB2.out.1.2 i hi, hX3.lt (.inr ⟨i, hi, rfl⟩)⟩
      · exact .inl (HS.out b (.inr (hob ▸ hb))))
  clear f3 g3 s3 hT hX3 hO3 hbg
  go_wp2_with fail
  go_ret
  exact ⟨rfl, HF.out⟩
end
end Go.Proofs.Ytafgcafhgnfegaa
