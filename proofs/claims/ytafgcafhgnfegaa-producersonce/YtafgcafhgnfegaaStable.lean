/-
  How many entries of a table are stable. Nothing is assumed.
-/
import Derived.Test.YtafgcafhgnfegaaMisc
import Derived.Maps.RangeWalk
namespace Go.Proofs.Ytafgcafhgnfegaa
open Go.RowKit Go.Maps
set_option linter.unusedVariables false
/-- The least of a number and of some firsts. -/
def lowest (n : Nat) (o : List (Int × Nat)) : Nat := o.foldl (fun a p => min a p.2) n
theorem lowest_cons (n : Nat) (p : Int × Nat) (o : List (Int × Nat)) : lowest n (p :: o) = lowest (min n p.2) o := rfl
theorem lowest_is {o : List (Int × Nat)} : ∀ {n q : Nat}, q ≤ n → (∀ p ∈ o, q ≤ p.2) → (q = n ∨ ∃ p ∈ o, q = p.2) → lowest n o = q := by
  induction o with
  | nil =>
    intro n q _ _ h
    rcases h with h | ⟨p, hp, _⟩
    · exact h.symm
    · cases hp
  | cons a o ih =>
    intro n q h1 h2 h3
    rw [lowest_cons]
    have ha := h2 a (by simp)
    refine ih (by omega) (fun p hp => h2 p (by simp [hp])) ?_
    rcases h3 with h | ⟨p, hp, h⟩
    · left; omega
    · rcases List.mem_cons.1 hp with rfl | hp
      · left; omega
      · exact .inr ⟨p, hp, h⟩
def stab (l : List Ent) : Nat → Nat
  | 0 => l.length
  | k + 1 => lowest (stab l k) (wr (k : Int) l).opens
theorem lowest_le (o : List (Int × Nat)) : ∀ n, lowest n o ≤ n := by
  induction o with
  | nil => intro n; exact Nat.le_refl _
  | cons a o ih => intro n; rw [lowest_cons]; have := ih (min n a.2); omega
theorem stab_le (l : List Ent) : ∀ k, stab l k ≤ l.length
  | 0 => Nat.le_refl _
  | k + 1 => Nat.le_trans (lowest_le _ _) (stab_le l k)
theorem find_mem' {k : Int} {i : Nat} : ∀ {l : List (Int × Nat)}, find l k = some i → (k, i) ∈ l
  | [], h => by cases h
  | p :: l, h => by
    unfold find at h
    by_cases e : p.1 = k
    · rw [if_pos e] at h
      injection h with h
      subst h e
      simp
    · rw [if_neg e] at h
      exact List.mem_cons_of_mem _ (find_mem' h)
theorem mem_find {k : Int} {i : Nat} : ∀ {l : List (Int × Nat)}, l.Pairwise (fun a b => a.1 ≠ b.1) → (k, i) ∈ l → find l k = some i
  | [], _, h => by cases h
  | p :: l, hp, h => by
    rw [List.pairwise_cons] at hp
    unfold find
    rcases List.mem_cons.1 h with rfl | h
    · rw [if_pos rfl]
    · rw [if_neg (hp.1 _ h), mem_find hp.2 h]
theorem same_int (a b : Int) : (Lit.int .i64 a).sameKey (.int .i64 b) = decide (a = b) := by
  rw [Bool.eq_iff_iff]; simp [Lit.sameKey]
section
variable {w w' : World} {g : Nat} {l : List Ent} {S : Nat → Prop} {e : Ent}
/-- The cells of all writers. -/
def wrsA (x : Nat → Wr) (mp : Nat → Nat) : Array Value :=
  #[.int .i64 (x 0).high, .int .i64 (x 0).next, .int .i64 (x 0).marked, .map (some (mp 0)), .map (some (mp 1)),
    .int .i64 (x 1).high, .int .i64 (x 1).next, .int .i64 (x 1).marked, .map (some (mp 2)), .map (some (mp 3)),
    .int .i64 (x 2).high, .int .i64 (x 2).next, .int .i64 (x 2).marked, .map (some (mp 4)), .map (some (mp 5)),
    .int .i64 (x 3).high, .int .i64 (x 3).next, .int .i64 (x 3).marked, .map (some (mp 6)), .map (some (mp 7))]
def wrA (x : Nat → Wr) (mp : Nat → Nat) (i : Nat) : Array Value := #[.int .i64 (x i).high, .int .i64 (x i).next, .int .i64 (x i).marked, .map (some (mp (2 * i))), .map (some (mp (2 * i + 1)))]
theorem index75 (x : Nat → Wr) (mp : Nat → Nat) {i : Nat} (hi : i < 4) (W : World) : (Instr.index 75 (.agg (wrsA x mp)) (.int .i64 (i : Int))).run Try.prog W = .ok (.agg (wrA x mp i)) W := by
  rcases i with _ | _ | _ | _ | i
  · kernel_rfl
  · kernel_rfl
  · kernel_rfl
  · kernel_rfl
  · omega
set_option maxRecDepth 100000 in
set_option maxHeartbeats 4000000 in
theorem stable_any (h : Tb w S g l) : Calls Try.prog 24 #[.pointer (some ⟨g, 0, none⟩)] w fun r w' => r = .returned (.int .i64 (stab l 4 : Int)) ∧ Below w.heap.size w w' := by
  obtain ⟨⟨v, mp, h1, h2, h4, h3⟩, hr, hl⟩ := h
  obtain ⟨c0, c21⟩ := h1.cellv
  obtain ⟨A, q, c, rfl, hq, hc, hm⟩ := h2.form
  have hq' : q = l.length := by rw [hq]; simp [cellsOf]
  subst hq'
  have hrg := World.rangeAt_of_block (w := w) h1.blk 1 20
  have HX := Lib.hid h1
  clear h1 h2 h4 h3 hq hc hm
  go_enter Try.func24, Try.ntmps24
  go_wp2_with fail
  refine (there_yes c21).mono ?_
  rintro r w1 ⟨rfl, rfl⟩
  go_wp2_with (with_reducible refine at_load 75 rfl ?_)
  refine Stop.go (wpList_load_mid (by rfl) 75 _ (by rfl) g 1 (by rfl) (wrsA (fun i => wr (i : Int) l) mp).toList _ hrg Try.underlying75 (by rfl) (by kernel_rfl) ?_)
  clear hrg c0 c21
  rw [Array.toArray_toList]
  go_wp2_with fail
  go_loopw [3, 20] (fun s i wv => ∃ k : Nat, k ≤ 4 ∧ i = .int .i64 k ∧ s = .int .i64 (stab l k : Int) ∧ Below w.heap.size w wv) (fun _ i _ => 4 - (iOf i).toNat)
  case atStart => exact ⟨0, by omega, rfl, rfl, Below.refl _ _⟩
  case round =>
    obtain ⟨k, hk, rfl, rfl, hb⟩ := hrel
    have HB := Lib.hid hb
    clear hb
    by_cases hlt : k < 4
    case neg =>
      have hd1 : decide ((k : Int) < 4) = false := by simpa using (by omega : ¬ (k : Int) < 4)
      obtain rfl : k = 4 := by omega
      go_wp2_with fail
      go_ret
      exact ⟨rfl, HB.out⟩
    case pos =>
    have hd1 : decide ((k : Int) < 4) = true := by simpa using (by omega : (k : Int) < 4)
    have hix := fun W => index75 (fun i => Go.Proofs.Ytafgcafhgnfegaa.wr (i : Int) l) mp hlt W
    have hst := stab_le l k
    have HOM := Lib.hid ((HX.out.keepB (fun b hb => HB.out.block b (HX.out.lt hb))).om k hlt)
    have HBB := Lib.hid (wr_ordered (k : Int) l)
    have HST : Hid (stab l (k + 1) = lowest (stab l k) (Go.Proofs.Ytafgcafhgnfegaa.wr (k : Int) l).opens) := Lib.hid rfl
    generalize stab l k = s0 at *
    unfold wrA at hix
    dsimp only at hix HOM HBB
    go_wp2_with (at_range; refine stop ?_)
    have hb5 : Below wr.heap.size wr (wr.alloc (.cells #[.int .i64 (Go.Proofs.Ytafgcafhgnfegaa.wr (k : Int) l).high, .int .i64 (Go.Proofs.Ytafgcafhgnfegaa.wr (k : Int) l).next, .int .i64 (Go.Proofs.Ytafgcafhgnfegaa.wr (k : Int) l).marked, .map (some (mp (2 * k))), .map (some (mp (2 * k + 1)))] 74)) := (Below.refl _ _).alloc (Nat.le_refl _) _
    have hom5 := HOM.out.keepB (hb5.block _ HOM.out.lt)
    have HB5 := Lib.hid (HB.out.trans (hb5.mono HB.out.size))
    clear hix hb5 HOM
    generalize wr.alloc (.cells #[.int .i64 (Go.Proofs.Ytafgcafhgnfegaa.wr (k : Int) l).high, .int .i64 (Go.Proofs.Ytafgcafhgnfegaa.wr (k : Int) l).next, .int .i64 (Go.Proofs.Ytafgcafhgnfegaa.wr (k : Int) l).marked, .map (some (mp (2 * k))), .map (some (mp (2 * k + 1)))] 74) = w5 at *
    generalize Go.Proofs.Ytafgcafhgnfegaa.wr (k : Int) l = x at *
    generalize mp (2 * k) = m at *
    have hmlt := hom5.lt
    obtain ⟨⟨D, hown, hag⟩, hpw, hlen5, hin64⟩ := hom5
    have HAG := Lib.hid hag
    have HPW := Lib.hid hpw
    clear hag hpw hin64
    refine Stop.go (wpList_range_own w5 rfl _ 71 rfl 2 3 keyed2 Try.underlying71 hv m x.opens.length D rfl hown ?_)
    intro w0 hrg0 hg0 hs0
    have hb0 : Below w5.heap.size w5 w0 := ⟨hg0.os, hg0.tape, hg0.output, hg0.size, fun k hk => hg0.block k hk (by simp)⟩
    have HB0 := Lib.hid (HB5.out.trans (hb0.mono HB5.out.size))
    have hno0 : ∀ p ∈ x.opens, Maps.has D (.int .i64 p.1) = false → s0 ≤ p.2 := fun p hp hf => by
      have := (HAG.out p.1).1
      rw [hf, Option.isSome_map, find_some] at this
      have := of_decide_eq_false this.symm
      exact absurd (List.mem_map.2 ⟨p, hp, rfl⟩) this
    have HNO0 := Lib.hid hno0
    clear hno0 hown
    try go_frame
    go_wp2_with fail
    go_loopw [3] (fun s wv => ∃ (q : Nat) (left : Lit → Bool) (cnt : Nat), s = .int .i64 (q : Int) ∧ q ≤ s0 ∧ wv.ranges Try.prog 2 hv m w5.heap.size x.opens.length D left cnt ∧ Below w.heap.size w wv ∧ Hid ((q = s0 ∨ ∃ p ∈ x.opens, q = p.2) ∧ ∀ p ∈ x.opens, left (.int .i64 p.1) = false → q ≤ p.2)) (fun _ wv => wv.rangeLeft m w5.heap.size)
    case atStart => exact ⟨s0, _, _, rfl, Nat.le_refl _, hrg0, HB0.out, Lib.hid ⟨.inl rfl, HNO0.out⟩⟩
    case round =>
      obtain ⟨q, left, cnt, rfl, hq, hrg, hbv, HD⟩ := hrel
      clear hrg0 hg0 hs0 hb0
      go_wp2_with (at_next; refine wpList_next_ranges _ rfl _ rfl 2 keyed2 hv (fun n : Int => .int .i64 n) (fun v : Value => v) (fun key kl h => by obtain ⟨x, hx, _⟩ := Maps.keyOf_i64 Try.underlying2 h; exact ⟨x, hx⟩) (fun v y _ => ⟨v, rfl⟩) m w5.heap.size x.opens.length D left cnt rfl hrg ?_ ?_)
      · intro hc0 hl0
        have HE : Hid (stab l (k + 1) = q) := Lib.hid (by rw [HST.out]; exact lowest_is hq (fun p hp => HD.out.2 p hp (hl0 _)) HD.out.1)
        have HBV := Lib.hid hbv
        clear hl0 hrg hbv
        go_wp2_with fail
        go_roundw
        case rel => exact ⟨k + 1, by omega, by go_num, by rw [HE.out], HBV.out⟩
        case measure => simp [iOf]; omega
      · intro n c5 kl ya yb w4 cnt4 hkey hlk hRv hat hrg4 hlt4 hg4 hs4 hen
        obtain ⟨n', hn', hkl, _⟩ := Maps.keyOf_i64 Try.underlying2 hkey
        have en : n = n' := by injection hn'
        subst en
        subst hkl
        have ey : ya = .held c5 := by unfold hv at hRv; injection hRv with e; injection e with e _; exact e.symm
        subst ey
        have hhas : Maps.has D (.int .i64 n) = true := has_true_of_atKey hat
        obtain ⟨i, hf⟩ : ∃ i, find x.opens n = some i := Option.isSome_iff_exists.1 (by have := (HAG.out n).1; rw [hhas, Option.isSome_map] at this; exact this.symm)
        have ec : c5 = .int .i64 (i : Int) := by
          have h1 := (HAG.out n).2 (iv i) (by rw [hf]; rfl) (.held c5)
          have h2 := hat (.held c5)
          rw [h1] at h2
          injection h2 with h2
          exact h2.symm
        subst ec
        have hmem : (n, i) ∈ x.opens := find_mem' hf
        have hb4 : Below w.heap.size w w4 := hbv.trans ⟨hg4.os, hg4.tape, hg4.output, hg4.size, fun k hk => hg4.block k (by have := hbv.size; omega) (fun e => by injection e with e; have := HB5.out.size; omega)⟩
        have HM : Hid (wr.rangeLeft m w5.heap.size = cnt) := Lib.hid hrg.left_eq
        have HRG := Lib.hid hrg4
        have HB4 := Lib.hid hb4
        have HMEM := Lib.hid hmem
        obtain ⟨r, hr5⟩ : ∃ r : Nat, min q i = r := ⟨_, rfl⟩
        have hmin : min (q : Int) (i : Int) = (r : Int) := by omega
        have HR5 := Lib.hid hr5
        have HLK := Lib.hid hlk
        clear hRv hat hkey hhas hrg hg4 hs4 hn' hrg4 hf hlk hmem hr5 hb4 hbv
        go_wp2_with fail
        have hrr := HR5.out
        refine ⟨⟨r, _, cnt4, rfl, by omega, HRG.out, HB4.out, Lib.hid ⟨?_, fun p hp hleft => ?_⟩⟩, by rw [HRG.out.left_eq, HM.out]; omega⟩
        · rcases Nat.lt_or_ge i q with z | z
          · exact .inr ⟨_, HMEM.out, by show r = i; omega⟩
          · rcases HD.out.1 with y | ⟨p, hp, y⟩
            · left; omega
            · exact .inr ⟨p, hp, by omega⟩
        · by_cases hkn : p.1 = n
          · have h1 := mem_find HPW.out hp
            rw [hkn, mem_find HPW.out HMEM.out] at h1
            injection h1 with h1
            omega
          · rw [same_int, decide_eq_false hkn] at hleft
            have := HD.out.2 p hp (by simpa using hleft)
            omega
theorem stable_nil (w : World) : Calls Try.prog 24 #[.pointer none] w fun r w' => r = .returned (.int .i64 0) ∧ w = w' := by
  go_enter Try.func24, Try.ntmps24
  go_wp2_with fail
  refine (there_no _).mono ?_
  rintro r w1 ⟨rfl, rfl⟩
  go_wp2_with fail
  go_ret
  exact ⟨rfl, rfl⟩
end
end Go.Proofs.Ytafgcafhgnfegaa
