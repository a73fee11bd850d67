/-
  The first fault of a call that is so. Conditions: at most 100 faults; each, asked where none ahead is so, answers and turns nothing.
-/
import Derived.Test.YtpmdicbhliclcaaGreatForm
namespace Go.Proofs.YtpmdicbhliclcaaGreat
open Go.RowKit Go.Maps
set_option linter.unusedVariables false
/-- A fault: its error, its closure and what that has. -/
structure Flt where
  err : Int
  fn : Nat
  cap : Array Value
def Flt.cells (f : Flt) : Array Value := #[.int .i64 f.err, .func (.func f.fn) #[] f.cap]
/-- The error of the first that is so, from a place on. -/
def firstE (b : Nat → Bool) : Nat → List Flt → Int
  | _, [] => 0
  | i, f :: r => if b i = true then f.err else firstE b (i + 1) r
theorem firstE_none {b : Nat → Bool} : ∀ {fs : List Flt} {k i : Nat}, (∀ j, j < k → b (i + j) = false) → firstE b i fs = firstE b (i + k) (fs.drop k)
  | fs, 0, i, _ => rfl
  | [], k + 1, i, _ => rfl
  | f :: fs, k + 1, i, h => by
    have h0 := h 0 (by omega)
    rw [Nat.add_zero] at h0
    show (if b i = true then f.err else firstE b (i + 1) fs) = firstE b (i + (k + 1)) (fs.drop k)
    rw [h0, if_neg (by decide), firstE_none (k := k) (i := i + 1) (fun j hj => by have := h (j + 1) (by omega); rwa [show i + (j + 1) = i + 1 + j by omega] at this), show i + 1 + k = i + (k + 1) by omega]
/-- What is asked of a fault. -/
def Asks (w : World) (f : Flt) (b : Bool) : Prop :=
  (∀ args w, (callFunc f.fn args).run Tryz.prog w = .ok (.enter f.fn args) w) ∧ ∀ W, Below w.heap.size w W → Calls Tryz.prog f.fn f.cap W fun x W' => x = .returned (.bool b) ∧ Below W.heap.size W W'
section
variable {w : World} {g : Nat} {a b c : Int}
theorem Rd.flt {X : Nat → Prop} {A : Option Addr} {n : Nat} {fs : List Flt} (h : Rd w X 2 A n (fs.map Flt.cells)) {i : Nat} {f : Flt} (hi : fs[i]? = some f) :
    ∃ ad, A = some ad ∧ w.cell? (ad.add (i * 2)) = some (.int .i64 f.err) ∧ w.cell? ⟨(ad.add (i * 2)).block, (ad.add (i * 2)).off + 1, none⟩ = some (.func (.func f.fn) #[] f.cap) := by
  obtain ⟨ad, e, _, _, h1, h2⟩ := h.load (i := i) (cs := f.cells) (by rw [List.getElem?_map, hi]; rfl)
  exact ⟨ad, e, h1 _ rfl, h2 0 _ rfl⟩
theorem wrong_no (w : World) (v : Value) : Calls Tryz.prog 51 #[.pointer none, v] w fun r w' => r = .returned (.int .i64 1) ∧ w = w' := by
  go_enter Tryz.func51, Tryz.ntmps51
  go_wp2_with fail
  refine (made_no w).mono ?_
  rintro r w1 ⟨rfl, rfl⟩
  go_wp2_with fail
  go_ret
  exact ⟨rfl, rfl⟩
theorem wrong_zero (h0 : w.cell? ⟨g, 0, none⟩ = some (.int .i64 0)) (h1 : w.cell? ⟨g, 1, none⟩ = some (.int .i64 0)) (h2 : w.cell? ⟨g, 2, none⟩ = some (.int .i64 0)) (v : Value) : Calls Tryz.prog 51 #[.pointer (some ⟨g, 0, none⟩), v] w fun r w' => r = .returned (.int .i64 1) ∧ w = w' := by
  have hm := made_zero h0 h1 h2
  clear h0 h1 h2
  go_enter Tryz.func51, Tryz.ntmps51
  go_wp2_with fail
  refine hm.mono ?_
  rintro r w1 ⟨rfl, rfl⟩
  clear hm
  go_wp2_with fail
  go_ret
  exact ⟨rfl, rfl⟩
set_option maxRecDepth 100000 in
set_option maxHeartbeats 4000000 in
theorem wrong_any {A : Option Addr} {k : Nat} {fs : List Flt} (bs : Nat → Bool) (h0 : w.cell? ⟨g, 0, none⟩ = some (.int .i64 a)) (h1 : w.cell? ⟨g, 1, none⟩ = some (.int .i64 b)) (h2 : w.cell? ⟨g, 2, none⟩ = some (.int .i64 c)) (ha : a ≠ 0)
    (h : Rd w No 2 A fs.length (fs.map Flt.cells)) (hn : fs.length ≤ 100) (hf : ∀ i f, fs[i]? = some f → (∀ j, j < i → bs j = false) → Asks w f (bs i)) :
    Calls Tryz.prog 51 #[.pointer (some ⟨g, 0, none⟩), .slice A fs.length k] w fun r w' => r = .returned (.int .i64 (firstE bs 0 fs)) ∧ Below w.heap.size w w' := by
  have hm := made_yes h0 h1 h2 ha
  have HR := Lib.hid h
  have HF := Lib.hid hf
  clear h0 h1 h2 h hf ha
  go_enter Tryz.func51, Tryz.ntmps51
  go_wp2_with fail
  refine hm.mono ?_
  rintro r w1 ⟨rfl, rfl⟩
  clear hm
  go_wp2_with fail
  go_loopw [12] (fun i wv => ∃ j : Nat, j ≤ fs.length ∧ i = .int .i64 j ∧ Below w.heap.size w wv ∧ Hid (∀ q, q < j → bs q = false)) (fun i _ => fs.length - (iOf i).toNat)
  case atStart => exact ⟨0, by omega, rfl, Below.refl _ _, Lib.hid (fun q hq => by omega)⟩
  case round =>
    obtain ⟨j, hj, rfl, hb, HZ⟩ := hrel
    have HB := Lib.hid hb
    clear hb
    by_cases hlt : j < fs.length
    case neg =>
      have hd1 : decide (j < fs.length) = false := by simpa using hlt
      have HE : Hid (firstE bs 0 fs = 0) := Lib.hid (by
        rw [firstE_none (k := j) (i := 0) (fun q hq => by rw [Nat.zero_add]; exact HZ.out q hq), List.drop_eq_nil_of_le (by omega)]
        rfl)
      clear hlt
      go_wp2_with fail
      go_ret
      exact ⟨by rw [HE.out]; rfl, HB.out⟩
    case pos =>
    have hd1 : decide (j < fs.length) = true := by simpa using hlt
    obtain ⟨f, hfj⟩ : ∃ f, fs[j]? = some f := ⟨_, List.getElem?_eq_getElem hlt⟩
    obtain ⟨ad, rfl, c0, c1⟩ := (HR.out.below HB.out).flt hfj
    obtain ⟨eg, hcall⟩ := HF.out j f hfj HZ.out
    have HFJ := Lib.hid hfj
    clear hfj
    go_wp2_with (with_reducible refine at_store 105 rfl ?_)
    refine Stop.go (wpList_store_blk (by rfl) (by rfl) 105 _ _ (by rfl) wr.heap.size _ #[.int .i64 f.err, .func (.func f.fn) #[] f.cap] (by rfl) (by rfl) 105 (Blk.new wr 105 #[.int .i64 0, .nilFunc]) (by rfl) (by kernel_rfl) (by simp [Value.oneCell']) ?_)
    intro w4 hB4 hg4 hs4
    have hal := (Below.refl wr.heap.size wr).alloc (Nat.le_refl _) (.cells #[.int .i64 0, .nilFunc] 105)
    have hT4 : Turn (fun x => x = wr.heap.size) (wr.alloc (.cells #[.int .i64 0, .nilFunc] 105)) w4 := Turn.of_grown hg4 (fun r e => by injection e with e; exact e.symm)
    have hb4 : Below wr.heap.size wr w4 := hal.trans (hT4.below hal.size (fun x e => by omega))
    have HB2 := Lib.hid (HB.out.trans (hb4.mono HB.out.size))
    have HX := Lib.hid hB4
    have y1 := hB4.cell 1
    have hcall := hcall _ HB2.out
    clear hal hT4 hb4 hg4 hs4 hB4 c0 c1
    generalize wr.heap.size = bx at *
    cases hbj : bs j with
    | false =>
      have HN : Hid (∀ q, q < j + 1 → bs q = false) := Lib.hid (fun q hq => by
        rcases Nat.lt_or_ge q j with r | r
        · exact HZ.out q r
        · obtain rfl : q = j := by omega
          exact hbj)
      rw [hbj] at hcall
      clear hbj
      go_wp2_with fail
      refine hcall.mono ?_
      rintro x w5 ⟨rfl, hb5⟩
      have HB5 := Lib.hid (HB2.out.trans (hb5.mono HB2.out.size))
      clear hb5 hcall y1
      go_wp2_with fail
      go_round
      case rel => exact ⟨j + 1, by omega, by go_num, HB5.out, HN⟩
      case measure => simp [iOf]; omega
    | true =>
      have HE : Hid (firstE bs 0 fs = f.err) := Lib.hid (by
        rw [firstE_none (k := j) (i := 0) (fun q hq => by rw [Nat.zero_add]; exact HZ.out q hq), List.drop_eq_getElem_cons hlt, Nat.zero_add]
        show (if bs j = true then _ else _) = _
        rw [hbj, if_pos rfl]
        have h1 := HFJ.out
        rw [List.getElem?_eq_getElem hlt] at h1
        injection h1 with h1
        rw [h1])
      rw [hbj] at hcall
      clear hbj
      go_wp2_with fail
      refine hcall.mono ?_
      rintro x w5 ⟨rfl, hb5⟩
      have HB5 := Lib.hid (HB2.out.trans (hb5.mono HB2.out.size))
      have hx0 := (HX.out.below hb5 HX.out.lt).cell 0
      clear hb5 hcall y1
      generalize f.err = er at *
      go_wp2_with fail
      go_ret
      exact ⟨by rw [HE.out]; rfl, HB5.out⟩
end
end Go.Proofs.YtpmdicbhliclcaaGreat
