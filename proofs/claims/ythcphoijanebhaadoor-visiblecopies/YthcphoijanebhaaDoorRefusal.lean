/-
  The first that refuses an entry. Nothing is assumed.
-/
import Derived.Test.YthcphoijanebhaaDoorRefuse3
import Derived.Scope
namespace Go.Proofs.YthcphoijanebhaaDoor
open Go.RowKit Go.Maps
set_option linter.unusedVariables false
def first (r : Nat → Int) : List Nat → Int
  | [] => 0
  | f :: fs => if r f = 0 then first r fs else r f
theorem first_app (r : Nat → Int) (a b : List Nat) : first r (a ++ b) = if first r a = 0 then first r b else first r a := by
  induction a with
  | nil => simp [first]
  | cons f a ih =>
    show (if r f = 0 then first r (a ++ b) else r f) = if (if r f = 0 then first r a else r f) = 0 then first r b else (if r f = 0 then first r a else r f)
    by_cases h : r f = 0
    · simp only [h, if_true]; exact ih
    · simp only [h, if_false]
theorem first_one (r : Nat → Int) (f : Nat) : first r [f] = r f := by unfold first; split <;> simp_all [first]
/-- Lists of functions in memory. -/
def Lists (w : World) (A : Option Addr) (ls : List (List Nat)) : Prop :=
  ∃ vs : List Value, Rd w No 1 A ls.length (vs.map fun v => #[v]) ∧ ∀ (i : Nat) (fs : List Nat), ls[i]? = some fs → ∃ B c, vs[i]? = some (Value.slice B fs.length c) ∧ Rd w No 1 B fs.length (fcells fs)
theorem Lists.below {w w' : World} {A : Option Addr} {ls : List (List Nat)} (h : Lists w A ls) (hb : Below w.heap.size w w') : Lists w' A ls := by
  obtain ⟨vs, h1, h2⟩ := h
  refine ⟨vs, h1.below hb, fun i fs hi => ?_⟩
  obtain ⟨B, c, h3, h4⟩ := h2 i fs hi
  exact ⟨B, c, h3, h4.below hb⟩
theorem Rd.one {w : World} {X : Nat → Prop} {A : Option Addr} {n : Nat} {css : List (Array Value)} (h : Rd w X 1 A n css) {i : Nat} {v : Value} (hi : css[i]? = some #[v]) : ∃ ad, A = some ad ∧ w.cell? (ad.add i) = some v := by
  obtain ⟨ad, e, _, _, h1, _⟩ := h.load hi
  exact ⟨ad, e, by simpa using h1 v rfl⟩
/-- What is known of the round's list. -/
theorem Lists.at_ {w : World} {A : Option Addr} {ls : List (List Nat)} (h : Lists w A ls) {i : Nat} {fs : List Nat} (hi : ls[i]? = some fs) : ∃ ad B c, A = some ad ∧ w.cell? (ad.add i) = some (Value.slice B fs.length c) ∧ Rd w No 1 B fs.length (fcells fs) := by
  obtain ⟨vs, h1, h2⟩ := h
  obtain ⟨B, c, h3, h4⟩ := h2 i fs hi
  obtain ⟨ad, e, h5⟩ := h1.one (i := i) (v := .slice B fs.length c) (by rw [List.getElem?_map, h3]; rfl)
  exact ⟨ad, B, c, e, h5, h4⟩
theorem flatten_take {ls : List (List Nat)} {k : Nat} {fs : List Nat} (h : ls[k]? = some fs) : (ls.take (k + 1)).flatten = (ls.take k).flatten ++ fs := by
  rw [List.take_add_one, h]; simp
theorem flatten_pre {ls : List (List Nat)} {k j : Nat} {fs : List Nat} {f : Nat} (h : ls[k]? = some fs) (hj : fs[j]? = some f) : ((ls.take k).flatten ++ fs.take j) ++ [f] <+: ls.flatten := by
  have e : ls.flatten = (ls.take (k + 1)).flatten ++ (ls.drop (k + 1)).flatten := by rw [← List.flatten_append, List.take_append_drop]
  rw [e, flatten_take h]
  have e2 : fs = fs.take j ++ [f] ++ fs.drop (j + 1) := by
    have := List.take_append_drop (j + 1) fs
    rw [List.take_add_one, hj] at this
    simpa using this.symm
  refine ⟨fs.drop (j + 1) ++ (ls.drop (k + 1)).flatten, ?_⟩
  conv => rhs; rw [e2]
  simp
def Refuser (w : World) (p : Value) (e : Ent) (r : Nat → Int) (f : Nat) : Prop :=
  (∀ args w, (callFunc f args).run Tryd.prog w = .ok (.enter f args) w) ∧ ∀ W, Below w.heap.size w W → Calls Tryd.prog f #[p, e.val] W fun x W' => x = .returned (.int .i64 (r f)) ∧ Below W.heap.size W W'
set_option maxRecDepth 100000 in
set_option maxHeartbeats 4000000 in
theorem refusal_any {w : World} {p : Value} {e : Ent} {A : Option Addr} {c : Nat} {ls : List (List Nat)} (h : Lists w A ls) (r : Nat → Int)
    (hf : ∀ pre f, (pre ++ [f]) <+: ls.flatten → first r pre = 0 → Refuser w p e r f) (hn : ls.length ≤ 100) (hm : ∀ fs ∈ ls, fs.length ≤ 100) :
    Calls Tryd.prog 72 #[p, e.val, .slice A ls.length c] w fun x w' => x = .returned (.int .i64 (first r ls.flatten)) ∧ Below w.heap.size w w' := by
  have HF := Lib.hid hf
  have HL := Lib.hid h
  have HM := Lib.hid hm
  have HB := Lib.hid ((Below.refl w.heap.size w).alloc (Nat.le_refl _) (.cells e.cells 45))
  have HBX : Hid (Blk (w.alloc (.cells e.cells 45)) w.heap.size 45 e.cells) := Lib.hid (Blk.new w 45 _)
  have hE : Hid (.agg #[.int .i64 e.epoch, .int .i64 e.id, .int .i64 e.num, .int .i64 e.seq, .int .i64 e.kind, .int .i64 e.value] = e.val) := Lib.hid rfl
  clear hf h hm
  unfold Ent.val
  unfold Ent.cells at *
  go_enter Tryd.func72, Tryd.ntmps72
  go_wp2_with fail
  generalize hw1 : w.alloc (.cells #[.int .i64 e.epoch, .int .i64 e.id, .int .i64 e.num, .int .i64 e.seq, .int .i64 e.kind, .int .i64 e.value] 45) = w1 at *
  generalize hbx : w.heap.size = bx at *
  have HBW : Hid (bx = w.heap.size) := Lib.hid hbx.symm
  clear hw1 hbx
  go_step3
  go_wp2_with fail
  go_step3
  go_wp2_with fail
  go_loopw [6, 13] (fun q i wr => ∃ k : Nat, k ≤ ls.length ∧ i = .int .i64 k ∧ q = .int .i64 0 ∧ first r (ls.take k).flatten = 0 ∧ Below w1.heap.size w1 wr) (fun _ i _ => ls.length - (iOf i).toNat)
  case atStart => exact ⟨0, by omega, rfl, rfl, rfl, Below.refl _ _⟩
  case round =>
    obtain ⟨k, hk, rfl, rfl, hz, hb⟩ := hrel
    have HZ := Lib.hid hz
    have HBR := Lib.hid hb
    clear hz hb
    by_cases hlt : k < ls.length
    case neg =>
      have hd1 : decide (k < ls.length) = false := by simpa using hlt
      have HR : Hid (first r ls.flatten = 0) := Lib.hid (by
        have := HZ.out
        rwa [List.take_of_length_le (by omega)] at this)
      have HE := Lib.hid (HB.out.trans (HBR.out.mono (by have := HB.out.size; have := HBW.out; omega)))
      go_wp2_with fail
      try rw [Exit.noGoto_ret]
      go_ret
      rw [HR.out]
      exact ⟨rfl, HBW.out ▸ HE.out⟩
    case pos =>
    obtain ⟨fs, hfs⟩ : ∃ fs, ls[k]? = some fs := ⟨_, List.getElem?_eq_getElem hlt⟩
    obtain ⟨ad, B, cB, rfl, hcell, hfr⟩ := ((HL.out.below (HBW.out ▸ HB.out)).below HBR.out).at_ hfs
    have hd1 : decide (k < ls.length) = true := by simpa using hlt
    have HFS := Lib.hid hfs
    have HFR := Lib.hid hfr
    have hfl : fs.length ≤ 100 := HM.out fs (List.mem_of_getElem? hfs)
    clear hfs hfr
    go_wp2_with fail
    go_loopw [6, 19] (fun q i wq => ∃ j : Nat, j ≤ fs.length ∧ i = .int .i64 j ∧ q = .int .i64 0 ∧ first r ((ls.take k).flatten ++ fs.take j) = 0 ∧ Below wr.heap.size wr wq) (fun _ i _ => fs.length - (iOf i).toNat)
    case atStart => exact ⟨0, by omega, rfl, rfl, by simpa using HZ.out, Below.refl _ _⟩
    case round =>
      obtain ⟨j, hj, rfl, rfl, hz, hb⟩ := hrel
      have HZ2 := Lib.hid hz
      have HBQ := Lib.hid hb
      have HBQ1 := Lib.hid (HBR.out.trans (hb.mono HBR.out.size))
      have HBQ0 := Lib.hid (HB.out.trans (HBQ1.out.mono (by have := HB.out.size; have := HBW.out; omega)))
      clear hz hb hcell
      by_cases hlj : j < fs.length
      case neg =>
        have hd2 : decide (j < fs.length) = false := by simpa using hlj
        have HR : Hid (first r (ls.take (k + 1)).flatten = 0) := Lib.hid (by
          have := HZ2.out
          rw [List.take_of_length_le (l := fs) (by omega)] at this
          rw [flatten_take HFS.out]
          exact this)
        go_wp2_with fail
        go_roundw
        case rel => exact ⟨k + 1, by omega, by go_num, rfl, HR.out, HBQ1.out⟩
        case measure => simp [iOf]; omega
      case pos =>
      obtain ⟨f, hfj⟩ : ∃ f, fs[j]? = some f := ⟨_, List.getElem?_eq_getElem hlj⟩
      have hd2 : decide (j < fs.length) = true := by simpa using hlj
      obtain ⟨eg, hcall⟩ := HF.out _ f (flatten_pre HFS.out hfj) HZ2.out
      have hcall := hcall wr (HBW.out ▸ HBQ0.out)
      rw [← hE.out] at hcall
      obtain ⟨adf, rfl, hcf⟩ := (HFR.out.below HBQ.out).one (i := j) (v := .func (.func f) #[] #[]) (by unfold fcells; rw [List.getElem?_map, hfj]; rfl)
      obtain ⟨b0, b1, b2, b3, b4, b5⟩ := (HBX.out.below HBQ1.out HBX.out.lt).six'
      have HFJ := Lib.hid hfj
      clear hfj
      by_cases hrf : r f = 0
      case pos =>
        have HR : Hid (first r ((ls.take k).flatten ++ fs.take (j + 1)) = 0) := Lib.hid (by
          rw [List.take_add_one, HFJ.out, ← List.append_assoc, first_app, if_pos HZ2.out]
          show first r [f] = 0
          rw [first_one]; exact hrf)
        rw [hrf] at hcall
        clear hrf
        go_wp2_with fail
        refine hcall.mono ?_
        rintro x w5 ⟨rfl, hb5⟩
        have HB5 := Lib.hid (HBQ.out.trans (hb5.mono HBQ.out.size))
        clear hb5 hcf b0 b1 b2 b3 b4 b5
        go_wp2_with fail
        go_roundw
        case rel => exact ⟨j + 1, by omega, by go_num, rfl, HR.out, HB5.out⟩
        case measure => simp [iOf]; omega
      case neg =>
        have HR : Hid (first r ls.flatten = r f) := Lib.hid (by
          obtain ⟨q, hq⟩ := flatten_pre HFS.out HFJ.out
          rw [← hq, List.append_assoc, first_app, if_pos HZ2.out, first_app, first_one, if_neg hrf])
        have hrb := nen hrf
        generalize r f = v at *
        clear hrf
        go_wp2_with fail
        refine hcall.mono ?_
        rintro x w5 ⟨rfl, hb5⟩
        have HB5 := Lib.hid (HBQ0.out.trans (hb5.mono (by have := HBQ0.out.size; have := HBW.out; omega)))
        clear hb5 hcf b0 b1 b2 b3 b4 b5
        go_wp2_with fail
        try rw [Exit.noGoto_ret]
        go_ret
        exact ⟨ret_i64 HR.out.symm, HBW.out ▸ HB5.out⟩
end Go.Proofs.YthcphoijanebhaaDoor
