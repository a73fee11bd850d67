/-
  Joined: Tell9, Ask9, St9, View9, To9, Some9, SameI9, Works9, RView9, Math9. Conditions: as each says.
-/
import Derived.Test.YthcphoijanebhaaDoorPush9
import Derived.BigQuiet
import Derived.Test.YthcphoijanebhaaDoorTof9
import Derived.Test.YthcphoijanebhaaDoorStb9
import Derived.Test.YthcphoijanebhaaDoorApp9
import Derived.Deep.Cut
import Derived.Test.YthcphoijanebhaaDoorGood9
import Derived.Test.YthcphoijanebhaaDoorRGood9
import Derived.Test.YthcphoijanebhaaDoorSame
import Derived.Test.YthcphoijanebhaaDoorDocs9
import Derived.Test.YthcphoijanebhaaDoorStable9
namespace Go.Proofs.YthcphoijanebhaaDoor
open Go.RowKit Go.Maps
set_option linter.unusedVariables false
/-- The place behind the last one that was told. -/
def nextV (V : List Nat) : Nat := match V.getLast? with
  | some x => x + 1
  | none => 0
section
variable {w : World} {r k : Nat} {S : Nat → Prop} {l : List Ent} {V U : List Nat}
theorem ints_form {v : Value} (h : OwnK w 3 1 v (intsOf V)) : ∃ A c, v = .slice A V.length c ∧ V.length ≤ c := by
  obtain ⟨A, q, c, rfl, hq, hc, -⟩ := h.form
  have hq' : q = V.length := by rw [hq]; simp [intsOf]
  subst hq'
  exact ⟨A, c, rfl, hc⟩
theorem Rd.intAt {X : Nat → Prop} {A : Option Addr} {n : Nat} (h : Rd w X 1 A n (intsOf V)) {i x : Nat} (hi : V[i]? = some x) : ∃ ad, A = some ad ∧ w.cell? (ad.add i) = some (.int .i64 (x : Int)) := by
  have hc : (intsOf V)[i]? = some #[.int .i64 (x : Int)] := by unfold intsOf; rw [List.getElem?_map, hi]; rfl
  obtain ⟨ad, e, -, -, h4⟩ := h.at_ hc
  refine ⟨ad, e, ?_⟩
  have := h4 0 _ rfl
  simpa using this
set_option maxRecDepth 100000 in
set_option maxHeartbeats 2000000 in
theorem next_any (h : Rr w S r l k V) (hV : V.length ≤ 1000000) (hb : ∀ x ∈ V, x ≤ 1000000) : Calls Tryd.prog 48 #[.pointer (some ⟨r, 0, none⟩)] w fun x w' => x = .returned (.int .i64 (nextV V : Int)) ∧ ∃ q, w' = w.drewN q := by
  obtain ⟨g, m1, m2, S0, v, hX, hS⟩ := h
  obtain ⟨A, c, rfl, hc⟩ := ints_form hX.row
  have c4 : w.cell? ⟨r, 4, none⟩ = some (.slice A V.length c) := hX.blk.cell 4
  have HR := Lib.hid (hX.row.rd (X := No) (fun _ _ h => h))
  clear hX hS
  cases hv : V.getLast? with
  | none =>
    obtain rfl : V = [] := by simpa using hv
    have hn : nextV ([] : List Nat) = 0 := rfl
    rw [hn]
    have hl0 : (((([] : List Nat).length : Nat) : Int) == 0) = true := by simp
    go_enter Tryd.func48, Tryd.ntmps48
    go_wp2_with fail
    go_ret
    exact ⟨rfl, 0, rfl⟩
  | some x =>
    have hn : nextV V = x + 1 := by unfold nextV; rw [hv]
    have HN := Lib.hid hn
    have hne : V ≠ [] := fun e => by subst e; cases hv
    have hlen : 0 < V.length := List.length_pos_iff.2 hne
    have hx : V[V.length - 1]? = some x := by rw [← List.getLast?_eq_getElem?]; exact hv
    have hxb := hb x (List.mem_of_getElem? hx)
    obtain ⟨ad, rfl, hcell⟩ := HR.out.intAt hx
    rw [hn]
    obtain ⟨j, hj⟩ : ∃ j, V.length = j + 1 := ⟨V.length - 1, by omega⟩
    rw [hj] at c4 hcell hc
    rw [show j + 1 - 1 = j by omega] at hcell
    have hl0 : decide (((j + 1 : Nat) : Int) = 0) = false := decide_eq_false (by omega)
    have hl1 : ((((j + 1 : Nat) : Int)) == 0) = false := by simp; omega
    have hjj : j ≤ 1000000 := by omega
    clear hne hx hv hb hV hn hj hlen HR
    go_enter Tryd.func48, Tryd.ntmps48
    go_upto_region 3 with fail
    go_quiet (fail)
    go_wp2_with fail
    go_ret
    exact ⟨by simp, _, rfl⟩
/-- What is known behind tell. -/
def TellP (w : World) (S : Nat → Prop) (r : Nat) (l : List Ent) (k : Nat) (V : List Nat) (o : Value) (x : Ending) (w' : World) : Prop :=
  x = .returned o ∧ Rr w' (More S w w') r l k V ∧ Turn S w w'
set_option maxRecDepth 100000 in
set_option maxHeartbeats 2000000 in
theorem tell_any {X : Nat → Prop} {A : Option Addr} {n c : Nat} (h : Rr w S r l k V) (hSl : ∀ x, S x → x < w.heap.size) (hr : Rd w X 1 A n (intsOf U)) (hV : V.length ≤ 1000000) (hU : n ≤ 1000000) :
    Calls Tryd.prog 47 #[.pointer (some ⟨r, 0, none⟩), .slice A n c] w (TellP w S r l k (V ++ U) (.slice A n c)) := by
  obtain ⟨g, m1, m2, S0, v, hX, hS⟩ := h
  have HX := Lib.hid hX
  have HS := Lib.hid (And.intro hS hSl)
  have HRR := Lib.hid hr
  obtain ⟨Av, cv, rfl, hcv⟩ := ints_form hX.row
  have c4 : w.cell? ⟨r, 4, none⟩ = some (.slice Av V.length cv) := hX.blk.cell 4
  clear hX hS hSl hr
  go_enter Tryd.func47, Tryd.ntmps47
  go_wp2_with (at_builtin; refine stop ?_)
  refine Stop.go (wpList_append_k el24 _ (by rfl) _ _ (by rfl) (.slice Av V.length cv) (intsOf V) (by rfl) HX.out.row X A n c (intsOf U) (by rfl) HRR.out (by simp [intsOf]; omega) (by omega) ?_)
  intro v9 w9 ho9 hg9
  have hU9 : Turn (fun b => Value.ownBlock (.slice Av V.length cv) = some b) w w9 := hg9.turn (S := fun b => Value.ownBlock (.slice Av V.length cv) = some b) (fun g e => e)
  have hb9 := HX.out.blk.keep hU9 HX.out.vr
  have z4 := hb9.frozen 4
  have d4 : w9.cell? ⟨r, 4, none⟩ = some (.slice Av V.length cv) := hb9.cell 4
  have hT : Turn (fun b => b = r ∨ Value.ownBlock (.slice Av V.length cv) = some b) w (w9.setCell ⟨r, 4, none⟩ v9) := (hU9.mono (fun b _ h => .inr h)).setCell (p := ⟨r, 4, none⟩) (fun _ => .inl rfl) _
  have HF : Hid (Rr (w9.setCell ⟨r, 4, none⟩ v9) (More S w (w9.setCell ⟨r, 4, none⟩ v9)) r l k (V ++ U) ∧ Turn S w (w9.setCell ⟨r, 4, none⟩ v9)) := Lib.hid (by
    have hv9 : ∀ b, v9.ownBlock = some b → Value.ownBlock (.slice Av V.length cv) = some b ∨ w.heap.size ≤ b := fun b e => hg9.2 b e
    have hrlt := HX.out.blk.lt
    have hv9r : ∀ b, v9.ownBlock = some b → b ≠ r := fun b e e2 => by
      rcases hv9 b e with h | h
      · exact HX.out.vr (e2 ▸ h)
      · omega
    have ho : OwnK (w9.setCell ⟨r, 4, none⟩ v9) 3 1 v9 (intsOf (V ++ U)) := by
      have h1 : OwnK w9 3 1 v9 (intsOf (V ++ U)) := by unfold intsOf at ho9 ⊢; rw [List.map_append]; exact ho9
      exact h1.keepB fun b e => Below.heap_setCell w9 _ _ b (hv9r b e)
    have htw := HX.out.tw.keep hT (fun x hx q => by
      rcases q with q | q
      · exact (HX.out.ap x hx).2.1 q
      · exact (HX.out.ap x hx).2.2 q)
    have hsz := hT.size
    refine ⟨⟨g, m1, m2, S0, v9, ⟨hb9.set_ 4 v9, htw, ho, fun x hx => ⟨Nat.lt_of_lt_of_le (HX.out.ap x hx).1 hsz, (HX.out.ap x hx).2.1, fun e => by
      rcases hv9 x e with h | h
      · exact (HX.out.ap x hx).2.2 h
      · have := (HX.out.ap x hx).1; omega⟩, fun e => hv9r r e rfl⟩, fun x hx => ?_⟩, hT.mono (fun b _ q => ?_)⟩
    · rcases hx with q | q | q
      · exact .inl (HS.out.1 x (.inl q))
      · exact .inl (HS.out.1 x (.inr (.inl q)))
      · rcases hv9 x q with h | h
        · exact .inl (HS.out.1 x (.inr (.inr h)))
        · exact .inr ⟨h, ho.lt q⟩
    · rcases q with q | q
      · exact HS.out.1 b (.inl q)
      · exact HS.out.1 b (.inr (.inr q)))
  obtain ⟨A9, n9, c9, rfl, -, -, -⟩ := ho9.form
  clear ho9 hg9 hU9 hb9 hT c4
  go_wp2_with fail
  go_ret
  exact ⟨rfl, HF.out⟩
end
end Go.Proofs.YthcphoijanebhaaDoor
namespace Go.Proofs.YthcphoijanebhaaDoor
open Go.RowKit Go.Maps
set_option linter.unusedVariables false
/-- What is known behind asked. -/
def AskP (w : World) (l : List Ent) (n : Int) (r : Ending) (w' : World) : Prop :=
  Below w.heap.size w w' ∧ ((allE [] l ≠ 0 ∧ r = .returned (.tuple #[.agg zero62, .int .i64 2])) ∨ (allE [] l = 0 ∧ (n < 0 ∨ (l.length : Int) < n) ∧ r = .returned (.tuple #[.agg zero62, .int .i64 4])) ∨
    (allE [] l = 0 ∧ 0 ≤ n ∧ n ≤ (l.length : Int) ∧ ∃ S g m1 m2, r = .returned (.tuple #[Tv g m1 m2, .int .i64 0]) ∧ TW w' S g m1 m2 l ∧ ∀ x, OwnT S m1 m2 x → w.heap.size ≤ x ∧ x < w'.heap.size))
section
variable {w : World} {l : List Ent}
set_option maxRecDepth 100000 in
set_option maxHeartbeats 4000000 in
theorem asked_any {X : Nat → Prop} {A : Option Addr} {q c : Nat} (h : Rd w X 6 A q (cellsOf l)) (hq : q ≤ 1000000) (n : Int) : Calls Tryd.prog 33 #[.slice A q c, .int .i64 n] w (AskP w l n) := by
  have HR1 : Hid (Blk (w.alloc (.cells #[.pointer none, .map none, .map none] 62)) w.heap.size 62 zero62) := Lib.hid (Blk.new w 62 _)
  have HB1 : Hid (Below w.heap.size w (w.alloc (.cells #[.pointer none, .map none, .map none] 62))) := Lib.hid ((Below.refl _ _).alloc (Nat.le_refl _) _)
  have hto := vtableOf_any (c := c) (h.below HB1.out) hq
  clear h
  go_enter Tryd.func33, Tryd.ntmps33
  go_wp2_with fail
  generalize w.alloc (.cells #[.pointer none, .map none, .map none] 62) = w1 at *
  generalize hbr : w.heap.size = br at *
  refine hto.mono ?_
  rintro r w2 ⟨hb2, hz | hz⟩
  case inr =>
    obtain ⟨hz, rfl⟩ := hz
    have hz1 := nen hz
    have HZ := Lib.hid hz
    have HB2 := Lib.hid (HB1.out.trans (hb2.mono (by have := HB1.out.size; omega)))
    have HR2 := Lib.hid (HR1.out.below hb2 HR1.out.lt)
    clear hz hb2 hto
    unfold zero62
    go_upto_region 2 with fail
    have HB3 := Lib.hid (HB2.out.alloc (by have := HB2.out.size; omega) (.cells #[.pointer none, .map none, .map none] 62))
    have HR3 := Lib.hid (HR2.out.alloc (.cells #[.pointer none, .map none, .map none] 62))
    generalize w2.alloc (.cells #[.pointer none, .map none, .map none] 62) = w3 at *
    generalize her : allE [] l = er at *
    go_wp2_with (with_reducible refine at_store 62 rfl ?_)
    refine Stop.go (wpList_store_blk (by rfl) (by rfl) 62 _ _ (by rfl) br _ zero62 (by rfl) (by rfl) 62 HR3.out (by rfl) (by kernel_rfl) (by simp [zero62, Value.oneCell']) ?_)
    intro w7 hB7 hg7 hs7
    have HFF : Hid (Below br w w7 ∧ Blk w7 br 62 zero62) := Lib.hid ⟨HB3.out.trans ((Turn.of_grown (S := fun x => x = br) hg7 (fun r e => by injection e with e; exact e.symm)).below (by have := HB3.out.size; omega) (fun x e => by omega)), hB7⟩
    clear hB7 hg7 hs7
    go_wp2_with fail
    refine bodyPost_ret (v := .tuple #[.agg zero62, .int .i64 2]) (results_ct (by rfl) _ _ br 62 _ (0, 0) _ (by rfl) HFF.out.2 und62 (by rfl) (by kernel_rfl) (by rfl)) rfl ?_
    exact ⟨by rw [hbr]; exact HFF.out.1, .inl ⟨by rw [her]; exact HZ.out, rfl⟩⟩
  obtain ⟨hz, S, g, m1, m2, rfl, hT, hS⟩ := hz
  have HZ := Lib.hid hz
  have HBS1 : Hid (br ≤ w1.heap.size) := Lib.hid (by have := HB1.out.size; omega)
  have HB2 := Lib.hid (HB1.out.trans (hb2.mono HBS1.out))
  have HR2 := Lib.hid (HR1.out.below hb2 HR1.out.lt)
  have HT := Lib.hid hT
  have HS : Hid (∀ x, OwnT S m1 m2 x → br < x ∧ x < w2.heap.size) := Lib.hid (fun x hx => by have := hS x hx; have := HR1.out.lt; omega)
  have HBS2 : Hid (br ≤ w2.heap.size) := Lib.hid (by have := HB2.out.size; omega)
  clear hz hT hS hb2 hto
  unfold Tv
  go_upto_region 2 with fail
  have hbt := Blk.new w2 62 #[.pointer (some ⟨g, 0, none⟩), .map (some m1), .map (some m2)]
  have hal := (Below.refl w2.heap.size w2).alloc (Nat.le_refl _) (.cells #[.pointer (some ⟨g, 0, none⟩), .map (some m1), .map (some m2)] 62)
  have HT3 := Lib.hid (HT.out.below hal)
  have HB3 := Lib.hid (HB2.out.trans (hal.mono HBS2.out))
  have HR3 := Lib.hid (HR2.out.below hal HR2.out.lt)
  have HBT := Lib.hid hbt
  have HS3 := Lib.hid hal.size
  generalize w2.alloc (.cells #[.pointer (some ⟨g, 0, none⟩), .map (some m1), .map (some m2)] 62) = w3 at *
  have hne2 : br ≠ w2.heap.size := fun e => by have := HR2.out.lt; omega
  have HNE := Lib.hid hne2
  generalize w2.heap.size = bt at *
  clear hbt hal hne2
  have c0 := HBT.out.cell 0
  have h00 : ((0 : Int) != 0) = false := by simp
  by_cases hbad : n < 0 ∨ (l.length : Int) < n
  case pos =>
    have HBAD := Lib.hid hbad
    by_cases hn0 : n < 0
    · have d1 : decide (n < 0) = true := decide_eq_true hn0
      clear hbad hn0
      go_wp2_with (with_reducible refine at_store 62 rfl ?_)
      refine Stop.go (wpList_store_blk (by rfl) (by rfl) 62 _ _ (by rfl) br _ zero62 (by rfl) (by rfl) 62 HR3.out (by rfl) (by kernel_rfl) (by simp [zero62, Value.oneCell']) ?_)
      intro w7 hB7 hg7 hs7
      have HFF : Hid (Below br w w7 ∧ Blk w7 br 62 zero62) := Lib.hid ⟨HB3.out.trans ((Turn.of_grown (S := fun x => x = br) hg7 (fun r e => by injection e with e; exact e.symm)).below (by have := HBS2.out; have := HS3.out; omega) (fun x e => by omega)), hB7⟩
      clear hB7 hg7 hs7
      go_wp2_with fail
      refine bodyPost_ret (v := .tuple #[.agg zero62, .int .i64 4]) (results_ct (by rfl) _ _ br 62 _ (0, 0) _ (by rfl) HFF.out.2 und62 (by rfl) (by kernel_rfl) (by rfl)) rfl ?_
      exact ⟨by rw [hbr]; exact HFF.out.1, .inr (.inl ⟨HZ.out, HBAD.out, rfl⟩)⟩
    · have d1 : decide (n < 0) = false := decide_eq_false hn0
      have d2 : decide ((l.length : Int) < n) = true := decide_eq_true (by omega)
      clear hbad hn0
      go_wp2_with fail
      refine (vlen_any c0 HT3.out.tb).mono ?_
      rintro r w4 ⟨rfl, rfl⟩
      go_wp2_with (with_reducible refine at_store 62 rfl ?_)
      refine Stop.go (wpList_store_blk (by rfl) (by rfl) 62 _ _ (by rfl) br _ zero62 (by rfl) (by rfl) 62 HR3.out (by rfl) (by kernel_rfl) (by simp [zero62, Value.oneCell']) ?_)
      intro w7 hB7 hg7 hs7
      have HFF : Hid (Below br w w7 ∧ Blk w7 br 62 zero62) := Lib.hid ⟨HB3.out.trans ((Turn.of_grown (S := fun x => x = br) hg7 (fun r e => by injection e with e; exact e.symm)).below (by have := HBS2.out; have := HS3.out; omega) (fun x e => by omega)), hB7⟩
      clear hB7 hg7 hs7
      go_wp2_with fail
      refine bodyPost_ret (v := .tuple #[.agg zero62, .int .i64 4]) (results_ct (by rfl) _ _ br 62 _ (0, 0) _ (by rfl) HFF.out.2 und62 (by rfl) (by kernel_rfl) (by rfl)) rfl ?_
      exact ⟨by rw [hbr]; exact HFF.out.1, .inr (.inl ⟨HZ.out, HBAD.out, rfl⟩)⟩
  case neg =>
    have d1 : decide (n < 0) = false := decide_eq_false (by omega)
    have d2 : decide ((l.length : Int) < n) = false := decide_eq_false (by omega)
    have HN : Hid (0 ≤ n ∧ n ≤ (l.length : Int)) := Lib.hid (by omega)
    clear hbad
    go_wp2_with fail
    refine (vlen_any c0 HT3.out.tb).mono ?_
    rintro r w4 ⟨rfl, rfl⟩
    clear c0
    go_wp2_with (with_reducible refine at_load 62 rfl ?_)
    refine Stop.go (wpList_load_blk (by rfl) 62 _ (by rfl) bt (by rfl) 62 _ HBT.out _ und62 (by rfl) (by kernel_rfl) ?_)
    go_wp2_with (with_reducible refine at_store 62 rfl ?_)
    refine Stop.go (wpList_store_blk (by rfl) (by rfl) 62 _ _ (by rfl) br _ #[.pointer (some ⟨g, 0, none⟩), .map (some m1), .map (some m2)] (by rfl) (by rfl) 62 HR3.out (by rfl) (by kernel_rfl) (by simp [Value.oneCell']) ?_)
    intro w5 hB5 hg5 hs5
    have hT5 : Turn (fun x => x = br) w3 w5 := Turn.of_grown hg5 (fun r e => by injection e with e; exact e.symm)
    have HFF : Hid (TW w5 S g m1 m2 l ∧ (∀ x, OwnT S m1 m2 x → br ≤ x ∧ x < w5.heap.size) ∧ Below br w w5 ∧ Blk w5 br 62 #[.pointer (some ⟨g, 0, none⟩), .map (some m1), .map (some m2)]) := Lib.hid ⟨HT3.out.keep hT5 (fun x hx e => by have := HS.out x hx; omega), fun x hx => by
      have := HS.out x hx
      have := HS3.out
      have := hT5.size
      omega, HB3.out.trans (hT5.below (by have := HBS2.out; have := HS3.out; omega) (fun x e => by omega)), hB5⟩
    clear hB5 hg5 hs5 hT5
    go_wp2_with fail
    refine bodyPost_ret (v := .tuple #[Tv g m1 m2, .int .i64 0]) (results_ct (by rfl) _ _ br 62 _ (0, 0) _ (by rfl) HFF.out.2.2.2 und62 (by rfl) (by kernel_rfl) (by rfl)) rfl ?_
    exact ⟨by rw [hbr]; exact HFF.out.2.2.1, .inr (.inr ⟨HZ.out, HN.out.1, HN.out.2, S, g, m1, m2, rfl, HFF.out.1, by rw [hbr]; exact HFF.out.2.1⟩)⟩
end
end Go.Proofs.YthcphoijanebhaaDoor
namespace Go.Proofs.YthcphoijanebhaaDoor
open Go.RowKit Go.Maps Go.Shelf
set_option linter.unusedVariables false
attribute [local go_sem] Oper.semAt_some
/-- What Stable answers. -/
def StableP (w : World) (l : List Ent) (n : Int) (r : Ending) (w' : World) : Prop :=
  Below w.heap.size w w' ∧ ((allE [] l ≠ 0 ∧ r = .returned (.tuple #[.int .i64 0, .int .i64 2])) ∨ (allE [] l = 0 ∧ (n < 0 ∨ (l.length : Int) < n) ∧ r = .returned (.tuple #[.int .i64 0, .int .i64 4])) ∨
    (allE [] l = 0 ∧ ∃ m N : Nat, n = (m : Int) ∧ m ≤ l.length ∧ StN l m 0 N ∧ r = .returned (.tuple #[.int .i64 (N : Int), .int .i64 0])))
/-- Between two rounds. -/
def StI (w : World) (bc k : Nat) (W : World) : Prop := Blk W bc 3 #[.int .i64 (k : Int)] ∧ Below w.heap.size w W
theorem stI_abide {w : World} {B bc : Nat} (h1 : bc < B) (h3 : w.heap.size ≤ B) : AbideB B (StI w bc) := fun k A A' h ht => by
  have hno : ∀ b, two B b → B ≤ b ∧ b ≤ B + 1 := fun b e => by rcases e with e | e <;> omega
  exact ⟨h.1.keep ht (fun e => by have := hno _ e; omega), h.2.trans (ht.below h.2.size (fun b e => by have := hno b e; omega))⟩
section
variable {w : World} {l : List Ent}
set_option maxRecDepth 100000 in
set_option maxHeartbeats 4000000 in
theorem Stable_any {X : Nat → Prop} {A : Option Addr} {q c : Nat} (h : Rd w X 6 A q (cellsOf l)) (hq : q ≤ 1000000) (hN : Nob w) (n : Int) : Calls Tryd.prog 12 #[.slice A q c, .int .i64 n] w (StableP w l n) := by
  have hask := asked_any (c := c) h hq n
  have HN0 := Lib.hid hN
  clear h hN
  refine (callsIn_wide (n := 3)).1 ?_
  refine callsIn_of_wp_marks Tryd.func12 rfl trivial ?_ rfl
  simp only [Tryd.ntmps12, List.size_toArray, List.length_cons, List.length_nil, Nat.reduceAdd, Nat.reduceSub, Array.replicate_succ, Array.replicate_zero, List.push_toArray, List.append_toArray, List.nil_append, List.cons_append]
  gi_wp2_with fail
  refine ⟨trivial, (callsIn_wide.2 hask).mono ?_⟩
  rintro r w2 ⟨hb2, hz | hz | hz⟩
  · obtain ⟨hz, rfl⟩ := hz
    have HF := Lib.hid (And.intro hb2 hz)
    unfold zero62
    clear hask hb2 hz
    have h20 : ((2 : Int) != 0) = true := by simp
    gi_wp2_with fail
    have hb3 := HF.out.1.alloc HF.out.1.size (.cells #[.pointer none, .map none, .map none] 62)
    exact ⟨.tuple #[.int .i64 0, .int .i64 2], by simp [results, Tryd.results12, go_sem], hb3, .inl ⟨HF.out.2, rfl⟩⟩
  · obtain ⟨hz, hbad, rfl⟩ := hz
    have HF := Lib.hid (And.intro hb2 (And.intro hz hbad))
    unfold zero62
    clear hask hb2 hz hbad
    have h20 : ((4 : Int) != 0) = true := by simp
    gi_wp2_with fail
    have hb3 := HF.out.1.alloc HF.out.1.size (.cells #[.pointer none, .map none, .map none] 62)
    exact ⟨.tuple #[.int .i64 0, .int .i64 4], by simp [results, Tryd.results12, go_sem], hb3, .inr (.inl ⟨HF.out.2.1, HF.out.2.2, rfl⟩)⟩
  · obtain ⟨hz, h0, hle, S, g, m1, m2, rfl, hT, hS⟩ := hz
    obtain ⟨m, rfl⟩ : ∃ m : Nat, n = (m : Int) := ⟨n.toNat, by omega⟩
    have hml : m ≤ l.length := by omega
    have HZ := Lib.hid hz
    have HT := Lib.hid hT
    have HS := Lib.hid hS
    have HML := Lib.hid hml
    have HB2 := Lib.hid hb2
    obtain ⟨N, hSN⟩ := stN_ex l m hml m 0 (by omega)
    have HSN := Lib.hid hSN
    clear hask hz hT hS hml hb2 hSN h0 hle
    unfold Tv
    have h00 : ((0 : Int) != 0) = false := by simp
    gi_wp2_with fail
    have hbt := Blk.new w2 62 #[.pointer (some ⟨g, 0, none⟩), .map (some m1), .map (some m2)]
    have hal := (Below.refl w2.heap.size w2).alloc (Nat.le_refl _) (.cells #[.pointer (some ⟨g, 0, none⟩), .map (some m1), .map (some m2)] 62)
    have hsz3 : (w2.alloc (.cells #[.pointer (some ⟨g, 0, none⟩), .map (some m1), .map (some m2)] 62)).heap.size = w2.heap.size + 1 := by simp
    generalize w2.alloc (.cells #[.pointer (some ⟨g, 0, none⟩), .map (some m1), .map (some m2)] 62) = w3 at *
    have hbc := Blk.new w3 3 #[.int .i64 0]
    have hal3 := (Below.refl w3.heap.size w3).alloc (Nat.le_refl _) (.cells #[.int .i64 0] 3)
    rw [hsz3] at hbc
    have HBT := Lib.hid (hbt.below hal3 hbt.lt)
    have HBC := Lib.hid hbc
    have HW24 := Lib.hid (hal.trans (hal3.mono hal.size))
    have hsz4 : (w3.alloc (.cells #[.int .i64 0] 3)).heap.size = w2.heap.size + 2 := by simp [hsz3]
    have HSZ4 := Lib.hid hsz4
    clear hbt hal hbc hal3 hsz3 hsz4
    generalize w3.alloc (.cells #[.int .i64 0] 3) = w4 at *
    obtain ⟨bt, hbt⟩ : ∃ bt, bt = w2.heap.size := ⟨_, rfl⟩
    obtain ⟨bc, hbc⟩ : ∃ bc, bc = w2.heap.size + 1 := ⟨_, rfl⟩
    rw [← hbc] at HBC ⊢
    rw [← hbt] at HBT ⊢
    have HBB := Lib.hid (And.intro hbt hbc)
    clear hbt hbc
    have HV4 : Hid (VT w4 bt g m1 m2 S l) := Lib.hid ((HT.out.below HW24.out).vt (HBT.out.cell 0) (HBT.out.cell 1) (HBT.out.cell 2))
    have HN4 : Hid (Nob w4) := Lib.hid ((HN0.out.low HB2.out).low HW24.out)
    refine ⟨trivial, (callsIn_wide.2 (stable_any HV4.out 0 m HML.out)).mono ?_⟩
    rintro r w5 ⟨bf, bn, btt, bl, rfl, hI, hb5⟩
    have HI := Lib.hid hI
    have HB5 := Lib.hid hb5
    have HV5 : Hid (VT w5 bt g m1 m2 S l) := Lib.hid (HV4.out.below hb5)
    have HN5 : Hid (Nob w5) := Lib.hid (HN4.out.low hb5)
    have hI0 : StI w bc 0 w5 := ⟨HBC.out.below hb5 HBC.out.lt, (HB2.out.trans (HW24.out.mono HB2.out.size)).trans (hb5.mono (Nat.le_trans HB2.out.size HW24.out.size))⟩
    have HSZ : Hid (w.heap.size ≤ w2.heap.size ∧ w4.heap.size ≤ w5.heap.size ∧ bc < w5.heap.size ∧ w.heap.size ≤ w5.heap.size) := Lib.hid ⟨HB2.out.size, hb5.size, hI0.1.lt, hI0.2.size⟩
    have HM : Hid (m1 < w2.heap.size ∧ m2 < w2.heap.size) := Lib.hid ⟨HT.out.e1.lt, HT.out.e2.lt⟩
    have HAR : Hid (AllR l ∧ l.length ≤ 4096) := Lib.hid ⟨HT.out.tb.right, HT.out.tb.len⟩
    clear hI hb5
    gi_wp2_with fail
    refine range_kz rfl (by omega) (gf := 56) (lb := #[.pointer (some ⟨bf, 0, none⟩), .pointer (some ⟨bn, 0, none⟩), .pointer (some ⟨btt, 0, none⟩), .pointer (some ⟨bl, 0, none⟩)]) rfl trivial (enters_of Tryd.func56 (by kernel_rfl) rfl)
      (stb_in (3 - 1) (by omega) (fun x => x < w5.heap.size ∧ x ≠ bc) HI.out HN5.out HV5.out.vr HAR.out.1 HML.out HAR.out.2 HSN.out (fun x h1 h2 => ⟨h2, by have := HSZ4.out; have := HBB.out; omega⟩)
        ⟨⟨HN5.out.2.2, by have := HBB.out; omega⟩, ⟨HV5.out.blt, by have := HBB.out; omega⟩, ⟨HV5.out.vr.e1.lt, by have := HBB.out; have := HM.out; omega⟩, ⟨HV5.out.vr.e2.lt, by have := HBB.out; have := HM.out; omega⟩⟩ (fun x h => h.1))
      (fun h h' => h.trans h')
      (fun W W' ht hz => KeepZ.of_turn ht (fun x hx => ⟨by have := hx.1; omega, fun e => by rcases e with e | e <;> have := hx.1 <;> omega⟩)) (fun _ => rfl)
      (StI w bc) (fun _ _ _ => False) (stI_abide HSZ.out.2.2.1 HSZ.out.2.2.2) (fun _ _ _ _ h _ => h)
      hI0
      (fun k => { tmps := #[.slice A q c, .int .i64 (m : Int), undef, undef, .int .i64 0, .int .i64 0, .pointer (some ⟨bt, 0, none⟩), .int .i64 0, .pointer (some ⟨bc, 0, none⟩), .tuple #[.agg #[.pointer (some ⟨g, 0, none⟩), .map (some m1), .map (some m2)], .int .i64 0], .slice A q c, .int .i64 (m : Int), .tuple #[.agg #[.pointer (some ⟨g, 0, none⟩), .map (some m1), .map (some m2)], .int .i64 0], .agg #[.pointer (some ⟨g, 0, none⟩), .map (some m1), .map (some m2)], .int .i64 0, .int .i64 0, .bool false, undef, .int .i64 (m : Int), StF bf bn btt bl, .int .i64 ((0 + k : Nat) : Int), (l.getD (0 + k) .none_).val, undef, undef, undef], defers := [] }) ?assign ?body ?done ?stop
    case assign =>
      intro lo k W K hk hK
      unfold encS
      generalize l.getD (0 + k) .none_ = e at *
      gi_wp2
      simpa using hK
    case body =>
      intro lo k W0 W hI0 hk hbB hTW
      have hI := stI_abide (w := w) (B := w5.heap.size) (bc := bc) HSZ.out.2.2.1 HSZ.out.2.2.2 k W0 W hI0 hTW
      have hkm : k < 4096 := by have := HSN.out.le; have := HML.out; have := HAR.out; omega
      have hsW := hTW.size
      have c8 := hI.1.cell 0
      have f8 := hI.1.frozen 0
      have HI9 := Lib.hid hI
      clear hI hI0 hTW
      try dsimp only
      gi_wp2
      have hT : Turn (fun x => x = bc) W (W.setCell ⟨bc, 0, none⟩ (.int .i64 ((k : Int) + 1))) := (Turn.refl (fun x => x = bc) W).setCell (p := ⟨bc, 0, none⟩) (fun _ => rfl) _
      refine ⟨Both.of_turn hT (by omega) (fun e => by have := HSZ.out; omega) (fun e => by have := HSZ.out; omega), KeepZ.of_turn hT (fun x hx => ⟨by have := hx.1; omega, hx.2⟩), ?_, HI9.out.2.trans (hT.below HI9.out.2.size (fun x e => by have := HBB.out; have := HSZ.out; omega))⟩
      have := HI9.out.1.set_ 0 (.int .i64 ((k : Int) + 1))
      simpa using this
    case done =>
      intro W hI hK
      have c8 := hI.1.cell 0
      have HI9 := Lib.hid hI
      have HK := Lib.hid hK
      clear hI hK
      gi_wp2_with fail
      refine ⟨by simp, .inl ⟨_, _, rfl, run_takeDeferred HK.out, ?_⟩⟩
      have hTp : Turn (two w5.heap.size) W (W.putObj w5.heap.size (.deferred none)) := turn_putObj _ _ _ (.inl rfl)
      exact ⟨.tuple #[.int .i64 (N : Int), .int .i64 0], by simp [results, Tryd.results12, go_sem], HI9.out.2.trans (hTp.below HI9.out.2.size (fun x e => by have := HSZ.out; rcases e with e | e <;> omega)), .inr (.inr ⟨HZ.out, m, N, rfl, HML.out, HSN.out, rfl⟩)⟩
    case stop => exact fun _ _ _ _ h => h.elim
end
end Go.Proofs.YthcphoijanebhaaDoor
namespace Go.Proofs.YthcphoijanebhaaDoor
open Go.RowKit Go.Maps
set_option linter.unusedVariables false
/-- What View answers. -/
def ViewP (w : World) (l : List Ent) (n : Int) (r : Ending) (w' : World) : Prop :=
  Below w.heap.size w w' ∧ ((allE [] l ≠ 0 ∧ r = .returned (.tuple #[.slice none 0 0, .int .i64 2])) ∨ (allE [] l = 0 ∧ (n < 0 ∨ (l.length : Int) < n) ∧ r = .returned (.tuple #[.slice none 0 0, .int .i64 4])) ∨
    (allE [] l = 0 ∧ ∃ m N : Nat, n = (m : Int) ∧ m ≤ l.length ∧ StN l m 0 N ∧ ∃ v, r = .returned (.tuple #[v, .int .i64 0]) ∧ OwnK w' 3 1 v (intsOf (vl l m 0 N)) ∧ ∀ b, v.ownBlock = some b → w.heap.size ≤ b))
theorem vl_len (l : List Ent) (n fr : Nat) : ∀ N, (vl l n fr N).length ≤ N
  | 0 => Nat.le_refl _
  | N + 1 => by
    have := vl_len l n fr N
    show (if see l n (l.getD (fr + N) .none_) = true then vl l n fr N ++ [fr + N] else vl l n fr N).length ≤ N + 1
    split
    · simp; omega
    · omega
section
variable {w : World} {l : List Ent}
set_option maxRecDepth 100000 in
set_option maxHeartbeats 4000000 in
theorem View_any {X : Nat → Prop} {A : Option Addr} {q c : Nat} (h : Rd w X 6 A q (cellsOf l)) (hq : q ≤ 1000000) (hN : Nob w) (n : Int) : Calls Tryd.prog 11 #[.slice A q c, .int .i64 n] w (ViewP w l n) := by
  have hask := asked_any (c := c) h hq n
  have HN0 := Lib.hid hN
  clear h hN
  go_enter Tryd.func11, Tryd.ntmps11
  go_wp2_with fail
  refine hask.mono ?_
  rintro r w2 ⟨hb2, hz | hz | hz⟩
  · obtain ⟨hz, rfl⟩ := hz
    have HF := Lib.hid (And.intro hb2 hz)
    unfold zero62
    clear hask hb2 hz
    have h20 : ((2 : Int) != 0) = true := by simp
    go_wp2_with fail
    refine bodyPost_ret (results_tmp2 (by rfl) _ _ _) rfl ?_
    exact ⟨HF.out.1.alloc HF.out.1.size _, .inl ⟨HF.out.2, rfl⟩⟩
  · obtain ⟨hz, hbad, rfl⟩ := hz
    have HF := Lib.hid (And.intro hb2 (And.intro hz hbad))
    unfold zero62
    clear hask hb2 hz hbad
    have h20 : ((4 : Int) != 0) = true := by simp
    go_wp2_with fail
    refine bodyPost_ret (results_tmp2 (by rfl) _ _ _) rfl ?_
    exact ⟨HF.out.1.alloc HF.out.1.size _, .inr (.inl ⟨HF.out.2.1, HF.out.2.2, rfl⟩)⟩
  · obtain ⟨hz, h0, hle, S, g, m1, m2, rfl, hT, hS⟩ := hz
    obtain ⟨m, rfl⟩ : ∃ m : Nat, n = (m : Int) := ⟨n.toNat, by omega⟩
    have hml : m ≤ l.length := by omega
    have HZ := Lib.hid hz
    have HT := Lib.hid hT
    have HML := Lib.hid hml
    have HB2 := Lib.hid hb2
    obtain ⟨N, hSN⟩ := stN_ex l m hml m 0 (by omega)
    have HSN := Lib.hid hSN
    clear hask hz hT hS hml hb2 hSN h0 hle
    unfold Tv
    have h00 : ((0 : Int) != 0) = false := by simp
    go_wp2_with fail
    have hbt := Blk.new w2 62 #[.pointer (some ⟨g, 0, none⟩), .map (some m1), .map (some m2)]
    have hal := (Below.refl w2.heap.size w2).alloc (Nat.le_refl _) (.cells #[.pointer (some ⟨g, 0, none⟩), .map (some m1), .map (some m2)] 62)
    have HV3 : Hid (VT (w2.alloc (.cells #[.pointer (some ⟨g, 0, none⟩), .map (some m1), .map (some m2)] 62)) w2.heap.size g m1 m2 S l) := Lib.hid ((HT.out.below hal).vt (hbt.cell 0) (hbt.cell 1) (hbt.cell 2))
    have HB3 : Hid (Below w.heap.size w (w2.alloc (.cells #[.pointer (some ⟨g, 0, none⟩), .map (some m1), .map (some m2)] 62))) := Lib.hid (HB2.out.trans (hal.mono HB2.out.size))
    clear hbt hal
    generalize w2.alloc (.cells #[.pointer (some ⟨g, 0, none⟩), .map (some m1), .map (some m2)] 62) = w3 at *
    generalize w2.heap.size = bt at *
    refine (visible_any bt 0 m w3).mono ?_
    rintro r w4 ⟨bT, bF, bN, bS, btt, bn, rfl, hI, hb4⟩
    have HI := Lib.hid hI
    have HB4 := Lib.hid hb4
    have HAR : Hid (AllR l ∧ l.length ≤ 4096) := Lib.hid ⟨HT.out.tb.right, HT.out.tb.len⟩
    have hV4 := HV3.out.below hb4
    have hN4 : Nob w4 := (HN0.out.low HB3.out).low hb4
    have halx := (Below.refl w4.heap.size w4).alloc (Nat.le_refl _) (.cells #[.slice none 0 0] 24)
    have hkx := Blk.new w4 24 #[.slice none 0 0]
    have hcs : ∀ W, Below (w4.alloc (.cells #[.slice none 0 0] 24)).heap.size (w4.alloc (.cells #[.slice none 0 0] 24)) W → ∀ x, Cs w4.heap.size W x → x = w4.heap.size := fun W hW x hx => by
      rcases hx with e | ⟨v, h1, h2⟩
      · exact e
      · have : W.cell? ⟨w4.heap.size, 0, none⟩ = some (.slice none 0 0) := (hW.cell (p := ⟨w4.heap.size, 0, none⟩) hkx.lt).trans (hkx.cell 0)
        rw [this] at h1
        injection h1 with h1
        subst h1
        cases h2
    have hV5 := hV4.below halx
    have hlt4 : w4.heap.size < (w4.alloc (.cells #[.slice none 0 0] 24)).heap.size := hkx.lt
    have hcol := collect_any (w := w4) #[.pointer (some ⟨bT, 0, none⟩), .pointer (some ⟨bF, 0, none⟩), .pointer (some ⟨bN, 0, none⟩), .pointer (some ⟨bS, 0, none⟩)] (vl l m 0 N) (by have := vl_len l m 0 N; have := HSN.out.le; have := HML.out; have := HAR.out; omega)
      (vis_in 3 (by omega) (B := w3.heap.size) (Cs w4.heap.size) ((hI.keepB (fun x _ hx => halx.block x hx))) (hN4.low halx) hV5 HML.out HSN.out
        (fun x hx q => by
          have e := hcs _ (Below.refl _ _) x q
          have h1 := hN4.2.2
          have h2 := hV4.blt
          have h3 := hV4.vr.e1.lt
          have h4 := hV4.vr.e2.lt
          have h5 : bT < w4.heap.size := block_lt_of_cell hI.cT
          have h6 : bF < w4.heap.size := block_lt_of_cell hI.cF
          have h7 : bN < w4.heap.size := block_lt_of_cell hI.cN
          have h8 : bS < w4.heap.size := block_lt_of_cell hI.cS
          have h9 : btt < w4.heap.size := block_lt_of_cell hI.ct
          have h10 : bn < w4.heap.size := block_lt_of_cell hI.cn
          omega)
        (fun W hW x q => by
          have e := hcs W (hW.below (Nat.le_refl _) (fun _ h => h.elim)) x q
          subst e
          exact .inl rfl))
    clear hI hb4 hV4 hN4 halx hkx hcs hV5 hlt4
    unfold ViF
    go_wp2_with fail
    refine hcol.mono ?_
    rintro r w6 ⟨v6, rfl, hO6, hv6, hb6⟩
    have HF := Lib.hid (And.intro hO6 (And.intro hv6 hb6))
    clear hcol hO6 hv6 hb6
    go_wp2_with fail
    refine bodyPost_ret (results_tmp2 (by rfl) _ _ _) rfl ?_
    have hb4 := HB3.out.trans (HB4.out.mono HB3.out.size)
    exact ⟨hb4.trans (HF.out.2.2.mono hb4.size), .inr (.inr ⟨HZ.out, m, N, rfl, HML.out, HSN.out, v6, rfl, HF.out.1, fun b eb => Nat.le_trans hb4.size (HF.out.2.1 b eb)⟩)⟩
end
end Go.Proofs.YthcphoijanebhaaDoor
namespace Go.Proofs.YthcphoijanebhaaDoor
open Go.RowKit Go.Maps
set_option linter.unusedVariables false
/-- What To answers, and how it stands then. -/
def ReadP (w : World) (S : Nat → Prop) (r : Nat) (l : List Ent) (k : Nat) (V : List Nat) (n : Int) (x : Ending) (w' : World) : Prop :=
  ((n < 0 ∨ (l.length : Int) < n) ∧ x = .returned (.tuple #[.slice none 0 0, .int .i64 4]) ∧ Rr w' S r l k V ∧ Below w.heap.size w w') ∨ (0 ≤ n ∧ n ≤ (l.length : Int) ∧ n < (k : Int) ∧ x = .returned (.tuple #[.slice none 0 0, .int .i64 2]) ∧ Rr w' S r l k V ∧ Below w.heap.size w w') ∨
    (∃ m N : Nat, n = (m : Int) ∧ k ≤ m ∧ m ≤ l.length ∧ StN l m (nextV V) N ∧ ∃ v T, x = .returned (.tuple #[v, .int .i64 0]) ∧ OwnK w' 3 1 v (intsOf (vl l m (nextV V) N)) ∧ (∀ b, v.ownBlock = some b → w.heap.size ≤ b ∧ ¬ T b) ∧ Rr w' T r l m (V ++ vl l m (nextV V) N) ∧ (∀ x, T x → More S w w' x) ∧ Turn S w w')
theorem nextV_le {V : List Nat} {k : Nat} (h : ∀ x ∈ V, x < k) : nextV V ≤ k := by
  unfold nextV
  cases hv : V.getLast? with
  | none => exact Nat.zero_le _
  | some x => exact h x (List.mem_of_getLast? hv)
section
variable {w : World} {r k : Nat} {S : Nat → Prop} {l : List Ent} {V : List Nat}
set_option maxRecDepth 100000 in
set_option maxHeartbeats 4000000 in
theorem to_any (h : Rr w S r l k V) (hSl : ∀ x, S x → x < w.heap.size) (h0 : ¬ S 0) (hN : Nob w) (hk : k ≤ l.length) (hVk : ∀ x ∈ V, x < k) (hV : V.length ≤ 1000000) (n : Int) : Calls Tryd.prog 25 #[.pointer (some ⟨r, 0, none⟩), .int .i64 n] w (ReadP w S r l k V n) := by
  obtain ⟨g, m1, m2, S0, v, hX, hS⟩ := h
  have HX := Lib.hid hX
  have HS := Lib.hid (And.intro hS (And.intro hSl h0))
  have HN := Lib.hid hN
  have HV := Lib.hid (And.intro hk (And.intro hVk hV))
  have c0 : w.cell? ⟨r, 0, none⟩ = some (.pointer (some ⟨g, 0, none⟩)) := hX.blk.cell 0
  have c3 : w.cell? ⟨r, 3, none⟩ = some (.int .i64 (k : Int)) := hX.blk.cell 3
  have z3 := hX.blk.frozen 3
  have HRr : Hid (Rr w S r l k V) := Lib.hid ⟨g, m1, m2, S0, v, hX, hS⟩
  clear hX hS hSl h0 hN hk hVk hV
  go_enter Tryd.func25, Tryd.ntmps25
  go_wp2_with fail
  refine (vthere_yes c0).mono ?_
  rintro x w9 ⟨rfl, rfl⟩
  by_cases hn0 : n < 0
  · have d1 : decide (n < 0) = true := decide_eq_true hn0
    have HP := Lib.hid hn0
    clear hn0
    go_wp2_with fail
    refine bodyPost_ret (results_tmp2 (by rfl) _ _ _) rfl ?_
    exact .inl ⟨.inl HP.out, rfl, HRr.out.below (Below.refl _ _), Below.refl _ _⟩
  by_cases hn1 : (l.length : Int) < n
  · have d1 : decide (n < 0) = false := decide_eq_false hn0
    have d2 : decide ((l.length : Int) < n) = true := decide_eq_true hn1
    have HP := Lib.hid hn1
    clear hn0 hn1
    go_wp2_with fail
    refine (vlen_any c0 HX.out.tw.tb).mono ?_
    rintro x w4 ⟨rfl, rfl⟩
    go_wp2_with fail
    refine bodyPost_ret (results_tmp2 (by rfl) _ _ _) rfl ?_
    exact .inl ⟨.inr HP.out, rfl, HRr.out.below (Below.refl _ _), Below.refl _ _⟩
  by_cases hn2 : n < (k : Int)
  · have d1 : decide (n < 0) = false := decide_eq_false hn0
    have d2 : decide ((l.length : Int) < n) = false := decide_eq_false hn1
    have d3 : decide (n < (k : Int)) = true := decide_eq_true hn2
    have HP : Hid (0 ≤ n ∧ n ≤ (l.length : Int) ∧ n < (k : Int)) := Lib.hid (by omega)
    clear hn0 hn1 hn2
    go_wp2_with fail
    refine (vlen_any c0 HX.out.tw.tb).mono ?_
    rintro x w4 ⟨rfl, rfl⟩
    go_wp2_with fail
    refine bodyPost_ret (results_tmp2 (by rfl) _ _ _) rfl ?_
    exact .inr (.inl ⟨HP.out.1, HP.out.2.1, HP.out.2.2, rfl, HRr.out.below (Below.refl _ _), Below.refl _ _⟩)
  obtain ⟨m, rfl⟩ : ∃ m : Nat, n = (m : Int) := ⟨n.toNat, by omega⟩
  have d1 : decide ((m : Int) < 0) = false := decide_eq_false hn0
  have d2 : decide (l.length < m) = false := decide_eq_false (by omega)
  have d3 : decide (m < k) = false := decide_eq_false (by omega)
  have HM : Hid (k ≤ m ∧ m ≤ l.length) := Lib.hid (by omega)
  have HL : Hid (l.length ≤ 4096) := Lib.hid HX.out.tw.tb.len
  have hfr : nextV V ≤ m := Nat.le_trans (nextV_le HV.out.2.1) HM.out.1
  obtain ⟨N, hSN⟩ := stN_ex l m HM.out.2 (m - nextV V) (nextV V) (by omega)
  have HSN := Lib.hid hSN
  have hT1 : Turn (fun b => b = r) w (w.setCell ⟨r, 3, none⟩ (.int .i64 (m : Int))) := Turn.of_set w (fun b => b = r) rfl _
  have HX1 : Hid (RX (w.setCell ⟨r, 3, none⟩ (.int .i64 (m : Int))) r g m1 m2 S0 v l m V) := Lib.hid (by
    have hx := HX.out
    exact ⟨hx.blk.set_ 3 _, hx.tw.keep hT1 (fun x q e => (hx.ap x q).2.1 e), hx.row.keep hT1 (fun x q e => hx.vr (e ▸ q)), fun x q => ⟨Nat.lt_of_lt_of_le (hx.ap x q).1 hT1.size, (hx.ap x q).2⟩, hx.vr⟩)
  have HT1 : Hid (Turn S w (w.setCell ⟨r, 3, none⟩ (.int .i64 (m : Int)))) := Lib.hid (hT1.mono fun b _ e => HS.out.1 b (.inl e))
  have HN1 : Hid (Nob (w.setCell ⟨r, 3, none⟩ (.int .i64 (m : Int)))) := Lib.hid (HN.out.keepZ (Z := fun x => x < w.heap.size ∧ ¬ S x) ⟨HT1.out.size, fun x q => HT1.out.block x q.1 q.2⟩ ⟨HN.out.2.2, HS.out.2.2⟩)
  have HSZ1 : Hid (w.heap.size ≤ (w.setCell ⟨r, 3, none⟩ (.int .i64 (m : Int))).heap.size) := Lib.hid hT1.size
  clear hn0 hn1 hn2 hfr hSN hT1
  go_wp2_with fail
  refine (vlen_any c0 HX.out.tw.tb).mono ?_
  rintro x w4 ⟨rfl, rfl⟩
  go_upto_region 8 with fail
  clear c0 c3 z3 d1 d2 d3
  generalize w.setCell ⟨r, 3, none⟩ (.int .i64 (m : Int)) = w1 at *
  have hnx : ∀ W, Below w1.heap.size w1 W → Calls Tryd.prog 48 #[.pointer (some ⟨r, 0, none⟩)] W (fun x w' => x = .returned (.int .i64 (nextV V : Int)) ∧ Below W.heap.size W w') := fun W hW => (next_any (S := S) ⟨g, m1, m2, S0, v, HX1.out.below hW, HS.out.1⟩ HV.out.2.2 (fun x hx => by have := HV.out.2.1 x hx; have := HV.out.1; have := HL.out; omega)).mono fun x w' h => ⟨h.1, by obtain ⟨q, hq⟩ := h.2; rw [hq]; exact (Below.refl W.heap.size W).trans (show Below W.heap.size W (W.drewN q) from ⟨rfl, rfl, rfl, Nat.le_refl _, fun _ _ => rfl⟩)⟩
  refine wp_region_np ?_
  refine wp_region_held_drew (S := fun _ => True) (by kernel_rfl) trivial (fun hHeld => ?_)
  refine wpAnyH_takeAt (i := 0) (d := 32) (v := ?vq0x) rfl rfl (by kernel_rfl) (by kernel_rfl) (by kernel_rfl) (fun _ _ _ h => h) (Or.inl ⟨by rfl, ?hyq0x⟩) hHeld ?_
  case hyq0x =>
    intro W hSw
    clear hSw
    (go_simp; try with_reducible rfl)
  simp only [List.setIfInBounds_toArray, List.set_cons_zero, List.set_cons_succ]
  refine wpAnyH_takeAt (i := 1) (d := 33) (v := ?vq1x) rfl rfl (by kernel_rfl) (by kernel_rfl) (by kernel_rfl) (fun _ _ _ h => h) (Or.inl ⟨by rfl, ?hyq1x⟩) hHeld ?_
  case hyq1x =>
    intro W hSw
    clear hSw
    (go_simp; try with_reducible rfl)
  simp only [List.setIfInBounds_toArray, List.set_cons_zero, List.set_cons_succ]
  refine wpAnyH_takeAt (i := 2) (d := 34) (v := ?vq2x) rfl rfl (by kernel_rfl) (by kernel_rfl) (by kernel_rfl) (fun _ _ _ h => h) (Or.inl ⟨by rfl, ?hyq2x⟩) hHeld ?_
  case hyq2x =>
    intro W hSw
    clear hSw
    (go_simp; try with_reducible rfl)
  simp only [List.setIfInBounds_toArray, List.set_cons_zero, List.set_cons_succ]
  refine wpAnyH_takeAt (i := 3) (d := 35) (v := ?vq3x) rfl rfl (by kernel_rfl) (by kernel_rfl) (by kernel_rfl) (fun _ _ _ h => h) (Or.inl ⟨by rfl, ?hyq3x⟩) hHeld ?_
  case hyq3x =>
    intro W hSw
    clear hSw
    (go_simp; try with_reducible rfl)
  simp only [List.setIfInBounds_toArray, List.set_cons_zero, List.set_cons_succ]
  refine wpAnyH_takeAt (i := 4) (d := 36) (v := ?vq4x) rfl rfl (by kernel_rfl) (by kernel_rfl) (by kernel_rfl) (fun _ _ _ h => h) (Or.inl ⟨by rfl, ?hyq4x⟩) hHeld ?_
  case hyq4x =>
    intro W hSw
    clear hSw
    (go_simp; try with_reducible rfl)
  simp only [List.setIfInBounds_toArray, List.set_cons_zero, List.set_cons_succ]
  refine wpAnyH_takeAt (i := 6) (d := 38) (v := ?vq5x) rfl rfl (by kernel_rfl) (by kernel_rfl) (by kernel_rfl) (fun _ _ _ h => h) (Or.inl ⟨by rfl, ?hyq5x⟩) hHeld ?_
  case hyq5x =>
    intro W hSw
    clear hSw
    (go_simp; try with_reducible rfl)
  simp only [List.setIfInBounds_toArray, List.set_cons_zero, List.set_cons_succ]
  refine wpAnyH_ready (rs := [5]) (by kernel_rfl) (by simp) (AllReadyH.cons rfl (fun K hK => ?_) AllReadyH.nil)
  go_simp
  refine (hnx w1.drew (Below.refl _ _).drew).mono ?_
  rintro x w2 ⟨rfl, hb2⟩
  dsimp only
  have HC2 : Hid (Below w1.heap.size w1 w2) := Lib.hid (((Below.refl _ _).drew).trans hb2)
  clear hb2 hnx
  refine hK.out _ _ (show True from trivial) (fun hHeld => ?_)
  clear hK K
  try simp only [List.setIfInBounds_toArray, List.set_cons_zero, List.set_cons_succ]
  refine wpAnyH_ready (rs := [7]) (by kernel_rfl) (by simp) (AllReadyH.cons rfl (fun K hK => ?_) AllReadyH.nil)
  go_simp
  refine (visible_any r (nextV V) m w2).mono ?_
  rintro x w4 ⟨bT, bF, bN, bS, btt, bn, rfl, hI, hb4⟩
  dsimp only
  have HI := Lib.hid hI
  have HB4 := Lib.hid hb4
  have HC4 : Hid (Below w1.heap.size w1 w4) := Lib.hid (HC2.out.trans (hb4.mono HC2.out.size))
  clear hI hb4
  refine hK.out _ _ (show True from trivial) (fun hHeld => ?_)
  clear hK K
  try simp only [List.setIfInBounds_toArray, List.set_cons_zero, List.set_cons_succ]
  refine wpAnyH_ready (rs := [8]) (by kernel_rfl) (by simp) (AllReadyH.cons rfl (fun K hK => ?_) AllReadyH.nil)
  have hcol : Calls Tryd.prog 34 #[.func (.func 54) #[] #[.pointer (some ⟨bT, 0, none⟩), .pointer (some ⟨bF, 0, none⟩), .pointer (some ⟨bN, 0, none⟩), .pointer (some ⟨bS, 0, none⟩)]] w4 (NewI w4 (vl l m (nextV V) N)) := by
    have hI := HI.out
    have hV4 := (HX1.out.below HC4.out).vt
    have hN4 : Nob w4 := HN1.out.low HC4.out
    have halx := (Below.refl w4.heap.size w4).alloc (Nat.le_refl _) (.cells #[.slice none 0 0] 24)
    have hkx := Blk.new w4 24 #[.slice none 0 0]
    have hcs : ∀ W, Below (w4.alloc (.cells #[.slice none 0 0] 24)).heap.size (w4.alloc (.cells #[.slice none 0 0] 24)) W → ∀ x, Cs w4.heap.size W x → x = w4.heap.size := fun W hW x hx => by
      rcases hx with e | ⟨v, h1, h2⟩
      · exact e
      · have : W.cell? ⟨w4.heap.size, 0, none⟩ = some (.slice none 0 0) := (hW.cell (p := ⟨w4.heap.size, 0, none⟩) hkx.lt).trans (hkx.cell 0)
        rw [this] at h1
        injection h1 with h1
        subst h1
        cases h2
    have hV5 := hV4.below halx
    have hlt4 : w4.heap.size < (w4.alloc (.cells #[.slice none 0 0] 24)).heap.size := hkx.lt
    exact collect_any (w := w4) #[.pointer (some ⟨bT, 0, none⟩), .pointer (some ⟨bF, 0, none⟩), .pointer (some ⟨bN, 0, none⟩), .pointer (some ⟨bS, 0, none⟩)] (vl l m (nextV V) N) (by have := vl_len l m (nextV V) N; have := HSN.out.le; have := HM.out; have := HL.out; omega)
      (vis_in 3 (by omega) (B := w2.heap.size) (Cs w4.heap.size) ((hI.keepB (fun x _ hx => halx.block x hx))) (hN4.low halx) hV5 HM.out.2 HSN.out
        (fun x hx q => by
          have e := hcs _ (Below.refl _ _) x q
          have h1 := hN4.2.2
          have h2 := hV4.blt
          have h3 := hV4.vr.e1.lt
          have h4 := hV4.vr.e2.lt
          have h5 : bT < w4.heap.size := block_lt_of_cell hI.cT
          have h6 : bF < w4.heap.size := block_lt_of_cell hI.cF
          have h7 : bN < w4.heap.size := block_lt_of_cell hI.cN
          have h8 : bS < w4.heap.size := block_lt_of_cell hI.cS
          have h9 : btt < w4.heap.size := block_lt_of_cell hI.ct
          have h10 : bn < w4.heap.size := block_lt_of_cell hI.cn
          omega)
        (fun W hW x q => by
          have e := hcs W (hW.below (Nat.le_refl _) (fun _ h => h.elim)) x q
          subst e
          exact .inl rfl))
  unfold ViF
  go_simp
  refine hcol.mono ?_
  rintro x w6 ⟨v6, rfl, hO6, hv6, hb6⟩
  dsimp only
  clear hcol
  obtain ⟨A6, cc6, rfl, hc6⟩ := ints_form hO6
  generalize hU : vl l m (nextV V) N = U at *
  have HU := Lib.hid hU
  have HUl : Hid (U.length ≤ 1000000) := Lib.hid (by have := vl_len l m (nextV V) N; rw [hU] at this; have := HSN.out.le; have := HM.out; have := HL.out; omega)
  have HO6 := Lib.hid (And.intro hO6 hv6)
  have HC6 : Hid (Below w1.heap.size w1 w6) := Lib.hid (HC4.out.trans (hb6.mono HC4.out.size))
  have HS4 : Hid (w1.heap.size ≤ w4.heap.size) := Lib.hid HC4.out.size
  have htl : Calls Tryd.prog 47 #[.pointer (some ⟨r, 0, none⟩), .slice A6 U.length cc6] w6 (TellP w6 S r l m (V ++ U) (.slice A6 U.length cc6)) := tell_any (c := cc6) ⟨g, m1, m2, S0, v, HX1.out.below HC6.out, HS.out.1⟩ (fun x hx => by have := HS.out.2.1 x hx; have := HC6.out.size; have := HSZ1.out; omega) (hO6.rd (X := No) (fun _ _ h => h)) HV.out.2.2 HUl.out
  clear hU hO6 hv6 hb6 hc6
  refine hK.out _ _ (show True from trivial) (fun hHeld => ?_)
  clear hK K
  try simp only [List.setIfInBounds_toArray, List.set_cons_zero, List.set_cons_succ]
  refine wpAnyH_ready (rs := [9]) (by kernel_rfl) (by simp) (AllReadyH.cons rfl (fun K hK => ?_) AllReadyH.nil)
  go_simp
  refine htl.mono ?_
  rintro x w7 ⟨rfl, hR7, hT7⟩
  dsimp only
  have HF7 := Lib.hid (And.intro hR7 hT7)
  clear hR7 hT7 htl
  refine hK.out _ _ (show True from trivial) (fun hHeld => ?_)
  clear hK K
  try simp only [List.setIfInBounds_toArray, List.set_cons_zero, List.set_cons_succ]
  refine wpAnyH_takeAt (i := 10) (d := 4) (v := ?vq6x) rfl rfl (by kernel_rfl) (by kernel_rfl) (by kernel_rfl) (fun _ _ _ h => h) (Or.inl ⟨by rfl, ?hyq6x⟩) hHeld ?_
  case hyq6x =>
    intro W hSw
    clear hSw
    (go_simp; try with_reducible rfl)
  simp only [List.setIfInBounds_toArray, List.set_cons_zero, List.set_cons_succ]
  refine wpAnyH_takeAt (i := 11) (d := 5) (v := ?vq7x) rfl rfl (by kernel_rfl) (by kernel_rfl) (by kernel_rfl) (fun _ _ _ h => h) (Or.inl ⟨by rfl, ?hyq7x⟩) hHeld ?_
  case hyq7x =>
    intro W hSw
    clear hSw
    (go_simp; try with_reducible rfl)
  simp only [List.setIfInBounds_toArray, List.set_cons_zero, List.set_cons_succ]
  refine wpAnyH_done (by kernel_rfl) ?_ _
  clear hHeld
  go_wp2_with fail
  refine bodyPost_ret (results_tmp2 (by rfl) _ _ _) rfl ?_
  have hb6 : Turn S w w6 := HT1.out.trans (Turn.of_below HC6.out S) (fun _ _ q => q)
  have hs6 := hb6.size
  have hs7 := HF7.out.2.size
  refine .inr (.inr ⟨m, N, rfl, HM.out.1, HM.out.2, HSN.out, .slice A6 U.length cc6, More S w6 w7, rfl, ?_, fun b e => ⟨?_, fun q => ?_⟩, ?_, fun x q => ?_, hb6.trans HF7.out.2 (fun _ _ q => q)⟩)
  · rw [HU.out]
    exact HO6.out.1.keep HF7.out.2 (fun b e q => by have := HO6.out.2 b e; have := HS.out.2.1 b q; have := HS4.out; have := HSZ1.out; omega)
  · have := HO6.out.2 b e; have := HS4.out; have := HSZ1.out; omega
  · have h1 := HO6.out.2 b e
    have h2 := HO6.out.1.lt e
    have h3 := HS4.out
    have h4 := HSZ1.out
    rcases q with q | q
    · have := HS.out.2.1 b q; omega
    · omega
  · rw [HU.out]; exact HF7.out.1
  · rcases q with q | q
    · exact .inl q
    · exact .inr ⟨by omega, q.2⟩
end
end Go.Proofs.YthcphoijanebhaaDoor
namespace Go.Proofs.YthcphoijanebhaaDoor
open Go.RowKit Go.Maps
set_option linter.unusedVariables false
def nob1 : Ent := ⟨1, -1, 0, 0, 1, 0⟩
def dat1 : Ent := ⟨1, 0, 1, 0, 1, 0⟩
def com1 : Ent := ⟨1, 0, 1, 0, 2, 0⟩
/-- The chapter's first log. -/
def sm : List Ent := [nob1, dat1, nob1, com1, nob1]
theorem stN_one {l : List Ent} {n fr N M : Nat} (h : StN l n fr N) (k : StN l n fr M) : N = M := by
  rcases Nat.lt_trichotomy N M with q | q | q
  · obtain ⟨e, h1, h2⟩ := h.no (by have := k.le; omega)
    obtain ⟨f, k1, k2⟩ := k.yes N q
    rw [h1] at k1; injection k1 with k1; subst k1; rw [h2] at k2; cases k2
  · exact q
  · obtain ⟨e, h1, h2⟩ := k.no (by have := h.le; omega)
    obtain ⟨f, k1, k2⟩ := h.yes M q
    rw [h1] at k1; injection k1 with k1; subst k1; rw [h2] at k2; cases k2
theorem sm3 : StN sm 3 0 1 := ⟨by decide, fun i hi => ⟨nob1, by (obtain rfl : i = 0 := by omega); decide, by decide⟩, fun _ => ⟨dat1, by decide, by decide⟩⟩
theorem sm5 : StN sm 5 0 5 := ⟨by decide, fun i hi => by
  rcases i with _ | _ | _ | _ | _ | i
  · exact ⟨nob1, by decide, by decide⟩
  · exact ⟨dat1, by decide, by decide⟩
  · exact ⟨nob1, by decide, by decide⟩
  · exact ⟨com1, by decide, by decide⟩
  · exact ⟨nob1, by decide, by decide⟩
  · omega, fun h => by omega⟩
theorem one1 : StN [nob1] 1 0 1 := ⟨by decide, fun i hi => ⟨nob1, by (obtain rfl : i = 0 := by omega); decide, by decide⟩, fun h => by omega⟩
theorem vl3 : vl sm 3 0 1 = [0] := by decide
theorem vl5 : vl sm 5 0 5 = [0, 1, 2, 4] := by decide
theorem vl1 : vl [nob1] 1 0 1 = [0] := by decide
theorem smE : allE [] sm = 0 := by decide
theorem sm_good : GoodL sm := fun j e h => by
  rcases j with _ | _ | _ | _ | _ | j
  · injection h with h; subst h; decide
  · injection h with h; subst h; decide
  · injection h with h; subst h; decide
  · injection h with h; subst h; decide
  · injection h with h; subst h; decide
  · exact absurd h (by simp [sm])
theorem push_one : pushE [] nob1 = 0 ∧ push1 [] nob1 = [nob1] := by decide
theorem allE_each {l : List Ent} : allE [] l = 0 ↔ ∀ j e, l[j]? = some e → appendE (l.take j) e = 0 := by
  constructor
  · intro h j e he
    by_cases hz : allE [] (l.take j) = 0
    · by_cases hn : appendE (l.take j) e = 0
      · exact hn
      · have := allE_stop he hz hn; omega
    · have h1 : allE [] l = allE [] (l.take j) := by
        conv => lhs; rw [← List.take_append_drop j l]
        rw [allE_app, if_neg hz]
      omega
  · intro h
    have hk : ∀ k, allE [] (l.take k) = 0 := by
      intro k
      induction k with
      | zero => simp [allE]
      | succ k ih =>
        cases he : l[k]? with
        | none =>
          rw [List.take_add_one, he]
          simpa using ih
        | some e => rw [allE_take he ih]; exact h k e he
    have := hk l.length
    rwa [List.take_length] at this
theorem right_of_append {l : List Ent} {e : Ent} (h : appendE l e = 0) : Right e := by
  unfold appendE at h
  split at h
  · assumption
  · omega
theorem allR_of {l : List Ent} (h : allE [] l = 0) : AllR l := fun e he => by
  obtain ⟨j, hj⟩ := List.mem_iff_getElem?.1 he
  exact right_of_append (allE_each.1 h j e hj)
theorem endd_beh {l : List Ent} {e : Ent} (hl : AllR l) (he : Right e) : endd l e = behE l e := by
  unfold endd behE anyK isMk
  rw [List.take_length]
  by_cases h0 : 0 ≤ e.id
  · rw [decide_eq_true h0, Bool.true_and, Bool.eq_iff_iff, List.any_eq_true, List.any_eq_true]
    constructor
    · rintro ⟨x, hx, h⟩
      refine ⟨x, hx, ?_⟩
      have hr := right_kind (hl x hx)
      simp only [mkE, Ent.key, Bool.and_eq_true, decide_eq_true_eq, Prod.mk.injEq] at h ⊢
      obtain ⟨⟨h1, h2⟩, h3⟩ := h
      exact ⟨h1, h2, by omega⟩
    · rintro ⟨x, hx, h⟩
      refine ⟨x, hx, ?_⟩
      simp only [mkE, Ent.key, Bool.and_eq_true, decide_eq_true_eq, Prod.mk.injEq] at h ⊢
      obtain ⟨h1, h2, h3⟩ := h
      exact ⟨⟨h1, h2⟩, by omega⟩
  · rw [decide_eq_false h0, Bool.false_and, Bool.eq_false_iff]
    intro h
    rw [List.any_eq_true] at h
    obtain ⟨x, hx, h⟩ := h
    have hr := hl x hx
    simp only [mkE, Ent.key, Bool.and_eq_true, decide_eq_true_eq, Prod.mk.injEq] at h
    obtain ⟨⟨h1, h2⟩, h3⟩ := h
    unfold Right at hr
    omega
theorem good_same (l : List Ent) : GoodL l ↔ RGoodL l := by
  constructor
  · intro h
    have ha : allE [] l = 0 := allE_each.2 fun j e he => (push_zero (h j e he)).2
    refine ⟨ha, fun j e he => ?_⟩
    have hR := allR_of ha
    rw [← endd_beh (fun x hx => hR x (List.mem_of_mem_take hx)) (hR e (List.mem_of_getElem? he))]
    exact (push_zero (h j e he)).1
  · rintro ⟨ha, hb⟩ j e he
    have hR := allR_of ha
    have h1 := hb j e he
    rw [← endd_beh (fun x hx => hR x (List.mem_of_mem_take hx)) (hR e (List.mem_of_getElem? he))] at h1
    unfold pushE
    rw [if_neg (by rw [h1]; decide)]
    exact allE_each.1 ha j e he
end Go.Proofs.YthcphoijanebhaaDoor
namespace Go.Proofs.YthcphoijanebhaaDoor
open Go.RowKit Go.Maps
set_option linter.unusedVariables false
section
variable {w : World} {V U : List Nat}
theorem Rd.lenI {X : Nat → Prop} {A : Option Addr} {n : Nat} (h : Rd w X 1 A n (intsOf V)) : V.length = n := by
  have := h.1
  have h2 : (intsOf V).length = V.length := by simp [intsOf]
  omega
set_option maxRecDepth 100000 in
set_option maxHeartbeats 4000000 in
theorem sameI_any {X Y : Nat → Prop} {A B : Option Addr} {n m c d : Nat} (h1 : Rd w X 1 A n (intsOf V)) (h2 : Rd w Y 1 B m (intsOf U)) (hn : n ≤ 1000000) (hm : m ≤ 1000000) :
    Calls Tryd.prog 16 #[.slice A n c, .slice B m d] w fun r w' => r = .returned (.bool (decide (V = U))) ∧ ∃ q, w' = w.drewN q := by
  have hl1 := h1.lenI
  have hl2 := h2.lenI
  by_cases h0 : n = m
  case neg =>
    have H : Hid (decide (V = U) = false) := Lib.hid (decide_eq_false (fun e => by subst e; omega))
    have hb : ((n : Int) != (m : Int)) = true := by simp; omega
    clear h1 h2 hl1 hl2 h0
    go_enter Tryd.func16, Tryd.ntmps16
    go_wp2_with fail
    go_ret
    exact ⟨ret_bool H.out.symm, 0, rfl⟩
  subst h0
  have hb : ((n : Int) != (n : Int)) = false := by simp
  have H1 := Lib.hid h1
  have H2 := Lib.hid h2
  have HL1 := Lib.hid hl1
  have HL2 := Lib.hid hl2
  clear h1 h2 hl1 hl2
  go_enter Tryd.func16, Tryd.ntmps16
  go_wp2_with fail
  go_loopw [5] (fun i wr => ∃ k : Nat, k ≤ n ∧ i = .int .i64 k ∧ Hid (V.take k = U.take k) ∧ ∃ q, wr = w.drewN q) (fun i _ => n - (iOf i).toNat)
  case atStart => exact ⟨0, by omega, rfl, Lib.hid rfl, 0, rfl⟩
  case round =>
    obtain ⟨k, hk, rfl, HT, q, rfl⟩ := hrel
    by_cases hlt : k < n
    case neg =>
      have hd1 : decide (k < n) = false := by simpa using hlt
      have H : Hid (decide (V = U) = true) := Lib.hid (decide_eq_true (by
        have := HT.out
        rwa [List.take_of_length_le (by have := HL1.out; omega), List.take_of_length_le (by have := HL2.out; omega)] at this))
      go_wp2_with fail
      go_ret
      exact ⟨ret_bool H.out.symm, q, rfl⟩
    case pos =>
    obtain ⟨e1, he1⟩ : ∃ e, V[k]? = some e := ⟨_, List.getElem?_eq_getElem (by rw [HL1.out]; exact hlt)⟩
    obtain ⟨e2, he2⟩ : ∃ e, U[k]? = some e := ⟨_, List.getElem?_eq_getElem (by rw [HL2.out]; exact hlt)⟩
    obtain ⟨a1, rfl, c0⟩ := H1.out.intAt he1
    obtain ⟨a2, rfl, d0⟩ := H2.out.intAt he2
    have hd1 : decide (k < n) = true := by simpa using hlt
    have HE := Lib.hid (And.intro he1 he2)
    clear he1 he2
    by_cases h3 : e1 = e2
    case pos =>
      have b3 : (((e1 : Int)) != (e2 : Int)) = false := by simp [h3]
      have HN : Hid (V.take (k + 1) = U.take (k + 1)) := Lib.hid (by rw [List.take_add_one, List.take_add_one, HE.out.1, HE.out.2, HT.out, h3])
      clear h3
      go_wp2_with fail
      go_quiet (fail)
      go_wp2_with fail
      go_round
      case rel => exact ⟨k + 1, by omega, by go_num, HN, _, (by first | rfl | rw [World.drewN_drewN])⟩
      case measure => simp [iOf]; omega
    case neg =>
      have b3 : (((e1 : Int)) != (e2 : Int)) = true := by simp; omega
      have HN : Hid (decide (V = U) = false) := Lib.hid (decide_eq_false (fun e => by
        subst e
        have h1 := HE.out.1
        rw [HE.out.2] at h1
        injection h1 with h1
        exact h3 h1.symm))
      clear h3
      go_wp2_with fail
      go_quiet (fail)
      go_wp2_with fail
      go_ret
      exact ⟨ret_bool HN.out.symm, _, (by first | rfl | rw [World.drewN_drewN])⟩
end
end Go.Proofs.YthcphoijanebhaaDoor
namespace Go.Proofs.YthcphoijanebhaaDoor
open Go.RowKit Go.Maps
set_option linter.unusedVariables false
section
variable {w w' : World} {X : Nat → Prop} {A : Option Addr} {n c : Nat} {l : List Ent} {e : Ent}
theorem rd_lit {k : Nat} (w : World) (t : TypeId) (C : Array Value) {css : List (Array Value)} (hs : Sized k css) (hf : flatA css = C.toList) (hn : css.length = n) (hX : ¬ X w.heap.size) : Rd (w.alloc (.cells C t)) X k (some ⟨w.heap.size, 0, none⟩) n css := by
  refine ⟨hn, hs, fun _ => ⟨_, rfl, by simp, hX, fun j u hu => ?_⟩⟩
  have hadd : (⟨w.heap.size, 0, none⟩ : Addr).add j = ⟨w.heap.size, j, none⟩ := by unfold Addr.add; split <;> simp_all
  rw [hadd, (Blk.new w t C).cell j, ← Array.getElem?_toList, ← hf]
  exact hu
theorem num_any (n : Int) (w : World) : Calls Tryd.prog 15 #[.int .i64 n] w fun r w' => r = .returned (.int .i64 n) ∧ w = w' := by
  go_enter Tryd.func15, Tryd.ntmps15
  go_wp2_with fail
  go_ret
  exact ⟨rfl, rfl⟩
set_option maxRecDepth 100000 in
set_option maxHeartbeats 4000000 in
theorem some_any (w : World) : Calls Tryd.prog 32 #[] w fun r w' => ∃ z, r = .returned (.slice (some ⟨z, 0, none⟩) 5 5) ∧ Rd w' No 6 (some ⟨z, 0, none⟩) 5 (cellsOf sm) ∧ Below w.heap.size w w' := by
  go_enter Tryd.func32, Tryd.ntmps32
  go_wp2_with fail
  go_ret
  refine ⟨w.heap.size + 1 + 1 + 1, rfl, ?_, ?_⟩
  · have hs : ∀ (a b c : Obj), (((w.alloc a).alloc b).alloc c).heap.size = w.heap.size + 1 + 1 + 1 := fun a b c => by simp
    rw [← hs (.cells nob1.cells 45) (.cells dat1.cells 45) (.cells com1.cells 45)]
    exact rd_lit (((w.alloc (.cells nob1.cells 45)).alloc (.cells dat1.cells 45)).alloc (.cells com1.cells 45)) 45 _ (by intro c hc; simp [cellsOf, sm, nob1, dat1, com1, Ent.cells] at hc; rcases hc with rfl | rfl | rfl | rfl | rfl <;> exact ⟨rfl, by simp [Value.oneCell']⟩) rfl rfl (fun h => h.elim)
  · exact ((((Below.refl _ _).alloc (Nat.le_refl _) _).alloc (by simp) _).alloc (by simp; omega) _).alloc (by simp; omega) _
theorem smView {A : Option Addr} {q c : Nat} {X : Nat → Prop} (h : Rd w X 6 A q (cellsOf sm)) (hq : q ≤ 1000000) (hN : Nob w) (m N : Nat) (V : List Nat) (hS : StN sm m 0 N) (hV : vl sm m 0 N = V) (hm : m ≤ 5) {k : Nat} (hk : V.length = k) :
    Calls Tryd.prog 11 #[.slice A q c, .int .i64 (m : Int)] w fun r w' => ∃ A' c', r = .returned (.tuple #[.slice A' k c', .int .i64 0]) ∧ OwnK w' 3 1 (.slice A' k c') (intsOf V) ∧ Below w.heap.size w w' := by
  subst hk
  refine (View_any (c := c) h hq hN (m : Int)).mono ?_
  rintro r w' ⟨hb, hz | hz | hz⟩
  · exact absurd smE hz.1
  · have := hz.2.1
    have e : sm.length = 5 := rfl
    rw [e] at this
    omega
  · obtain ⟨-, m', N', e, -, hS', v, rfl, ho, -⟩ := hz
    obtain rfl : m = m' := by omega
    obtain rfl := stN_one hS hS'
    rw [hV] at ho
    obtain ⟨A', c', rfl, -⟩ := ints_form ho
    exact ⟨A', c', rfl, ho, hb⟩
theorem smStable {A : Option Addr} {q c : Nat} {X : Nat → Prop} (h : Rd w X 6 A q (cellsOf sm)) (hq : q ≤ 1000000) (hN : Nob w) :
    Calls Tryd.prog 12 #[.slice A q c, .int .i64 3] w fun r w' => r = .returned (.tuple #[.int .i64 1, .int .i64 0]) ∧ Below w.heap.size w w' := by
  refine (Stable_any (c := c) h hq hN 3).mono ?_
  rintro r w' ⟨hb, hz | hz | hz⟩
  · exact absurd smE hz.1
  · have := hz.2.1
    have e : sm.length = 5 := rfl
    rw [e] at this
    omega
  · obtain ⟨-, m', N', e, -, hS', rfl⟩ := hz
    obtain rfl : m' = 3 := by omega
    obtain rfl := stN_one sm3 hS'
    exact ⟨rfl, hb⟩
theorem sm64 : ∀ e ∈ sm, In64P e.key := by
  intro e he
  simp only [sm, List.mem_cons, List.not_mem_nil, or_false] at he
  rcases he with rfl | rfl | rfl | rfl | rfl <;> exact ⟨by simp [In64, Ent.key, nob1, dat1, com1], by simp [In64, Ent.key, nob1, dat1, com1]⟩
theorem smTo {S : Nat → Prop} {r : Nat} (h : Rr w S r [nob1] 0 []) (hSl : ∀ x, S x → x < w.heap.size) (h0 : ¬ S 0) (hN : Nob w) :
    Calls Tryd.prog 25 #[.pointer (some ⟨r, 0, none⟩), .int .i64 1] w fun x w' => ∃ A c, x = .returned (.tuple #[.slice A 1 c, .int .i64 0]) ∧ OwnK w' 3 1 (.slice A 1 c) (intsOf [0]) ∧ Turn S w w' := by
  refine (to_any h hSl h0 hN (Nat.zero_le _) (fun x hx => (by cases hx)) (by simp) 1).mono ?_
  rintro x w' (hz | hz | hz)
  · have := hz.1
    have e : [nob1].length = 1 := rfl
    rw [e] at this
    omega
  · have := hz.2.2.1
    omega
  · obtain ⟨m, N, e, -, -, hS', v, T, rfl, ho, -, -, -, ht⟩ := hz
    obtain rfl : m = 1 := by omega
    have hn : nextV ([] : List Nat) = 0 := rfl
    rw [hn] at hS' ho
    obtain rfl := stN_one one1 hS'
    rw [vl1] at ho
    obtain ⟨A', c', rfl, -⟩ := ints_form ho
    exact ⟨A', c', rfl, ho, ht⟩
theorem rd_ints (w : World) (V : List Nat) (C : Array Value) (hn : V.length = n) (hC : C.toList = V.map fun (i : Nat) => Value.int .i64 (i : Int)) : Rd (w.alloc (.cells C 3)) No 1 (some ⟨w.heap.size, 0, none⟩) n (intsOf V) :=
  rd_lit w 3 C (by intro c hc; simp only [intsOf, List.mem_map] at hc; obtain ⟨i, -, rfl⟩ := hc; exact ⟨rfl, by simp [Value.oneCell']⟩) (by
    rw [hC]
    clear hC hn
    induction V with
    | nil => rfl
    | cons a V ih => simpa [intsOf, flatA] using ih) (by rw [← hn]; simp [intsOf]) (fun h => h.elim)
theorem smSame {V : List Nat} {A : Option Addr} {n c : Nat} (d : Nat) (ho : OwnK w 3 1 (.slice A n c) (intsOf V)) (hV : V.length = n) (hn : n ≤ 1000000) (C : Array Value) (hC : C.toList = V.map fun (i : Nat) => Value.int .i64 (i : Int)) :
    Calls Tryd.prog 16 #[.slice A n c, .slice (some ⟨w.heap.size, 0, none⟩) n d] (w.alloc (.cells C 3)) fun r w' => r = .returned (.bool true) ∧ Below w.heap.size w w' := by
  refine (sameI_any (c := c) (d := d) ((ho.alloc (.cells C 3)).rd (X := No) (fun _ _ h => h)) (rd_ints w V C hV hC) hn hn).mono ?_
  rintro r w' ⟨rfl, q, rfl⟩
  exact ⟨by rw [decide_eq_true rfl], below_drewN ((Below.refl _ _).alloc (Nat.le_refl _) _) q⟩
set_option maxRecDepth 100000 in
set_option maxHeartbeats 4000000 in
theorem works_any (hN : Nob w) : Calls Tryd.prog 10 #[] w fun e w' => e = .returned (.bool true) ∧ Below w.heap.size w w' := by
  have HN := Lib.hid hN
  clear hN
  go_enter Tryd.func10, Tryd.ntmps10
  go_wp2_with fail
  refine (some_any w).mono ?_
  rintro r w1 ⟨z1, rfl, hR1, hb1⟩
  have HB1 := Lib.hid hb1
  have hv := smView (c := 5) hR1 (by omega) (HN.out.low hb1) 3 1 [0] sm3 vl3 (by omega) (k := 1) rfl
  clear hR1 hb1
  go_wp2_with fail
  refine hv.mono ?_
  rintro r w2 ⟨A1, c1, rfl, ho, hb⟩
  have HB2 := Lib.hid (HB1.out.trans (hb.mono HB1.out.size))
  have HO1 := Lib.hid ho
  clear hv ho hb
  go_wp2_with fail
  refine (some_any w2).mono ?_
  rintro r w3 ⟨z3, rfl, hR3, hb3⟩
  have HB3 := Lib.hid (HB2.out.trans (hb3.mono HB2.out.size))
  have HO1 := Lib.hid (HO1.out.below hb3)
  have hv := smView (c := 5) hR3 (by omega) (HN.out.low HB3.out) 5 5 [0, 1, 2, 4] sm5 vl5 (by omega) (k := 4) rfl
  clear hR3 hb3
  go_wp2_with fail
  refine hv.mono ?_
  rintro r w4 ⟨A2, c2, rfl, ho, hb⟩
  have HB4 := Lib.hid (HB3.out.trans (hb.mono HB3.out.size))
  have HO1 := Lib.hid (HO1.out.below hb)
  have HO2 := Lib.hid ho
  clear hv ho hb
  go_wp2_with fail
  refine (some_any w4).mono ?_
  rintro r w5 ⟨z5, rfl, hR5, hb5⟩
  have HB5 := Lib.hid (HB4.out.trans (hb5.mono HB4.out.size))
  have HO1 := Lib.hid (HO1.out.below hb5)
  have HO2 := Lib.hid (HO2.out.below hb5)
  have hv := smStable (c := 5) hR5 (by omega) (HN.out.low HB5.out)
  clear hR5 hb5
  go_wp2_with fail
  refine hv.mono ?_
  rintro r w6 ⟨rfl, hb⟩
  have HB6 := Lib.hid (HB5.out.trans (hb.mono HB5.out.size))
  have HO1 := Lib.hid (HO1.out.below hb)
  have HO2 := Lib.hid (HO2.out.below hb)
  clear hv hb
  go_wp2_with fail
  have HOO : Hid ((∀ b, Value.ownBlock (.slice A1 1 c1) = some b → b < w6.heap.size) ∧ (∀ b, Value.ownBlock (.slice A2 4 c2) = some b → b < w6.heap.size)) := Lib.hid ⟨fun b e => HO1.out.lt e, fun b e => HO2.out.lt e⟩
  have HS6 := Lib.hid HB6.out.size
  refine (vnew_any w6).mono ?_
  rintro r w7 ⟨z7, rfl, hR7, hb⟩
  have HB7 := Lib.hid (HB6.out.trans (hb.mono HB6.out.size))
  have HO1 := Lib.hid (HO1.out.below hb)
  have HO2 := Lib.hid (HO2.out.below hb)
  have HR7 := Lib.hid hR7
  have HS7 := Lib.hid hb.size
  clear hR7 hb
  go_wp2_with fail
  refine (some_any w7).mono ?_
  rintro r w8 ⟨z8, rfl, hR8, hb8⟩
  have HB8 := Lib.hid (HB7.out.trans (hb8.mono HB7.out.size))
  have HO1 := Lib.hid (HO1.out.below hb8)
  have HO2 := Lib.hid (HO2.out.below hb8)
  have HS8 := Lib.hid hb8.size
  have hpu : Calls Tryd.prog 23 #[.pointer (some ⟨z7, 0, none⟩), .agg #[.int .i64 nob1.epoch, .int .i64 nob1.id, .int .i64 nob1.num, .int .i64 nob1.seq, .int .i64 nob1.kind, .int .i64 nob1.value]] w8 (fun x w' => x = .returned (.int .i64 (pushE [] nob1)) ∧ Rr w' (More (NewB w6 w7) w8 w') z7 (push1 [] nob1) 0 [] ∧ Turn (NewB w6 w7) w8 w') :=
    push_any (e := nob1) (HR7.out.below hb8) (sm64 nob1 (by simp [sm])) (fun x hx => Nat.lt_of_lt_of_le hx.2 hb8.size)
  rw [push_one.1, push_one.2] at hpu
  obtain ⟨ad, ea, -, -, s0, s1, s2, s3, s4, s5⟩ := hR8.ent (show sm[0]? = some nob1 from rfl)
  injection ea with ea
  subst ea
  have t0 : w8.cell? ⟨z8, 0, none⟩ = some (.int .i64 nob1.epoch) := by first | exact s0 | simpa [Addr.add] using s0
  have t1 : w8.cell? ⟨z8, 1, none⟩ = some (.int .i64 nob1.id) := by first | exact s1 | simpa [Addr.add] using s1
  have t2 : w8.cell? ⟨z8, 2, none⟩ = some (.int .i64 nob1.num) := by first | exact s2 | simpa [Addr.add] using s2
  have t3 : w8.cell? ⟨z8, 3, none⟩ = some (.int .i64 nob1.seq) := by first | exact s3 | simpa [Addr.add] using s3
  have t4 : w8.cell? ⟨z8, 4, none⟩ = some (.int .i64 nob1.kind) := by first | exact s4 | simpa [Addr.add] using s4
  have t5 : w8.cell? ⟨z8, 5, none⟩ = some (.int .i64 nob1.value) := by first | exact s5 | simpa [Addr.add] using s5
  clear hR8 hb8 s0 s1 s2 s3 s4 s5
  go_wp2_with fail
  refine hpu.mono ?_
  rintro r w9 ⟨rfl, hR9, hU9⟩
  have HB9 := Lib.hid (HB8.out.trans (hU9.below HB8.out.size (fun b q => by have := q.1; have := HS6.out; omega)))
  have HO1 := Lib.hid (HO1.out.keep hU9 (fun b e q => by have := HOO.out.1 b e; have := q.1; omega))
  have HO2 := Lib.hid (HO2.out.keep hU9 (fun b e q => by have := HOO.out.2 b e; have := q.1; omega))
  have HMO : Hid (∀ b, More (NewB w6 w7) w8 w9 b → w6.heap.size ≤ b ∧ b < w9.heap.size) := Lib.hid (fun b q => by
    have h1 := hU9.size
    have h2 := HS8.out
    rcases q with q | q
    · have := q.1; have := q.2; omega
    · have h3 := HS7.out
      have := q.1; have := q.2; omega)
  have hto := smTo hR9 (fun x hx => (HMO.out x hx).2) (fun q => by have := (HMO.out 0 q).1; have := HS6.out; have := HN.out.2.2; omega) (HN.out.low HB9.out)
  clear hpu hR9 hU9 t0 t1 t2 t3 t4 t5
  go_wp2_with fail
  refine hto.mono ?_
  rintro r w10 ⟨A3, c3, rfl, ho, hU⟩
  have HBA := Lib.hid (HB9.out.trans (hU.below HB9.out.size (fun b q => by have := (HMO.out b q).1; have := HS6.out; omega)))
  have HO1 := Lib.hid (HO1.out.keep hU (fun b e q => by have := HOO.out.1 b e; have := (HMO.out b q).1; omega))
  have HO2 := Lib.hid (HO2.out.keep hU (fun b e q => by have := HOO.out.2 b e; have := (HMO.out b q).1; omega))
  have HO3 := Lib.hid ho
  clear hto ho hU
  go_wp2_with fail
  refine (num_any _ _).mono ?_
  rintro r w' ⟨rfl, rfl⟩
  go_wp2_with fail
  refine (num_any _ _).mono ?_
  rintro r w' ⟨rfl, rfl⟩
  go_wp2_with fail
  refine (num_any _ _).mono ?_
  rintro r w' ⟨rfl, rfl⟩
  go_wp2_with fail
  refine (num_any _ _).mono ?_
  rintro r w' ⟨rfl, rfl⟩
  go_wp2_with fail
  refine (num_any _ _).mono ?_
  rintro r w' ⟨rfl, rfl⟩
  go_wp2_with fail
  refine (smSame 1 HO1.out rfl (by omega) #[.int .i64 0] rfl).mono ?_
  rintro r w11 ⟨rfl, hb⟩
  have HBB := Lib.hid (HBA.out.trans (hb.mono HBA.out.size))
  have HO2 := Lib.hid (HO2.out.below hb)
  have HO3 := Lib.hid (HO3.out.below hb)
  clear hb
  go_wp2_with fail
  refine (smSame 4 HO2.out rfl (by omega) #[.int .i64 0, .int .i64 1, .int .i64 2, .int .i64 4] rfl).mono ?_
  rintro r w12 ⟨rfl, hb⟩
  have HBC := Lib.hid (HBB.out.trans (hb.mono HBB.out.size))
  have HO3 := Lib.hid (HO3.out.below hb)
  clear hb
  go_wp2_with fail
  refine (smSame 1 HO3.out rfl (by omega) #[.int .i64 0] rfl).mono ?_
  rintro r w13 ⟨rfl, hb⟩
  have HBD := Lib.hid (HBC.out.trans (hb.mono HBC.out.size))
  clear hb
  go_wp2_with fail
  refine (some_any w13).mono ?_
  rintro r w14 ⟨z14, rfl, hR14, hb⟩
  have HBE := Lib.hid (HBD.out.trans (hb.mono HBD.out.size))
  have hg := good_any (c := 5) hR14 (by omega) sm64
  clear hR14 hb
  go_wp2_with fail
  refine hg.mono ?_
  rintro r w15 ⟨b, rfl, hbg, hb⟩
  obtain rfl : b = true := hbg.2 sm_good
  have HBF := Lib.hid (HBE.out.trans (hb.mono HBE.out.size))
  clear hg hbg hb
  go_wp2_with fail
  go_ret
  exact ⟨rfl, HBF.out⟩
end
end Go.Proofs.YthcphoijanebhaaDoor
namespace Go.Proofs.YthcphoijanebhaaDoor
open Go.RowKit Go.Maps
set_option linter.unusedVariables false
/-- Is a transaction committed in a log? -/
def isCm (l : List Ent) (id num : Int) : Bool := l.any fun e => decide (e.id = id ∧ e.num = num ∧ e.kind = 2)
theorem isCm_take {l : List Ent} {e : Ent} {k : Nat} {id num : Int} (h : l[k]? = some e) : isCm (l.take (k + 1)) id num = (isCm (l.take k) id num || decide (e.id = id ∧ e.num = num ∧ e.kind = 2)) := by
  rw [List.take_add_one, h]
  unfold isCm
  rw [List.any_append]
  simp
/-- Is an entry seen? -/
def seenE (l : List Ent) (e : Ent) : Bool := decide (e.id < 0) || isCm l e.id e.num
/-- The places of the first j that are seen. -/
def rv (l : List Ent) : Nat → List Nat
  | 0 => []
  | j + 1 => if (l.getD j .none_).kind = 1 ∧ seenE l (l.getD j .none_) = true then rv l j ++ [j] else rv l j
theorem rv_len (l : List Ent) : ∀ j, (rv l j).length ≤ j
  | 0 => Nat.le_refl _
  | j + 1 => by
    have := rv_len l j
    unfold rv
    split
    · simp; omega
    · omega
/-- The row that is told, of our own. -/
def RvI (w : World) (V : List Nat) (v : Value) (W : World) : Prop := OwnK W 3 1 v (intsOf V) ∧ (∀ b, v.ownBlock = some b → w.heap.size ≤ b) ∧ Below w.heap.size w W
section
variable {w : World} {X : Nat → Prop} {A : Option Addr} {n c m : Nat} {l : List Ent}
theorem RvI.low {V : List Nat} {v : Value} {W W' : World} (h : RvI w V v W) (hb : Below W.heap.size W W') : RvI w V v W' := ⟨h.1.below hb, h.2.1, h.2.2.trans (hb.mono h.2.2.size)⟩
set_option maxRecDepth 100000 in
set_option maxHeartbeats 8000000 in
theorem refView_any (h : Rd w X 6 A n (cellsOf l)) (hn : n ≤ 5000) (hr : AllR (l.take m)) (hm : m ≤ n) (hnc : n ≤ c) (hst : stab (l.take m) 4 ≤ m) :
    Calls Tryd.prog 17 #[.slice A n c, .int .i64 (m : Int)] w fun r w' => ∃ v, r = .returned v ∧ RvI w (rv (l.take m) (stab (l.take m) 4)) v w' := by
  have h2 : Rd w X 6 A m (cellsOf (l.take m)) := by
    have := h.first hm
    rwa [show (cellsOf l).take m = cellsOf (l.take m) by unfold cellsOf; rw [List.map_take]] at this
  have HR := Lib.hid h2
  have HLEN := Lib.hid h2.lenE
  have hs := refStable_any (c := c) h2 (by omega) hr
  have qs := slice22_to A n c m (by omega)
  clear h h2
  generalize l.take m = L at *
  generalize hsN : stab L 4 = N at *
  go_enter Tryd.func17, Tryd.ntmps17
  go_wp2_with fail
  refine hs.mono ?_
  rintro r w1 ⟨rfl, hb1⟩
  have HB1 := Lib.hid hb1
  clear hs hb1 qs
  go_wp2_with fail
  go_loopw [7, 6] (fun i o wv => ∃ k : Nat, k ≤ N ∧ i = .int .i64 k ∧ RvI w (rv L k) o wv) (fun i o _ => N - (iOf i).toNat)
  case atStart => exact ⟨0, by omega, rfl, OwnK.nil _ _ _, fun b e => (nomatch e), HB1.out⟩
  case round =>
    obtain ⟨k, hk, rfl, hI⟩ := hrel
    have HI := Lib.hid hI
    obtain ⟨Ao, no, co, rfl, -, -, -⟩ := hI.1.form
    clear hI
    by_cases hlt : k < N
    case neg =>
      have hd1 : decide (k < N) = false := by simpa using hlt
      obtain rfl : k = N := by omega
      clear hlt
      go_wp2_with fail
      go_ret
      exact ⟨_, rfl, HI.out⟩
    case pos =>
    obtain ⟨e, he⟩ : ∃ e, L[k]? = some e := ⟨_, List.getElem?_eq_getElem (by rw [HLEN.out]; omega)⟩
    obtain ⟨ad, rfl, hadl, -, c0, c1, c2, c3, c4, c5⟩ := (HR.out.below HI.out.2.2).ent he
    have hd1 : decide (k < N) = true := by simpa using hlt
    have hkm : k < m := by omega
    have HE := Lib.hid he
    clear he
    go_upto_region 8 with fail
    clear c0 c1 c2 c3 c4 c5 hadl
    have hal := (Below.refl wr.heap.size wr).alloc (Nat.le_refl _) (.cells #[.int .i64 e.epoch, .int .i64 e.id, .int .i64 e.num, .int .i64 e.seq, .int .i64 e.kind, .int .i64 e.value] 45)
    have HI4 := Lib.hid (HI.out.low hal)
    have hbx := Blk.new wr 45 #[.int .i64 e.epoch, .int .i64 e.id, .int .i64 e.num, .int .i64 e.seq, .int .i64 e.kind, .int .i64 e.value]
    obtain ⟨s0, s1, s2, s3, s4, s5⟩ := hbx.six9
    clear hal hbx
    generalize wr.alloc (.cells #[.int .i64 e.epoch, .int .i64 e.id, .int .i64 e.num, .int .i64 e.seq, .int .i64 e.kind, .int .i64 e.value] 45) = w4 at *
    generalize wr.heap.size = bx at *
    have hgd : L.getD k .none_ = e := by rw [List.getD_eq_getElem?_getD, HE.out]; rfl
    by_cases hki : e.kind = 1
    case neg =>
      have b1 := nen hki
      have HN : Hid (rv L (k + 1) = rv L k) := Lib.hid (by show (if _ then _ else _) = _; rw [hgd, if_neg (fun q => hki q.1)])
      clear hki hgd
      go_wp2_with fail
      go_round
      case rel => exact ⟨k + 1, by omega, by go_num, by rw [HN.out]; exact HI4.out⟩
      case measure => simp [iOf]; omega
    case pos =>
    have b1 := eqn hki
    have HKI := Lib.hid hki
    have HGD := Lib.hid hgd
    clear hki hgd
    go_wp2_with fail
    go_loopw [10, 9] (fun i s wv => ∃ (j : Nat) (sb : Bool), j ≤ m ∧ i = .int .i64 j ∧ s = .bool sb ∧ Hid (sb = (decide (e.id < 0) || isCm (L.take j) e.id e.num)) ∧ ∃ q, wv = w4.drewN q) (fun i s _ => m - (iOf i).toNat)
    case atStart => exact ⟨0, _, by omega, rfl, rfl, Lib.hid (by rw [List.take_zero]; simp [isCm]), 0, rfl⟩
    case round =>
      obtain ⟨j, sb, hj, rfl, rfl, HSB, q, rfl⟩ := hrel
      by_cases hjm : j < m
      case neg =>
        have hd2 : decide (j < m) = false := by simpa using hjm
        have HSE : Hid (sb = seenE L e) := Lib.hid (by
          have := HSB.out
          rwa [List.take_of_length_le (by have := HLEN.out; omega)] at this)
        have HI5 := Lib.hid (HI4.out.low (below_drewN (Below.refl w4.heap.size w4) q))
        clear hjm s0 s1 s2 s3 s4 s5
        cases sb with
        | false =>
          have HN : Hid (rv L (k + 1) = rv L k) := Lib.hid (by show (if _ then _ else _) = _; rw [HGD.out, if_neg (fun z => by have := z.2; rw [← HSE.out] at this; cases this)])
          go_wp2_with fail
          go_round
          case rel => exact ⟨k + 1, by omega, by go_num, by rw [HN.out]; exact HI5.out⟩
          case measure => simp [iOf]; omega
        | true =>
          have HN : Hid (rv L (k + 1) = rv L k ++ [k]) := Lib.hid (by show (if _ then _ else _) = _; rw [HGD.out, if_pos ⟨HKI.out, HSE.out.symm⟩])
          go_wp2_with (at_builtin; refine stop ?_)
          refine Stop.go (wpList_append_k el24 _ (by rfl) _ _ (by rfl) (.slice Ao no co) (intsOf (rv L k)) (by rfl) (OwnK.alloc HI5.out.1 _) No _ 1 _ [#[.int .i64 (k : Int)]] (by rfl) (rd_one (w4.drewN q) 3 #[.int .i64 (k : Int)] rfl (by simp [Value.oneCell']) (fun h => h)) (by have := rv_len L k; simp [intsOf]; omega) (by omega) ?_)
          intro v9 w9 ho9 hg9
          have HI9 : Hid (RvI w (rv L (k + 1)) v9 w9) := Lib.hid (by
            have hi := HI5.out
            have hb := hi.2.2.alloc hi.2.2.size (.cells #[.int .i64 (k : Int)] 3)
            rw [HN.out]
            refine ⟨by unfold intsOf at ho9 ⊢; rw [List.map_append]; exact ho9, fun b e => ?_, below_grew hb hg9 hi.2.1 hb.size⟩
            rcases hg9.2 b e with z | z
            · exact hi.2.1 b z
            · exact Nat.le_trans hb.size z)
          clear ho9 hg9
          go_wp2_with fail
          go_round
          case rel => exact ⟨k + 1, by omega, by go_num, HI9.out⟩
          case measure => simp [iOf]; omega
      case pos =>
      obtain ⟨d, hd⟩ : ∃ d, L[j]? = some d := ⟨_, List.getElem?_eq_getElem (by rw [HLEN.out]; omega)⟩
      obtain ⟨ad2, ea, hadl, -, c0, c1, c2, c3, c4, c5⟩ := (HR.out.below HI4.out.2.2).ent hd
      injection ea with ea
      subst ea
      have HD := Lib.hid hd
      have hd2 : decide (j < m) = true := by simpa using hjm
      have hjn : j < n := by omega
      clear hd hadl
      cases sb with
      | true =>
        have HN : Hid (true = (decide (e.id < 0) || isCm (L.take (j + 1)) e.id e.num)) := Lib.hid (by
          have := HSB.out
          rw [isCm_take HD.out, ← Bool.or_assoc, ← this]; rfl)
        go_wp2_with fail
        go_quiet (fail)
        go_wp2_with fail
        go_round
        case rel => exact ⟨j + 1, true, by omega, by go_num, rfl, HN, _, (by first | rfl | rw [World.drewN_drewN])⟩
        case measure => simp [iOf]; omega
      | false =>
        have hnx : ∀ x : Bool, x = decide (d.id = e.id ∧ d.num = e.num ∧ d.kind = 2) → Hid (x = (decide (e.id < 0) || isCm (L.take (j + 1)) e.id e.num)) := fun x hx => Lib.hid (by
          have := HSB.out
          rw [isCm_take HD.out, ← Bool.or_assoc, ← this, hx]; rfl)
        by_cases h1 : d.id = e.id
        case neg =>
          have b1 := neb h1
          have HN := hnx false (decide_eq_false (fun q => h1 q.1)).symm
          clear hnx h1
          go_wp2_with fail
          go_quiet (fail)
          go_wp2_with fail
          go_round
          case rel => exact ⟨j + 1, false, by omega, by go_num, rfl, HN, _, (by first | rfl | rw [World.drewN_drewN])⟩
          case measure => simp [iOf]; omega
        case pos =>
        have b1 := eqb h1
        by_cases h2 : d.num = e.num
        case neg =>
          have b2 := neb h2
          have HN := hnx false (decide_eq_false (fun q => h2 q.2.1)).symm
          clear hnx h1 h2
          go_wp2_with fail
          go_quiet (fail)
          go_wp2_with fail
          go_round
          case rel => exact ⟨j + 1, false, by omega, by go_num, rfl, HN, _, (by first | rfl | rw [World.drewN_drewN])⟩
          case measure => simp [iOf]; omega
        case pos =>
        have b2 := eqb h2
        by_cases h3 : d.kind = 2
        case neg =>
          have b3 := neb h3
          have HN := hnx false (decide_eq_false (fun q => h3 q.2.2)).symm
          clear hnx h1 h2 h3
          go_wp2_with fail
          go_quiet (fail)
          go_wp2_with fail
          go_round
          case rel => exact ⟨j + 1, false, by omega, by go_num, rfl, HN, _, (by first | rfl | rw [World.drewN_drewN])⟩
          case measure => simp [iOf]; omega
        case pos =>
          have b3 := eqb h3
          have HN := hnx true (decide_eq_true ⟨h1, h2, h3⟩).symm
          clear hnx h1 h2 h3
          go_wp2_with fail
          go_quiet (fail)
          go_wp2_with fail
          go_round
          case rel => exact ⟨j + 1, true, by omega, by go_num, rfl, HN, _, (by first | rfl | rw [World.drewN_drewN])⟩
          case measure => simp [iOf]; omega
end
end Go.Proofs.YthcphoijanebhaaDoor
namespace Go.Proofs.YthcphoijanebhaaDoor
open Go.RowKit Go.Maps
set_option linter.unusedVariables false
theorem le_lowest {q : Nat} {o : List (Int × Nat)} : ∀ {n : Nat}, q ≤ n → (∀ p ∈ o, q ≤ p.2) → q ≤ lowest n o := by
  induction o with
  | nil => intro n h _; exact h
  | cons a o ih =>
    intro n h h2
    rw [lowest_cons]
    have := h2 a (by simp)
    exact ih (by omega) (fun p hp => h2 p (by simp [hp]))
theorem lowest_le_of {p : Int × Nat} {o : List (Int × Nat)} (hp : p ∈ o) : ∀ n, lowest n o ≤ p.2 := by
  induction o with
  | nil => cases hp
  | cons a o ih =>
    intro n
    rw [lowest_cons]
    rcases List.mem_cons.1 hp with rfl | h
    · have := lowest_le o (min n p.2); omega
    · exact ih h _
theorem op_is (mk : Int → Bool) (id : Int) (l : List Ent) : (∀ p ∈ op mk id l, ∃ e, l[p.2]? = some e ∧ e.id = id ∧ e.kind = 1 ∧ e.num = p.1 ∧ mk p.1 = false) ∧
    (∀ (j : Nat) (e : Ent), l[j]? = some e → e.id = id → e.kind = 1 → mk e.num = false → ∃ p ∈ op mk id l, p.2 ≤ j ∧ p.1 = e.num) := by
  obtain ⟨r, rfl⟩ : ∃ r : List Ent, l = r.reverse := ⟨l.reverse, by simp⟩
  induction r with
  | nil => exact ⟨fun p hp => (by cases hp), fun j e h => (by simp at h)⟩
  | cons x r ih =>
    rw [List.reverse_cons]
    generalize r.reverse = l at *
    obtain ⟨ih1, ih2⟩ := ih
    have low : ∀ p ∈ op mk id l, ∃ e, (l ++ [x])[p.2]? = some e ∧ e.id = id ∧ e.kind = 1 ∧ e.num = p.1 ∧ mk p.1 = false := fun p hp => by
      obtain ⟨e, h1, h2⟩ := ih1 p hp
      exact ⟨e, by rw [List.getElem?_append_left (List.getElem?_eq_some_iff.1 h1).1]; exact h1, h2⟩
    rw [op_snoc]
    split
    · next hc =>
      refine ⟨fun p hp => ?_, fun j e hj h1 h2 h3 => ?_⟩
      · rcases List.mem_append.1 hp with q | q
        · exact low p q
        · obtain rfl := List.mem_singleton.1 q
          exact ⟨x, by simp, hc.1, hc.2.1, rfl, hc.2.2.1⟩
      · rcases Nat.lt_or_ge j l.length with q | q
        · rw [List.getElem?_append_left q] at hj
          obtain ⟨p, h4, h5⟩ := ih2 j e hj h1 h2 h3
          exact ⟨p, List.mem_append_left _ h4, h5⟩
        · rw [List.getElem?_append_right q] at hj
          rcases hd : j - l.length with _ | z
          · rw [hd] at hj
            simp at hj
            subst hj
            exact ⟨(x.num, l.length), List.mem_append_right _ (by simp), q, rfl⟩
          · rw [hd] at hj; simp at hj
    · next hc =>
      refine ⟨low, fun j e hj h1 h2 h3 => ?_⟩
      rcases Nat.lt_or_ge j l.length with q | q
      · rw [List.getElem?_append_left q] at hj
        exact ih2 j e hj h1 h2 h3
      · rw [List.getElem?_append_right q] at hj
        rcases hd : j - l.length with _ | z
        · rw [hd] at hj
          simp at hj
          subst hj
          have hk : x.num ∈ keys (op mk id l) := by
            by_cases z : x.num ∈ keys (op mk id l)
            · exact z
            · exact absurd ⟨h1, h2, h3, z⟩ hc
          unfold keys at hk
          obtain ⟨p, h4, h5⟩ := List.mem_map.1 hk
          obtain ⟨f, h6, -⟩ := ih1 p h4
          have := (List.getElem?_eq_some_iff.1 h6).1
          exact ⟨p, h4, by omega, h5⟩
        · rw [hd] at hj; simp at hj
theorem stab_ge {q : Nat} {l : List Ent} (hq : q ≤ l.length) : ∀ k : Nat, (∀ i : Nat, i < k → ∀ p ∈ (wr (i : Int) l).opens, q ≤ p.2) → q ≤ stab l k
  | 0, _ => hq
  | k + 1, h => le_lowest (stab_ge hq k fun i hi => h i (by omega)) (h k (by omega))
theorem stab_le_at {l : List Ent} {p : Int × Nat} {i : Nat} (hp : p ∈ (wr (i : Int) l).opens) : ∀ k : Nat, i < k → stab l k ≤ p.2
  | 0, h => by omega
  | k + 1, h => by
    rcases Nat.lt_or_ge i k with q | q
    · exact Nat.le_trans (lowest_le _ _) (stab_le_at hp k q)
    · obtain rfl : i = k := by omega
      exact lowest_le_of hp _
/-- Open, by the document: of a transaction without a marker. -/
theorem opn_is {L : List Ent} {e : Ent} (hL : AllR L) (he : e ∈ L) : opn L L.length e = true ↔ 0 ≤ e.id ∧ e.kind = 1 ∧ isMk L e.id e.num = false := by
  have hr := hL e he
  have ha : anyK mkE L L.length e.key = isMk L e.id e.num := by
    unfold anyK isMk
    rw [List.take_length, Bool.eq_iff_iff, List.any_eq_true, List.any_eq_true]
    constructor
    · rintro ⟨x, hx, h⟩
      refine ⟨x, hx, ?_⟩
      have hk := right_kind (hL x hx)
      simp only [mkE, Ent.key, Bool.and_eq_true, decide_eq_true_eq, Prod.mk.injEq] at h ⊢
      obtain ⟨⟨h1, h2⟩, h3⟩ := h
      exact ⟨h1, h2, by omega⟩
    · rintro ⟨x, hx, h⟩
      refine ⟨x, hx, ?_⟩
      simp only [mkE, Ent.key, Bool.and_eq_true, decide_eq_true_eq, Prod.mk.injEq] at h ⊢
      obtain ⟨h1, h2, h3⟩ := h
      exact ⟨⟨h1, h2⟩, by omega⟩
  unfold opn
  rw [ha]
  simp only [Bool.and_eq_true, Bool.not_eq_true', decide_eq_false_iff_not]
  constructor
  · rintro ⟨h1, h2⟩
    have hid : 0 ≤ e.id := by
      unfold Right at hr
      rcases hr.2 with ⟨-, -, h | h⟩ | h
      · exact absurd (show e.key = nob by unfold Ent.key nob; rw [h.1, h.2.1]) h1
      · omega
      · omega
    refine ⟨hid, ?_, h2⟩
    rcases right_kind hr with h | h
    · exact h
    · exfalso
      have : isMk L e.id e.num = true := by
        unfold isMk
        rw [List.any_eq_true]
        exact ⟨e, he, decide_eq_true ⟨rfl, rfl, by omega⟩⟩
      rw [this] at h2; cases h2
  · rintro ⟨h1, h2, h3⟩
    exact ⟨fun h => by unfold Ent.key nob at h; injection h with h4 h5; omega, h3⟩
theorem stab_is {L : List Ent} {N : Nat} (hL : AllR L) (h : StN L L.length 0 N) : stab L 4 = N := by
  have hN := h.le
  apply Nat.le_antisymm
  · rcases Nat.lt_or_ge N L.length with q | q
    · obtain ⟨e, h1, h2⟩ := h.no (by omega)
      rw [Nat.zero_add] at h1
      have hm := List.mem_of_getElem? h1
      obtain ⟨h3, h4, h5⟩ := (opn_is hL hm).1 h2
      have hr := hL e hm
      obtain ⟨i, hi⟩ : ∃ i : Nat, e.id = (i : Int) := ⟨e.id.toNat, by omega⟩
      have hi4 : i < 4 := by unfold Right at hr; omega
      obtain ⟨p, h6, h7, -⟩ := (op_is (isMk L (i : Int)) (i : Int) L).2 N e h1 hi h4 (by rw [← hi]; exact h5)
      have := stab_le_at (i := i) (p := p) (l := L) (by rw [wr_opens hL]; exact h6) 4 hi4
      omega
    · have := stab_le L 4; omega
  · refine stab_ge (by omega) 4 fun i hi p hp => ?_
    rw [wr_opens hL] at hp
    obtain ⟨e, h1, h2, h3, h4, h5⟩ := (op_is (isMk L (i : Int)) (i : Int) L).1 p hp
    rcases Nat.lt_or_ge p.2 N with q | q
    · obtain ⟨f, h6, h7⟩ := h.yes p.2 q
      rw [Nat.zero_add, h1] at h6
      injection h6 with h6
      subst h6
      have := (opn_is hL (List.mem_of_getElem? h1)).2 ⟨by omega, h3, by rw [h2, h4]; exact h5⟩
      rw [this] at h7; cases h7
    · exact q
theorem stN_take {l : List Ent} {n N : Nat} (hn : n ≤ l.length) (h : StN l n 0 N) : StN (l.take n) (l.take n).length 0 N := by
  have hlen : (l.take n).length = n := by rw [List.length_take]; omega
  have ho : ∀ e, opn (l.take n) n e = opn l n e := fun e => by unfold opn anyK; rw [List.take_take, Nat.min_self]
  rw [hlen]
  have hle := h.le
  refine ⟨h.le, fun i hi => ?_, fun hi => ?_⟩
  · obtain ⟨e, h1, h2⟩ := h.yes i hi
    exact ⟨e, by rw [List.getElem?_take, if_pos (by omega)]; exact h1, by rw [ho]; exact h2⟩
  · obtain ⟨e, h1, h2⟩ := h.no hi
    exact ⟨e, by rw [List.getElem?_take, if_pos (by omega)]; exact h1, by rw [ho]; exact h2⟩
/-- As many are stable by the document as by the program. -/
theorem stab_take {l : List Ent} {n N : Nat} (hl : AllR l) (hn : n ≤ l.length) (h : StN l n 0 N) : stab (l.take n) 4 = N :=
  stab_is (fun e he => hl e (List.mem_of_mem_take he)) (stN_take hn h)
/-- The same are seen. -/
theorem rv_vl {l : List Ent} {n : Nat} (hl : AllR l) (hn : n ≤ l.length) : ∀ N, N ≤ n → rv (l.take n) N = vl l n 0 N
  | 0, _ => rfl
  | j + 1, hj => by
    have ih := rv_vl hl hn j (by omega)
    obtain ⟨e, he⟩ : ∃ e, l[j]? = some e := ⟨_, List.getElem?_eq_getElem (by omega)⟩
    have h1 : (l.take n).getD j .none_ = e := by rw [List.getD_eq_getElem?_getD, List.getElem?_take, if_pos (by omega), he]; rfl
    have h2 : l.getD (0 + j) .none_ = e := by rw [Nat.zero_add, List.getD_eq_getElem?_getD, he]; rfl
    have hr := hl e (List.mem_of_getElem? he)
    have hc : isCm (l.take n) e.id e.num = anyK cmE l n e.key := by
      unfold isCm anyK
      congr 1
      funext x
      rw [Bool.eq_iff_iff]
      simp only [cmE, Ent.key, Bool.and_eq_true, decide_eq_true_eq, Prod.mk.injEq, and_assoc]
    have hk : decide (e.id < 0) = decide (e.key = nob) := by
      rw [decide_eq_decide]
      unfold Ent.key nob
      rw [Prod.mk.injEq]
      unfold Right at hr
      omega
    have hs : see l n e = decide (e.kind = 1 ∧ seenE (l.take n) e = true) := by
      unfold see seenE
      rw [hc, hk, Bool.eq_iff_iff]
      simp
    show (if ((l.take n).getD j .none_).kind = 1 ∧ seenE (l.take n) ((l.take n).getD j .none_) = true then rv (l.take n) j ++ [j] else rv (l.take n) j) = (if see l n (l.getD (0 + j) .none_) = true then vl l n 0 j ++ [0 + j] else vl l n 0 j)
    rw [h1, h2, hs, ih, Nat.zero_add]
    by_cases z : e.kind = 1 ∧ seenE (l.take n) e = true
    · rw [if_pos z, if_pos (decide_eq_true z)]
    · rw [if_neg z, if_neg (by rw [decide_eq_false z]; decide)]
end Go.Proofs.YthcphoijanebhaaDoor
