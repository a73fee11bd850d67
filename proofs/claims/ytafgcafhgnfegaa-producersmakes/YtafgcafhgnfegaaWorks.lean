/-
  The statements' own small functions. Nothing is assumed.
-/
import Derived.Test.YtafgcafhgnfegaaRefD
namespace Go.Proofs.Ytafgcafhgnfegaa
open Go.RowKit Go.Maps
set_option linter.unusedVariables false
section
variable {w w' : World} {X : Nat → Prop} {A : Option Addr} {n c : Nat} {l : List Ent} {e : Ent}
theorem rd_lit {k : Nat} (w : World) (t : TypeId) (C : Array Value) {css : List (Array Value)} (hs : Sized k css) (hf : flatA css = C.toList) (hn : css.length = n) (hX : ¬ X w.heap.size) : Rd (w.alloc (.cells C t)) X k (some ⟨w.heap.size, 0, none⟩) n css := by
  refine ⟨hn, hs, fun _ => ⟨_, rfl, by simp, hX, fun j u hu => ?_⟩⟩
  have hadd : (⟨w.heap.size, 0, none⟩ : Addr).add j = ⟨w.heap.size, j, none⟩ := by unfold Addr.add; split <;> simp_all
  rw [hadd, (Blk.new w t C).cell j, ← Array.getElem?_toList, ← hf]
  exact hu
theorem more_ge {S : Nat → Prop} {B : Nat} (hS : ∀ b, S b → B ≤ b) (hB : B ≤ w.heap.size) (b : Nat) (h : More S w w' b) : B ≤ b := by
  rcases h with h | h
  · exact hS b h
  · exact Nat.le_trans hB h.1
/-- A table of our own for the log l, in a world that differs from w only in blocks made since. -/
def Mine (w : World) (g : Nat) (l : List Ent) (W : World) : Prop := ∃ S, Tb W S g l ∧ (∀ b, S b → w.heap.size ≤ b) ∧ Below w.heap.size w W
theorem Mine.next {S : Nat → Prop} {g : Nat} {W W' : World} (hT : Tb W' (More S W W') g l) (hU : Turn S W W') (hS : ∀ b, S b → w.heap.size ≤ b) (hb : Below w.heap.size w W) : Mine w g l W' :=
  ⟨_, hT, more_ge hS hb.size, hb.trans (hU.below hb.size hS)⟩
theorem Mine.low {g : Nat} {W W' : World} (h : Mine w g l W) (hb : Below W.heap.size W W') : Mine w g l W' := by
  obtain ⟨S, h1, h2, h3⟩ := h
  exact ⟨S, h1.below hb, h2, h3.trans (hb.mono h3.size)⟩
theorem Mine.below {g : Nat} {W : World} (h : Mine w g l W) : Below w.heap.size w W := by
  obtain ⟨S, h1, h2, h3⟩ := h
  exact h3
def dat (n s : Int) : Ent := ⟨1, 0, n, s, 1, s⟩
def mrk (n k : Int) : Ent := ⟨1, 0, n, 0, k, 0⟩
theorem num_any (n : Int) (w : World) : Calls Try.prog 16 #[.int .i64 n] w fun r w' => r = .returned (.int .i64 n) ∧ w = w' := by
  go_enter Try.func16, Try.ntmps16
  go_wp2_with fail
  go_ret
  exact ⟨rfl, rfl⟩
theorem data_any (n s : Int) (w : World) : Calls Try.prog 32 #[.int .i64 n, .int .i64 s] w fun r w' => r = .returned (.agg #[.int .i64 1, .int .i64 0, .int .i64 n, .int .i64 s, .int .i64 1, .int .i64 s]) ∧ Below w.heap.size w w' := by
  go_enter Try.func32, Try.ntmps32
  go_wp2_with fail
  exact bodyPost_ret (v := .agg #[.int .i64 1, .int .i64 0, .int .i64 n, .int .i64 s, .int .i64 1, .int .i64 s]) (results_cell_row (by rfl) _ _ w.heap.size 26 _ (0, 0) _ (by rfl) (Blk.new _ _ _) Try.underlying26 (by rfl) (by kernel_rfl)) rfl ⟨rfl, (Below.refl _ _).alloc (Nat.le_refl _) _⟩
theorem mark_any (n k : Int) (w : World) : Calls Try.prog 33 #[.int .i64 n, .int .i64 k] w fun r w' => r = .returned (.agg #[.int .i64 1, .int .i64 0, .int .i64 n, .int .i64 0, .int .i64 k, .int .i64 0]) ∧ Below w.heap.size w w' := by
  go_enter Try.func33, Try.ntmps33
  go_wp2_with fail
  exact bodyPost_ret (v := .agg #[.int .i64 1, .int .i64 0, .int .i64 n, .int .i64 0, .int .i64 k, .int .i64 0]) (results_cell_row (by rfl) _ _ w.heap.size 26 _ (0, 0) _ (by rfl) (Blk.new _ _ _) Try.underlying26 (by rfl) (by kernel_rfl)) rfl ⟨rfl, (Below.refl _ _).alloc (Nat.le_refl _) _⟩
def wl : List Ent := [dat 1 0, dat 1 1]
theorem wk1 : allE [] wl = 0 := by decide
theorem wk2 : wr 0 wl = ⟨1, 2, 0, [(1, 0)], []⟩ := by decide
theorem wk3 : stab wl 4 = 0 := by decide
theorem wk4 : checkE wl (dat 1 1) = 183 := by decide
theorem wk5 : checkE wl (dat 1 3) = 184 := by decide
theorem wk6 : checkE wl (dat 2 0) = 182 := by decide
theorem wk7 : checkE wl (mrk 2 2) = 181 := by decide
theorem wk8 : checkE wl (mrk 1 2) = 0 := by decide
theorem wk_rd (w : World) : Rd (w.alloc (.cells #[.int .i64 1, .int .i64 0, .int .i64 1, .int .i64 0, .int .i64 1, .int .i64 0, .int .i64 1, .int .i64 0, .int .i64 1, .int .i64 1, .int .i64 1, .int .i64 1] 26)) No 6 (some ⟨w.heap.size, 0, none⟩) 2 (cellsOf wl) :=
  rd_lit w 26 _ (by intro c hc; simp [cellsOf, wl, dat, Ent.cells] at hc; rcases hc with rfl | rfl <;> exact ⟨rfl, by simp [Value.oneCell']⟩) rfl rfl (fun h => h.elim)
theorem wk_op (w : World) : Rd (w.alloc (.cells #[.int .i64 1, .int .i64 0] 54)) No 2 (some ⟨w.heap.size, 0, none⟩) 1 (opsOf [(1, 0)]) :=
  rd_lit w 54 _ (by intro c hc; simp [opsOf] at hc; subst hc; exact ⟨rfl, by simp [opA, Value.oneCell']⟩) rfl rfl (fun h => h.elim)
set_option maxRecDepth 100000 in
set_option maxHeartbeats 4000000 in
theorem works_any (w : World) : Calls Try.prog 12 #[] w fun e w' => e = .returned (.bool true) ∧ Below w.heap.size w w' := by
  go_enter Try.func12, Try.ntmps12
  go_wp2_with fail
  refine (data_any _ _ _).mono ?_
  rintro r w1 ⟨rfl, hb1⟩
  go_wp2_with fail
  refine (data_any _ _ _).mono ?_
  rintro r w2 ⟨rfl, hb2⟩
  have hb02 := hb1.trans (hb2.mono hb1.size)
  clear hb1 hb2
  go_wp2_with fail
  refine (of_any (wk_rd w2) (by omega)).mono ?_
  rintro r w3 ⟨hb3, hz | hz⟩
  case inr => exact absurd wk1 hz.1
  obtain ⟨-, g, rfl, hT⟩ := hz
  have hb03 := (hb02.alloc hb02.size (.cells #[.int .i64 1, .int .i64 0, .int .i64 1, .int .i64 0, .int .i64 1, .int .i64 0, .int .i64 1, .int .i64 0, .int .i64 1, .int .i64 1, .int .i64 1, .int .i64 1] 26)).trans (hb3.mono (Nat.le_trans hb02.size (by simp)))
  have hwr : Calls Try.prog 20 #[.pointer (some ⟨g, 0, none⟩), .int .i64 0] w3 (WritP w3 (wr 0 wl)) := writer_yes hT (i := 0) (by omega)
  rw [wk2] at hwr
  clear hb02 hb3
  go_wp2_with fail
  refine hwr.mono ?_
  rintro r w4 ⟨A4, c4, rfl, hO, hv, hb4⟩
  have hT4 := hT.below hb4
  have hb04 := hb03.trans (hb4.mono hb03.size)
  clear hwr hT hb03 hb4
  dsimp only at hO hv ⊢
  simp only [List.length_cons, List.length_nil, Nat.zero_add] at hO hv ⊢
  go_wp2_with fail
  have hX := Blk.new w4 41 #[.int .i64 1, .int .i64 2, .int .i64 0, .slice A4 1 c4]
  have hT5 := hT4.below ((Below.refl w4.heap.size w4).alloc (Nat.le_refl _) (.cells #[.int .i64 1, .int .i64 2, .int .i64 0, .slice A4 1 c4] 41))
  have hO5 := hO.alloc (.cells #[.int .i64 1, .int .i64 2, .int .i64 0, .slice A4 1 c4] 41)
  have hb05 := hb04.alloc hb04.size (.cells #[.int .i64 1, .int .i64 2, .int .i64 0, .slice A4 1 c4] 41)
  clear hT4 hO hv hb04
  have hx0 := hX.cell 0
  have hx1 := hX.cell 1
  have hx2 := hX.cell 2
  have hx3 := hX.cell 3
  generalize w4.alloc (.cells #[.int .i64 1, .int .i64 2, .int .i64 0, .slice A4 1 c4] 41) = w5 at *
  refine (num_any _ _).mono ?_
  rintro r w6 ⟨rfl, rfl⟩
  go_wp2_with fail
  refine (num_any _ _).mono ?_
  rintro r w6 ⟨rfl, rfl⟩
  have hsw : Calls Try.prog 29 #[.agg #[.int .i64 1, .int .i64 2, .int .i64 0, .slice A4 1 c4], .agg #[.int .i64 1, .int .i64 2, .int .i64 0, .slice (some ⟨w5.heap.size, 0, none⟩) 1 1]] (w5.alloc (.cells #[.int .i64 1, .int .i64 0] 54)) fun r w' => r = .returned (.bool true) ∧ Below (w5.alloc (.cells #[.int .i64 1, .int .i64 0] 54)).heap.size (w5.alloc (.cells #[.int .i64 1, .int .i64 0] 54)) w' :=
    sameWriter_yes (o := [(1, 0)]) 1 2 0 ((hO5.alloc (.cells #[.int .i64 1, .int .i64 0] 54)).rd (X := No) (fun _ _ h => h)) (wk_op w5) (by simp)
  have hT6 := hT5.below ((Below.refl w5.heap.size w5).alloc (Nat.le_refl _) (.cells #[.int .i64 1, .int .i64 0] 54))
  have hb06 := hb05.alloc hb05.size (.cells #[.int .i64 1, .int .i64 0] 54)
  clear hT5 hO5 hb05
  go_wp2_with fail
  clear hx0 hx1 hx2 hx3 hX
  generalize w5.alloc (.cells #[.int .i64 1, .int .i64 0] 54) = w6 at *
  refine hsw.mono ?_
  rintro r w7 ⟨rfl, hb7⟩
  have hT7 := hT6.below hb7
  have hb07 := hb06.trans (hb7.mono hb06.size)
  clear hsw hT6 hb06 hb7
  go_wp2_with fail
  have hst := stable_any hT7
  rw [wk3] at hst
  refine hst.mono ?_
  rintro r w8 ⟨rfl, hb8⟩
  have hT8 := hT7.below hb8
  have hb08 := hb07.trans (hb8.mono hb07.size)
  clear hst hT7 hb07 hb8
  go_wp2_with fail
  refine (data_any 1 1 w8).mono ?_
  rintro r w9 ⟨rfl, hb9⟩
  have hT9 := hT8.below hb9
  have hb09 := hb08.trans (hb9.mono hb08.size)
  clear hT8 hb08 hb9
  go_wp2_with fail
  have hch := checks_any hT9 (dat 1 1)
  rw [wk4] at hch
  refine hch.mono ?_
  rintro r w10 ⟨rfl, hb10⟩
  have hT10 := hT9.below hb10
  have hb010 := hb09.trans (hb10.mono hb09.size)
  clear hch hT9 hb09 hb10
  go_wp2_with fail
  refine (num_any _ _).mono ?_
  rintro r w11 ⟨rfl, rfl⟩
  go_wp2_with fail
  refine (data_any 1 3 w10).mono ?_
  rintro r w11 ⟨rfl, hb11⟩
  have hT11 := hT10.below hb11
  have hb011 := hb010.trans (hb11.mono hb010.size)
  clear hT10 hb010 hb11
  go_wp2_with fail
  have hch := checks_any hT11 (dat 1 3)
  rw [wk5] at hch
  refine hch.mono ?_
  rintro r w12 ⟨rfl, hb12⟩
  have hT12 := hT11.below hb12
  have hb012 := hb011.trans (hb12.mono hb011.size)
  clear hch hT11 hb011 hb12
  go_wp2_with fail
  refine (num_any _ _).mono ?_
  rintro r w13 ⟨rfl, rfl⟩
  go_wp2_with fail
  refine (data_any 2 0 w12).mono ?_
  rintro r w13 ⟨rfl, hb13⟩
  have hT13 := hT12.below hb13
  have hb013 := hb012.trans (hb13.mono hb012.size)
  clear hT12 hb012 hb13
  go_wp2_with fail
  have hch := checks_any hT13 (dat 2 0)
  rw [wk6] at hch
  refine hch.mono ?_
  rintro r w14 ⟨rfl, hb14⟩
  have hT14 := hT13.below hb14
  have hb014 := hb013.trans (hb14.mono hb013.size)
  clear hch hT13 hb013 hb14
  go_wp2_with fail
  refine (num_any _ _).mono ?_
  rintro r w15 ⟨rfl, rfl⟩
  go_wp2_with fail
  refine (mark_any 2 2 w14).mono ?_
  rintro r w15 ⟨rfl, hb15⟩
  have hT15 := hT14.below hb15
  have hb015 := hb014.trans (hb15.mono hb014.size)
  clear hT14 hb014 hb15
  go_wp2_with fail
  have hch := checks_any hT15 (mrk 2 2)
  rw [wk7] at hch
  refine hch.mono ?_
  rintro r w16 ⟨rfl, hb16⟩
  have hT16 := hT15.below hb16
  have hb016 := hb015.trans (hb16.mono hb015.size)
  clear hch hT15 hb015 hb16
  go_wp2_with fail
  refine (num_any _ _).mono ?_
  rintro r w17 ⟨rfl, rfl⟩
  go_wp2_with fail
  refine (mark_any 1 2 w16).mono ?_
  rintro r w17 ⟨rfl, hb17⟩
  have hT17 := hT16.below hb17
  have hb017 := hb016.trans (hb17.mono hb016.size)
  clear hT16 hb016 hb17
  go_wp2_with fail
  have hch := checks_any hT17 (mrk 1 2)
  rw [wk8] at hch
  refine hch.mono ?_
  rintro r w18 ⟨rfl, hb18⟩
  have hT18 := hT17.below hb18
  have hb018 := hb017.trans (hb18.mono hb017.size)
  clear hch hT17 hb017 hb18
  go_wp2_with fail
  refine (num_any _ _).mono ?_
  rintro r w19 ⟨rfl, rfl⟩
  go_wp2_with fail
  go_ret
  exact ⟨rfl, hb018⟩
end
end Go.Proofs.Ytafgcafhgnfegaa
