/-
  What is told one by one: the places of what is visible: how it is made. Nothing is assumed.
-/
import Derived.Test.YthcphoijanebhaaDoorStb9
import Derived.Test.YthcphoijanebhaaDoorSees9
namespace Go.Proofs.YthcphoijanebhaaDoor
open Go.RowKit Go.Maps
set_option linter.unusedVariables false
/-- The function that sees. -/
def SeF (bt bn : Nat) : Value := .func (.func 67) #[] #[.pointer (some ⟨bt, 0, none⟩), .pointer (some ⟨bn, 0, none⟩)]
/-- The iterator that visible tells. -/
def ViF (bT bF bN bS : Nat) : Value := .func (.func 54) #[] #[.pointer (some ⟨bT, 0, none⟩), .pointer (some ⟨bF, 0, none⟩), .pointer (some ⟨bN, 0, none⟩), .pointer (some ⟨bS, 0, none⟩)]
/-- The iterator's own cells. -/
structure ItV (w : World) (B b bT bF bN bS bt bn fr n : Nat) : Prop where
  cT : w.cell? ⟨bT, 0, none⟩ = some (.pointer (some ⟨b, 0, none⟩))
  cF : w.cell? ⟨bF, 0, none⟩ = some (.int .i64 (fr : Int))
  cN : w.cell? ⟨bN, 0, none⟩ = some (.int .i64 (n : Int))
  cS : w.cell? ⟨bS, 0, none⟩ = some (SeF bt bn)
  ct : w.cell? ⟨bt, 0, none⟩ = some (.pointer (some ⟨b, 0, none⟩))
  cn : w.cell? ⟨bn, 0, none⟩ = some (.int .i64 (n : Int))
  lo : B ≤ bT ∧ B ≤ bF ∧ B ≤ bN ∧ B ≤ bS ∧ B ≤ bt ∧ B ≤ bn
theorem ItV.keepB {w w' : World} {B b bT bF bN bS bt bn fr n : Nat} (h : ItV w B b bT bF bN bS bt bn fr n) (hk : ∀ x, B ≤ x → x < w.heap.size → w'.heap[x]? = w.heap[x]?) : ItV w' B b bT bF bN bS bt bn fr n := by
  obtain ⟨h1, h2, h3, h4, h5, h6, h7⟩ := h
  exact ⟨(World.cell?_of_block (hk bT h7.1 (block_lt_of_cell h1))).trans h1, (World.cell?_of_block (hk bF h7.2.1 (block_lt_of_cell h2))).trans h2, (World.cell?_of_block (hk bN h7.2.2.1 (block_lt_of_cell h3))).trans h3,
    (World.cell?_of_block (hk bS h7.2.2.2.1 (block_lt_of_cell h4))).trans h4, (World.cell?_of_block (hk bt h7.2.2.2.2.1 (block_lt_of_cell h5))).trans h5, (World.cell?_of_block (hk bn h7.2.2.2.2.2 (block_lt_of_cell h6))).trans h6, h7⟩
theorem ItV.below {w w' : World} {B b bT bF bN bS bt bn fr n : Nat} (h : ItV w B b bT bF bN bS bt bn fr n) (hb : Below w.heap.size w w') : ItV w' B b bT bF bN bS bt bn fr n := h.keepB fun x _ hx => hb.block x hx
section
variable {w : World}
theorem mksees_any (b : Nat) (n : Int) (w : World) : Calls Tryd.prog 53 #[.pointer (some ⟨b, 0, none⟩), .int .i64 n] w fun r w' => r = .returned (SeF w.heap.size (w.heap.size + 1)) ∧ (w.alloc (.cells #[.pointer (some ⟨b, 0, none⟩)] 89)).alloc (.cells #[.int .i64 n] 3) = w' := by
  go_enter Tryd.func53, Tryd.ntmps53
  go_wp2_with fail
  go_ret
  exact ⟨rfl, rfl⟩
set_option maxRecDepth 100000 in
set_option maxHeartbeats 4000000 in
theorem visible_any (b fr n : Nat) (w : World) : Calls Tryd.prog 35 #[.pointer (some ⟨b, 0, none⟩), .int .i64 (fr : Int), .int .i64 (n : Int)] w fun r w' =>
    ∃ bT bF bN bS bt bn, r = .returned (ViF bT bF bN bS) ∧ ItV w' w.heap.size b bT bF bN bS bt bn fr n ∧ Below w.heap.size w w' := by
  obtain ⟨w3, hw3⟩ : ∃ w3, w3 = ((w.alloc (.cells #[.pointer (some ⟨b, 0, none⟩)] 89)).alloc (.cells #[.int .i64 (fr : Int)] 3)).alloc (.cells #[.int .i64 (n : Int)] 3) := ⟨_, rfl⟩
  have HB3 : Hid (Below w.heap.size w w3) := Lib.hid (by subst hw3; exact (((Below.refl _ _).alloc (Nat.le_refl _) _).alloc (by simp) _).alloc (by simp; omega) _)
  have HX : Hid (w3.cell? ⟨w.heap.size, 0, none⟩ = some (.pointer (some ⟨b, 0, none⟩)) ∧ w3.cell? ⟨w.heap.size + 1, 0, none⟩ = some (.int .i64 (fr : Int)) ∧ w3.cell? ⟨w.heap.size + 1 + 1, 0, none⟩ = some (.int .i64 (n : Int)) ∧ w.heap.size + 3 = w3.heap.size) := Lib.hid (by
    subst hw3
    have k0 := (Blk.new w 89 #[.pointer (some ⟨b, 0, none⟩)])
    have k1 := (Blk.new (w.alloc (.cells #[.pointer (some ⟨b, 0, none⟩)] 89)) 3 #[.int .i64 (fr : Int)])
    have k2 := (Blk.new ((w.alloc (.cells #[.pointer (some ⟨b, 0, none⟩)] 89)).alloc (.cells #[.int .i64 (fr : Int)] 3)) 3 #[.int .i64 (n : Int)])
    simp only [World.size_alloc] at k1 k2
    exact ⟨((k0.alloc _).alloc _).cell 0, (k1.alloc _).cell 0, k2.cell 0, by simp⟩)
  go_enter Tryd.func35, Tryd.ntmps35
  go_upto_region 1 with fail
  rw [← hw3]
  generalize hz0 : w.heap.size = z0 at *
  clear hw3
  have x0 := HX.out.1
  have x2 := HX.out.2.2.1
  go_wp2_with fail
  refine (mksees_any b n w3).mono ?_
  rintro r w4 ⟨rfl, hw4⟩
  clear x0 x2
  have HB4 : Hid (Below w3.heap.size w3 w4) := Lib.hid (by rw [← hw4]; exact ((Below.refl _ _).alloc (Nat.le_refl _) _).alloc (by simp) _)
  have HX4 : Hid (w4.cell? ⟨w3.heap.size, 0, none⟩ = some (.pointer (some ⟨b, 0, none⟩)) ∧ w4.cell? ⟨w3.heap.size + 1, 0, none⟩ = some (.int .i64 (n : Int)) ∧ w3.heap.size + 2 = w4.heap.size) := Lib.hid (by
    rw [← hw4]
    have k0 := Blk.new w3 89 #[.pointer (some ⟨b, 0, none⟩)]
    have k1 := Blk.new (w3.alloc (.cells #[.pointer (some ⟨b, 0, none⟩)] 89)) 3 #[.int .i64 (n : Int)]
    simp only [World.size_alloc] at k1
    exact ⟨(k0.alloc _).cell 0, k1.cell 0, by simp⟩)
  clear hw4
  generalize hz3 : w3.heap.size = z3 at *
  unfold SeF
  go_wp2_with fail
  have hb5 := (Below.refl w4.heap.size w4).alloc (Nat.le_refl _) (.cells #[.func (.func 67) #[] #[.pointer (some ⟨z3, 0, none⟩), .pointer (some ⟨z3 + 1, 0, none⟩)]] 90)
  have k5 := Blk.new w4 90 #[.func (.func 67) #[] #[.pointer (some ⟨z3, 0, none⟩), .pointer (some ⟨z3 + 1, 0, none⟩)]]
  have HF : Hid (∃ w5, w5 = w4.alloc (.cells #[.func (.func 67) #[] #[.pointer (some ⟨z3, 0, none⟩), .pointer (some ⟨z3 + 1, 0, none⟩)]] 90) ∧ ItV w5 z0 b z0 (z0 + 1) (z0 + 1 + 1) w4.heap.size z3 (z3 + 1) fr n ∧ Below z0 w w5) := Lib.hid ⟨_, rfl, by
    have e1 := HX.out.2.2.2
    have e2 := HX4.out.2.2
    have c3 : ∀ {p : Addr} {v : Value}, p.block < z3 → w3.cell? p = some v → (w4.alloc (.cells #[.func (.func 67) #[] #[.pointer (some ⟨z3, 0, none⟩), .pointer (some ⟨z3 + 1, 0, none⟩)]] 90)).cell? p = some v := fun hp hc => by
      rw [hb5.cell (by omega), HB4.out.cell hp]; exact hc
    have c4 : ∀ {p : Addr} {v : Value}, p.block < w4.heap.size → w4.cell? p = some v → (w4.alloc (.cells #[.func (.func 67) #[] #[.pointer (some ⟨z3, 0, none⟩), .pointer (some ⟨z3 + 1, 0, none⟩)]] 90)).cell? p = some v := fun hp hc => by
      rw [hb5.cell hp]; exact hc
    exact ⟨c3 (by show z0 < z3; omega) HX.out.1, c3 (by show z0 + 1 < z3; omega) HX.out.2.1, c3 (by show z0 + 1 + 1 < z3; omega) HX.out.2.2.1, k5.cell 0, c4 (by show z3 < w4.heap.size; omega) HX4.out.1, c4 (by show z3 + 1 < w4.heap.size; omega) HX4.out.2.1, by omega⟩, HB3.out.trans ((HB4.out.trans (hb5.mono (by have := HX4.out.2.2; omega))).mono (by have := HX.out.2.2.2; omega))⟩
  clear hb5 k5
  obtain ⟨w5, hw5, hI, hb⟩ := HF.out
  rw [← hw5]
  go_ret
  exact ⟨_, _, _, _, _, _, rfl, by rw [hz0]; exact hI, by rw [hz0]; exact hb⟩
end
end Go.Proofs.YthcphoijanebhaaDoor
