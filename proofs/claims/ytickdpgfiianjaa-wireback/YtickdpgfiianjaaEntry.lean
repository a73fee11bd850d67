/-
  What wire.takeData, wire.taker and wire.entry answer: the entry of a body, or that it gives up. Nothing is assumed but that the bytes are there.
-/
import Derived.Test.YtickdpgfiianjaaParse
namespace Go.Proofs.Ytickdpgfiianjaa
open Go.RowKit
set_option maxRecDepth 100000 in
set_option maxHeartbeats 2000000 in
theorem takeData_any {w : World} {p q r g : Nat} {A : Option Addr} {n c : Nat} {l : List UInt8} {k : Nat} (ep id : Int) (h : Taking w p q r A n c 121 l k) (hg : Blk w g 38 (Ent.mk ep id 0 0 1 0).cells) (hpg : p < g) :
    Calls Try.prog 60 #[nextV p q r, .pointer (some ⟨g, 0, none⟩)] w (Took w p q r g A n c l (dataTk ep id l k)) := by
  have e1 : w.cell? ⟨g, 1, none⟩ = some (.int .i64 id) := hg.cell 1
  by_cases hid : id = -1
  · have b1 : (id == -1) = true := by simp [hid]
    have b2 : (id != -1) = false := by simp [hid]
    have HI := Lib.hid hid
    clear hid
    go_enter Try.func60, Try.ntmps60
    go_wp2_with fail
    refine (number_any h).mono ?_
    rintro e w1 ⟨ho, hm⟩
    clear e1
    rcases ht : tk (l.drop k) with _ | _ | ⟨m, j⟩
    · rw [ht] at hm
      simp only at hm
      subst hm
      have HT : Hid (dataTk ep id l k = none) := Lib.hid (by unfold dataTk; rw [if_pos HI.out, ht])
      unfold panicE
      go_wp2_with fail
      refine ⟨rfl, ho.below (Nat.le_refl _), ?_⟩
      rw [HT.out]
      rfl
    · rw [ht] at hm
      simp only at hm
      subst hm
      have HT : Hid (dataTk ep id l k = none) := Lib.hid (by unfold dataTk; rw [if_pos HI.out, ht])
      unfold panicE
      go_wp2_with fail
      refine ⟨rfl, ho.below (Nat.le_refl _), ?_⟩
      rw [HT.out]
      rfl
    · rw [ht] at hm
      obtain ⟨rfl, ht1⟩ := hm
      have hmb := (tk_drop ht).2.2
      have hg1 := ho.blk hg (by omega)
      have e5 : w1.cell? ⟨g, 5, none⟩ = some (.int .i64 0) := hg1.cell 5
      have z5 := hg1.frozen 5
      have HT : Hid (dataTk ep id l k = some (⟨ep, id, 0, 0, 1, unf m⟩, k + j)) := Lib.hid (by unfold dataTk; rw [if_pos HI.out, ht])
      have HG := Lib.hid (hg1.set_ 5 (.int .i64 (unf m)))
      clear ht hg1 hg b1 b2
      go_wp2_with fail
      refine (unfolded_any m hmb _).mono ?_
      rintro e w2 ⟨rfl, rfl⟩
      go_wp2_with fail
      go_end0
      refine ⟨(ho.below (Nat.le_refl _)).setCell (p := ⟨g, 5, none⟩) (by show p ≤ g; omega) _, ?_⟩
      rw [HT.out]
      refine ⟨rfl, ht1.below ((Below.refl g w1).setCell (p := ⟨g, 5, none⟩) (Nat.le_refl _) _) hpg, HG.out, fun i hi hi2 => (Below.heap_setCell w1 _ _ i (by show i ≠ g; exact hi2)).trans (ho.2.2.2.2 i hi)⟩
  · have b1 : (id == -1) = false := by simp [hid]
    have b2 : (id != -1) = true := by simp [hid]
    have HI := Lib.hid hid
    clear hid
    go_enter Try.func60, Try.ntmps60
    go_wp2_with fail
    refine (number_any h).mono ?_
    rintro e w1 ⟨ho, hm⟩
    clear e1
    rcases ht : tk (l.drop k) with _ | _ | ⟨m, j⟩
    · rw [ht] at hm
      simp only at hm
      subst hm
      have HT : Hid (dataTk ep id l k = none) := Lib.hid (by unfold dataTk; rw [if_neg HI.out, ht])
      unfold panicE
      go_wp2_with fail
      refine ⟨rfl, ho.below (Nat.le_refl _), ?_⟩
      rw [HT.out]
      rfl
    · rw [ht] at hm
      simp only at hm
      subst hm
      have HT : Hid (dataTk ep id l k = none) := Lib.hid (by unfold dataTk; rw [if_neg HI.out, ht])
      unfold panicE
      go_wp2_with fail
      refine ⟨rfl, ho.below (Nat.le_refl _), ?_⟩
      rw [HT.out]
      rfl
    · rw [ht] at hm
      obtain ⟨rfl, ht1⟩ := hm
      have hg1 := ho.blk hg (by omega)
      have e2 : w1.cell? ⟨g, 2, none⟩ = some (.int .i64 0) := hg1.cell 2
      have z2 := hg1.frozen 2
      have HG := Lib.hid (hg1.set_ 2 (.int .i64 (m : Int)))
      have HT2 := Lib.hid (ht1.below ((Below.refl g w1).setCell (p := ⟨g, 2, none⟩) (Nat.le_refl _) (.int .i64 (m : Int))) hpg)
      have HB2 := Lib.hid ((ho.below (Nat.le_refl _)).setCell (p := ⟨g, 2, none⟩) (by show p ≤ g; omega) (.int .i64 (m : Int)))
      have HS2 : Hid (∀ i, i ≠ p → i ≠ g → (w1.setCell ⟨g, 2, none⟩ (.int .i64 (m : Int))).heap[i]? = w.heap[i]?) := Lib.hid (fun i hi hi2 => (Below.heap_setCell w1 _ _ i (by show i ≠ g; exact hi2)).trans (ho.2.2.2.2 i hi))
      have HK := Lib.hid ht
      clear ht hg1 hg b1 b2 ho ht1 h
      go_wp2_with fail
      clear e2 z2
      generalize w1.setCell ⟨g, 2, none⟩ (.int .i64 (m : Int)) = w2 at *
      refine (number_any HT2.out).mono ?_
      rintro e w3 ⟨ho3, hm3⟩
      rcases ht3 : tk (l.drop (k + j)) with _ | _ | ⟨m3, j3⟩
      · rw [ht3] at hm3
        simp only at hm3
        subst hm3
        have HT : Hid (dataTk ep id l k = none) := Lib.hid (by unfold dataTk; rw [if_neg HI.out, HK.out]; simp only; rw [ht3])
        unfold panicE
        go_wp2_with fail
        refine ⟨rfl, HB2.out.trans (ho3.below (Nat.le_refl _)), ?_⟩
        rw [HT.out]
        rfl
      · rw [ht3] at hm3
        simp only at hm3
        subst hm3
        have HT : Hid (dataTk ep id l k = none) := Lib.hid (by unfold dataTk; rw [if_neg HI.out, HK.out]; simp only; rw [ht3])
        unfold panicE
        go_wp2_with fail
        refine ⟨rfl, HB2.out.trans (ho3.below (Nat.le_refl _)), ?_⟩
        rw [HT.out]
        rfl
      · rw [ht3] at hm3
        obtain ⟨rfl, ht4⟩ := hm3
        have hg3 : Blk w3 g 38 (Ent.mk ep id m 0 1 0).cells := ho3.blk HG.out (by omega)
        have e3 : w3.cell? ⟨g, 3, none⟩ = some (.int .i64 0) := hg3.cell 3
        have z3 := hg3.frozen 3
        have HG3 := Lib.hid (hg3.set_ 3 (.int .i64 (m3 : Int)))
        have HT4 := Lib.hid (ht4.below ((Below.refl g w3).setCell (p := ⟨g, 3, none⟩) (Nat.le_refl _) (.int .i64 (m3 : Int))) hpg)
        have HB4 := Lib.hid (HB2.out.trans ((ho3.below (Nat.le_refl _)).setCell (p := ⟨g, 3, none⟩) (by show p ≤ g; omega) (.int .i64 (m3 : Int))))
        have HS4 : Hid (∀ i, i ≠ p → i ≠ g → (w3.setCell ⟨g, 3, none⟩ (.int .i64 (m3 : Int))).heap[i]? = w.heap[i]?) := Lib.hid (fun i hi hi2 => ((Below.heap_setCell w3 _ _ i (by show i ≠ g; exact hi2)).trans (ho3.2.2.2.2 i hi)).trans (HS2.out i hi hi2))
        have HK3 := Lib.hid ht3
        clear ht3 hg3 ho3 ht4 HG HT2 HB2 HS2
        go_wp2_with fail
        clear e3 z3
        generalize w3.setCell ⟨g, 3, none⟩ (.int .i64 (m3 : Int)) = w4 at *
        refine (number_any HT4.out).mono ?_
        rintro e w5 ⟨ho5, hm5⟩
        rcases ht5 : tk (l.drop (k + j + j3)) with _ | _ | ⟨m5, j5⟩
        · rw [ht5] at hm5
          simp only at hm5
          subst hm5
          have HT : Hid (dataTk ep id l k = none) := Lib.hid (by unfold dataTk; rw [if_neg HI.out, HK.out]; simp only; rw [HK3.out]; simp only; rw [ht5])
          unfold panicE
          go_wp2_with fail
          refine ⟨rfl, HB4.out.trans (ho5.below (Nat.le_refl _)), ?_⟩
          rw [HT.out]
          rfl
        · rw [ht5] at hm5
          simp only at hm5
          subst hm5
          have HT : Hid (dataTk ep id l k = none) := Lib.hid (by unfold dataTk; rw [if_neg HI.out, HK.out]; simp only; rw [HK3.out]; simp only; rw [ht5])
          unfold panicE
          go_wp2_with fail
          refine ⟨rfl, HB4.out.trans (ho5.below (Nat.le_refl _)), ?_⟩
          rw [HT.out]
          rfl
        · rw [ht5] at hm5
          obtain ⟨rfl, ht6⟩ := hm5
          have hmb := (tk_drop ht5).2.2
          have hg5 : Blk w5 g 38 (Ent.mk ep id m m3 1 0).cells := ho5.blk HG3.out (by omega)
          have e5 : w5.cell? ⟨g, 5, none⟩ = some (.int .i64 0) := hg5.cell 5
          have z5 := hg5.frozen 5
          have HT : Hid (dataTk ep id l k = some (⟨ep, id, m, m3, 1, unf m5⟩, k + j + j3 + j5)) := Lib.hid (by unfold dataTk; rw [if_neg HI.out, HK.out]; simp only; rw [HK3.out]; simp only; rw [ht5])
          have HG5 := Lib.hid (hg5.set_ 5 (.int .i64 (unf m5)))
          clear ht5 hg5
          go_wp2_with fail
          refine (unfolded_any m5 hmb _).mono ?_
          rintro e w6 ⟨rfl, rfl⟩
          go_wp2_with fail
          go_end0
          refine ⟨HB4.out.trans ((ho5.below (Nat.le_refl _)).setCell (p := ⟨g, 5, none⟩) (by show p ≤ g; omega) _), ?_⟩
          rw [HT.out]
          refine ⟨rfl, ht6.below ((Below.refl g w5).setCell (p := ⟨g, 5, none⟩) (Nat.le_refl _) _) hpg, HG5.out, fun i hi hi2 => ((Below.heap_setCell w5 _ _ i (by show i ≠ g; exact hi2)).trans (ho5.2.2.2.2 i hi)).trans (HS4.out i hi hi2)⟩
theorem blk_new {g : Nat} (w : World) (t : TypeId) (cs : Array Value) (h : g = w.heap.size) : Blk (w.alloc (.cells cs t)) g t cs := by subst h; exact Blk.new w t cs
def takenV (p : Nat) : Value := .func (.func 72) #[] #[.pointer (some ⟨p, 0, none⟩)]
theorem mf (fn : Fn) (first cap : Array Value) (w : World) : (Instr.makeFunc fn first cap).run Try.prog w = .ok (.func fn first cap) w := rfl
set_option maxRecDepth 100000 in
set_option maxHeartbeats 1000000 in
theorem taker_any (A : Option Addr) (n c : Nat) (x : Int) (l : List UInt8) (w : World) (hr : Bys w w.heap.size A n l) (hn : n < 1000000) :
    Calls Try.prog 56 #[.slice A n c, .int .i64 x] w fun e w' => ∃ p q r, e = .returned (.tuple #[nextV p q r, takenV p]) ∧ Taking w' p q r A n c x l 0 ∧ w.heap.size ≤ q ∧ Below w.heap.size w w' := by
  have hmf := mf
  go_enter Try.func56, Try.ntmps56
  go_wp2_with fail
  go_ret2
  refine ⟨w.heap.size + 1 + 1, w.heap.size, w.heap.size + 1, rfl, ⟨?_, ?_, ?_, ?_, by omega, by omega, by omega, hn⟩, Nat.le_refl _, ?_⟩
  · exact blk_new _ 3 #[.int .i64 0] (by simp)
  · exact ((Blk.new w 22 #[.slice A n c]).alloc _).alloc _
  · exact (blk_new _ 24 #[.int .i64 x] (by simp)).alloc _
  · exact ((hr.alloc (Nat.le_refl _) _).alloc (le_alloc (Nat.le_refl _) _) _).alloc (le_alloc (le_alloc (Nat.le_refl _) _) _) _
  · exact (((Below.refl _ _).alloc (Nat.le_refl _) _).alloc (le_alloc (Nat.le_refl _) _) _).alloc (le_alloc (le_alloc (Nat.le_refl _) _) _) _
theorem taken_any {w : World} {p k : Nat} (h : Blk w p 3 #[.int .i64 (k : Int)]) : Calls Try.prog 72 #[.pointer (some ⟨p, 0, none⟩)] w fun e w' => e = .returned (.int .i64 (k : Int)) ∧ w = w' := by
  have e0 : w.cell? ⟨p, 0, none⟩ = some (.int .i64 (k : Int)) := h.cell 0
  go_enter Try.func72, Try.ntmps72
  go_wp2_with fail
  go_ret
  exact ⟨rfl, rfl⟩
end Go.Proofs.Ytickdpgfiianjaa
