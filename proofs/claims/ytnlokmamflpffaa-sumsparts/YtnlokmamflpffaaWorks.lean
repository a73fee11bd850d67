/-
  sums works at all (waystationlaw01.works answers true), and how a law's slice of bytes is read. Nothing is assumed.
-/
import Derived.Test.YtnlokmamflpffaaOpen
import Derived.Lib.SlBytesConst
namespace Go.Proofs.Ytnlokmamflpffaa
open Go.RowKit
theorem opens_sealed (l : List UInt8) : opens (l ++ les 4 (Crc.sum l)) = true := by
  have hs : (l ++ les 4 (Crc.sum l)).length = l.length + 4 := by rw [List.length_append, length_les]
  have h1 : (l ++ les 4 (Crc.sum l)).take l.length = l := by simp
  have h2 : (l ++ les 4 (Crc.sum l)).drop l.length = les 4 (Crc.sum l) := by simp
  unfold opens
  rw [hs, Nat.add_sub_cancel, h1, h2]
  simp
theorem take_sealed (l : List UInt8) : (l ++ les 4 (Crc.sum l)).take ((l ++ les 4 (Crc.sum l)).length - 4) = l := by
  rw [List.length_append, length_les, Nat.add_sub_cancel]; simp
theorem sum_a_b : ((Crc.sum [97] : Nat) : Int) ≠ ((Crc.sum [98] : Nat) : Int) := by
  have h : Crc.sum [97] ≠ Crc.sum [98] := by decide +kernel
  omega
theorem sum_none : Crc.sum [] = 0 := by decide +kernel
theorem bys_lit (w : World) (l : List UInt8) (t : TypeId) (fr : Nat × Nat) (n B : Nat) (hn : l.length = n) (hB : w.heap.size < B) : Bys (w.alloc (.cells (l.map byteV).toArray t fr)) B (some ⟨w.heap.size, 0, none⟩) n l := by
  refine ⟨hn, fun _ => ⟨_, rfl, hB, fun j u hu => ?_⟩⟩
  have hadd : (⟨w.heap.size, 0, none⟩ : Addr).add j = ⟨w.heap.size, j, none⟩ := by unfold Addr.add; split <;> simp_all
  rw [hadd, cell_of_row _ _ j _ t fr (heap_alloc_new w _)]
  simp [hu]
/-- What is left of sums.Open where the bytes are sealed, or are not. -/
theorem opened_yes {w : World} {l : List UInt8} {e : Ending} {w' : World} (h : Opened w l e w') (ho : opens l = true) :
    ∃ A c, e = .returned (.tuple #[.slice A (l.take (l.length - 4)).length c, .int .i64 0]) ∧ Own w' w.heap.size (.slice A (l.take (l.length - 4)).length c) (l.take (l.length - 4)) ∧ Below w.heap.size w w' := by
  obtain ⟨hb, v, he, hv⟩ := h
  rw [ho] at he hv
  simp only [if_true] at he hv
  obtain ⟨A, c, rfl, _⟩ := hv.form
  exact ⟨A, c, he, hv, hb⟩
theorem opened_no {w : World} {l : List UInt8} {e : Ending} {w' : World} (h : Opened w l e w') (ho : opens l = false) :
    ∃ A c, e = .returned (.tuple #[.slice A 0 c, .int .i64 110]) ∧ Own w' w.heap.size (.slice A 0 c) [] ∧ Below w.heap.size w w' := by
  obtain ⟨hb, v, he, hv⟩ := h
  rw [ho] at he hv
  simp only [Bool.false_eq_true, if_false] at he hv
  obtain ⟨A, c, rfl, _⟩ := hv.form
  exact ⟨A, c, he, hv, hb⟩
theorem Own.cap {w : World} {base : Nat} {A : Option Addr} {n c : Nat} {l : List UInt8} (h : Own w base (.slice A n c) l) : n ≤ c ∧ c ≤ maxLen := by
  rcases h.2 with ⟨e, h0⟩ | ⟨g, cap, cur, e, _, _, h1, h2, _⟩
  · injection e with _ e2 e3; subst e2 e3; exact ⟨by omega, by unfold maxLen; omega⟩
  · injection e with _ e2 e3; subst e2 e3; exact ⟨h1, h2⟩
theorem lit_step (w : World) (base : Nat) (cs : Array Value) (l : List UInt8) (n : Nat) (hcs : cs = (l.map byteV).toArray) (hn : l.length = n) (fr : Nat × Nat) (hb : base ≤ w.heap.size) :
    Below base w (w.alloc (.cells cs 5 fr)) ∧ Bys (w.alloc (.cells cs 5 fr)) (w.alloc (.cells cs 5 fr)).heap.size (some ⟨w.heap.size, 0, none⟩) n l ∧ base ≤ (w.alloc (.cells cs 5 fr)).heap.size := by
  subst hcs
  exact ⟨(Below.refl _ _).alloc hb _, bys_lit w l 5 fr n _ hn (by simp), le_alloc hb _⟩
theorem opens_abc : opens [97, 98, 99] = false := by decide +kernel
set_option maxHeartbeats 1000000 in
set_option maxRecDepth 100000 in
theorem works_any (w : World) : Calls Try.prog 11 #[] w fun e w' => e = .returned (.bool true) ∧ Below w.heap.size w w' := by
  have kc := fun (w : World) (C : Array Value) (n c : Nat) => Lib.run_convert_bytes_const (P := Try.prog) w 22 5 C n c Try.underlying22 Try.underlying5
  go_enter Try.func11, Try.ntmps11
  go_wp2_with fail
  obtain ⟨hb0, hy0, hz0⟩ := lit_step w w.heap.size #[.int .u8 104, .int .u8 105] [104, 105] 2 rfl rfl (2, 3) (Nat.le_refl _)
  generalize w.alloc (.cells #[.int .u8 104, .int .u8 105] 5 (2, 3)) = w0 at *
  refine (seal_any _ 2 2 [104, 105] w0 hy0 (by omega)).mono ?_
  rintro e w1 ⟨v1, rfl, ho1, hb1⟩
  have hs1 := hb1.size
  have hop := opens_sealed [104, 105]
  have htk := take_sealed [104, 105]
  have hlen : (([104, 105] : List UInt8) ++ les 4 (Crc.sum [104, 105])).length = 6 := by rw [List.length_append, length_les]; rfl
  generalize ([104, 105] : List UInt8) ++ les 4 (Crc.sum [104, 105]) = l1 at *
  obtain ⟨A1, c1, rfl, _⟩ := ho1.form
  obtain ⟨hc1, hc2⟩ := ho1.cap
  rw [hlen] at ho1 hc1
  rw [hlen] at htk ⊢
  have HOP := Lib.hid hop
  have HTK := Lib.hid htk
  have HLEN := Lib.hid hlen
  clear hop htk hlen
  go_wp2_with fail
  refine (open_any A1 6 c1 l1 w1 ho1.bys hc1 hc2 (by omega)).mono ?_
  intro e w2 hopd
  obtain ⟨A2, c2, rfl, ho2, hb2⟩ := opened_yes hopd HOP.out
  rw [HLEN.out, HTK.out] at ho2
  rw [HLEN.out, HTK.out]
  have hs2 := hb2.size
  clear hopd
  have hbw2 : Below w.heap.size w w2 := (hb0.trans (hb1.mono hz0)).trans (hb2.mono (by omega))
  clear hb0 hb1 hb2 HLEN HTK HOP hy0 ho1 hc1 hc2
  go_wp2_with fail
  obtain ⟨hb3, hy3, hz3⟩ := lit_step w2 w2.heap.size #[.int .u8 97, .int .u8 98, .int .u8 99] [97, 98, 99] 3 rfl rfl (3, 4) (Nat.le_refl _)
  generalize w2.alloc (.cells #[.int .u8 97, .int .u8 98, .int .u8 99] 5 (3, 4)) = w3 at *
  refine (open_any _ 3 3 [97, 98, 99] w3 hy3 (by omega) (by unfold maxLen; omega) (by omega)).mono ?_
  intro e w4 hopd
  obtain ⟨A4, c4, rfl, ho4, hb4⟩ := opened_no hopd opens_abc
  clear hopd hy3
  have hs4 := hb4.size
  have ho5 : Own w4 w1.heap.size (.slice A2 [104, 105].length c2) [104, 105] := (ho2.below hb3 (Nat.le_refl _)).below hb4 (Nat.le_refl _)
  have hbw4 : Below w.heap.size w w4 := (hbw2.trans (hb3.mono (by omega))).trans (hb4.mono (by omega))
  clear hbw2 hb3 hb4 ho2
  have hcv : (convert 22 9 (.slice A2 2 c2)).run Try.prog w4 = .ok (.string (str [104, 105])) w4 := conv_str w4 w4.heap.size A2 _ c2 [104, 105] ho5.bys
  go_wp2_with fail
  refine (num_any 0 w4).mono ?_
  rintro e w5 ⟨rfl, rfl⟩
  have hst := str_toList [104, 105]
  go_wp2_with fail
  refine (num_any 110 w4).mono ?_
  rintro e w5 ⟨rfl, rfl⟩
  clear hcv ho5
  go_wp2_with fail
  refine (sum_any none 0 0 [] w4 Bys.none_ (by omega)).mono ?_
  rintro e w5 ⟨rfl, hb5⟩
  have hs5 := hb5.size
  rw [show ((Crc.sum [] : Nat) : Int) = 0 from by rw [sum_none]; rfl]
  go_wp2_with fail
  obtain ⟨hb6, hy6, hz6⟩ := lit_step w5 w5.heap.size #[.int .u8 97] [97] 1 rfl rfl (1, 2) (Nat.le_refl _)
  generalize w5.alloc (.cells #[.int .u8 97] 5 (1, 2)) = w6 at *
  refine (sum_any _ 1 1 [97] w6 hy6 (by omega)).mono ?_
  rintro e w7 ⟨rfl, hb7⟩
  have hs7 := hb7.size
  go_wp2_with fail
  obtain ⟨hb8, hy8, hz8⟩ := lit_step w7 w7.heap.size #[.int .u8 98] [98] 1 rfl rfl (1, 2) (Nat.le_refl _)
  generalize w7.alloc (.cells #[.int .u8 98] 5 (1, 2)) = w8 at *
  refine (sum_any _ 1 1 [98] w8 hy8 (by omega)).mono ?_
  rintro e w9 ⟨rfl, hb9⟩
  have hne : (((Crc.sum [97] : Nat) : Int) != ((Crc.sum [98] : Nat) : Int)) = true := bne_iff_ne.2 sum_a_b
  go_wp2_with fail
  go_ret
  exact ⟨rfl, ((((hbw4.trans (hb5.mono (by omega))).trans (hb6.mono (by omega))).trans (hb7.mono (by omega))).trans (hb8.mono (by omega))).trans (hb9.mono (by omega))⟩

/-- What a law is told of a slice of integers that came in: it is nil; or it leads to a row of 'cap' cells, the numbers 'zs' (the first 'len' are its elements, the rest its spare room), each fitting its kind. -/
def IsRow (k : IntKind) (w : World) (a : Option Addr) (len cap : Nat) (zs : List Int) : Prop :=
  (a = none ∧ len = 0 ∧ cap = 0 ∧ zs = []) ∨
  ∃ x, a = some x ∧ len ≤ cap ∧ cap ≤ maxLen ∧ zs.length = cap ∧ (∀ i, i < zs.length → w.cell? (x.add i) = some (.int k (zs.getD i 0))) ∧ ∀ n ∈ zs, (Lit.int k n).wf = true
theorem IsRow.bys {w : World} {a : Option Addr} {len cap : Nat} {zs : List Int} (h : IsRow .u8 w a len cap zs) : ∃ l : List UInt8, Bys w w.heap.size a len l ∧ len ≤ cap ∧ cap ≤ maxLen := by
  rcases h with ⟨rfl, rfl, rfl, rfl⟩ | ⟨x, rfl, h1, h2, h3, h4, h5⟩
  · exact ⟨[], Bys.none_, Nat.le_refl _, by unfold maxLen; omega⟩
  · refine ⟨(zs.take len).map fun z => UInt8.ofNat z.toNat, ⟨by simp; omega, fun h0 => ⟨x, rfl, ?_, fun j u hu => ?_⟩⟩, h1, h2⟩
    · have := block_lt_of_cell (h4 0 (by omega))
      rwa [block_of_add] at this
    · rw [List.getElem?_map] at hu
      cases hz : (zs.take len)[j]? with
      | none => rw [hz] at hu; cases hu
      | some z =>
        rw [hz] at hu
        injection hu with hu
        subst hu
        rw [List.getElem?_take] at hz
        split at hz
        · have hj : j < zs.length := (List.getElem?_eq_some_iff.1 hz).1
          have hm : z ∈ zs := by rw [List.getElem?_eq_some_iff] at hz; obtain ⟨_, rfl⟩ := hz; exact List.getElem_mem _
          have hw := h5 z hm
          have hmin : IntKind.u8.min = 0 := rfl
          have hmax : IntKind.u8.max = 255 := rfl
          simp only [Lit.wf, Bool.and_eq_true, decide_eq_true_eq] at hw
          rw [h4 j hj]
          unfold byteV
          rw [UInt8.toNat_ofNat']
          rw [List.getD_eq_getElem?_getD, hz]
          have : ((z.toNat % 2 ^ 8 : Nat) : Int) = z := by omega
          rw [this]
          rfl
        · cases hz
theorem u32_bounds {n : Int} (h : (Lit.int .u32 n).wf = true) : ∃ k : Nat, n = (k : Int) ∧ k < 4294967296 := by
  have hmin : IntKind.u32.min = 0 := rfl
  have hmax : IntKind.u32.max = 4294967295 := rfl
  simp only [Lit.wf, Bool.and_eq_true, decide_eq_true_eq] at h
  exact ⟨n.toNat, by omega, by omega⟩
end Go.Proofs.Ytnlokmamflpffaa
