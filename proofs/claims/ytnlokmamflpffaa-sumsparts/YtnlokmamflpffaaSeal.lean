/-
  What sums.appendLowAhead, bytes.Equal, bytes.Clone and sums.Seal answer. Conditions: fewer than 50000 bytes.
-/
import Derived.Test.YtnlokmamflpffaaApp
import Derived.Lib.SliceRun
namespace Go.Proofs.Ytnlokmamflpffaa
open Go.RowKit
theorem le_alloc {base : Nat} {w : World} (h : base ≤ w.heap.size) (o : Obj) : base ≤ (w.alloc o).heap.size := Nat.le_trans h (by simp)
/-- The lowest k bytes of n, the lowest ahead. -/
def les : Nat → Nat → List UInt8
  | 0, _ => []
  | k + 1, n => UInt8.ofNat n :: les k (n / 256)
theorem les_snoc : ∀ k n : Nat, les (k + 1) n = les k n ++ [UInt8.ofNat (n / 256 ^ k)]
  | 0, n => by simp [les]
  | k + 1, n => by
    show UInt8.ofNat n :: les (k + 1) (n / 256) = UInt8.ofNat n :: les k (n / 256) ++ _
    rw [les_snoc k (n / 256), Nat.div_div_eq_div_mul, Nat.pow_succ, Nat.mul_comm 256]
    rfl
theorem length_les : ∀ k n : Nat, (les k n).length = k
  | 0, _ => rfl
  | k + 1, n => by show (les k (n / 256)).length + 1 = k + 1; rw [length_les]
theorem byteV_ofNat (q : Nat) : byteV (UInt8.ofNat q) = .int .u8 ((q : Int) % 256) := by
  unfold byteV
  rw [UInt8.toNat_ofNat']
  rfl
theorem bys_one (w : World) (q : Nat) (t : TypeId) (B : Nat) (hB : w.heap.size < B) : Bys (w.alloc (.cells #[.int .u8 ((q : Int) % 256)] t)) B (some ⟨w.heap.size, 0, none⟩) 1 [UInt8.ofNat q] := by
  refine ⟨rfl, fun _ => ⟨_, rfl, hB, fun j u hu => ?_⟩⟩
  rw [← byteV_ofNat]
  refine cell_one_new w (byteV (UInt8.ofNat q)) t j (byteV u) ?_
  match j, hu with
  | 0, hu => simp at hu; subst hu; rfl
  | j + 1, hu => simp at hu
/-- What is known behind a call that hands a row of its own back. -/
def Rowed (w : World) (base B : Nat) (l : List UInt8) (e : Ending) (w' : World) : Prop := ∃ v, e = .returned v ∧ Own w' base v l ∧ Below B w w'
set_option maxHeartbeats 400000 in
theorem low_any (base : Nat) (v : Value) (l : List UInt8) (n : Nat) (hn : n < 4294967296) (w : World) (hown : Own w base v l) (hbase : base ≤ w.heap.size) (hl : l.length < 100000) :
    Calls Try.prog 28 #[v, .int .u32 (n : Int)] w (Rowed w base base (l ++ les 4 n)) := by
  go_enter Try.func28, Try.ntmps28
  go_wp2
  go_loopw [0, 1, 5] (fun b q i wr => ∃ k : Nat, k ≤ 4 ∧ i = .int .i64 k ∧ q = .int .u32 ((n / 256 ^ k : Nat) : Int) ∧ Own wr base b (l ++ les k n) ∧ Below base w wr ∧ base ≤ wr.heap.size) (fun _ _ i _ => 4 - (intOf i).toNat)
  case atStart => exact ⟨0, by omega, rfl, by simp, by simpa [les] using hown, Below.refl _ _, hbase⟩
  case round =>
    obtain ⟨k, hk, rfl, rfl, ho, hb, hbs⟩ := hrel
    have hq : n / 256 ^ k < 4294967296 := Nat.lt_of_le_of_lt (Nat.div_le_self _ _) hn
    have hsn := Lib.hid (les_snoc k n)
    have hdv : Hid (n / 256 ^ (k + 1) = n / 256 ^ k / 256) := Lib.hid (by rw [Nat.div_div_eq_div_mul, Nat.pow_succ])
    have hlen : (l ++ les k n).length < 1000000 := by rw [List.length_append, length_les]; omega
    by_cases hlt : k < 4
    · generalize n / 256 ^ k = q at *
      go_wp2_with (at_builtin; refine wpList_append_bytes _ rfl _ _ rfl base _ _ rfl (ho.alloc _) _ _ 1 _ _ rfl (bys_one _ q 5 _ (Nat.lt_succ_self _)) hlen (by omega) (le_alloc hbs _) ?_; intro v' w' ho' hb')
      go_roundw
      case rel =>
        refine ⟨k + 1, by omega, by go_num, ?_, ?_, (hb.alloc (by omega) _).trans hb', ?_⟩
        · rw [hdv.out]; exact u32_eq (by omega)
        · rw [hsn.out, ← List.append_assoc]; exact ho'
        · have := hb'.size; simp at this; omega
      case measure => simp [intOf]; omega
    · obtain rfl : k = 4 := by omega
      go_wp2
      go_ret
      exact ⟨_, rfl, ho, hb⟩
/-- Bytes as a string. -/
def str (l : List UInt8) : ByteArray := ⟨l.toArray⟩
theorem conv_str (w : World) (B : Nat) (A : Option Addr) (n c : Nat) (l : List UInt8) (hr : Bys w B A n l) : (convert 22 9 (.slice A n c)).run Try.prog w = .ok (.string (str l)) w := by
  rw [run_convert_bytes_string w 22 9 5 A n c Try.underlying22 Try.underlying5 Try.underlying9]
  rcases A with _ | ad
  · have h0 : n = 0 := by
      rcases Nat.eq_zero_or_pos n with h0 | h0
      · exact h0
      · obtain ⟨ad, h, _⟩ := hr.2 h0
        cases h
    subst h0
    have hk : l = [] := List.eq_nil_of_length_eq_zero hr.1
    subst hk
    rfl
  · have hl : (loadCells ad n).run Try.prog w = .ok ((l.map fun x => (x.toNat : Int)).map (Value.int .u8)).toArray w := by
      have := run_loadCells_list (P := Try.prog) w ad ((l.map fun x => (x.toNat : Int)).map (Value.int .u8)) (fun j v hj => by
        rw [List.map_map, List.getElem?_map] at hj
        cases hx : l[j]? with
        | none => rw [hx] at hj; cases hj
        | some x =>
          rw [hx] at hj
          injection hj with hj
          subst hj
          have hlt : j < l.length := (List.getElem?_eq_some_iff.1 hx).1
          obtain ⟨ad', h, _, hc⟩ := hr.2 (by have := hr.1; omega)
          injection h with h
          subst h
          exact hc j x hx)
      simpa [hr.1] using this
    rw [run_bytesToString w _ n c _ hl, foldl_push_bytes]
    congr 2
    unfold str
    congr 1
    simp [ByteArray.empty, ByteArray.emptyWithCapacity]
    show [] ++ List.map ((fun n => UInt8.ofNat n.toNat) ∘ fun x : UInt8 => (x.toNat : Int)) l = l
    rw [List.nil_append]
    conv => rhs; rw [← List.map_id l]
    apply List.map_congr_left
    intro x _
    simp
theorem str_toList (l : List UInt8) : (str l).toList = l := ByteArray.toList_mk l
set_option maxHeartbeats 400000 in
theorem equal_any (A : Option Addr) (n c : Nat) (l : List UInt8) (A' : Option Addr) (n' c' : Nat) (l' : List UInt8) (B B' : Nat) (w : World) (hr : Bys w B A n l) (hr' : Bys w B' A' n' l') :
    Calls Try.prog 29 #[.slice A n c, .slice A' n' c'] w fun e w' => e = .returned (.bool (l == l')) ∧ w = w' := by
  have h1 := conv_str w B A n c l hr
  have h2 := conv_str w B' A' n' c' l' hr'
  go_enter Try.func29, Try.ntmps29
  go_wp2
  go_ret
  exact ⟨by rw [str_toList, str_toList]; rfl, rfl⟩
theorem own_empty (w : World) (base : Nat) (hb : base ≤ w.heap.size) : Own (w.alloc (.cells #[] 5)) base (.slice (some ⟨w.heap.size, 0, none⟩) 0 0) [] :=
  World.ownsRow_made w #[] 0 hb (by unfold maxLen; omega) rfl
set_option maxHeartbeats 400000 in
theorem clone_any (A : Option Addr) (n c : Nat) (l : List UInt8) (w : World) (hr : Bys w w.heap.size A n l) (hn : n < 100000) :
    Calls Try.prog 30 #[.slice A n c] w (Rowed w w.heap.size w.heap.size l) := by
  have q22 : ∀ (w : World) (a : Option Addr) (n c n' c' : Nat), (binOp .eql 22 (.slice a n c) (.slice none n' c')).run Try.prog w = .ok (.bool a.isNone) w := fun w a n c n' c' => Lib.run_eql_slice_nil w _ _ a n c n' c' Try.underlying22
  rcases A with _ | ad
  · have h0 : n = 0 := by
      rcases Nat.eq_zero_or_pos n with h0 | h0
      · exact h0
      · obtain ⟨ad, h, _⟩ := hr.2 h0
        cases h
    subst h0
    have hk : l = [] := List.eq_nil_of_length_eq_zero hr.1
    subst hk
    go_enter Try.func30, Try.ntmps30
    go_wp2_with fail
    go_ret
    exact ⟨_, rfl, Own.nil _ _, Below.refl _ _⟩
  · go_enter Try.func30, Try.ntmps30
    go_wp2_with (at_builtin; refine wpList_append_bytes _ rfl _ _ rfl w.heap.size _ [] rfl (own_empty w _ (Nat.le_refl _)) w.heap.size _ n _ l rfl (hr.alloc (Nat.le_refl _) _) (by simp) (by omega) (le_alloc (Nat.le_refl _) _) ?_; intro v' w' ho' hb')
    go_ret
    exact ⟨_, rfl, ho', ((Below.refl _ _).alloc (Nat.le_refl _) _).trans hb'⟩
set_option maxHeartbeats 400000 in
theorem seal_any (A : Option Addr) (n c : Nat) (l : List UInt8) (w : World) (hr : Bys w w.heap.size A n l) (hn : n < 50000) :
    Calls Try.prog 18 #[.slice A n c] w (Rowed w w.heap.size w.heap.size (l ++ les 4 (Crc.sum l))) := by
  obtain ⟨i, hi, hz0, hz1, hz2⟩ := info_parts info5
  obtain ⟨w0, hmk, hown, hg0⟩ := run_make_own (P := Try.prog) w w.heap.size 22 5 i (.int .u8 0) 1 Try.underlying22 hi hz0 hz1 .i64 .i64 (n + 4) (by rw [hz2]; omega) (by unfold maxLen; omega) (Nat.le_refl _)
  rw [show ((n + 4 : Nat) : Int) = (n : Int) + 4 from by omega] at hmk
  have hb0 : Below w.heap.size w w0 := below_of_grown hg0 (Nat.le_refl _) (fun g e => by cases e)
  have hs0 := hb0.size
  have ho0 : Own w0 w.heap.size (.slice (some ⟨w.heap.size, 0, none⟩) 0 (n + 4)) [] := hown
  clear hown hg0 hz0 hz1 hz2 hi
  go_enter Try.func18, Try.ntmps18
  go_wp2_with (at_builtin; refine wpList_append_bytes _ rfl _ _ rfl w.heap.size _ [] rfl ho0 w.heap.size _ n _ l rfl (hr.below hb0) (by simp) (by omega) hs0 ?_; intro v1 w1 ho1 hb1)
  have hl := hr.1
  have hs1 := hb1.size
  refine (sum_any A n c l w1 ((hr.below (hb0.trans hb1)).more (by omega)) (by omega)).mono ?_
  rintro e w2 ⟨rfl, hb2⟩
  have hs2 := hb2.size
  clear hmk
  go_wp2_with fail
  refine (low_any w.heap.size v1 _ (Crc.sum l) (by have := Crc.sum_lt l; omega) w2 (ho1.below hb2 (Nat.le_refl _)) (by omega) (by simp; omega)).mono ?_
  rintro e w3 ⟨v3, rfl, ho3, hb3⟩
  go_wp2_with fail
  go_ret
  exact ⟨_, rfl, ho3, ((hb0.trans hb1).trans (hb2.mono (by omega))).trans hb3⟩
end Go.Proofs.Ytnlokmamflpffaa
