/-
  What wire.putData, wire.putMarker, wire.body, wire.appendFrame answer: an entry's body, a body's frame. Conditions: the entry may be; fewer than 100000 bytes.
-/
import Derived.Test.YtickdpgfiianjaaMay
namespace Go.Proofs.Ytickdpgfiianjaa
open Go.RowKit
theorem put_at {x : Int} (n : Nat) (hx : x = (n : Int)) (hn : n < 9223372036854775808) (base : Nat) (v : Value) (l : List UInt8) (w : World) (hown : Own w base v l) (hbase : base ≤ w.heap.size) (hl : l.length < 100000) :
    Calls Try.prog 37 #[v, .int .i64 x] w (RowedG w base v (l ++ num n)) := by
  subst hx
  exact put_any base v l n hn w hown hbase hl
theorem putKind_at {x : Int} (n : Nat) (hx : x = (n : Int)) (hn : n < 9223372036854775808) (base : Nat) (v : Value) (l : List UInt8) (w : World) (hown : Own w base v l) (hbase : base ≤ w.heap.size) (hl : l.length < 100000) :
    Calls Try.prog 65 #[v, .int .i64 x] w (RowedG w base v (l ++ num n)) := by
  subst hx
  exact putKind_any base v l n hn w hown hbase hl
theorem putInt_at {x : Int} (n : Nat) (hx : x = (n : Int)) (hn : n < 9223372036854775808) (base : Nat) (v : Value) (l : List UInt8) (w : World) (hown : Own w base v l) (hbase : base ≤ w.heap.size) (hl : l.length < 100000) :
    Calls Try.prog 66 #[v, .int .i64 x] w (RowedG w base v (l ++ num n)) := by
  subst hx
  exact putInt_any base v l n hn w hown hbase hl
set_option maxRecDepth 100000 in
set_option maxHeartbeats 1000000 in
theorem putMarker_any (e : Ent) (base : Nat) (v : Value) (l : List UInt8) (w : World) (hown : Own w base v l) (hbase : base ≤ w.heap.size) (hl : l.length < 1000) (h0 : 0 ≤ e.num) (h1 : e.num ≤ 2147483647) :
    Calls Try.prog 62 #[v, e.val] w (RowedG w base v (l ++ num e.num.toNat)) := by
  unfold Ent.val Ent.cells
  go_enter Try.func62, Try.ntmps62
  go_wp2_with fail
  refine (put_at e.num.toNat (by omega) (by omega) base v l _ (hown.alloc _) (le_alloc hbase _) (by omega)).mono ?_
  rintro r w1 ⟨v1, rfl, ho, hb⟩
  have hb2 := (Grew.alloc _).trans hb
  clear hb
  go_wp2_with fail
  go_ret
  exact ⟨_, rfl, ho, hb2⟩
set_option maxRecDepth 100000 in
set_option maxHeartbeats 2000000 in
theorem putData_any (e : Ent) (base : Nat) (v : Value) (l : List UInt8) (w : World) (hown : Own w base v l) (hbase : base ≤ w.heap.size) (hl : l.length < 1000) (hk : e.kind = 1) (hR : Right e) :
    Calls Try.prog 59 #[v, e.val] w (RowedG w base v (l ++ tail e)) := by
  have hR' := (right_data hk).1 hR
  unfold MayData Somebody at hR'
  have HR := Lib.hid hR'
  have hbox := box_blk w e
  have hv : -4611686018427387904 ≤ e.value ∧ e.value ≤ 4611686018427387903 := by omega
  have hf : fold e.value < 9223372036854775808 := by unfold fold; split <;> omega
  unfold Ent.val Ent.cells
  by_cases h1 : e.id = -1
  · have b1 : (e.id == -1) = true := by simp [h1]
    have b2 : (e.id != -1) = false := by simp [h1]
    have HT : Hid (tail e = num (fold e.value)) := Lib.hid (by unfold tail; rw [if_pos hk, if_pos h1])
    clear h1 hk hR hR' hbox
    go_enter Try.func59, Try.ntmps59
    go_wp2_with fail
    refine (folded_any e.value hv.1 hv.2 _).mono ?_
    rintro r w1 ⟨rfl, rfl⟩
    go_wp2_with fail
    refine (put_any base v l (fold e.value) hf _ (hown.alloc _) (le_alloc hbase _) (by omega)).mono ?_
    rintro r w1 ⟨v1, rfl, ho, hb⟩
    have hb2 := (Grew.alloc _).trans hb
    clear hb
    go_wp2_with fail
    go_ret
    exact ⟨_, rfl, by rw [HT.out]; exact ho, hb2⟩
  · have b1 : (e.id == -1) = false := by simp [h1]
    have b2 : (e.id != -1) = true := by simp [h1]
    have HT : Hid (l ++ tail e = l ++ num e.num.toNat ++ num e.seq.toNat ++ num (fold e.value)) := Lib.hid (by unfold tail; rw [if_pos hk, if_neg h1]; simp only [List.append_assoc])
    have hn : e.num = ((e.num.toNat : Nat) : Int) ∧ e.num.toNat < 9223372036854775808 ∧ e.seq = ((e.seq.toNat : Nat) : Int) ∧ e.seq.toNat < 9223372036854775808 := by omega
    have HN := Lib.hid hn
    have HX := Lib.hid hbox
    have hl1 : (l ++ num e.num.toNat).length < 2000 := by rw [List.length_append]; have := length_num e.num.toNat; omega
    have hl2 : (l ++ num e.num.toNat ++ num e.seq.toNat).length < 3000 := by rw [List.length_append]; have := length_num e.seq.toNat; omega
    have HL1 := Lib.hid hl1
    have HL2 := Lib.hid hl2
    have HNN := Lib.hid hown.not_new
    clear h1 hk hR hR' hbox hn hl1 hl2
    go_enter Try.func59, Try.ntmps59
    go_wp2_with fail
    refine (put_at e.num.toNat HN.out.1 HN.out.2.1 base v l _ (hown.alloc _) (le_alloc hbase _) (by omega)).mono ?_
    rintro r w1 ⟨v1, rfl, ho1, hb1⟩
    have hx1 := hb1.blk HX.out HNN.out
    have HNN1 := Lib.hid (hb1.not HNN.out (by simp))
    have HG1 := Lib.hid ((Grew.alloc _).trans hb1)
    have hz1 := Nat.le_trans (le_alloc hbase _) hb1.1.size
    obtain ⟨c0, c1, c2, c3, c4, c5⟩ := hx1.six
    have HX1 := Lib.hid hx1
    clear hb1 hx1 hown
    go_wp2_with fail
    refine (put_at e.seq.toNat HN.out.2.2.1 HN.out.2.2.2 base v1 _ _ ho1 hz1 (by have := HL1.out; omega)).mono ?_
    rintro r w2 ⟨v2, rfl, ho2, hb2⟩
    have hx2 := hb2.blk HX1.out HNN1.out
    have HG2 := Lib.hid (HG1.out.trans hb2)
    have hz2 := Nat.le_trans hz1 hb2.1.size
    clear c0 c1 c2 c3 c4 c5
    obtain ⟨c0, c1, c2, c3, c4, c5⟩ := hx2.six
    clear hb2 hx2 ho1
    go_wp2_with fail
    refine (folded_any e.value hv.1 hv.2 _).mono ?_
    rintro r w3 ⟨rfl, rfl⟩
    go_wp2_with fail
    refine (put_any base v2 _ (fold e.value) hf _ ho2 hz2 (by have := HL2.out; omega)).mono ?_
    rintro r w3 ⟨v3, rfl, ho3, hb3⟩
    have hb4 := HG2.out.trans hb3
    clear c0 c1 c2 c3 c4 c5 hb3
    go_wp2_with fail
    go_ret
    exact ⟨_, rfl, by rw [HT.out]; exact ho3, hb4⟩
set_option maxRecDepth 100000 in
set_option maxHeartbeats 4000000 in
theorem body_any (e : Ent) (hR : Right e) (w : World) : Calls Try.prog 48 #[e.val] w (Rowed w w.heap.size w.heap.size (body e)) := by
  have hbox := box_blk w e
  have hlow := (Below.refl w.heap.size w).alloc (Nat.le_refl _) (.cells #[.int .i64 e.epoch, .int .i64 e.id, .int .i64 e.num, .int .i64 e.seq, .int .i64 e.kind, .int .i64 e.value] 38)
  have hE : Hid (.agg #[.int .i64 e.epoch, .int .i64 e.id, .int .i64 e.num, .int .i64 e.seq, .int .i64 e.kind, .int .i64 e.value] = e.val) := Lib.hid rfl
  have HX := Lib.hid hbox
  have HW := Lib.hid hlow
  have hR' := hR
  unfold Right at hR'
  have HN : Hid (e.kind = ((e.kind.toNat : Nat) : Int) ∧ e.epoch = ((e.epoch.toNat : Nat) : Int) ∧ e.id + 1 = (((e.id + 1).toNat : Nat) : Int) ∧ e.kind ≤ 3 ∧ e.epoch ≤ 2147483647 ∧ e.id ≤ 3) := Lib.hid (by omega)
  have HI : Hid (IntKind.i64.wrap (e.id + 1) = e.id + 1) := Lib.hid (IntWalk.i64_in _ (by omega))
  have HL : Hid ((num e.kind.toNat).length < 100 ∧ (num e.kind.toNat ++ num e.epoch.toNat).length < 100 ∧ (num e.kind.toNat ++ num e.epoch.toNat ++ num (e.id + 1).toNat).length < 100) := Lib.hid (by
    have h1 := length_num e.kind.toNat
    have h2 := length_num e.epoch.toNat
    have h3 := length_num (e.id + 1).toNat
    simp only [List.length_append]; omega)
  have HR := Lib.hid hR
  have HR' := Lib.hid hR'
  clear hbox hlow hR hR'
  unfold Ent.val Ent.cells
  go_enter Try.func48, Try.ntmps48
  go_wp2_with fail
  by_cases k1 : e.kind = 1
  · have K1 := Lib.hid k1
    have HT : Hid (body e = num e.kind.toNat ++ num e.epoch.toNat ++ num (e.id + 1).toNat ++ tail e) := Lib.hid rfl
    clear k1
    refine (kind_data' K1.out _).mono ?_
    rintro r w1 ⟨rfl, hb⟩
    have hx1 := HX.out.below hb (by simp)
    have hB1 : Below w.heap.size w w1 := HW.out.trans (hb.mono (by simp))
    have hz1 : w.heap.size < w1.heap.size := Nat.lt_of_lt_of_le (by simp) hb.size
    have HX2 : Hid (Blk (w1.alloc (.cells #[.func (.func 58) #[] #[], .func (.func 59) #[] #[], .func (.func 60) #[] #[]] 73)) w.heap.size 38 e.cells) := Lib.hid (hx1.alloc _)
    have HK2 : Hid (Blk (w1.alloc (.cells #[.func (.func 58) #[] #[], .func (.func 59) #[] #[], .func (.func 60) #[] #[]] 73)) w1.heap.size 73 #[.func (.func 58) #[] #[], .func (.func 59) #[] #[], .func (.func 60) #[] #[]]) := Lib.hid (Blk.new _ _ _)
    have HW2 : Hid (Below w.heap.size w (w1.alloc (.cells #[.func (.func 58) #[] #[], .func (.func 59) #[] #[], .func (.func 60) #[] #[]] 73))) := Lib.hid (hB1.alloc (Nat.le_of_lt hz1) _)
    obtain ⟨c0, c1, c2, c3, c4, c5⟩ := HX2.out.six
    clear hb hx1 hB1 HX HW
    go_wp2_with fail
    clear c0 c1 c2 c3 c4 c5
    generalize w1.heap.size = bk at *
    generalize w1.alloc (.cells #[.func (.func 58) #[] #[], .func (.func 59) #[] #[], .func (.func 60) #[] #[]] 73) = w2 at *
    refine (putKind_at e.kind.toNat HN.out.1 (by have := HN.out; omega) w2.heap.size _ [] w2 (Own.nil _ _) (Nat.le_refl _) (by simp)).mono ?_
    rintro r w3 ⟨v3, rfl, ho3, hg3⟩
    have hb3 := hg3.low (Own.nil w2 w2.heap.size) (Nat.le_refl _)
    rw [List.nil_append] at ho3
    have hx3 := HX2.out.below hb3 HX2.out.lt
    have HX3 := Lib.hid hx3
    have hz3 := hb3.size
    obtain ⟨c0, c1, c2, c3, c4, c5⟩ := hx3.six
    clear hx3 hg3
    go_wp2_with fail
    clear c0 c1 c2 c3 c4 c5
    refine (put_at e.epoch.toNat HN.out.2.1 (by have := HN.out; omega) w2.heap.size v3 _ w3 ho3 hz3 (by have := HL.out; omega)).mono ?_
    rintro r w4 ⟨v4, rfl, ho4, hg4⟩
    have hb4 := hb3.trans (hg4.low ho3 hz3)
    have hx4 := HX2.out.below hb4 HX2.out.lt
    have hz4 := hb4.size
    obtain ⟨c0, c1, c2, c3, c4, c5⟩ := hx4.six
    have hw := HI.out
    clear hx4 hg4 hb3 ho3 hz3
    go_wp2_with fail
    clear c0 c1 c2 c3 c4 c5
    refine (putInt_at (e.id + 1).toNat HN.out.2.2.1 (by have := HN.out; omega) w2.heap.size v4 _ w4 ho4 hz4 (by have := HL.out; omega)).mono ?_
    rintro r w5 ⟨v5, rfl, ho5, hg5⟩
    have hb5 := hb4.trans (hg5.low ho4 hz4)
    have hx5 := HX2.out.below hb5 HX2.out.lt
    have hk5 := HK2.out.below hb5 HK2.out.lt
    have hz5 := hb5.size
    obtain ⟨c0, c1, c2, c3, c4, c5⟩ := hx5.six
    have d0 := hk5.cell 0
    have d1 := hk5.cell 1
    have d2 := hk5.cell 2
    clear hx5 hk5 hg5 hb4 ho4 hz4 hw
    go_wp2_with fail
    clear c0 c1 c2 c3 c4 c5 d0 d1 d2
    rw [hE.out]
    refine (putData_any e w2.heap.size v5 _ w5 ho5 hz5 (by have := HL.out; omega) K1.out HR.out).mono ?_
    rintro r w6 ⟨v6, rfl, ho6, hg6⟩
    have hb6 := HW2.out.trans ((hb5.trans (hg6.low ho5 hz5)).mono HW2.out.size)
    clear hg6
    go_wp2_with fail
    go_ret
    exact ⟨_, rfl, by rw [HT.out]; exact ho6.mono HW2.out.size, hb6⟩
  have HT : Hid (body e = num e.kind.toNat ++ num e.epoch.toNat ++ num (e.id + 1).toNat ++ num e.num.toNat) := Lib.hid (by unfold body tail; rw [if_neg k1])
  by_cases k2 : e.kind = 2
  · have K2 := Lib.hid k2
    clear k2 k1
    refine (kind_commit' K2.out _).mono ?_
    rintro r w1 ⟨rfl, hb⟩
    have hx1 := HX.out.below hb (by simp)
    have hB1 : Below w.heap.size w w1 := HW.out.trans (hb.mono (by simp))
    have hz1 : w.heap.size < w1.heap.size := Nat.lt_of_lt_of_le (by simp) hb.size
    have HX2 : Hid (Blk (w1.alloc (.cells #[.func (.func 61) #[] #[], .func (.func 62) #[] #[], .func (.func 63) #[] #[]] 73)) w.heap.size 38 e.cells) := Lib.hid (hx1.alloc _)
    have HK2 : Hid (Blk (w1.alloc (.cells #[.func (.func 61) #[] #[], .func (.func 62) #[] #[], .func (.func 63) #[] #[]] 73)) w1.heap.size 73 #[.func (.func 61) #[] #[], .func (.func 62) #[] #[], .func (.func 63) #[] #[]]) := Lib.hid (Blk.new _ _ _)
    have HW2 : Hid (Below w.heap.size w (w1.alloc (.cells #[.func (.func 61) #[] #[], .func (.func 62) #[] #[], .func (.func 63) #[] #[]] 73))) := Lib.hid (hB1.alloc (Nat.le_of_lt hz1) _)
    obtain ⟨c0, c1, c2, c3, c4, c5⟩ := HX2.out.six
    clear hb hx1 hB1 HX HW
    go_wp2_with fail
    clear c0 c1 c2 c3 c4 c5
    generalize w1.heap.size = bk at *
    generalize w1.alloc (.cells #[.func (.func 61) #[] #[], .func (.func 62) #[] #[], .func (.func 63) #[] #[]] 73) = w2 at *
    refine (putKind_at e.kind.toNat HN.out.1 (by have := HN.out; omega) w2.heap.size _ [] w2 (Own.nil _ _) (Nat.le_refl _) (by simp)).mono ?_
    rintro r w3 ⟨v3, rfl, ho3, hg3⟩
    have hb3 := hg3.low (Own.nil w2 w2.heap.size) (Nat.le_refl _)
    rw [List.nil_append] at ho3
    have hx3 := HX2.out.below hb3 HX2.out.lt
    have HX3 := Lib.hid hx3
    have hz3 := hb3.size
    obtain ⟨c0, c1, c2, c3, c4, c5⟩ := hx3.six
    clear hx3 hg3
    go_wp2_with fail
    clear c0 c1 c2 c3 c4 c5
    refine (put_at e.epoch.toNat HN.out.2.1 (by have := HN.out; omega) w2.heap.size v3 _ w3 ho3 hz3 (by have := HL.out; omega)).mono ?_
    rintro r w4 ⟨v4, rfl, ho4, hg4⟩
    have hb4 := hb3.trans (hg4.low ho3 hz3)
    have hx4 := HX2.out.below hb4 HX2.out.lt
    have hz4 := hb4.size
    obtain ⟨c0, c1, c2, c3, c4, c5⟩ := hx4.six
    have hw := HI.out
    clear hx4 hg4 hb3 ho3 hz3
    go_wp2_with fail
    clear c0 c1 c2 c3 c4 c5
    refine (putInt_at (e.id + 1).toNat HN.out.2.2.1 (by have := HN.out; omega) w2.heap.size v4 _ w4 ho4 hz4 (by have := HL.out; omega)).mono ?_
    rintro r w5 ⟨v5, rfl, ho5, hg5⟩
    have hb5 := hb4.trans (hg5.low ho4 hz4)
    have hx5 := HX2.out.below hb5 HX2.out.lt
    have hk5 := HK2.out.below hb5 HK2.out.lt
    have hz5 := hb5.size
    obtain ⟨c0, c1, c2, c3, c4, c5⟩ := hx5.six
    have d0 := hk5.cell 0
    have d1 := hk5.cell 1
    have d2 := hk5.cell 2
    clear hx5 hk5 hg5 hb4 ho4 hz4 hw
    go_wp2_with fail
    clear c0 c1 c2 c3 c4 c5 d0 d1 d2
    rw [hE.out]
    refine (putMarker_any e w2.heap.size v5 _ w5 ho5 hz5 (by have := HL.out; omega) (by have := HR'.out; have := K2.out; omega) (by have := HR'.out; have := K2.out; omega)).mono ?_
    rintro r w6 ⟨v6, rfl, ho6, hg6⟩
    have hb6 := HW2.out.trans ((hb5.trans (hg6.low ho5 hz5)).mono HW2.out.size)
    clear hg6
    go_wp2_with fail
    go_ret
    exact ⟨_, rfl, by rw [HT.out]; exact ho6.mono HW2.out.size, hb6⟩
  · have K2 : Hid (e.kind = 3) := Lib.hid (by have := HR'.out; omega)
    clear k2 k1
    refine (kind_abort' K2.out _).mono ?_
    rintro r w1 ⟨rfl, hb⟩
    have hx1 := HX.out.below hb (by simp)
    have hB1 : Below w.heap.size w w1 := HW.out.trans (hb.mono (by simp))
    have hz1 : w.heap.size < w1.heap.size := Nat.lt_of_lt_of_le (by simp) hb.size
    have HX2 : Hid (Blk (w1.alloc (.cells #[.func (.func 61) #[] #[], .func (.func 62) #[] #[], .func (.func 63) #[] #[]] 73)) w.heap.size 38 e.cells) := Lib.hid (hx1.alloc _)
    have HK2 : Hid (Blk (w1.alloc (.cells #[.func (.func 61) #[] #[], .func (.func 62) #[] #[], .func (.func 63) #[] #[]] 73)) w1.heap.size 73 #[.func (.func 61) #[] #[], .func (.func 62) #[] #[], .func (.func 63) #[] #[]]) := Lib.hid (Blk.new _ _ _)
    have HW2 : Hid (Below w.heap.size w (w1.alloc (.cells #[.func (.func 61) #[] #[], .func (.func 62) #[] #[], .func (.func 63) #[] #[]] 73))) := Lib.hid (hB1.alloc (Nat.le_of_lt hz1) _)
    obtain ⟨c0, c1, c2, c3, c4, c5⟩ := HX2.out.six
    clear hb hx1 hB1 HX HW
    go_wp2_with fail
    clear c0 c1 c2 c3 c4 c5
    generalize w1.heap.size = bk at *
    generalize w1.alloc (.cells #[.func (.func 61) #[] #[], .func (.func 62) #[] #[], .func (.func 63) #[] #[]] 73) = w2 at *
    refine (putKind_at e.kind.toNat HN.out.1 (by have := HN.out; omega) w2.heap.size _ [] w2 (Own.nil _ _) (Nat.le_refl _) (by simp)).mono ?_
    rintro r w3 ⟨v3, rfl, ho3, hg3⟩
    have hb3 := hg3.low (Own.nil w2 w2.heap.size) (Nat.le_refl _)
    rw [List.nil_append] at ho3
    have hx3 := HX2.out.below hb3 HX2.out.lt
    have HX3 := Lib.hid hx3
    have hz3 := hb3.size
    obtain ⟨c0, c1, c2, c3, c4, c5⟩ := hx3.six
    clear hx3 hg3
    go_wp2_with fail
    clear c0 c1 c2 c3 c4 c5
    refine (put_at e.epoch.toNat HN.out.2.1 (by have := HN.out; omega) w2.heap.size v3 _ w3 ho3 hz3 (by have := HL.out; omega)).mono ?_
    rintro r w4 ⟨v4, rfl, ho4, hg4⟩
    have hb4 := hb3.trans (hg4.low ho3 hz3)
    have hx4 := HX2.out.below hb4 HX2.out.lt
    have hz4 := hb4.size
    obtain ⟨c0, c1, c2, c3, c4, c5⟩ := hx4.six
    have hw := HI.out
    clear hx4 hg4 hb3 ho3 hz3
    go_wp2_with fail
    clear c0 c1 c2 c3 c4 c5
    refine (putInt_at (e.id + 1).toNat HN.out.2.2.1 (by have := HN.out; omega) w2.heap.size v4 _ w4 ho4 hz4 (by have := HL.out; omega)).mono ?_
    rintro r w5 ⟨v5, rfl, ho5, hg5⟩
    have hb5 := hb4.trans (hg5.low ho4 hz4)
    have hx5 := HX2.out.below hb5 HX2.out.lt
    have hk5 := HK2.out.below hb5 HK2.out.lt
    have hz5 := hb5.size
    obtain ⟨c0, c1, c2, c3, c4, c5⟩ := hx5.six
    have d0 := hk5.cell 0
    have d1 := hk5.cell 1
    have d2 := hk5.cell 2
    clear hx5 hk5 hg5 hb4 ho4 hz4 hw
    go_wp2_with fail
    clear c0 c1 c2 c3 c4 c5 d0 d1 d2
    rw [hE.out]
    refine (putMarker_any e w2.heap.size v5 _ w5 ho5 hz5 (by have := HL.out; omega) (by have := HR'.out; have := K2.out; omega) (by have := HR'.out; have := K2.out; omega)).mono ?_
    rintro r w6 ⟨v6, rfl, ho6, hg6⟩
    have hb6 := HW2.out.trans ((hb5.trans (hg6.low ho5 hz5)).mono HW2.out.size)
    clear hg6
    go_wp2_with fail
    go_ret
    exact ⟨_, rfl, by rw [HT.out]; exact ho6.mono HW2.out.size, hb6⟩
end Go.Proofs.Ytickdpgfiianjaa
