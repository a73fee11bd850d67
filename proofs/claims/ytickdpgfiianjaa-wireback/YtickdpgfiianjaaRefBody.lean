/-
  What waystationref02.body and .Frame answer: an entry's body, its frame. Condition: the entry may be.
-/
import Derived.Test.YtickdpgfiianjaaRefNum
namespace Go.Proofs.Ytickdpgfiianjaa
open Go.RowKit
set_option maxRecDepth 100000 in
theorem step_append_low {ops : Array Oper} {o : Oper} {a : Act} {w : World} {K : Act → World → Prop} {Q : Exit → Act → World → Prop} {E : Prop} {d : Nat} (hw : Region.wanted o (yielded ops a.tmps) = true) (hd : o.dst = some d) (s x : Operand)
    (ho : o.op = .call { callee := .builtin .append, args := #[s, x], argTypes := #[22, 22] })
    (base : Nat) (v : Value) (l : List UInt8) (hs : a.eval s = v) (hown : Own w base v l) (B : Nat) (A : Option Addr) (m c : Nat) (k : List UInt8) (hx : a.eval x = .slice A m c) (hr : Bys w B A m k)
    (hl : l.length < 1000000) (hm : m < 1000000) (hbase : base ≤ w.heap.size)
    (h : ∀ v' w', Own w' base v' (l ++ k) → Below base w w' → K { a with tmps := a.tmps.setIfInBounds d v' } w') : if Region.wanted o (yielded ops a.tmps) = true then Oper.wp Try.prog o a w K Q else E := by
  rw [if_pos hw]
  obtain ⟨v', w', hrun, h2, h3⟩ := run_append_bytes w base v l hown B A m c k hr o.type hl hm hbase
  unfold Oper.wp execOp
  simp only [ho, resolve, invoke, builtin, Sem.run_bind, Sem.run_pure, Result.andThen_ok, List.map_toArray, List.map_cons, List.map_nil, hs, hx, hrun]
  show K (a.put o.dst v') w'
  rw [hd]
  exact h v' w' h2 h3
theorem own_byte (w : World) (base q : Nat) (x : Int) (hx : x = (q : Int)) (hq : q < 256) (hb : base ≤ w.heap.size) : Own (w.alloc (.cells #[.int .u8 x] 5)) base (.slice (some ⟨w.heap.size, 0, none⟩) 1 1) [UInt8.ofNat q] := by
  subst hx
  have h := World.ownsRow_lit (base := base) (e := 5) (size := 1) w #[.int .u8 (q : Int)] 1 hb (by unfold maxLen; omega) rfl
  unfold Own
  have e1 : ([UInt8.ofNat q].map byteV) = [.int .u8 (q : Int)] := by
    simp only [List.map_cons, List.map_nil, byteV_ofNat]
    rw [show (q : Int) % 256 = (q : Int) from by omega]
  rw [e1]
  exact h
set_option maxRecDepth 100000 in
set_option maxHeartbeats 8000000 in
theorem refBody_any (e : Ent) (hR : Right e) (w : World) : Calls Try.prog 46 #[e.val] w (Rowed w w.heap.size w.heap.size (body e)) := by
  have hR' := hR
  unfold Right at hR'
  have HR' := Lib.hid hR'
  have HR := Lib.hid hR
  have HN : Hid (e.kind = ((e.kind.toNat : Nat) : Int) ∧ e.epoch = ((e.epoch.toNat : Nat) : Int) ∧ e.id + 1 = (((e.id + 1).toNat : Nat) : Int) ∧ e.kind ≤ 3 ∧ e.epoch ≤ 2147483647 ∧ e.id ≤ 3) := Lib.hid (by omega)
  have HK : Hid (num e.kind.toNat = [UInt8.ofNat e.kind.toNat] ∧ num (e.id + 1).toNat = [UInt8.ofNat (e.id + 1).toNat]) := Lib.hid ⟨num_less (by omega), num_less (by omega)⟩
  have hk8 : IntKind.u8.wrap e.kind = e.kind := IntWalk.u8_in _ (by omega)
  have HX := Lib.hid (box_blk w e)
  have HB := Lib.hid ((Below.refl w.heap.size w).alloc (Nat.le_refl _) (.cells #[.int .i64 e.epoch, .int .i64 e.id, .int .i64 e.num, .int .i64 e.seq, .int .i64 e.kind, .int .i64 e.value] 38))
  have HZ : Hid (w.heap.size < (w.alloc (.cells #[.int .i64 e.epoch, .int .i64 e.id, .int .i64 e.num, .int .i64 e.seq, .int .i64 e.kind, .int .i64 e.value] 38)).heap.size) := Lib.hid (by simp)
  clear hR hR'
  unfold Ent.val Ent.cells
  go_enter Try.func46, Try.ntmps46
  go_wp2_with fail
  generalize w.alloc (.cells #[.int .i64 e.epoch, .int .i64 e.id, .int .i64 e.num, .int .i64 e.seq, .int .i64 e.kind, .int .i64 e.value] 38) = w1 at *
  have HXd : Blk w1.drew w.heap.size 38 e.cells := HX.out.drew
  refine wp_region_np ?_
  refine wp_region_held_drew (S := fun W => Blk W w.heap.size 38 e.cells) (by kernel_rfl) HXd (fun hHeld => ?_)
  have HB1 := Lib.hid HB.out.drew
  have HZ1 : Hid (w.heap.size < w1.drew.heap.size) := Lib.hid HZ.out
  clear HX HB HZ HXd
  generalize w1.drew = w1 at *
  refine wpAnyH_takeAt (i := 0) (d := 4) (v := ?va0) rfl rfl (by kernel_rfl) (by kernel_rfl) (by kernel_rfl) (fun _ _ _ h => h) (Or.inl ⟨by rfl, ?hya0⟩) hHeld ?_
  case hya0 =>
    intro W hSw
    clear hSw
    (go_simp; try with_reducible rfl)
  simp only [List.setIfInBounds_toArray, List.set_cons_zero, List.set_cons_succ]
  refine wpAnyH_takeAt (i := 1) (d := 5) (v := ?va1) rfl rfl (by kernel_rfl) (by kernel_rfl) (by kernel_rfl) (fun _ _ _ h => h) (Or.inl ⟨by rfl, ?hya1⟩) hHeld ?_
  case hya1 =>
    intro W hSw
    obtain ⟨s0, s1, s2, s3, s4, s5⟩ := Blk.six hSw
    (go_simp; try with_reducible rfl)
  simp only [List.setIfInBounds_toArray, List.set_cons_zero, List.set_cons_succ]
  refine wpAnyH_takeAt (i := 2) (d := 6) (v := ?va2) rfl rfl (by kernel_rfl) (by kernel_rfl) (by kernel_rfl) (fun _ _ _ h => h) (Or.inl ⟨by rfl, ?hya2⟩) hHeld ?_
  case hya2 =>
    intro W hSw
    clear hSw
    (go_simp; try with_reducible rfl)
  simp only [List.setIfInBounds_toArray, List.set_cons_zero, List.set_cons_succ]
  refine wpAnyH_takeAt (i := 4) (d := 8) (v := ?va4) rfl rfl (by kernel_rfl) (by kernel_rfl) (by kernel_rfl) (fun _ _ _ h => h) (Or.inl ⟨by rfl, ?hya4⟩) hHeld ?_
  case hya4 =>
    intro W hSw
    clear hSw
    (go_simp; try with_reducible rfl)
  simp only [List.setIfInBounds_toArray, List.set_cons_zero, List.set_cons_succ]
  refine wpAnyH_takeAt (i := 5) (d := 9) (v := ?va5) rfl rfl (by kernel_rfl) (by kernel_rfl) (by kernel_rfl) (fun _ _ _ h => h) (Or.inl ⟨by rfl, ?hya5⟩) hHeld ?_
  case hya5 =>
    intro W hSw
    obtain ⟨s0, s1, s2, s3, s4, s5⟩ := Blk.six hSw
    (go_simp; try with_reducible rfl)
  simp only [List.setIfInBounds_toArray, List.set_cons_zero, List.set_cons_succ]
  refine wpAnyH_ready (rs := [3, 6]) (by kernel_rfl) (by simp) (AllReadyH.cons rfl (fun K hK => ?_) (AllReadyH.cons rfl (fun K hK => ?_) AllReadyH.nil))
  · go_simp
    have ho2 : Own (w1.alloc (.cells #[.int .u8 e.kind] 5)) w1.heap.size (.slice (some ⟨w1.heap.size, 0, none⟩) 1 1) [UInt8.ofNat e.kind.toNat] := own_byte w1 _ e.kind.toNat e.kind HN.out.1 (by have := HN.out; omega) (Nat.le_refl _)
    have hb2 : Below w1.heap.size w1 (w1.alloc (.cells #[.int .u8 e.kind] 5)) := (Below.refl _ _).alloc (Nat.le_refl _) _
    refine hK.out _ _ (hHeld.alloc _) (fun hHeld => ?_)
    clear hK K
    generalize w1.alloc (.cells #[.int .u8 e.kind] 5) = w2 at *
    refine wpAnyH_ready (rs := [6]) (by kernel_rfl) (by simp) (AllReadyH.cons rfl (fun K hK => ?_) AllReadyH.nil)
    go_simp
    refine (refNumber_at e.epoch.toNat HN.out.2.1 (by have := HN.out; omega) w2).mono ?_
    rintro r w3 ⟨v3, rfl, ho3, hb3⟩
    have hz2 := hb2.size
    have ho2' := ho2.below hb3 (Nat.le_refl _)
    have hb3' := hb2.trans (hb3.mono hz2)
    have hz3 := hb3'.size
    obtain ⟨A3, q3, c3, rfl, hq3⟩ := ho3.form2
    have HQ3 : Hid (q3 < 1000) := Lib.hid (by rw [hq3]; have := length_num e.epoch.toNat; omega)
    have hy3 := ho3.bys
    dsimp only
    refine hK.out _ _ (hHeld.below hb3 hHeld.lt) (fun hHeld => ?_)
    clear hK K hq3 ho2 hb2 ho3 hb3 hz2
    refine wpAnyH_ready (rs := [7]) (by kernel_rfl) (by simp) (AllReadyH.cons rfl (fun K hK => ?_) AllReadyH.nil)
    refine step_append_low (d := 11) (by rfl) rfl _ _ (by rfl) w1.heap.size _ [UInt8.ofNat e.kind.toNat] (by rfl) ho2' _ A3 q3 c3 (num e.epoch.toNat) (by rfl) hy3 (by simp) (by have := HQ3.out; omega) hz3 ?_
    intro v4 w4 ho4 hb4
    have hb4' := hb3'.trans hb4
    refine hK.out _ _ (hHeld.below hb4 HZ1.out) (fun hHeld => ?_)
    clear hK K hb4 hy3 ho2' hb3'
    simp only [List.setIfInBounds_toArray, List.set_cons_zero, List.set_cons_succ]
    refine wpAnyH_ready (rs := [8]) (by kernel_rfl) (by simp) (AllReadyH.cons rfl (fun K hK => ?_) AllReadyH.nil)
    go_simp
    refine hK.out _ _ hHeld (fun hHeld => ?_)
    clear hK K
    refine wpAnyH_done (by kernel_rfl) ?_ _
    have hx4 : Blk w4 w.heap.size 38 e.cells := hHeld
    have hb4 : Below w.heap.size w w4 := HB1.out.trans (hb4'.mono (Nat.le_of_lt HZ1.out))
    have hz4 : w1.heap.size ≤ w4.heap.size := hb4'.size
    have HLL : Hid ((num e.epoch.toNat).length ≤ 10 ∧ (num e.num.toNat).length ≤ 10 ∧ (num e.seq.toNat).length ≤ 10) := Lib.hid ⟨length_num _, length_num _, length_num _⟩
    have hi8 : IntKind.i64.wrap (e.id + 1) = e.id + 1 := IntWalk.i64_in _ (by have := HR'.out; omega)
    have hi9 : 0 ≤ e.id + 1 ∧ e.id + 1 < 256 := by have := HR'.out; omega
    clear hb4' hHeld hk8
    obtain ⟨s0, s1, s2, s3, s4, s5⟩ := hx4.six
    go_wp2_with (at_builtin; refine stop ?_)
    refine Stop.go (wpList_append_want _ (by rfl) _ _ (by rfl) w1.heap.size _ _ (by rfl) (ho4.alloc _) _ _ 1 _ _ (by rfl) (bys_byte _ (e.id + 1).toNat _ (by omega) (by omega) 5 _ (Nat.lt_succ_self _)) (by have := HLL.out; simp only [List.length_append, List.length_cons, List.length_nil]; omega) (by omega) (le_alloc hz4 _) ?_)
    intro v5 w5 ho5 hbb5
    have hx5 := (hx4.alloc (.cells #[.int .u8 (e.id + 1)] 5)).below hbb5 HZ1.out
    have hb5 := (hb4.alloc hb4.size (.cells #[.int .u8 (e.id + 1)] 5)).trans (hbb5.mono (Nat.le_of_lt HZ1.out))
    have hz5 : w1.heap.size ≤ w5.heap.size := Nat.le_trans (le_alloc hz4 _) hbb5.size
    clear hx4 hb4 hz4 ho4 hbb5 s0 s1 s2 s3 s4 s5 hi8 hi9
    by_cases hid : 0 ≤ e.id
    · have HID := Lib.hid hid
      by_cases hk : e.kind = 1
      · have bk : (e.kind == 1) = true := by simp [hk]
        have HK1 := Lib.hid hk
        clear hk
        obtain ⟨s0, s1, s2, s3, s4, s5⟩ := hx5.six
        go_wp2_with fail
        clear s0 s1 s2 s3 s4 s5
        refine (refNumber_at e.num.toNat (by have := HR'.out; have := HID.out; omega) (by have := HR'.out; have := HID.out; omega) w5).mono ?_
        rintro r w5' ⟨vv5, rfl, hoc5, hbc5⟩
        have hx5' := hx5.below hbc5 hx5.lt
        have ho5' := ho5.below hbc5 (Nat.le_refl _)
        have hb5' := hb5.trans (hbc5.mono hb5.size)
        have hz5' : w1.heap.size ≤ w5'.heap.size := Nat.le_trans hz5 hbc5.size
        obtain ⟨Ac5, qc5, cc5, rfl, hqc5⟩ := hoc5.form2
        have HQC5 : Hid (qc5 < 1000) := Lib.hid (by rw [hqc5]; have := length_num e.num.toNat; omega)
        have hyc5 := hoc5.bys
        clear hqc5 hoc5 hbc5 hx5 ho5 hb5 hz5
        go_wp2_with (at_builtin; refine stop ?_)
        refine Stop.go (wpList_append_want _ (by rfl) _ _ (by rfl) w1.heap.size _ _ (by rfl) ho5' _ Ac5 qc5 cc5 _ (by rfl) hyc5 (by have := HLL.out; simp only [List.length_append, List.length_cons, List.length_nil]; omega) (by have := HQC5.out; omega) hz5' ?_)
        intro v6 w6 ho6 hbb6
        have hx6 := hx5'.below hbb6 HZ1.out
        have hb6 := hb5'.trans (hbb6.mono (Nat.le_of_lt HZ1.out))
        have hz6 : w1.heap.size ≤ w6.heap.size := Nat.le_trans hz5' hbb6.size
        clear hx5' ho5' hb5' hz5' hyc5 hbb6
        obtain ⟨s0, s1, s2, s3, s4, s5⟩ := hx6.six
        go_wp2_with fail
        clear s0 s1 s2 s3 s4 s5
        refine (refNumber_at e.seq.toNat (by have := HR'.out; have := HID.out; omega) (by have := HR'.out; have := HID.out; omega) w6).mono ?_
        rintro r w6' ⟨vv6, rfl, hoc6, hbc6⟩
        have hx6' := hx6.below hbc6 hx6.lt
        have ho6' := ho6.below hbc6 (Nat.le_refl _)
        have hb6' := hb6.trans (hbc6.mono hb6.size)
        have hz6' : w1.heap.size ≤ w6'.heap.size := Nat.le_trans hz6 hbc6.size
        obtain ⟨Ac6, qc6, cc6, rfl, hqc6⟩ := hoc6.form2
        have HQC6 : Hid (qc6 < 1000) := Lib.hid (by rw [hqc6]; have := length_num e.seq.toNat; omega)
        have hyc6 := hoc6.bys
        clear hqc6 hoc6 hbc6 hx6 ho6 hb6 hz6
        go_wp2_with (at_builtin; refine stop ?_)
        refine Stop.go (wpList_append_want _ (by rfl) _ _ (by rfl) w1.heap.size _ _ (by rfl) ho6' _ Ac6 qc6 cc6 _ (by rfl) hyc6 (by have := HLL.out; simp only [List.length_append, List.length_cons, List.length_nil]; omega) (by have := HQC6.out; omega) hz6' ?_)
        intro v7 w7 ho7 hbb7
        have hx7 := hx6'.below hbb7 HZ1.out
        have hb7 := hb6'.trans (hbb7.mono (Nat.le_of_lt HZ1.out))
        have hz7 : w1.heap.size ≤ w7.heap.size := Nat.le_trans hz6' hbb7.size
        clear hx6' ho6' hb6' hz6' hyc6 hbb7
        obtain ⟨s0, s1, s2, s3, s4, s5⟩ := hx7.six
        go_wp2_with fail
        clear s0 s1 s2 s3 s4 s5
        refine (refSigned_any e.value (by have := HR'.out; have := HK1.out; omega) (by have := HR'.out; have := HK1.out; omega) w7).mono ?_
        rintro r w7' ⟨vv7, rfl, hoc7, hbc7⟩
        have hx7' := hx7.below hbc7 hx7.lt
        have ho7' := ho7.below hbc7 (Nat.le_refl _)
        have hb7' := hb7.trans (hbc7.mono hb7.size)
        have hz7' : w1.heap.size ≤ w7'.heap.size := Nat.le_trans hz7 hbc7.size
        obtain ⟨Ac7, qc7, cc7, rfl, hqc7⟩ := hoc7.form2
        have HQC7 : Hid (qc7 < 1000) := Lib.hid (by rw [hqc7]; have := length_num (fold e.value); omega)
        have hyc7 := hoc7.bys
        clear hqc7 hoc7 hbc7 hx7 ho7 hb7 hz7
        go_wp2_with (at_builtin; refine stop ?_)
        refine Stop.go (wpList_append_want _ (by rfl) _ _ (by rfl) w1.heap.size _ _ (by rfl) ho7' _ Ac7 qc7 cc7 _ (by rfl) hyc7 (by have := HLL.out; simp only [List.length_append, List.length_cons, List.length_nil]; omega) (by have := HQC7.out; omega) hz7' ?_)
        intro v8 w8 ho8 hbb8
        have hx8 := hx7'.below hbb8 HZ1.out
        have hb8 := hb7'.trans (hbb8.mono (Nat.le_of_lt HZ1.out))
        have hz8 : w1.heap.size ≤ w8.heap.size := Nat.le_trans hz7' hbb8.size
        clear hx7' ho7' hb7' hz7' hyc7 hbb8
        have HT : Hid (body e = [UInt8.ofNat e.kind.toNat] ++ num e.epoch.toNat ++ [UInt8.ofNat (e.id + 1).toNat] ++ num e.num.toNat ++ num e.seq.toNat ++ num (fold e.value)) := Lib.hid (by unfold body tail; rw [HK.out.1, HK.out.2, if_pos HK1.out, if_neg (by have := HID.out; omega)]; simp only [List.append_assoc])
        obtain ⟨s0, s1, s2, s3, s4, s5⟩ := hx8.six
        go_wp2_with fail
        go_ret
        refine ⟨v8, rfl, ?_, hb8⟩
        rw [HT.out]
        exact ho8.mono (Nat.le_of_lt HZ1.out)
      · have bk : (e.kind == 1) = false := by simp [hk]
        have HK1 := Lib.hid hk
        clear hk
        obtain ⟨s0, s1, s2, s3, s4, s5⟩ := hx5.six
        go_wp2_with fail
        clear s0 s1 s2 s3 s4 s5
        refine (refNumber_at e.num.toNat (by have := HR'.out; have := HID.out; omega) (by have := HR'.out; have := HID.out; omega) w5).mono ?_
        rintro r w5' ⟨vv5, rfl, hoc5, hbc5⟩
        have hx5' := hx5.below hbc5 hx5.lt
        have ho5' := ho5.below hbc5 (Nat.le_refl _)
        have hb5' := hb5.trans (hbc5.mono hb5.size)
        have hz5' : w1.heap.size ≤ w5'.heap.size := Nat.le_trans hz5 hbc5.size
        obtain ⟨Ac5, qc5, cc5, rfl, hqc5⟩ := hoc5.form2
        have HQC5 : Hid (qc5 < 1000) := Lib.hid (by rw [hqc5]; have := length_num e.num.toNat; omega)
        have hyc5 := hoc5.bys
        clear hqc5 hoc5 hbc5 hx5 ho5 hb5 hz5
        go_wp2_with (at_builtin; refine stop ?_)
        refine Stop.go (wpList_append_want _ (by rfl) _ _ (by rfl) w1.heap.size _ _ (by rfl) ho5' _ Ac5 qc5 cc5 _ (by rfl) hyc5 (by have := HLL.out; simp only [List.length_append, List.length_cons, List.length_nil]; omega) (by have := HQC5.out; omega) hz5' ?_)
        intro v6 w6 ho6 hbb6
        have hx6 := hx5'.below hbb6 HZ1.out
        have hb6 := hb5'.trans (hbb6.mono (Nat.le_of_lt HZ1.out))
        have hz6 : w1.heap.size ≤ w6.heap.size := Nat.le_trans hz5' hbb6.size
        clear hx5' ho5' hb5' hz5' hyc5 hbb6
        have HT : Hid (body e = [UInt8.ofNat e.kind.toNat] ++ num e.epoch.toNat ++ [UInt8.ofNat (e.id + 1).toNat] ++ num e.num.toNat) := Lib.hid (by unfold body tail; rw [HK.out.1, HK.out.2, if_neg HK1.out])
        obtain ⟨s0, s1, s2, s3, s4, s5⟩ := hx6.six
        go_wp2_with fail
        go_ret
        refine ⟨v6, rfl, ?_, hb6⟩
        rw [HT.out]
        exact ho6.mono (Nat.le_of_lt HZ1.out)
    · have HID := Lib.hid hid
      have HK1 : Hid (e.kind = 1 ∧ e.id = -1) := Lib.hid (by have := HR'.out; omega)
      have bk : (e.kind == 1) = true := by rw [HK1.out.1]; rfl
      obtain ⟨s0, s1, s2, s3, s4, s5⟩ := hx5.six
      go_wp2_with fail
      clear s0 s1 s2 s3 s4 s5
      refine (refSigned_any e.value (by have := HR'.out; have := HK1.out; omega) (by have := HR'.out; have := HK1.out; omega) w5).mono ?_
      rintro r w5' ⟨vv5, rfl, hoc5, hbc5⟩
      have hx5' := hx5.below hbc5 hx5.lt
      have ho5' := ho5.below hbc5 (Nat.le_refl _)
      have hb5' := hb5.trans (hbc5.mono hb5.size)
      have hz5' : w1.heap.size ≤ w5'.heap.size := Nat.le_trans hz5 hbc5.size
      obtain ⟨Ac5, qc5, cc5, rfl, hqc5⟩ := hoc5.form2
      have HQC5 : Hid (qc5 < 1000) := Lib.hid (by rw [hqc5]; have := length_num (fold e.value); omega)
      have hyc5 := hoc5.bys
      clear hqc5 hoc5 hbc5 hx5 ho5 hb5 hz5
      go_wp2_with (at_builtin; refine stop ?_)
      refine Stop.go (wpList_append_want _ (by rfl) _ _ (by rfl) w1.heap.size _ _ (by rfl) ho5' _ Ac5 qc5 cc5 _ (by rfl) hyc5 (by have := HLL.out; simp only [List.length_append, List.length_cons, List.length_nil]; omega) (by have := HQC5.out; omega) hz5' ?_)
      intro v6 w6 ho6 hbb6
      have hx6 := hx5'.below hbb6 HZ1.out
      have hb6 := hb5'.trans (hbb6.mono (Nat.le_of_lt HZ1.out))
      have hz6 : w1.heap.size ≤ w6.heap.size := Nat.le_trans hz5' hbb6.size
      clear hx5' ho5' hb5' hz5' hyc5 hbb6
      have HT : Hid (body e = [UInt8.ofNat e.kind.toNat] ++ num e.epoch.toNat ++ [UInt8.ofNat (e.id + 1).toNat] ++ num (fold e.value)) := Lib.hid (by unfold body tail; rw [HK.out.1, HK.out.2, if_pos HK1.out.1, if_pos HK1.out.2])
      obtain ⟨s0, s1, s2, s3, s4, s5⟩ := hx6.six
      go_wp2_with fail
      go_ret
      refine ⟨v6, rfl, ?_, hb6⟩
      rw [HT.out]
      exact ho6.mono (Nat.le_of_lt HZ1.out)
  · go_simp
    refine (refNumber_at e.epoch.toNat HN.out.2.1 (by have := HN.out; omega) w1).mono ?_
    rintro r w2 ⟨v2, rfl, ho2, hb2⟩
    obtain ⟨A3, q3, c3, rfl, hq3⟩ := ho2.form2
    have HQ3 : Hid (q3 < 1000) := Lib.hid (by rw [hq3]; have := length_num e.epoch.toNat; omega)
    have hz2 := hb2.size
    dsimp only
    refine hK.out _ _ (hHeld.below hb2 HZ1.out) (fun hHeld => ?_)
    clear hK K hq3
    refine wpAnyH_ready (rs := [3]) (by kernel_rfl) (by simp) (AllReadyH.cons rfl (fun K hK => ?_) AllReadyH.nil)
    go_simp
    have ho3 : Own (w2.alloc (.cells #[.int .u8 e.kind] 5)) w1.heap.size (.slice (some ⟨w2.heap.size, 0, none⟩) 1 1) [UInt8.ofNat e.kind.toNat] := own_byte w2 _ e.kind.toNat e.kind HN.out.1 (by have := HN.out; omega) hz2
    have hb3' : Below w1.heap.size w1 (w2.alloc (.cells #[.int .u8 e.kind] 5)) := hb2.alloc hz2 _
    have hy3 : Bys (w2.alloc (.cells #[.int .u8 e.kind] 5)) w2.heap.size A3 q3 (num e.epoch.toNat) := ho2.bys.alloc (Nat.le_refl _) _
    refine hK.out _ _ (hHeld.alloc _) (fun hHeld => ?_)
    clear hK K ho2 hb2 hz2
    generalize w2.alloc (.cells #[.int .u8 e.kind] 5) = w3 at *
    have hz3 := hb3'.size
    refine wpAnyH_ready (rs := [7]) (by kernel_rfl) (by simp) (AllReadyH.cons rfl (fun K hK => ?_) AllReadyH.nil)
    refine step_append_low (d := 11) (by rfl) rfl _ _ (by rfl) w1.heap.size _ [UInt8.ofNat e.kind.toNat] (by rfl) ho3 _ A3 q3 c3 (num e.epoch.toNat) (by rfl) hy3 (by simp) (by have := HQ3.out; omega) hz3 ?_
    intro v4 w4 ho4 hb4
    have hb4' := hb3'.trans hb4
    refine hK.out _ _ (hHeld.below hb4 HZ1.out) (fun hHeld => ?_)
    clear hK K hb4 hy3 ho3 hb3'
    simp only [List.setIfInBounds_toArray, List.set_cons_zero, List.set_cons_succ]
    refine wpAnyH_ready (rs := [8]) (by kernel_rfl) (by simp) (AllReadyH.cons rfl (fun K hK => ?_) AllReadyH.nil)
    go_simp
    refine hK.out _ _ hHeld (fun hHeld => ?_)
    clear hK K
    refine wpAnyH_done (by kernel_rfl) ?_ _
    have hx4 : Blk w4 w.heap.size 38 e.cells := hHeld
    have hb4 : Below w.heap.size w w4 := HB1.out.trans (hb4'.mono (Nat.le_of_lt HZ1.out))
    have hz4 : w1.heap.size ≤ w4.heap.size := hb4'.size
    have HLL : Hid ((num e.epoch.toNat).length ≤ 10 ∧ (num e.num.toNat).length ≤ 10 ∧ (num e.seq.toNat).length ≤ 10) := Lib.hid ⟨length_num _, length_num _, length_num _⟩
    have hi8 : IntKind.i64.wrap (e.id + 1) = e.id + 1 := IntWalk.i64_in _ (by have := HR'.out; omega)
    have hi9 : 0 ≤ e.id + 1 ∧ e.id + 1 < 256 := by have := HR'.out; omega
    clear hb4' hHeld hk8
    obtain ⟨s0, s1, s2, s3, s4, s5⟩ := hx4.six
    go_wp2_with (at_builtin; refine stop ?_)
    refine Stop.go (wpList_append_want _ (by rfl) _ _ (by rfl) w1.heap.size _ _ (by rfl) (ho4.alloc _) _ _ 1 _ _ (by rfl) (bys_byte _ (e.id + 1).toNat _ (by omega) (by omega) 5 _ (Nat.lt_succ_self _)) (by have := HLL.out; simp only [List.length_append, List.length_cons, List.length_nil]; omega) (by omega) (le_alloc hz4 _) ?_)
    intro v5 w5 ho5 hbb5
    have hx5 := (hx4.alloc (.cells #[.int .u8 (e.id + 1)] 5)).below hbb5 HZ1.out
    have hb5 := (hb4.alloc hb4.size (.cells #[.int .u8 (e.id + 1)] 5)).trans (hbb5.mono (Nat.le_of_lt HZ1.out))
    have hz5 : w1.heap.size ≤ w5.heap.size := Nat.le_trans (le_alloc hz4 _) hbb5.size
    clear hx4 hb4 hz4 ho4 hbb5 s0 s1 s2 s3 s4 s5 hi8 hi9
    by_cases hid : 0 ≤ e.id
    · have HID := Lib.hid hid
      by_cases hk : e.kind = 1
      · have bk : (e.kind == 1) = true := by simp [hk]
        have HK1 := Lib.hid hk
        clear hk
        obtain ⟨s0, s1, s2, s3, s4, s5⟩ := hx5.six
        go_wp2_with fail
        clear s0 s1 s2 s3 s4 s5
        refine (refNumber_at e.num.toNat (by have := HR'.out; have := HID.out; omega) (by have := HR'.out; have := HID.out; omega) w5).mono ?_
        rintro r w5' ⟨vv5, rfl, hoc5, hbc5⟩
        have hx5' := hx5.below hbc5 hx5.lt
        have ho5' := ho5.below hbc5 (Nat.le_refl _)
        have hb5' := hb5.trans (hbc5.mono hb5.size)
        have hz5' : w1.heap.size ≤ w5'.heap.size := Nat.le_trans hz5 hbc5.size
        obtain ⟨Ac5, qc5, cc5, rfl, hqc5⟩ := hoc5.form2
        have HQC5 : Hid (qc5 < 1000) := Lib.hid (by rw [hqc5]; have := length_num e.num.toNat; omega)
        have hyc5 := hoc5.bys
        clear hqc5 hoc5 hbc5 hx5 ho5 hb5 hz5
        go_wp2_with (at_builtin; refine stop ?_)
        refine Stop.go (wpList_append_want _ (by rfl) _ _ (by rfl) w1.heap.size _ _ (by rfl) ho5' _ Ac5 qc5 cc5 _ (by rfl) hyc5 (by have := HLL.out; simp only [List.length_append, List.length_cons, List.length_nil]; omega) (by have := HQC5.out; omega) hz5' ?_)
        intro v6 w6 ho6 hbb6
        have hx6 := hx5'.below hbb6 HZ1.out
        have hb6 := hb5'.trans (hbb6.mono (Nat.le_of_lt HZ1.out))
        have hz6 : w1.heap.size ≤ w6.heap.size := Nat.le_trans hz5' hbb6.size
        clear hx5' ho5' hb5' hz5' hyc5 hbb6
        obtain ⟨s0, s1, s2, s3, s4, s5⟩ := hx6.six
        go_wp2_with fail
        clear s0 s1 s2 s3 s4 s5
        refine (refNumber_at e.seq.toNat (by have := HR'.out; have := HID.out; omega) (by have := HR'.out; have := HID.out; omega) w6).mono ?_
        rintro r w6' ⟨vv6, rfl, hoc6, hbc6⟩
        have hx6' := hx6.below hbc6 hx6.lt
        have ho6' := ho6.below hbc6 (Nat.le_refl _)
        have hb6' := hb6.trans (hbc6.mono hb6.size)
        have hz6' : w1.heap.size ≤ w6'.heap.size := Nat.le_trans hz6 hbc6.size
        obtain ⟨Ac6, qc6, cc6, rfl, hqc6⟩ := hoc6.form2
        have HQC6 : Hid (qc6 < 1000) := Lib.hid (by rw [hqc6]; have := length_num e.seq.toNat; omega)
        have hyc6 := hoc6.bys
        clear hqc6 hoc6 hbc6 hx6 ho6 hb6 hz6
        go_wp2_with (at_builtin; refine stop ?_)
        refine Stop.go (wpList_append_want _ (by rfl) _ _ (by rfl) w1.heap.size _ _ (by rfl) ho6' _ Ac6 qc6 cc6 _ (by rfl) hyc6 (by have := HLL.out; simp only [List.length_append, List.length_cons, List.length_nil]; omega) (by have := HQC6.out; omega) hz6' ?_)
        intro v7 w7 ho7 hbb7
        have hx7 := hx6'.below hbb7 HZ1.out
        have hb7 := hb6'.trans (hbb7.mono (Nat.le_of_lt HZ1.out))
        have hz7 : w1.heap.size ≤ w7.heap.size := Nat.le_trans hz6' hbb7.size
        clear hx6' ho6' hb6' hz6' hyc6 hbb7
        obtain ⟨s0, s1, s2, s3, s4, s5⟩ := hx7.six
        go_wp2_with fail
        clear s0 s1 s2 s3 s4 s5
        refine (refSigned_any e.value (by have := HR'.out; have := HK1.out; omega) (by have := HR'.out; have := HK1.out; omega) w7).mono ?_
        rintro r w7' ⟨vv7, rfl, hoc7, hbc7⟩
        have hx7' := hx7.below hbc7 hx7.lt
        have ho7' := ho7.below hbc7 (Nat.le_refl _)
        have hb7' := hb7.trans (hbc7.mono hb7.size)
        have hz7' : w1.heap.size ≤ w7'.heap.size := Nat.le_trans hz7 hbc7.size
        obtain ⟨Ac7, qc7, cc7, rfl, hqc7⟩ := hoc7.form2
        have HQC7 : Hid (qc7 < 1000) := Lib.hid (by rw [hqc7]; have := length_num (fold e.value); omega)
        have hyc7 := hoc7.bys
        clear hqc7 hoc7 hbc7 hx7 ho7 hb7 hz7
        go_wp2_with (at_builtin; refine stop ?_)
        refine Stop.go (wpList_append_want _ (by rfl) _ _ (by rfl) w1.heap.size _ _ (by rfl) ho7' _ Ac7 qc7 cc7 _ (by rfl) hyc7 (by have := HLL.out; simp only [List.length_append, List.length_cons, List.length_nil]; omega) (by have := HQC7.out; omega) hz7' ?_)
        intro v8 w8 ho8 hbb8
        have hx8 := hx7'.below hbb8 HZ1.out
        have hb8 := hb7'.trans (hbb8.mono (Nat.le_of_lt HZ1.out))
        have hz8 : w1.heap.size ≤ w8.heap.size := Nat.le_trans hz7' hbb8.size
        clear hx7' ho7' hb7' hz7' hyc7 hbb8
        have HT : Hid (body e = [UInt8.ofNat e.kind.toNat] ++ num e.epoch.toNat ++ [UInt8.ofNat (e.id + 1).toNat] ++ num e.num.toNat ++ num e.seq.toNat ++ num (fold e.value)) := Lib.hid (by unfold body tail; rw [HK.out.1, HK.out.2, if_pos HK1.out, if_neg (by have := HID.out; omega)]; simp only [List.append_assoc])
        obtain ⟨s0, s1, s2, s3, s4, s5⟩ := hx8.six
        go_wp2_with fail
        go_ret
        refine ⟨v8, rfl, ?_, hb8⟩
        rw [HT.out]
        exact ho8.mono (Nat.le_of_lt HZ1.out)
      · have bk : (e.kind == 1) = false := by simp [hk]
        have HK1 := Lib.hid hk
        clear hk
        obtain ⟨s0, s1, s2, s3, s4, s5⟩ := hx5.six
        go_wp2_with fail
        clear s0 s1 s2 s3 s4 s5
        refine (refNumber_at e.num.toNat (by have := HR'.out; have := HID.out; omega) (by have := HR'.out; have := HID.out; omega) w5).mono ?_
        rintro r w5' ⟨vv5, rfl, hoc5, hbc5⟩
        have hx5' := hx5.below hbc5 hx5.lt
        have ho5' := ho5.below hbc5 (Nat.le_refl _)
        have hb5' := hb5.trans (hbc5.mono hb5.size)
        have hz5' : w1.heap.size ≤ w5'.heap.size := Nat.le_trans hz5 hbc5.size
        obtain ⟨Ac5, qc5, cc5, rfl, hqc5⟩ := hoc5.form2
        have HQC5 : Hid (qc5 < 1000) := Lib.hid (by rw [hqc5]; have := length_num e.num.toNat; omega)
        have hyc5 := hoc5.bys
        clear hqc5 hoc5 hbc5 hx5 ho5 hb5 hz5
        go_wp2_with (at_builtin; refine stop ?_)
        refine Stop.go (wpList_append_want _ (by rfl) _ _ (by rfl) w1.heap.size _ _ (by rfl) ho5' _ Ac5 qc5 cc5 _ (by rfl) hyc5 (by have := HLL.out; simp only [List.length_append, List.length_cons, List.length_nil]; omega) (by have := HQC5.out; omega) hz5' ?_)
        intro v6 w6 ho6 hbb6
        have hx6 := hx5'.below hbb6 HZ1.out
        have hb6 := hb5'.trans (hbb6.mono (Nat.le_of_lt HZ1.out))
        have hz6 : w1.heap.size ≤ w6.heap.size := Nat.le_trans hz5' hbb6.size
        clear hx5' ho5' hb5' hz5' hyc5 hbb6
        have HT : Hid (body e = [UInt8.ofNat e.kind.toNat] ++ num e.epoch.toNat ++ [UInt8.ofNat (e.id + 1).toNat] ++ num e.num.toNat) := Lib.hid (by unfold body tail; rw [HK.out.1, HK.out.2, if_neg HK1.out])
        obtain ⟨s0, s1, s2, s3, s4, s5⟩ := hx6.six
        go_wp2_with fail
        go_ret
        refine ⟨v6, rfl, ?_, hb6⟩
        rw [HT.out]
        exact ho6.mono (Nat.le_of_lt HZ1.out)
    · have HID := Lib.hid hid
      have HK1 : Hid (e.kind = 1 ∧ e.id = -1) := Lib.hid (by have := HR'.out; omega)
      have bk : (e.kind == 1) = true := by rw [HK1.out.1]; rfl
      obtain ⟨s0, s1, s2, s3, s4, s5⟩ := hx5.six
      go_wp2_with fail
      clear s0 s1 s2 s3 s4 s5
      refine (refSigned_any e.value (by have := HR'.out; have := HK1.out; omega) (by have := HR'.out; have := HK1.out; omega) w5).mono ?_
      rintro r w5' ⟨vv5, rfl, hoc5, hbc5⟩
      have hx5' := hx5.below hbc5 hx5.lt
      have ho5' := ho5.below hbc5 (Nat.le_refl _)
      have hb5' := hb5.trans (hbc5.mono hb5.size)
      have hz5' : w1.heap.size ≤ w5'.heap.size := Nat.le_trans hz5 hbc5.size
      obtain ⟨Ac5, qc5, cc5, rfl, hqc5⟩ := hoc5.form2
      have HQC5 : Hid (qc5 < 1000) := Lib.hid (by rw [hqc5]; have := length_num (fold e.value); omega)
      have hyc5 := hoc5.bys
      clear hqc5 hoc5 hbc5 hx5 ho5 hb5 hz5
      go_wp2_with (at_builtin; refine stop ?_)
      refine Stop.go (wpList_append_want _ (by rfl) _ _ (by rfl) w1.heap.size _ _ (by rfl) ho5' _ Ac5 qc5 cc5 _ (by rfl) hyc5 (by have := HLL.out; simp only [List.length_append, List.length_cons, List.length_nil]; omega) (by have := HQC5.out; omega) hz5' ?_)
      intro v6 w6 ho6 hbb6
      have hx6 := hx5'.below hbb6 HZ1.out
      have hb6 := hb5'.trans (hbb6.mono (Nat.le_of_lt HZ1.out))
      have hz6 : w1.heap.size ≤ w6.heap.size := Nat.le_trans hz5' hbb6.size
      clear hx5' ho5' hb5' hz5' hyc5 hbb6
      have HT : Hid (body e = [UInt8.ofNat e.kind.toNat] ++ num e.epoch.toNat ++ [UInt8.ofNat (e.id + 1).toNat] ++ num (fold e.value)) := Lib.hid (by unfold body tail; rw [HK.out.1, HK.out.2, if_pos HK1.out.1, if_pos HK1.out.2])
      obtain ⟨s0, s1, s2, s3, s4, s5⟩ := hx6.six
      go_wp2_with fail
      go_ret
      refine ⟨v6, rfl, ?_, hb6⟩
      rw [HT.out]
      exact ho6.mono (Nat.le_of_lt HZ1.out)
set_option maxRecDepth 100000 in
set_option maxHeartbeats 1000000 in
theorem refFrame_any (e : Ent) (hR : Right e) (w : World) : Calls Try.prog 28 #[e.val] w (Rowed w w.heap.size w.heap.size (frame e)) := by
  have hE : Hid (.agg #[.int .i64 e.epoch, .int .i64 e.id, .int .i64 e.num, .int .i64 e.seq, .int .i64 e.kind, .int .i64 e.value] = e.val) := Lib.hid rfl
  have HB := Lib.hid ((Below.refl w.heap.size w).alloc (Nat.le_refl _) (.cells #[.int .i64 e.epoch, .int .i64 e.id, .int .i64 e.num, .int .i64 e.seq, .int .i64 e.kind, .int .i64 e.value] 38))
  have hLB := length_body e hR
  unfold Ent.val Ent.cells
  go_enter Try.func28, Try.ntmps28
  go_wp2_with fail
  rw [hE.out]
  refine (refBody_any e hR _).mono ?_
  rintro r w2 ⟨v2, rfl, ho2, hb2⟩
  have hb2' := HB.out.trans (hb2.mono HB.out.size)
  have hz2 := hb2'.size
  obtain ⟨A2, q2, c2, rfl, hq2⟩ := ho2.form2
  have HQ2 : Hid (q2 < 1000) := Lib.hid (by omega)
  have hy2 := ho2.bys
  clear hq2 ho2 hb2
  go_wp2_with fail
  refine (refFramed_any A2 q2 c2 (body e) w2 hy2 HQ2.out).mono ?_
  rintro r w3 ⟨v3, rfl, ho3, hb3⟩
  have hb3' := hb2'.trans (hb3.mono hz2)
  clear hb3 hy2
  go_wp2_with fail
  go_ret
  exact ⟨v3, rfl, ho3.mono hz2, hb3'⟩
end Go.Proofs.Ytickdpgfiianjaa
