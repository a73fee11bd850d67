/-
  What waystationref01.Seal and waystationref01.Open answer. Conditions: fewer than 50000 bytes.
-/
import Derived.Test.YtnlokmamflpffaaStep
import Derived.BigQuiet
import Derived.Deep.QuietTactic
import Derived.Deep.RegionHeld3
import Derived.IntWalk
namespace Go.Proofs.Ytnlokmamflpffaa
open Go.RowKit
theorem slice_to (a : Option Addr) (n c k : Nat) (i : Int) (hi : i = (k : Int)) (hk : k ≤ c) (W : World) : (Instr.slice 22 (.slice a n c) none (some (.int .i64 i)) none).run Try.prog W = .ok (.slice a k c) W := by
  subst hi
  obtain ⟨j, hj, hz0, hz1, hz2⟩ := info_parts info5
  have ha : a.map (fun x : Addr => x.add 0) = a := by cases a <;> simp [Addr.add]
  simp [Instr.slice, run_underlying Try.underlying22, Instr.sliceBounds, Instr.sliceBound, asIntOf, hk, sizeOf, typeInfo, hj, ha]
theorem sliceAt_to (a : Option Addr) (n c k : Nat) (i : Int) (hi : i = (k : Int)) (hk : k ≤ c) (W : World) : (Instr.sliceAt 22 (.slice a n c) none (some (.int .i64 i)) none).run Try.prog W = .ok (.slice a k c) W := by
  rw [← slice_to a n c k i hi hk W]
  simp [Instr.sliceAt, run_underlying Try.underlying22]
theorem wpAnyH_takeAt {P : Program} {md : Region.Mode} {ops : Array Oper} {Q : Exit → Act → World → Prop} {S : World → Prop} {i d : Nat} {oi : Oper} {v : Value} {fuel : Nat} {listed : Array Bool} {a : Act} {w : World}
    (hi : ops[i]? = some oi) (hd : oi.dst = some d) (hs : Region.noSelect ops = true) (hf : Region.free md ops listed i = true) (hr : (Region.ready md ops listed).contains i = true)
    (hQ : ∀ c a w, Q (.panic c) (a.put (some d) v) w → Q (.panic c) a w) (hy : YieldsIf P ops S oi v a) (hS : S w)
    (h : wpAnyH P md ops Q S fuel (listed.setIfInBounds i true) { a with tmps := a.tmps.setIfInBounds d v } w) : wpAnyH P md ops Q S (fuel + 1) listed a w :=
  wpAnyH_take hi hs hf hr (by rw [hd]; exact hQ) hy hS (by rw [hd]; exact h)
/-- A region that is shown not to panic serves whatever the post says of a panic. -/
theorem wp_region_np {P : Program} {id : Nat} {ops : Array Oper} {b : Bool} {Q : Exit → Act → World → Prop} {a : Act} {w : World}
    (h : (Code.region id ops b).wp P (fun e a w => match e with | .panic _ => False | e => Q e a w) a w) : (Code.region id ops b).wp P Q a w :=
  Code.wp_mono (fun e a w h => by cases e <;> first | exact h | exact False.elim h) h
set_option maxHeartbeats 400000 in
theorem refSeal_any (A : Option Addr) (n c : Nat) (l : List UInt8) (w : World) (hr : Bys w w.heap.size A n l) (hn : n < 50000) :
    Calls Try.prog 19 #[.slice A n c] w (Rowed w w.heap.size w.heap.size (l ++ les 4 (Crc.sum l))) := by
  have hln := hr.1
  have HL : Hid (l.length < 50000) := Lib.hid (by omega)
  clear hln
  go_enter Try.func19, Try.ntmps19
  go_wp2_with (at_builtin; refine stop ?_)
  refine (refSum_any A n c w.heap.size l w hr (by omega)).mono ?_
  rintro e w1 ⟨rfl, rfl⟩
  have hs : Crc.sum l < 4294967296 := by have := Crc.sum_lt l; omega
  go_wp2_with (at_builtin; refine stop ?_)
  refine Stop.go (wpList_append_want _ (by rfl) _ _ (by rfl) w.heap.size _ [] (by rfl) (own_empty _ _ (Nat.le_refl _)) w.heap.size A n c l (by rfl) (hr.alloc (Nat.le_refl _) _) (by simp) (by omega) (le_alloc (Nat.le_refl _) _) ?_)
  intro v1 w1 ho1 hb1
  rw [List.nil_append] at ho1
  have hb1' : Below w.heap.size w w1 := ((Below.refl _ _).alloc (Nat.le_refl _) _).trans hb1
  clear hb1
  generalize Crc.sum l = s at *
  go_wp2_with fail
  go_loopw [3, 4, 5] (fun q b i wr => ∃ k : Nat, k ≤ 4 ∧ i = .int .i64 k ∧ q = .int .u32 ((s / 256 ^ k : Nat) : Int) ∧ Own wr w.heap.size b (l ++ les k s) ∧ Below w.heap.size w wr ∧ w.heap.size ≤ wr.heap.size) (fun _ _ i _ => 4 - (intOf i).toNat)
  case atStart => exact ⟨0, by omega, rfl, by simp, by simpa [les] using ho1, hb1', hb1'.size⟩
  case round =>
    obtain ⟨k, hk, rfl, rfl, ho, hb, hbs⟩ := hrel
    have hq : s / 256 ^ k < 4294967296 := Nat.lt_of_le_of_lt (Nat.div_le_self _ _) hs
    have hsn := Lib.hid (les_snoc k s)
    have hdv : Hid (s / 256 ^ (k + 1) = s / 256 ^ k / 256) := Lib.hid (by rw [Nat.div_div_eq_div_mul, Nat.pow_succ])
    have hlen : (l ++ les k s).length < 1000000 := by rw [List.length_append, length_les]; have := HL.out; omega
    by_cases hlt : k < 4
    · generalize s / 256 ^ k = q at *
      go_wp2_with (at_builtin; refine stop ?_)
      refine Stop.go (wpList_append_want _ (by rfl) _ _ (by rfl) w.heap.size _ _ (by rfl) (ho.alloc _) _ _ 1 _ _ (by rfl) (bys_one _ q 5 _ (Nat.lt_succ_self _)) hlen (by omega) (le_alloc hbs _) ?_)
      intro v' w' ho' hb'
      go_wp2_with fail
      go_roundw
      case rel =>
        refine ⟨k + 1, by omega, by go_num, ?_, ?_, (hb.alloc hbs _).trans hb', ?_⟩
        · rw [hdv.out]; exact u32_eq (by omega)
        · rw [hsn.out, ← List.append_assoc]; exact ho'
        · have := hb'.size; simp at this; omega
      case measure => simp [intOf]; omega
    · obtain rfl : k = 4 := by omega
      go_wp2_with fail
      go_ret
      exact ⟨_, rfl, ho, hb⟩
theorem sealed_iff (l : List UInt8) (h4 : 4 ≤ l.length) : (l.take (l.length - 4) ++ les 4 (Crc.sum (l.take (l.length - 4))) == l) = opens l := by
  unfold opens
  rw [show decide (4 ≤ l.length) = true from by simpa using h4, Bool.true_and, Bool.eq_iff_iff, beq_iff_eq, beq_iff_eq]
  constructor
  · intro h
    have hh := congrArg (List.drop (l.length - 4)) h
    rw [List.drop_append_of_le_length (by simp), List.drop_eq_nil_of_le (by simp), List.nil_append] at hh
    exact hh.symm
  · intro h
    rw [← h, List.take_append_drop]
set_option maxHeartbeats 1000000 in
theorem refOpen_any (A : Option Addr) (n c : Nat) (l : List UInt8) (w : World) (hr : Bys w w.heap.size A n l) (hc : n ≤ c) (hn : n < 50000) :
    Calls Try.prog 21 #[.slice A n c] w (Opened w l) := by
  have hl := hr.1
  by_cases h4 : n < 4
  · have ho : opens l = false := by unfold opens; simp; omega
    have H := Lib.hid ho
    clear ho
    have HL := Lib.hid hl
    clear hl
    have hd : decide ((n : Int) < 4) = true := by simp; omega
    go_enter Try.func21, Try.ntmps21
    go_wp2_with fail
    go_quiet (fail)
    go_wp2_with fail
    go_ret2
    exact ⟨below_drewN (Below.refl _ _) _, _, by rw [H.out]; rfl, by rw [H.out]; exact Own.nil _ _⟩
  · have HL := Lib.hid hl
    clear hl
    have hn4 : (0 : Int) ≤ (n : Int) - 4 := by omega
    have hd : decide ((n : Int) < 4) = false := by simp; omega
    obtain ⟨ad, u, rfl, hb, hx, hcc⟩ := hr.at_ (k := 0) (by omega)
    clear hx hcc
    have hbody : Bys w w.heap.size (some ad) (n - 4) (l.take (n - 4)) := hr.first (by omega)
    have hb0 : Below w.heap.size w w.drew := (Below.refl _ _).drew
    have hbb : Below w.heap.size w w := Below.refl _ _
    have f1 : IntKind.i64.wrap ((n : Int) - 4) = (n : Int) - 4 := IntWalk.i64_in _ (by omega)
    have hsl := slice_to (some ad) n c (n - 4) ((n : Int) - 4) (by omega) (by omega)
    have hsl2 := sliceAt_to (some ad) n c (n - 4) ((n : Int) - 4) (by omega) (by omega)
    go_enter Try.func21, Try.ntmps21
    go_wp2_with fail
    have HO : Hid ((l.take (n - 4) ++ les 4 (Crc.sum (l.take (n - 4))) == l) = opens l) := Lib.hid (by have h := sealed_iff l (by rw [HL.out]; omega); rw [HL.out] at h; exact h)
    have t1 := str_toList l
    have t2 := str_toList (l.take (n - 4) ++ les 4 (Crc.sum (l.take (n - 4))))
    refine wp_region_np ?_
    refine wp_region_held_drew (S := fun w' => (convert 22 9 (.slice (some ad) n c)).run Try.prog w' = .ok (.string (str l)) w') (by kernel_rfl) (conv_str _ w.heap.size _ _ _ _ hr.drew) (fun hHeld => ?_)
    refine wpAnyH_takeAt (i := 0) (d := 4) (v := ?va0) rfl rfl (by kernel_rfl) (by kernel_rfl) (by kernel_rfl) (fun _ _ _ h => h) (Or.inl ⟨by rfl, ?hya0⟩) hHeld ?_
    case hya0 => intro W hSw; (try dsimp only at hSw); (go_simp; try with_reducible rfl)
    simp only [List.setIfInBounds_toArray, List.set_cons_zero, List.set_cons_succ]
    refine wpAnyH_takeAt (i := 1) (d := 5) (v := ?va1) rfl rfl (by kernel_rfl) (by kernel_rfl) (by kernel_rfl) (fun _ _ _ h => h) (Or.inl ⟨by rfl, ?hya1⟩) hHeld ?_
    case hya1 => intro W hSw; (try dsimp only at hSw); (go_simp; try with_reducible rfl)
    simp only [List.setIfInBounds_toArray, List.set_cons_zero, List.set_cons_succ]
    refine wpAnyH_takeAt (i := 2) (d := 6) (v := ?va2) rfl rfl (by kernel_rfl) (by kernel_rfl) (by kernel_rfl) (fun _ _ _ h => h) (Or.inl ⟨by rfl, ?hya2⟩) hHeld ?_
    case hya2 => intro W hSw; (try dsimp only at hSw); (go_simp; try with_reducible rfl)
    simp only [List.setIfInBounds_toArray, List.set_cons_zero, List.set_cons_succ]
    refine wpAnyH_takeAt (i := 3) (d := 7) (v := ?va3) rfl rfl (by kernel_rfl) (by kernel_rfl) (by kernel_rfl) (fun _ _ _ h => h) (Or.inl ⟨by rfl, ?hya3⟩) hHeld ?_
    case hya3 => intro W hSw; (try dsimp only at hSw); (go_simp; try with_reducible rfl)
    simp only [List.setIfInBounds_toArray, List.set_cons_zero, List.set_cons_succ]
    refine wpAnyH_takeAt (i := 4) (d := 8) (v := ?va4) rfl rfl (by kernel_rfl) (by kernel_rfl) (by kernel_rfl) (fun _ _ _ h => h) (Or.inl ⟨by rfl, ?hya4⟩) hHeld ?_
    case hya4 => intro W hSw; (try dsimp only at hSw); (go_simp; try with_reducible rfl)
    simp only [List.setIfInBounds_toArray, List.set_cons_zero, List.set_cons_succ]
    refine wpAnyH_takeAt (i := 5) (d := 9) (v := ?va5) rfl rfl (by kernel_rfl) (by kernel_rfl) (by kernel_rfl) (fun _ _ _ h => h) (Or.inl ⟨by rfl, ?hya5⟩) hHeld ?_
    case hya5 => intro W hSw; (try dsimp only at hSw); (go_simp; try with_reducible rfl)
    simp only [List.setIfInBounds_toArray, List.set_cons_zero, List.set_cons_succ]
    refine wpAnyH_takeAt (i := 6) (d := 10) (v := ?va6) rfl rfl (by kernel_rfl) (by kernel_rfl) (by kernel_rfl) (fun _ _ _ h => h) (Or.inl ⟨by rfl, ?hya6⟩) hHeld ?_
    case hya6 => intro W hSw; (try dsimp only at hSw); (go_simp; try with_reducible rfl)
    simp only [List.setIfInBounds_toArray, List.set_cons_zero, List.set_cons_succ]
    refine wpAnyH_takeAt (i := 7) (d := 11) (v := ?va7) rfl rfl (by kernel_rfl) (by kernel_rfl) (by kernel_rfl) (fun _ _ _ h => h) (Or.inl ⟨by rfl, ?hya7⟩) hHeld ?_
    case hya7 => intro W hSw; (try dsimp only at hSw); (go_simp; try with_reducible rfl)
    simp only [List.setIfInBounds_toArray, List.set_cons_zero, List.set_cons_succ]
    refine wpAnyH_takeAt (i := 8) (d := 12) (v := ?va8) rfl rfl (by kernel_rfl) (by kernel_rfl) (by kernel_rfl) (fun _ _ _ h => h) (Or.inl ⟨by rfl, ?hya8⟩) hHeld ?_
    case hya8 => intro W hSw; (try dsimp only at hSw); (go_simp; try with_reducible rfl)
    simp only [List.setIfInBounds_toArray, List.set_cons_zero, List.set_cons_succ]
    refine wpAnyH_takeAt (i := 11) (d := 15) (v := ?va11) rfl rfl (by kernel_rfl) (by kernel_rfl) (by kernel_rfl) (fun _ _ _ h => h) (Or.inl ⟨by rfl, ?hya11⟩) hHeld ?_
    case hya11 => intro W hSw; (try dsimp only at hSw); (go_simp; try with_reducible rfl)
    simp only [List.setIfInBounds_toArray, List.set_cons_zero, List.set_cons_succ]
    refine wpAnyH_takeAt (i := 12) (d := 16) (v := ?va12) rfl rfl (by kernel_rfl) (by kernel_rfl) (by kernel_rfl) (fun _ _ _ h => h) (Or.inl ⟨by rfl, ?hya12⟩) hHeld ?_
    case hya12 => intro W hSw; (try dsimp only at hSw); (go_simp; try with_reducible rfl)
    simp only [List.setIfInBounds_toArray, List.set_cons_zero, List.set_cons_succ]
    refine wpAnyH_ready (rs := [9]) (by kernel_rfl) (by simp) (AllReadyH.cons rfl (fun K hK => ?_) AllReadyH.nil)
    go_simp
    refine (refSeal_any _ _ _ (l.take (n - 4)) _ hbody.drew (by omega)).mono ?_
    rintro e w1 ⟨v1, rfl, ho1, hb1⟩
    obtain ⟨A1, k1, c1, rfl, hk1⟩ := ho1.form2
    clear hk1
    have q2 := conv_str w1 _ A1 k1 c1 _ ho1.bys
    dsimp only
    refine hK.out _ _ (conv_str _ w.heap.size _ _ _ _ (hr.drew.below hb1)) (fun hHeld => ?_)
    clear hK K
    refine wpAnyH_ready (rs := [10]) (by kernel_rfl) (by simp) (AllReadyH.cons rfl (fun K hK => ?_) AllReadyH.nil)
    go_simp
    refine hK.out _ _ hHeld (fun hHeld => ?_)
    clear hK K
    refine wpAnyH_takeAt (i := 13) (d := 17) (v := ?va13) rfl rfl (by kernel_rfl) (by kernel_rfl) (by kernel_rfl) (fun _ _ _ h => h) (Or.inl ⟨by rfl, ?hya13⟩) hHeld ?_
    case hya13 => intro W hSw; (try dsimp only at hSw); (go_simp; try with_reducible rfl)
    simp only [List.setIfInBounds_toArray, List.set_cons_zero, List.set_cons_succ]
    refine wpAnyH_takeAt (i := 14) (d := 18) (v := ?va14) rfl rfl (by kernel_rfl) (by kernel_rfl) (by kernel_rfl) (fun _ _ _ h => h) (Or.inl ⟨by rfl, ?hya14⟩) hHeld ?_
    case hya14 => intro W hSw; (try dsimp only at hSw); (go_simp; try with_reducible rfl)
    simp only [List.setIfInBounds_toArray, List.set_cons_zero, List.set_cons_succ]
    refine wpAnyH_done (by kernel_rfl) ?_ _
    have hbw : Below w.heap.size w w1 := hb0.trans hb1
    have hz1 := hbw.size
    clear t1 t2 q2 hHeld hsl hsl2
    generalize (l.take (n - 4) ++ les 4 (Crc.sum (l.take (n - 4))) == l) = b at *
    cases b
    · go_wp2_with fail
      go_ret2
      exact ⟨hbw, _, by rw [← HO.out]; rfl, by rw [← HO.out]; exact Own.nil _ _⟩
    · have hsl := slice_to (some ad) n c (n - 4) ((n : Int) - 4) (by omega) (by omega)
      go_wp2_with (at_builtin; refine stop ?_)
      refine Stop.go (wpList_append_want _ (by rfl) _ _ (by rfl) w.heap.size _ [] (by rfl) (own_empty _ _ hz1) w.heap.size (some ad) (n - 4) c (l.take (n - 4)) (by rfl) ((hbody.below hbw).alloc hz1 _) (by simp) (by omega) (le_alloc hz1 _) ?_)
      intro v3 w3 ho3 hb3
      rw [List.nil_append] at ho3
      go_wp2_with fail
      go_ret2
      exact ⟨(hbw.alloc hz1 _).trans hb3, v3, by rw [← HO.out]; rfl, by rw [← HO.out, HL.out]; exact ho3⟩
end Go.Proofs.Ytnlokmamflpffaa
