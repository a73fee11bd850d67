/-
  Joined: Play, Open, Acts, Three, Actsb. Conditions: as each says.
-/
import Derived.Test.YtpmdicbhliclcaaGreatLaw
import Derived.Test.YtpmdicbhliclcaaGreatDoes
import Derived.Test.YtpmdicbhliclcaaGreatRef15
import Derived.Test.YtpmdicbhliclcaaGreatRef16
import Derived.Test.YtpmdicbhliclcaaGreatMNew
import Derived.Deep.Slices
import Derived.ChangeArms
import Derived.ChangeSlices
import Derived.WideShapes
import Derived.Test.YtpmdicbhliclcaaGreatRef45
import Derived.OpenShut
namespace Go.Proofs.YtpmdicbhliclcaaGreat
open Go.RowKit Go.Maps
set_option linter.unusedVariables false
set_option linter.unusedSimpArgs false
/-- Two worlds of a play. -/
theorem Pl.grow {w w' : World} {g : Nat} {M : Mt} {v : Value} {S Y Y' : Nat → Prop} (h : Pl w g M v S Y) (hb : Below w.heap.size w w') (hl : ∀ b, Y' b → b < w'.heap.size) (hY : ∀ b, b < w.heap.size → Y' b → Y b) : Pl w' g M v S Y' :=
  ⟨h.mm.below hb, (h.rf.wide (fun b hb0 e => e.imp_right (hY b hb0))).below hb, fun b q => Nat.lt_of_lt_of_le (h.lt b q) hb.size, hl⟩
theorem Pl.below {w w' : World} {g : Nat} {M : Mt} {v : Value} {S Y : Nat → Prop} (h : Pl w g M v S Y) (hb : Below w.heap.size w w') : Pl w' g M v S Y :=
  h.grow hb (fun b q => Nat.lt_of_lt_of_le (h.yl b q) hb.size) (fun _ _ e => e)
theorem Pl.keep {w w' : World} {g ox : Nat} {M : Mt} {v : Value} {S Y : Nat → Prop} (h : Pl w g M v S Y) (ht : Turn (fun z => z = ox) w w') (hy : Y ox) (hs : ¬ S ox) : Pl w' g M v S Y :=
  ⟨h.mm.keep ht (fun b hb e => hs (e ▸ hb)), h.rf.keep ht (fun b _ e => .inr (e ▸ hy)), fun b q => Nat.lt_of_lt_of_le (h.lt b q) ht.size, fun b q => Nat.lt_of_lt_of_le (h.yl b q) ht.size⟩
/-- Between two rounds of a play. -/
structure PyI (w : World) (g gx : Nat) (W : World) (M : Mt) (cs : Array Value) (S : Nat → Prop) : Prop where
  low : Below w.heap.size w W
  pl : Pl W g M (.agg cs) S (fun z => z = gx)
  ok : M.ok
  gb : Blk W gx 36 cs
  ng : ¬ S gx
  lo : ∀ b, S b → w.heap.size ≤ b
  glo : w.heap.size ≤ gx
theorem PyI.drew {w W : World} {g gx : Nat} {M : Mt} {cs : Array Value} {S : Nat → Prop} (h : PyI w g gx W M cs S) : PyI w g gx W.drew M cs S := ⟨h.low.drew, h.pl.below (Below.refl _ _).drew, h.ok, h.gb.drew, h.ng, h.lo, h.glo⟩
theorem PyI.below {w W W' : World} {g gx : Nat} {M : Mt} {cs : Array Value} {S : Nat → Prop} (h : PyI w g gx W M cs S) (hb : Below W.heap.size W W') : PyI w g gx W' M cs S := ⟨h.low.trans (hb.mono h.low.size), h.pl.below hb, h.ok, h.gb.below hb h.gb.lt, h.ng, h.lo, h.glo⟩
/-- Within a round: the controller that comes lies at another place. -/
structure PyJ (w : World) (g gx ox : Nat) (W : World) (M : Mt) (cs : Array Value) (S : Nat → Prop) : Prop where
  low : Below w.heap.size w W
  pl : Pl W g M (.agg cs) S (fun z => z = gx ∨ z = ox)
  ok : M.ok
  ob : Blk W ox 36 cs
  ng : ¬ S gx
  no : ¬ S ox
  ne : gx ≠ ox
  lo : ∀ b, S b → w.heap.size ≤ b
  glo : w.heap.size ≤ gx
theorem PyJ.below {w W W' : World} {g gx ox : Nat} {M : Mt} {cs : Array Value} {S : Nat → Prop} (h : PyJ w g gx ox W M cs S) (hb : Below W.heap.size W W') : PyJ w g gx ox W' M cs S := ⟨h.low.trans (hb.mono h.low.size), h.pl.below hb, h.ok, h.ob.below hb h.ob.lt, h.ng, h.no, h.ne, h.lo, h.glo⟩
theorem PyJ.turn {w W W' : World} {g gx ox : Nat} {M : Mt} {cs : Array Value} {S : Nat → Prop} (h : PyJ w g gx ox W M cs S) (ht : Turn (fun z => z = gx) W W') (hb : Blk W' gx 36 cs) : PyI w g gx W' M cs S :=
  ⟨h.low.trans (ht.below h.low.size (fun b e => e ▸ h.glo)), (h.pl.keep ht (.inl rfl) h.ng).grow (Below.refl _ _) (fun b e => e ▸ hb.lt) (fun b _ e => .inl e), h.ok, hb, h.ng, h.lo, h.glo⟩
/-- The call comes first. -/
theorem PyI.first {w V0 V1 V2 : World} {g gx : Nat} {M M1 : Mt} {cs cs1 : Array Value} {S S1 : Nat → Prop} (h : PyI w g gx V0 M cs S) (hk : M1.ok) (hp : Pl V1 g M1 (.agg cs1) S1 (fun z => z = gx)) (hs : ∀ b, b < V0.heap.size → S1 b → S b) (ht : Turn S V0 V1) (ho : Turn (fun z => z = V1.heap.size) (V1.alloc (.cells #[.int .i64 0, .int .i64 0, .int .i64 0, .slice none 0 0, .slice none 0 0, .slice none 0 0] 36)) V2) (hb : Blk V2 V1.heap.size 36 cs1) : PyJ w g gx V1.heap.size V2 M1 cs1 S1 := by
  have hal : Below V1.heap.size V1 (V1.alloc (.cells #[.int .i64 0, .int .i64 0, .int .i64 0, .slice none 0 0, .slice none 0 0, .slice none 0 0] 36)) := (Below.refl _ _).alloc (Nat.le_refl _) _
  have hz : V0.heap.size ≤ V1.heap.size := ht.size
  have hno : ¬ S1 V1.heap.size := fun q => by have := hp.lt _ q; omega
  have hl1 : Below w.heap.size w V1 := h.low.trans (ht.below h.low.size (fun b e => h.lo b e))
  have hgx : gx < V0.heap.size := h.gb.lt
  refine ⟨(hl1.trans (hal.mono hl1.size)).trans (ho.below (Nat.le_trans hl1.size hal.size) (fun b e => by have := hl1.size; omega)), ?_, hk, hb, fun q => h.ng (hs _ hgx q), hno, by omega, fun b q => ?_, h.glo⟩
  · refine Pl.keep (hp.grow hal (fun b e => ?_) (fun b hb0 e => e.elim id (fun e => by omega))) ho (.inr rfl) hno
    have : (V1.alloc (.cells #[.int .i64 0, .int .i64 0, .int .i64 0, .slice none 0 0, .slice none 0 0, .slice none 0 0] 36)).heap.size = V1.heap.size + 1 := by simp
    rcases e with e | e <;> omega
  · by_cases hlt : b < V0.heap.size
    · exact h.lo b (hs b hlt q)
    · have := h.low.size; omega
/-- The place comes first. -/
theorem PyI.second {w V0 V1 V2 : World} {g gx : Nat} {M M1 : Mt} {cs cs1 : Array Value} {S S1 : Nat → Prop} (h : PyI w g gx V0 M cs S) (hk : M1.ok) (hp : Pl V1 g M1 (.agg cs1) S1 (fun z => z = gx ∨ z = V0.heap.size)) (hs : ∀ b, b < (V0.alloc (.cells #[.int .i64 0, .int .i64 0, .int .i64 0, .slice none 0 0, .slice none 0 0, .slice none 0 0] 36)).heap.size → S1 b → S b) (ht : Turn S (V0.alloc (.cells #[.int .i64 0, .int .i64 0, .int .i64 0, .slice none 0 0, .slice none 0 0, .slice none 0 0] 36)) V1) (ho : Turn (fun z => z = V0.heap.size) V1 V2) (hb : Blk V2 V0.heap.size 36 cs1) : PyJ w g gx V0.heap.size V2 M1 cs1 S1 := by
  have hal : Below V0.heap.size V0 (V0.alloc (.cells #[.int .i64 0, .int .i64 0, .int .i64 0, .slice none 0 0, .slice none 0 0, .slice none 0 0] 36)) := (Below.refl _ _).alloc (Nat.le_refl _) _
  have hsz : (V0.alloc (.cells #[.int .i64 0, .int .i64 0, .int .i64 0, .slice none 0 0, .slice none 0 0, .slice none 0 0] 36)).heap.size = V0.heap.size + 1 := by simp
  have hgx : gx < V0.heap.size := h.gb.lt
  have hno : ¬ S1 V0.heap.size := fun q => by have := h.pl.lt _ (hs _ (by omega) q); omega
  have hl1 : Below w.heap.size w V1 := (h.low.trans (hal.mono h.low.size)).trans (ht.below (Nat.le_trans h.low.size hal.size) (fun b e => h.lo b e))
  refine ⟨hl1.trans (ho.below hl1.size (fun b e => by have := h.low.size; omega)), hp.keep ho (.inr rfl) hno, hk, hb, fun q => h.ng (hs _ (by omega) q), hno, by omega, fun b q => ?_, h.glo⟩
  by_cases hlt : b < (V0.alloc (.cells #[.int .i64 0, .int .i64 0, .int .i64 0, .slice none 0 0, .slice none 0 0, .slice none 0 0] 36)).heap.size
  · exact h.lo b (hs b hlt q)
  · have := h.low.size; omega
/-- Before the call, the place laid. -/
theorem PyI.laid {w V0 : World} {g gx : Nat} {M : Mt} {cs : Array Value} {S : Nat → Prop} (h : PyI w g gx V0 M cs S) : Pl (V0.alloc (.cells #[.int .i64 0, .int .i64 0, .int .i64 0, .slice none 0 0, .slice none 0 0, .slice none 0 0] 36)) g M (.agg cs) S (fun z => z = gx ∨ z = V0.heap.size) := by
  have hsz : (V0.alloc (.cells #[.int .i64 0, .int .i64 0, .int .i64 0, .slice none 0 0, .slice none 0 0, .slice none 0 0] 36)).heap.size = V0.heap.size + 1 := by simp
  have hgx : gx < V0.heap.size := h.gb.lt
  exact h.pl.grow ((Below.refl _ _).alloc (Nat.le_refl _) _) (fun b e => by rcases e with e | e <;> omega) (fun b hb0 e => e.elim id (fun e => by omega))
/-- The numbers of an act, in the world of the call. -/
theorem ActR.ints {w W : World} {A : Option Addr} {l : List (Ac × List Int)} {X : Nat → Prop} {L : Option Addr} {k : Nat} {V : List Int} (h : Rd w No 1 L k (intsOf V)) (hb : Below w.heap.size w W) (hX : ∀ b, X b → w.heap.size ≤ b) : Rd W X 1 L k (intsOf V) :=
  (h.wide (X' := fun z => w.heap.size ≤ z) (fun b hb0 e => absurd hb0 (Nat.not_lt.2 e))).below hb |>.wide (fun b _ e => hX b e)
set_option maxRecDepth 100000 in
set_option maxHeartbeats 16000000 in
theorem play_any {w : World} {A : Option Addr} {l : List (Ac × List Int)} {k : Nat} (hA : ActR w No A l) (a b c : Int) : Calls Tryz.prog 3 #[frm a b c, .slice A l.length k] w fun r w' => r = .returned (.bool true) ∧ Below w.heap.size w w' := by
  have hal := (Below.refl w.heap.size w).alloc (Nat.le_refl _) (.cells #[.int .i64 a, .int .i64 b, .int .i64 c] 23)
  have HB := Lib.hid hal
  have HX : Hid (Blk (w.alloc (.cells #[.int .i64 a, .int .i64 b, .int .i64 c] 23)) w.heap.size 23 #[.int .i64 a, .int .i64 b, .int .i64 c]) := Lib.hid (Blk.new w 23 _)
  have HA := Lib.hid hA
  have hlarge0 := large12_any (c := k) (hA.below hal)
  have HS : Hid (w.heap.size + 1 ≤ (w.alloc (.cells #[.int .i64 a, .int .i64 b, .int .i64 c] 23)).heap.size) := Lib.hid (by simp)
  obtain ⟨n, hln⟩ : ∃ n, l.length = n := ⟨_, rfl⟩
  have HLN := Lib.hid hln
  rw [hln] at hlarge0 ⊢
  clear hA hal hln
  unfold frm
  go_enter Tryz.func3, Tryz.ntmps3
  go_upto_region 1 with fail
  generalize hw2 : w.alloc (.cells #[.int .i64 a, .int .i64 b, .int .i64 c] 23) = w2 at *
  clear hw2
  have u23 : Tryz.prog.underlying 23 = some (.struct (Tryz.prog.fieldsOf 23)) := by kernel_rfl
  by_cases hbig : 60 < n
  case pos =>
    have d1 : decide (60 < n) = true := decide_eq_true hbig
    have d2 : decide ((60 : Int) < (n : Int)) = true := decide_eq_true (by omega)
    clear hbig hlarge0
    go_wp2_with fail
    refine (known_any _).mono ?_
    rintro r w4 ⟨rfl, hb4⟩
    have HF := Lib.hid (HB.out.trans (hb4.mono HB.out.size))
    clear hb4
    go_wp2_with fail
    go_ret
    exact ⟨rfl, HF.out⟩
  case neg =>
  have d1 : decide (60 < n) = false := decide_eq_false hbig
  have d2 : decide ((60 : Int) < (n : Int)) = false := decide_eq_false (by omega)
  have hn : n ≤ 60 := by omega
  have hlarge := hlarge0 (by omega)
  clear hbig hlarge0
  cases hbl : largeA l with
  | true =>
    rw [hbl] at hlarge
    clear hbl
    go_wp2_with fail
    refine hlarge.mono ?_
    rintro r w3 ⟨rfl, rfl⟩
    clear hlarge
    go_wp2_with fail
    refine (known_any _).mono ?_
    rintro r w4 ⟨rfl, hb4⟩
    have HF := Lib.hid (HB.out.trans (hb4.mono HB.out.size))
    clear hb4
    go_wp2_with fail
    go_ret
    exact ⟨rfl, HF.out⟩
  | false =>
  rw [hbl] at hlarge
  have HSM : Hid (∀ (i : Nat) (x : Ac × List Int), l[i]? = some x → x.2.length ≤ 1000000) := Lib.hid (fun i x hx => by
    unfold largeA at hbl
    rw [List.any_eq_false] at hbl
    have := hbl x (List.mem_iff_getElem?.2 ⟨i, hx⟩)
    simp at this
    omega)
  clear hbl
  go_wp2_with fail
  refine hlarge.mono ?_
  rintro r w3 ⟨rfl, rfl⟩
  clear hlarge
  go_wp2_with (with_reducible refine at_load 23 rfl ?_)
  refine Stop.go (wpList_load_blk (by rfl) 23 _ (by rfl) w.heap.size (by rfl) 23 _ HX.out _ u23 (by rfl) (by kernel_rfl) ?_)
  have hnew := new_any w3 a b c
  unfold frm at hnew
  go_wp2_with fail
  refine hnew.mono ?_
  rintro r w4 (⟨hno, rfl, hb4⟩ | ⟨nb, np, ni, e1, e2, e3, hfo, rfl, hmm, hb4⟩)
  · have hr := right15_any w4 a b c
    rw [decide_eq_false hno] at hr
    unfold frm at hr
    have HB4 := Lib.hid (HB.out.trans (hb4.mono HB.out.size))
    have HX4 := Lib.hid (HX.out.below hb4 HX.out.lt)
    clear hnew hno hb4 HX
    go_wp2_with (with_reducible refine at_load 23 rfl ?_)
    refine Stop.go (wpList_load_blk (by rfl) 23 _ (by rfl) w.heap.size (by rfl) 23 _ HX4.out _ u23 (by rfl) (by kernel_rfl) ?_)
    go_wp2_with fail
    refine hr.mono ?_
    rintro r w5 ⟨rfl, hb5⟩
    have HB5 := Lib.hid (HB4.out.trans (hb5.mono HB4.out.size))
    clear hr hb5
    go_wp2_with fail
    refine (known_any _).mono ?_
    rintro r w6 ⟨rfl, hb6⟩
    have HF := Lib.hid (HB5.out.trans (hb6.mono HB5.out.size))
    clear hb6
    go_wp2_with fail
    go_ret
    exact ⟨rfl, HF.out⟩
  subst e1 e2 e3
  have hr := right15_any w4 nb np ni
  rw [decide_eq_true hfo] at hr
  unfold frm at hr
  have HM4 := Lib.hid hmm
  have hok0 := Mt.fresh_ok hfo
  have HB4 := Lib.hid (HB.out.trans (hb4.mono HB.out.size))
  have HX4 := Lib.hid (HX.out.below hb4 HX.out.lt)
  have HFO := Lib.hid hfo
  have HOK0 := Lib.hid hok0
  have HS3 := Lib.hid (Nat.le_trans HS.out hb4.size)
  have HS2 := Lib.hid HS.out
  clear hnew hfo hmm hok0 hb4 HX HS
  generalize hgg : w3.heap.size + 1 = g at *
  go_wp2_with (with_reducible refine at_load 23 rfl ?_)
  refine Stop.go (wpList_load_blk (by rfl) 23 _ (by rfl) w.heap.size (by rfl) 23 _ HX4.out _ u23 (by rfl) (by kernel_rfl) ?_)
  go_wp2_with fail
  refine hr.mono ?_
  rintro r w5 ⟨rfl, hb5⟩
  have HB5 := Lib.hid (HB4.out.trans (hb5.mono HB4.out.size))
  have HX5 := Lib.hid (HX4.out.below hb5 HX4.out.lt)
  have hmt := (HM4.out.below hb5).tight
  have h16 := new16_any (w := w5) (X := fun z => w3.heap.size ≤ z ∧ z < w5.heap.size) (fun b q => q.2) nb np ni (by have := HFO.out; unfold FormOk at this; omega) (by have := HFO.out; unfold FormOk at this; omega) (by have := HFO.out; unfold FormOk at this; omega)
  unfold frm at h16
  have HMT := Lib.hid hmt
  clear hr hb5 hmt HM4 HX4
  obtain ⟨M, hM⟩ : ∃ M, Mt.fresh nb np ni nb np ni = M := ⟨_, rfl⟩
  rw [hM] at h16 HMT HOK0
  clear hM
  go_wp2_with (with_reducible refine at_load 23 rfl ?_)
  refine Stop.go (wpList_load_blk (by rfl) 23 _ (by rfl) w.heap.size (by rfl) 23 _ HX5.out _ u23 (by rfl) (by kernel_rfl) ?_)
  go_wp2_with fail
  refine h16.mono ?_
  rintro r w6 ⟨v, rfl, hrf, hb6⟩
  have hrf6 := hrf
  obtain ⟨A1, A2, A3, c1, c2, c3, rs, rfl, hR⟩ := hrf
  have HRF := Lib.hid hrf6
  have HMM := Lib.hid (HMT.out.below hb6)
  have HB6 := Lib.hid (HB5.out.trans (hb6.mono HB5.out.size))
  have HSZ := Lib.hid hb6.size
  clear h16 hrf6 hR hb6 HMT
  go_wp2_with (with_reducible refine at_store 36 rfl ?_)
  refine Stop.go (wpList_store_blk (by rfl) (by rfl) 36 _ _ (by rfl) w6.heap.size _ #[.int .i64 (M.nb : Int), .int .i64 (M.np : Int), .int .i64 (M.ni : Int), .slice A1 M.nb c1, .slice A2 M.np c2, .slice A3 M.ni c3] (by rfl) (by rfl) 36 (Blk.new w6 36 #[.int .i64 0, .int .i64 0, .int .i64 0, .slice none 0 0, .slice none 0 0, .slice none 0 0]) (by rfl) (by kernel_rfl) (by simp [Value.oneCell']) ?_)
  intro w7 hB7 hg7 hs7
  have hb7 : Below w6.heap.size w6 w7 := below_grown ((Below.refl w6.heap.size w6).alloc (Nat.le_refl _) (.cells #[.int .i64 0, .int .i64 0, .int .i64 0, .slice none 0 0, .slice none 0 0, .slice none 0 0] 36)) hg7 (Nat.le_refl _) (Nat.le_refl _)
  have HP : Hid (PyI w g w6.heap.size w7 M #[.int .i64 (M.nb : Int), .int .i64 (M.np : Int), .int .i64 (M.ni : Int), .slice A1 M.nb c1, .slice A2 M.np c2, .slice A3 M.ni c3] (fun z => w3.heap.size ≤ z ∧ z < w5.heap.size)) := Lib.hid ⟨HB6.out.trans (hb7.mono HB6.out.size), ⟨HMM.out.below hb7, (HRF.out.wide (fun z hz e => e.elim id (fun e => by omega))).below hb7, fun z q => Nat.lt_of_lt_of_le q.2 (Nat.le_trans HSZ.out hb7.size), fun z e => e ▸ hB7.lt⟩, HOK0.out, hB7, fun q => by have := HSZ.out; have := q.2; omega, fun z q => by have := HS2.out; have := q.1; omega, HB6.out.size⟩
  clear hB7 hg7 hs7 hb7 HMM HRF HB6 HSZ HB5 HX5 HS3 HB4 HOK0 HFO hgg
  generalize w6.heap.size = gx at *
  generalize (fun z => w3.heap.size ≤ z ∧ z < w5.heap.size) = S at *
  clear HS2 HB
  have hcl := same17_any HP.out.pl.mm (HP.out.pl.rf.wide (fun z _ e => .inl e)) HP.out.ok
  have z0 : w7.cell? ⟨gx, 0, none⟩ = some (.int .i64 (M.nb : Int)) := HP.out.gb.cell 0
  have z1 : w7.cell? ⟨gx, 1, none⟩ = some (.int .i64 (M.np : Int)) := HP.out.gb.cell 1
  have z2 : w7.cell? ⟨gx, 2, none⟩ = some (.int .i64 (M.ni : Int)) := HP.out.gb.cell 2
  have z3 : w7.cell? ⟨gx, 3, none⟩ = some (.slice A1 M.nb c1) := HP.out.gb.cell 3
  have z4 : w7.cell? ⟨gx, 4, none⟩ = some (.slice A2 M.np c2) := HP.out.gb.cell 4
  have z5 : w7.cell? ⟨gx, 5, none⟩ = some (.slice A3 M.ni c3) := HP.out.gb.cell 5
  go_wp2_with fail
  refine hcl.mono ?_
  rintro r w8 ⟨rfl, hb8⟩
  have HP8 := Lib.hid (HP.out.below hb8)
  clear hcl hb8 HP z0 z1 z2 z3 z4 z5
  go_wp2_with fail
  go_loopw [8] (fun i wv => ∃ q : Nat, q ≤ n ∧ i = .int .i64 q ∧ ∃ M A1 A2 A3 c1 c2 c3 S, Hid (PyI w g gx wv M #[.int .i64 (M.nb : Int), .int .i64 (M.np : Int), .int .i64 (M.ni : Int), .slice A1 M.nb c1, .slice A2 M.np c2, .slice A3 M.ni c3] S)) (fun i _ => n - (iOf i).toNat)
  case atStart => exact ⟨0, by omega, rfl, _, _, _, _, _, _, _, _, HP8⟩
  case round =>
    clear HP8
    obtain ⟨q, hq, rfl, M, A1, A2, A3, c1, c2, c3, S, HP⟩ := hrel
    by_cases hlt : q < n
    case neg =>
      have hd1 : decide (q < n) = false := decide_eq_false hlt
      have HLOW := Lib.hid HP.out.low
      clear hlt HP
      go_wp2_with fail
      refine (known_any _).mono ?_
      rintro r w9 ⟨rfl, hb9⟩
      have HF := Lib.hid (HLOW.out.trans (hb9.mono HLOW.out.size))
      clear hb9
      go_wp2_with fail
      go_ret
      exact ⟨rfl, HF.out⟩
    case pos =>
    have hd1 : decide (q < n) = true := decide_eq_true hlt
    obtain ⟨y, hx⟩ : ∃ y, l[q]? = some y := ⟨_, List.getElem?_eq_getElem (by have := HLN.out; omega)⟩
    obtain ⟨x, xs⟩ := y
    obtain ⟨ad, L, lk, eA, hrd, k0, k1, k2, k3, k4, k5, k6, k7⟩ := HA.out.at_ hx
    dsimp only at hrd k0 k1 k2 k3 k4 k5 k6 k7
    subst eA
    have HRD := Lib.hid hrd
    have HXS : Hid (xs.length ≤ 1000000) := Lib.hid (HSM.out q _ hx)
    have HE := Lib.hid (And.intro k0 (And.intro k1 (And.intro k2 (And.intro k3 (And.intro k4 (And.intro k5 (And.intro k6 k7)))))))
    have HPD := Lib.hid HP.out.drew
    obtain ⟨M1, hM1⟩ : ∃ M1, M.step x xs = M1 := ⟨_, rfl⟩
    have HM1 := Lib.hid hM1
    have HOK1 : Hid M1.ok := Lib.hid (by rw [← hM1]; exact HP.out.ok.does _ _)
    have HLT := Lib.hid hlt
    clear hrd hx k0 k1 k2 k3 k4 k5 k6 k7 hM1 hlt
    go_upto_region 12 with fail
    refine wp_region_np ?_
    refine wp_region_held_drew (S := fun W => Below w.heap.size w W ∧ Blk W gx 36 #[.int .i64 (M.nb : Int), .int .i64 (M.np : Int), .int .i64 (M.ni : Int), .slice A1 M.nb c1, .slice A2 M.np c2, .slice A3 M.ni c3]) (by kernel_rfl) (show (fun W => Below w.heap.size w W ∧ Blk W gx 36 #[.int .i64 (M.nb : Int), .int .i64 (M.np : Int), .int .i64 (M.ni : Int), .slice A1 M.nb c1, .slice A2 M.np c2, .slice A3 M.ni c3]) wr.drew from ⟨HPD.out.low, HPD.out.gb⟩) (fun hHeld => ?_)
    generalize hv0 : wr.drew = V0 at *
    clear hv0 HP
    refine wpAnyH_takeAt (i := 0) (d := 53) (v := ?vq0x) rfl rfl (by kernel_rfl) (by kernel_rfl) (by kernel_rfl) (fun _ _ _ h => h) (Or.inl ⟨by rfl, ?hyq0x⟩) hHeld ?_
    case hyq0x =>
      intro W hSw
      clear hSw
      (go_simp; try with_reducible rfl)
    simp only [List.setIfInBounds_toArray, List.set_cons_zero, List.set_cons_succ]
    refine wpAnyH_takeAt (i := 1) (d := 54) (v := ?vq1x) rfl rfl (by kernel_rfl) (by kernel_rfl) (by kernel_rfl) (fun _ _ _ h => h) (Or.inl ⟨by rfl, ?hyq1x⟩) hHeld ?_
    case hyq1x =>
      intro W hSw
      obtain ⟨kb, kl⟩ := hSw; have q0 : W.cell? ⟨gx, 0, none⟩ = some (.int .i64 (M.nb : Int)) := kl.cell 0; have q1 : W.cell? ⟨gx, 1, none⟩ = some (.int .i64 (M.np : Int)) := kl.cell 1; have q2 : W.cell? ⟨gx, 2, none⟩ = some (.int .i64 (M.ni : Int)) := kl.cell 2; have q3 : W.cell? ⟨gx, 3, none⟩ = some (.slice A1 M.nb c1) := kl.cell 3; have q4 : W.cell? ⟨gx, 4, none⟩ = some (.slice A2 M.np c2) := kl.cell 4; have q5 : W.cell? ⟨gx, 5, none⟩ = some (.slice A3 M.ni c3) := kl.cell 5; have e0 : W.cell? (ad.add (q * 8)) = some (.int .i64 x.kind) := cell_below HE.out.1 kb; have e1 : W.cell? ⟨(ad.add (q * 8)).block, (ad.add (q * 8)).off + 1, none⟩ = some (.int .i64 x.a) := cell_below HE.out.2.1 kb; have e2 : W.cell? ⟨(ad.add (q * 8)).block, (ad.add (q * 8)).off + 2, none⟩ = some (.int .i64 x.b) := cell_below HE.out.2.2.1 kb; have e3 : W.cell? ⟨(ad.add (q * 8)).block, (ad.add (q * 8)).off + 3, none⟩ = some (.int .i64 x.n) := cell_below HE.out.2.2.2.1 kb; have e4 : W.cell? ⟨(ad.add (q * 8)).block, (ad.add (q * 8)).off + 4, none⟩ = some (.int .i64 x.o) := cell_below HE.out.2.2.2.2.1 kb; have e5 : W.cell? ⟨(ad.add (q * 8)).block, (ad.add (q * 8)).off + 5, none⟩ = some (.bool x.flag) := cell_below HE.out.2.2.2.2.2.1 kb; have e6 : W.cell? ⟨(ad.add (q * 8)).block, (ad.add (q * 8)).off + 6, none⟩ = some (.bool x.near) := cell_below HE.out.2.2.2.2.2.2.1 kb; have e7 : W.cell? ⟨(ad.add (q * 8)).block, (ad.add (q * 8)).off + 7, none⟩ = some (.slice L xs.length lk) := cell_below HE.out.2.2.2.2.2.2.2 kb; clear kl kb
      (go_simp; try with_reducible rfl)
    simp only [List.setIfInBounds_toArray, List.set_cons_zero, List.set_cons_succ]
    refine wpAnyH_takeAt (i := 2) (d := 55) (v := ?vq2x) rfl rfl (by kernel_rfl) (by kernel_rfl) (by kernel_rfl) (fun _ _ _ h => h) (Or.inl ⟨by rfl, ?hyq2x⟩) hHeld ?_
    case hyq2x =>
      intro W hSw
      clear hSw
      (go_simp; try with_reducible rfl)
    simp only [List.setIfInBounds_toArray, List.set_cons_zero, List.set_cons_succ]
    refine wpAnyH_takeAt (i := 3) (d := 56) (v := ?vq3x) rfl rfl (by kernel_rfl) (by kernel_rfl) (by kernel_rfl) (fun _ _ _ h => h) (Or.inl ⟨by rfl, ?hyq3x⟩) hHeld ?_
    case hyq3x =>
      intro W hSw
      clear hSw
      (go_simp; try with_reducible rfl)
    simp only [List.setIfInBounds_toArray, List.set_cons_zero, List.set_cons_succ]
    refine wpAnyH_takeAt (i := 4) (d := 57) (v := ?vq4x) rfl rfl (by kernel_rfl) (by kernel_rfl) (by kernel_rfl) (fun _ _ _ h => h) (Or.inl ⟨by rfl, ?hyq4x⟩) hHeld ?_
    case hyq4x =>
      intro W hSw
      clear hSw; have h9 := HLT.out
      (go_simp; try with_reducible rfl)
    simp only [List.setIfInBounds_toArray, List.set_cons_zero, List.set_cons_succ]
    refine wpAnyH_takeAt (i := 5) (d := 58) (v := ?vq5x) rfl rfl (by kernel_rfl) (by kernel_rfl) (by kernel_rfl) (fun _ _ _ h => h) (Or.inl ⟨by rfl, ?hyq5x⟩) hHeld ?_
    case hyq5x =>
      intro W hSw
      obtain ⟨kb, kl⟩ := hSw; have q0 : W.cell? ⟨gx, 0, none⟩ = some (.int .i64 (M.nb : Int)) := kl.cell 0; have q1 : W.cell? ⟨gx, 1, none⟩ = some (.int .i64 (M.np : Int)) := kl.cell 1; have q2 : W.cell? ⟨gx, 2, none⟩ = some (.int .i64 (M.ni : Int)) := kl.cell 2; have q3 : W.cell? ⟨gx, 3, none⟩ = some (.slice A1 M.nb c1) := kl.cell 3; have q4 : W.cell? ⟨gx, 4, none⟩ = some (.slice A2 M.np c2) := kl.cell 4; have q5 : W.cell? ⟨gx, 5, none⟩ = some (.slice A3 M.ni c3) := kl.cell 5; have e0 : W.cell? (ad.add (q * 8)) = some (.int .i64 x.kind) := cell_below HE.out.1 kb; have e1 : W.cell? ⟨(ad.add (q * 8)).block, (ad.add (q * 8)).off + 1, none⟩ = some (.int .i64 x.a) := cell_below HE.out.2.1 kb; have e2 : W.cell? ⟨(ad.add (q * 8)).block, (ad.add (q * 8)).off + 2, none⟩ = some (.int .i64 x.b) := cell_below HE.out.2.2.1 kb; have e3 : W.cell? ⟨(ad.add (q * 8)).block, (ad.add (q * 8)).off + 3, none⟩ = some (.int .i64 x.n) := cell_below HE.out.2.2.2.1 kb; have e4 : W.cell? ⟨(ad.add (q * 8)).block, (ad.add (q * 8)).off + 4, none⟩ = some (.int .i64 x.o) := cell_below HE.out.2.2.2.2.1 kb; have e5 : W.cell? ⟨(ad.add (q * 8)).block, (ad.add (q * 8)).off + 5, none⟩ = some (.bool x.flag) := cell_below HE.out.2.2.2.2.2.1 kb; have e6 : W.cell? ⟨(ad.add (q * 8)).block, (ad.add (q * 8)).off + 6, none⟩ = some (.bool x.near) := cell_below HE.out.2.2.2.2.2.2.1 kb; have e7 : W.cell? ⟨(ad.add (q * 8)).block, (ad.add (q * 8)).off + 7, none⟩ = some (.slice L xs.length lk) := cell_below HE.out.2.2.2.2.2.2.2 kb; clear kl kb
      (go_simp; try with_reducible rfl)
    simp only [List.setIfInBounds_toArray, List.set_cons_zero, List.set_cons_succ]
    refine wpAnyH_ready (rs := [6, 10]) (by kernel_rfl) (by simp) (AllReadyH.cons rfl (fun K hK => ?_) (AllReadyH.cons rfl (fun K hK => ?_) AllReadyH.nil))
    · go_simp
      have hpl := HPD.out.pl
      have hdo := does_any (lk := lk) hpl HPD.out.ok x (ActR.ints (A := some ad) (l := l) HRD.out (HPD.out.low) (fun z e => (e.elim (HPD.out.lo z) (fun e => e ▸ HPD.out.glo)))) HXS.out
      rw [HM1.out] at hdo
      unfold aArr at hdo
      refine hdo.mono ?_
      rintro r V1 ⟨v', S1, rfl, hpl1, hs1, ht1⟩
      obtain ⟨B1, B2, B3, d1, d2, d3, rs1, rfl, hR1⟩ := hpl1.rf
      dsimp only
      have hHeld2 : (fun W => Below w.heap.size w W ∧ Blk W gx 36 #[.int .i64 (M.nb : Int), .int .i64 (M.np : Int), .int .i64 (M.ni : Int), .slice A1 M.nb c1, .slice A2 M.np c2, .slice A3 M.ni c3]) V1 := ⟨hHeld.1.trans (ht1.below hHeld.1.size (fun z e => HPD.out.lo z e)), hHeld.2.keep ht1 HPD.out.ng⟩
      have HP1 := Lib.hid hpl1
      have HS1 := Lib.hid hs1
      have HT1 := Lib.hid ht1
      refine hK.out _ _ hHeld2 (fun hHeld => ?_)
      clear hK K hdo hHeld2 hpl hpl1 hs1 ht1 hR1
      try simp only [List.setIfInBounds_toArray, List.set_cons_zero, List.set_cons_succ]
      refine wpAnyH_takeAt (i := 7) (d := 52) (v := ?vq6x) rfl rfl (by kernel_rfl) (by kernel_rfl) (by kernel_rfl) (fun _ _ _ h => h) (Or.inl ⟨by rfl, ?hyq6x⟩) hHeld ?_
      case hyq6x =>
        intro W hSw
        clear hSw
        (go_simp; try with_reducible rfl)
      simp only [List.setIfInBounds_toArray, List.set_cons_zero, List.set_cons_succ]
      refine wpAnyH_takeAt (i := 8) (d := 60) (v := ?vq7x) rfl rfl (by kernel_rfl) (by kernel_rfl) (by kernel_rfl) (fun _ _ _ h => h) (Or.inl ⟨by rfl, ?hyq7x⟩) hHeld ?_
      case hyq7x =>
        intro W hSw
        clear hSw
        (go_simp; try with_reducible rfl)
      simp only [List.setIfInBounds_toArray, List.set_cons_zero, List.set_cons_succ]
      refine wpAnyH_takeAt (i := 9) (d := 61) (v := ?vq8x) rfl rfl (by kernel_rfl) (by kernel_rfl) (by kernel_rfl) (fun _ _ _ h => h) (Or.inl ⟨by rfl, ?hyq8x⟩) hHeld ?_
      case hyq8x =>
        intro W hSw
        clear hSw
        (go_simp; try with_reducible rfl)
      simp only [List.setIfInBounds_toArray, List.set_cons_zero, List.set_cons_succ]
      refine wpAnyH_ready (rs := [10]) (by kernel_rfl) (by simp) (AllReadyH.cons rfl (fun K hK => ?_) AllReadyH.nil)
      go_simp
      have hHeld2 : (fun W => Below w.heap.size w W ∧ Blk W gx 36 #[.int .i64 (M.nb : Int), .int .i64 (M.np : Int), .int .i64 (M.ni : Int), .slice A1 M.nb c1, .slice A2 M.np c2, .slice A3 M.ni c3]) (V1.alloc (.cells #[.int .i64 0, .int .i64 0, .int .i64 0, .slice none 0 0, .slice none 0 0, .slice none 0 0] 36)) := ⟨hHeld.1.alloc hHeld.1.size _, hHeld.2.alloc _⟩
      refine hK.out _ _ hHeld2 (fun hHeld => ?_)
      clear hK K hHeld2
      try simp only [List.setIfInBounds_toArray, List.set_cons_zero, List.set_cons_succ]
      refine wpAnyH_ready (rs := [11]) (by kernel_rfl) (by simp) (AllReadyH.cons rfl (fun K hK => ?_) AllReadyH.nil)
      refine step_store_blk (by rfl) rfl 36 _ _ rfl V1.heap.size _ #[.int .i64 (M1.nb : Int), .int .i64 (M1.np : Int), .int .i64 (M1.ni : Int), .slice B1 M1.nb d1, .slice B2 M1.np d2, .slice B3 M1.ni d3] rfl rfl 36 (Blk.new V1 36 #[.int .i64 0, .int .i64 0, .int .i64 0, .slice none 0 0, .slice none 0 0, .slice none 0 0]) rfl (by kernel_rfl) (by simp [Value.oneCell']) ?_
      intro V2 hB2 hg2 hs2
      have hT2 : Turn (fun z => z = V1.heap.size) (V1.alloc (.cells #[.int .i64 0, .int .i64 0, .int .i64 0, .slice none 0 0, .slice none 0 0, .slice none 0 0] 36)) V2 := Turn.of_grown hg2 (fun r e => by injection e with e; exact e.symm)
      have HJ : Hid (PyJ w g gx V1.heap.size V2 M1 #[.int .i64 (M1.nb : Int), .int .i64 (M1.np : Int), .int .i64 (M1.ni : Int), .slice B1 M1.nb d1, .slice B2 M1.np d2, .slice B3 M1.ni d3] S1) := Lib.hid (HPD.out.first HOK1.out HP1.out HS1.out HT1.out hT2 hB2)
      have hHeld2 : (fun W => Below w.heap.size w W ∧ Blk W gx 36 #[.int .i64 (M.nb : Int), .int .i64 (M.np : Int), .int .i64 (M.ni : Int), .slice A1 M.nb c1, .slice A2 M.np c2, .slice A3 M.ni c3]) V2 := ⟨HJ.out.low, hHeld.2.keep hT2 (fun e => HJ.out.ne e)⟩
      refine hK.out _ _ hHeld2 (fun hHeld => ?_)
      clear hK K hHeld2 hT2 hB2 hg2 hs2
      try simp only [List.setIfInBounds_toArray, List.set_cons_zero, List.set_cons_succ]
      refine wpAnyH_takeAt (i := 12) (d := 10) (v := ?vq9x) rfl rfl (by kernel_rfl) (by kernel_rfl) (by kernel_rfl) (fun _ _ _ h => h) (Or.inl ⟨by rfl, ?hyq9x⟩) hHeld ?_
      case hyq9x =>
        intro W hSw
        clear hSw
        (go_simp; try with_reducible rfl)
      simp only [List.setIfInBounds_toArray, List.set_cons_zero, List.set_cons_succ]
      refine wpAnyH_done (by kernel_rfl) ?_ _
      have HG2 := Lib.hid hHeld.2
      clear hHeld HPD HP1 HS1 HT1
      generalize V1.heap.size = ox at *
      have hcl := same17_any HJ.out.pl.mm (HJ.out.pl.rf.wide (fun z _ e => .inl e)) HJ.out.ok
      have z0 : V2.cell? ⟨ox, 0, none⟩ = some (.int .i64 (M1.nb : Int)) := HJ.out.ob.cell 0
      have z1 : V2.cell? ⟨ox, 1, none⟩ = some (.int .i64 (M1.np : Int)) := HJ.out.ob.cell 1
      have z2 : V2.cell? ⟨ox, 2, none⟩ = some (.int .i64 (M1.ni : Int)) := HJ.out.ob.cell 2
      have z3 : V2.cell? ⟨ox, 3, none⟩ = some (.slice B1 M1.nb d1) := HJ.out.ob.cell 3
      have z4 : V2.cell? ⟨ox, 4, none⟩ = some (.slice B2 M1.np d2) := HJ.out.ob.cell 4
      have z5 : V2.cell? ⟨ox, 5, none⟩ = some (.slice B3 M1.ni d3) := HJ.out.ob.cell 5
      go_wp2_with fail
      refine hcl.mono ?_
      rintro r V3 ⟨rfl, hb3⟩
      have HJ3 := Lib.hid (HJ.out.below hb3)
      have HG3 := Lib.hid (HG2.out.below hb3 HG2.out.lt)
      clear hcl hb3 HJ HG2 z0 z1 z2 z3 z4 z5
      go_wp2_with (with_reducible refine at_load 36 rfl ?_)
      refine Stop.go (wpList_load_blk (by rfl) 36 _ (by rfl) ox (by rfl) 36 _ HJ3.out.ob _ und36 (by rfl) (by kernel_rfl) ?_)
      go_wp2_with (with_reducible refine at_store 36 rfl ?_)
      refine Stop.go (wpList_store_blk (by rfl) (by rfl) 36 _ _ (by rfl) gx _ #[.int .i64 (M1.nb : Int), .int .i64 (M1.np : Int), .int .i64 (M1.ni : Int), .slice B1 M1.nb d1, .slice B2 M1.np d2, .slice B3 M1.ni d3] (by rfl) (by rfl) 36 HG3.out (by rfl) (by kernel_rfl) (by simp [Value.oneCell']) ?_)
      intro V4 hB4 hg4 hs4
      have hT4 : Turn (fun z => z = gx) V3 V4 := Turn.of_grown hg4 (fun r e => by injection e with e; exact e.symm)
      have HP4 := Lib.hid (HJ3.out.turn hT4 hB4)
      clear hB4 hg4 hs4 hT4 HJ3 HG3
      go_wp2_with fail
      go_round
      case rel => exact ⟨q + 1, by have := HLT.out; omega, by go_num, _, _, _, _, _, _, _, _, HP4⟩
      case measure => simp [iOf]; have := HLT.out; omega
    · go_simp
      have hHeld2 : (fun W => Below w.heap.size w W ∧ Blk W gx 36 #[.int .i64 (M.nb : Int), .int .i64 (M.np : Int), .int .i64 (M.ni : Int), .slice A1 M.nb c1, .slice A2 M.np c2, .slice A3 M.ni c3]) (V0.alloc (.cells #[.int .i64 0, .int .i64 0, .int .i64 0, .slice none 0 0, .slice none 0 0, .slice none 0 0] 36)) := ⟨hHeld.1.alloc hHeld.1.size _, hHeld.2.alloc _⟩
      refine hK.out _ _ hHeld2 (fun hHeld => ?_)
      clear hK K hHeld2
      try simp only [List.setIfInBounds_toArray, List.set_cons_zero, List.set_cons_succ]
      refine wpAnyH_ready (rs := [6]) (by kernel_rfl) (by simp) (AllReadyH.cons rfl (fun K hK => ?_) AllReadyH.nil)
      go_simp
      have hpl := HPD.out.laid
      have hdo := does_any (lk := lk) hpl HPD.out.ok x (ActR.ints (A := some ad) (l := l) HRD.out (HPD.out.low.trans (((Below.refl _ _).alloc (Nat.le_refl _) _).mono HPD.out.low.size)) (fun z e => (e.elim (HPD.out.lo z) (fun e => e.elim (fun e => e ▸ HPD.out.glo) (fun e => e ▸ HPD.out.low.size))))) HXS.out
      rw [HM1.out] at hdo
      unfold aArr at hdo
      refine hdo.mono ?_
      rintro r V1 ⟨v', S1, rfl, hpl1, hs1, ht1⟩
      obtain ⟨B1, B2, B3, d1, d2, d3, rs1, rfl, hR1⟩ := hpl1.rf
      dsimp only
      have hHeld2 : (fun W => Below w.heap.size w W ∧ Blk W gx 36 #[.int .i64 (M.nb : Int), .int .i64 (M.np : Int), .int .i64 (M.ni : Int), .slice A1 M.nb c1, .slice A2 M.np c2, .slice A3 M.ni c3]) V1 := ⟨hHeld.1.trans (ht1.below hHeld.1.size (fun z e => HPD.out.lo z e)), hHeld.2.keep ht1 HPD.out.ng⟩
      have HP1 := Lib.hid hpl1
      have HS1 := Lib.hid hs1
      have HT1 := Lib.hid ht1
      refine hK.out _ _ hHeld2 (fun hHeld => ?_)
      clear hK K hdo hHeld2 hpl hpl1 hs1 ht1 hR1
      try simp only [List.setIfInBounds_toArray, List.set_cons_zero, List.set_cons_succ]
      refine wpAnyH_takeAt (i := 7) (d := 52) (v := ?vq10x) rfl rfl (by kernel_rfl) (by kernel_rfl) (by kernel_rfl) (fun _ _ _ h => h) (Or.inl ⟨by rfl, ?hyq10x⟩) hHeld ?_
      case hyq10x =>
        intro W hSw
        clear hSw
        (go_simp; try with_reducible rfl)
      simp only [List.setIfInBounds_toArray, List.set_cons_zero, List.set_cons_succ]
      refine wpAnyH_takeAt (i := 8) (d := 60) (v := ?vq11x) rfl rfl (by kernel_rfl) (by kernel_rfl) (by kernel_rfl) (fun _ _ _ h => h) (Or.inl ⟨by rfl, ?hyq11x⟩) hHeld ?_
      case hyq11x =>
        intro W hSw
        clear hSw
        (go_simp; try with_reducible rfl)
      simp only [List.setIfInBounds_toArray, List.set_cons_zero, List.set_cons_succ]
      refine wpAnyH_takeAt (i := 9) (d := 61) (v := ?vq12x) rfl rfl (by kernel_rfl) (by kernel_rfl) (by kernel_rfl) (fun _ _ _ h => h) (Or.inl ⟨by rfl, ?hyq12x⟩) hHeld ?_
      case hyq12x =>
        intro W hSw
        clear hSw
        (go_simp; try with_reducible rfl)
      simp only [List.setIfInBounds_toArray, List.set_cons_zero, List.set_cons_succ]
      refine wpAnyH_ready (rs := [11]) (by kernel_rfl) (by simp) (AllReadyH.cons rfl (fun K hK => ?_) AllReadyH.nil)
      refine step_store_blk (by rfl) rfl 36 _ _ rfl V0.heap.size _ #[.int .i64 (M1.nb : Int), .int .i64 (M1.np : Int), .int .i64 (M1.ni : Int), .slice B1 M1.nb d1, .slice B2 M1.np d2, .slice B3 M1.ni d3] rfl rfl 36 ((Blk.new V0 36 #[.int .i64 0, .int .i64 0, .int .i64 0, .slice none 0 0, .slice none 0 0, .slice none 0 0]).keep HT1.out (fun e => by have := HPD.out.pl.lt _ e; omega)) rfl (by kernel_rfl) (by simp [Value.oneCell']) ?_
      intro V2 hB2 hg2 hs2
      have hT2 : Turn (fun z => z = V0.heap.size) V1 V2 := Turn.of_grown hg2 (fun r e => by injection e with e; exact e.symm)
      have HJ : Hid (PyJ w g gx V0.heap.size V2 M1 #[.int .i64 (M1.nb : Int), .int .i64 (M1.np : Int), .int .i64 (M1.ni : Int), .slice B1 M1.nb d1, .slice B2 M1.np d2, .slice B3 M1.ni d3] S1) := Lib.hid (HPD.out.second HOK1.out HP1.out HS1.out HT1.out hT2 hB2)
      have hHeld2 : (fun W => Below w.heap.size w W ∧ Blk W gx 36 #[.int .i64 (M.nb : Int), .int .i64 (M.np : Int), .int .i64 (M.ni : Int), .slice A1 M.nb c1, .slice A2 M.np c2, .slice A3 M.ni c3]) V2 := ⟨HJ.out.low, hHeld.2.keep hT2 (fun e => HJ.out.ne e)⟩
      refine hK.out _ _ hHeld2 (fun hHeld => ?_)
      clear hK K hHeld2 hT2 hB2 hg2 hs2
      try simp only [List.setIfInBounds_toArray, List.set_cons_zero, List.set_cons_succ]
      refine wpAnyH_takeAt (i := 12) (d := 10) (v := ?vq13x) rfl rfl (by kernel_rfl) (by kernel_rfl) (by kernel_rfl) (fun _ _ _ h => h) (Or.inl ⟨by rfl, ?hyq13x⟩) hHeld ?_
      case hyq13x =>
        intro W hSw
        clear hSw
        (go_simp; try with_reducible rfl)
      simp only [List.setIfInBounds_toArray, List.set_cons_zero, List.set_cons_succ]
      refine wpAnyH_done (by kernel_rfl) ?_ _
      have HG2 := Lib.hid hHeld.2
      clear hHeld HPD HP1 HS1 HT1
      generalize V0.heap.size = ox at *
      have hcl := same17_any HJ.out.pl.mm (HJ.out.pl.rf.wide (fun z _ e => .inl e)) HJ.out.ok
      have z0 : V2.cell? ⟨ox, 0, none⟩ = some (.int .i64 (M1.nb : Int)) := HJ.out.ob.cell 0
      have z1 : V2.cell? ⟨ox, 1, none⟩ = some (.int .i64 (M1.np : Int)) := HJ.out.ob.cell 1
      have z2 : V2.cell? ⟨ox, 2, none⟩ = some (.int .i64 (M1.ni : Int)) := HJ.out.ob.cell 2
      have z3 : V2.cell? ⟨ox, 3, none⟩ = some (.slice B1 M1.nb d1) := HJ.out.ob.cell 3
      have z4 : V2.cell? ⟨ox, 4, none⟩ = some (.slice B2 M1.np d2) := HJ.out.ob.cell 4
      have z5 : V2.cell? ⟨ox, 5, none⟩ = some (.slice B3 M1.ni d3) := HJ.out.ob.cell 5
      go_wp2_with fail
      refine hcl.mono ?_
      rintro r V3 ⟨rfl, hb3⟩
      have HJ3 := Lib.hid (HJ.out.below hb3)
      have HG3 := Lib.hid (HG2.out.below hb3 HG2.out.lt)
      clear hcl hb3 HJ HG2 z0 z1 z2 z3 z4 z5
      go_wp2_with (with_reducible refine at_load 36 rfl ?_)
      refine Stop.go (wpList_load_blk (by rfl) 36 _ (by rfl) ox (by rfl) 36 _ HJ3.out.ob _ und36 (by rfl) (by kernel_rfl) ?_)
      go_wp2_with (with_reducible refine at_store 36 rfl ?_)
      refine Stop.go (wpList_store_blk (by rfl) (by rfl) 36 _ _ (by rfl) gx _ #[.int .i64 (M1.nb : Int), .int .i64 (M1.np : Int), .int .i64 (M1.ni : Int), .slice B1 M1.nb d1, .slice B2 M1.np d2, .slice B3 M1.ni d3] (by rfl) (by rfl) 36 HG3.out (by rfl) (by kernel_rfl) (by simp [Value.oneCell']) ?_)
      intro V4 hB4 hg4 hs4
      have hT4 : Turn (fun z => z = gx) V3 V4 := Turn.of_grown hg4 (fun r e => by injection e with e; exact e.symm)
      have HP4 := Lib.hid (HJ3.out.turn hT4 hB4)
      clear hB4 hg4 hs4 hT4 HJ3 HG3
      go_wp2_with fail
      go_round
      case rel => exact ⟨q + 1, by have := HLT.out; omega, by go_num, _, _, _, _, _, _, _, _, HP4⟩
      case measure => simp [iOf]; have := HLT.out; omega
end Go.Proofs.YtpmdicbhliclcaaGreat
namespace Go.Proofs.YtpmdicbhliclcaaGreat
open Go.RowKit Go.Maps Go.ChangeShapes Go.WideShapes
set_option linter.unusedVariables false
set_option linter.unusedSimpArgs false
theorem i64_bounds {n : Int} (h : (Lit.int .i64 n).wf = true) : -9223372036854775808 ≤ n ∧ n ≤ 9223372036854775807 := by
  have hmin : IntKind.i64.min = -9223372036854775808 := rfl
  have hmax : IntKind.i64.max = 9223372036854775807 := rfl
  simp only [Lit.wf, Bool.and_eq_true, decide_eq_true_eq] at h
  omega
theorem cells2 : Tryz.prog.cellsOf 2 = 1 := by kernel_rfl
theorem cells3 : Tryz.prog.cellsOf 3 = 1 := by kernel_rfl
theorem cells4 : Tryz.prog.cellsOf 4 = 1 := by kernel_rfl
theorem cells41 : Tryz.prog.cellsOf 41 = 1 := by kernel_rfl
theorem cells43 : Tryz.prog.cellsOf 43 = 8 := by kernel_rfl
theorem cells23 : Tryz.prog.cellsOf 23 = 3 := by kernel_rfl
/-- Numbers that came in. -/
theorem trod_nums {H : Type} {enc : TypeId × Value → H} {w : World} {base : Nat} {held : Bool} {fuel : Nat} {c : Value} {x : DataW H × List MemPlace} (h : DataW.trod enc Tryz.prog w base (fun _ => true) held fuel 41 [c] = some x) :
    ∃ V, IsR w No c V := by
  rcases open_ints Tryz.underlying41 Tryz.underlying3 cells3 h with ⟨hcs, _⟩ | ⟨x, l, k, zs, hcs, _, hl, hm, hz, _, hcell, hwz⟩
  · simp at hcs
    exact ⟨[], none, 0, hcs, Rd.none_⟩
  · simp at hcs
    have hz' : zs.length = k := by simpa using hz
    have hlen : (zs.take l).length = l := by simp; omega
    refine ⟨zs.take l, some x, k, by rw [hlen]; exact hcs, by simp [intsOf], ?_, fun h0 => ⟨x, rfl, ?_, fun h => h, fun j u hu => ?_⟩⟩
    · intro c hc
      unfold intsOf at hc
      obtain ⟨z, -, rfl⟩ := List.mem_map.1 hc
      exact ⟨rfl, by simp [Value.oneCell']⟩
    · have := block_lt_of_cell (hcell 0 (by omega))
      rwa [block_of_add] at this
    · have hsz : Sized 1 (intsOf (zs.take l)) := by
        intro c hc
        unfold intsOf at hc
        obtain ⟨z, -, rfl⟩ := List.mem_map.1 hc
        exact ⟨rfl, by simp [Value.oneCell']⟩
      obtain ⟨i, cs, q, rfl, hi, hq⟩ := flatA_get hsz hu
      unfold intsOf at hi
      rw [List.getElem?_map] at hi
      cases hzj : (zs.take l)[i]? with
      | none => rw [hzj] at hi; cases hi
      | some z =>
        rw [hzj] at hi
        injection hi with hi
        subst hi
        have hq1 : q < 1 := (Array.getElem?_eq_some_iff.1 hq).1
        obtain rfl : q = 0 := by omega
        have hj : i < zs.length := by
          have := (List.getElem?_eq_some_iff.1 hzj).1
          simp at this; omega
        rw [show i * 1 + 0 = i by omega, hcell i hj]
        have hzz : zs.getD i 0 = z := by
          rw [List.getElem?_take] at hzj
          split at hzj
          · rw [List.getD_eq_getElem?_getD, hzj]; rfl
          · cases hzj
        rw [hzz]
        simpa using hq
theorem list8 {α : Type} {l : List α} (h : l.length = 8) : ∃ c0 c1 c2 c3 c4 c5 c6 c7, l = [c0, c1, c2, c3, c4, c5, c6, c7] := by
  match l, h with
  | [c0, c1, c2, c3, c4, c5, c6, c7], _ => exact ⟨c0, c1, c2, c3, c4, c5, c6, c7, rfl⟩
theorem three_of {cs : Array Value} (h : cs.size = 3) : ∃ c0 c1 c2, cs = #[c0, c1, c2] := by
  obtain ⟨l⟩ := cs
  match l, h with
  | [c0, c1, c2], _ => exact ⟨c0, c1, c2, rfl⟩
theorem list3 {α : Type} {l : List α} (h : l.length = 3) : ∃ c0 c1 c2, l = [c0, c1, c2] := by
  match l, h with
  | [c0, c1, c2], _ => exact ⟨c0, c1, c2, rfl⟩
set_option maxRecDepth 100000 in
theorem trod_act {H : Type} {enc : TypeId × Value → H} {w : World} {base : Nat} {held : Bool} {fuel : Nat} {c0 c1 c2 c3 c4 c5 c6 c7 : Value} {x : DataW H × List MemPlace}
    (h : DataW.trod enc Tryz.prog w base (fun _ => true) held fuel 43 [c0, c1, c2, c3, c4, c5, c6, c7] = some x) : ∃ (t : Ac) (V : List Int), (#[c0, c1, c2, c3, c4, c5, c6, c7] : Array Value) = aArr t c7 ∧ IsR w No c7 V := by
  obtain ⟨xs, n, _, _, _, hl, hf⟩ := DataW.trod_struct Tryz.underlying43 h
  obtain ⟨y0, y1, y2, y3, y4, y5, y6, y7, rfl⟩ := list8 hl
  have g0 : DataW.trod enc Tryz.prog w base (fun _ => true) held n 3 [c0] = some y0 := by
    have := hf 0 _ rfl
    simpa [cells3] using this
  have g1 : DataW.trod enc Tryz.prog w base (fun _ => true) held n 3 [c1] = some y1 := by
    have := hf 1 _ rfl
    simpa [cells3] using this
  have g2 : DataW.trod enc Tryz.prog w base (fun _ => true) held n 3 [c2] = some y2 := by
    have := hf 2 _ rfl
    simpa [cells3] using this
  have g3 : DataW.trod enc Tryz.prog w base (fun _ => true) held n 2 [c3] = some y3 := by
    have := hf 3 _ rfl
    simpa [cells2] using this
  have g4 : DataW.trod enc Tryz.prog w base (fun _ => true) held n 2 [c4] = some y4 := by
    have := hf 4 _ rfl
    simpa [cells2] using this
  have g5 : DataW.trod enc Tryz.prog w base (fun _ => true) held n 4 [c5] = some y5 := by
    have := hf 5 _ rfl
    simpa [cells4] using this
  have g6 : DataW.trod enc Tryz.prog w base (fun _ => true) held n 4 [c6] = some y6 := by
    have := hf 6 _ rfl
    simpa [cells4] using this
  have g7 : DataW.trod enc Tryz.prog w base (fun _ => true) held n 41 [c7] = some y7 := by
    have := hf 7 _ rfl
    simpa [cells41] using this
  obtain ⟨z0, e0, _, _⟩ := DataW.trod_int Tryz.underlying3 g0
  obtain ⟨z1, e1, _, _⟩ := DataW.trod_int Tryz.underlying3 g1
  obtain ⟨z2, e2, _, _⟩ := DataW.trod_int Tryz.underlying3 g2
  obtain ⟨z3, e3, _, _⟩ := DataW.trod_int Tryz.underlying2 g3
  obtain ⟨z4, e4, _, _⟩ := DataW.trod_int Tryz.underlying2 g4
  obtain ⟨z5, e5, _⟩ := DataW.trod_bool Tryz.underlying4 g5
  obtain ⟨z6, e6, _⟩ := DataW.trod_bool Tryz.underlying4 g6
  obtain ⟨V, hV⟩ := trod_nums g7
  injection e0 with e0
  injection e1 with e1
  injection e2 with e2
  injection e3 with e3
  injection e4 with e4
  injection e5 with e5
  injection e6 with e6
  subst e0 e1 e2 e3 e4 e5 e6
  exact ⟨⟨z0, z1, z2, z3, z4, z5, z6⟩, V, rfl, hV⟩
theorem choose_list {α : Type} (p : Nat → α → Prop) : ∀ len : Nat, (∀ i, i < len → ∃ x : α, p i x) → ∃ xs : List α, xs.length = len ∧ ∀ (i : Nat) (x : α), xs[i]? = some x → p i x
  | 0, _ => ⟨[], rfl, fun i e h => by simp at h⟩
  | k + 1, each => by
    obtain ⟨es, h1, h2⟩ := choose_list p k (fun i hi => each i (by omega))
    obtain ⟨e, he⟩ := each k (by omega)
    refine ⟨es ++ [e], by simp [h1], fun i x hx => ?_⟩
    rcases Nat.lt_or_ge i k with hik | hik
    · rw [List.getElem?_append_left (by omega)] at hx
      exact h2 i x hx
    · rw [List.getElem?_append_right (by omega), h1] at hx
      rcases hd : i - k with _ | q
      · rw [hd] at hx
        simp at hx
        subst hx
        rw [show i = k from by omega]
        exact he
      · rw [hd] at hx; simp at hx
/-- An act lies there. -/
def ActAt (w : World) (ad : Addr) (i : Nat) (y : (Ac × List Int) × Value) : Prop := IsR w No y.2 y.1.2 ∧ ∀ j u, (aArr y.1.1 y.2)[j]? = some u → w.cell? (ad.add (i * 8 + j)) = some u
theorem acts_of {w : World} {ad : Addr} {ys : List ((Ac × List Int) × Value)} (h : ∀ (i : Nat) (y : (Ac × List Int) × Value), ys[i]? = some y → ActAt w ad i y) : ActR w No (some ad) (ys.map (·.1)) := by
  have e : (rowsOf (ys.map (·.1)).length fun i => match (ys.map (·.1))[i]? with | some x => aArr x.1 ((ys[i]?.map (·.2)).getD (.slice none 0 0)) | none => #[]) = ys.map fun y => aArr y.1.1 y.2 := by
    refine List.ext_getElem? fun i => ?_
    by_cases hi : i < ys.length
    · rw [rowsOf_at _ (by simpa using hi)]
      simp [List.getElem?_eq_getElem hi]
    · rw [List.getElem?_eq_none (by rw [rowsOf_len]; simpa using hi), List.getElem?_eq_none (by simpa using hi)]
  have hsz : Sized 8 (ys.map fun y => aArr y.1.1 y.2) := by
    intro c hc
    obtain ⟨y, hy, rfl⟩ := List.mem_map.1 hc
    obtain ⟨i, hi⟩ := List.getElem?_of_mem hy
    obtain ⟨A, k, e2, -⟩ := (h i y hi).1
    rw [e2]
    exact ⟨rfl, by simp [aArr, Value.oneCell']⟩
  refine ⟨⟨fun i => (ys[i]?.map (·.2)).getD (.slice none 0 0), ?_, fun i x hx => ?_⟩⟩
  · suffices hR : Rd w No 8 (some ad) (ys.map (·.1)).length (ys.map fun y => aArr y.1.1 y.2) by
      rw [← e] at hR
      exact hR
    refine ⟨by simp, hsz, fun h0 => ⟨ad, rfl, ?_, fun q => q, fun j u hu => ?_⟩⟩
    · have h0' : 0 < ys.length := by simpa using h0
      have := block_lt_of_cell ((h 0 ys[0] (List.getElem?_eq_getElem h0')).2 0 _ rfl)
      rwa [block_of_add] at this
    · obtain ⟨i, c, q, rfl, hi, hq⟩ := flatA_get hsz hu
      rw [List.getElem?_map] at hi
      cases hy : ys[i]? with
      | none => rw [hy] at hi; cases hi
      | some y =>
        rw [hy] at hi
        injection hi with hi
        subst hi
        exact (h i y hy).2 q u hq
  · rw [List.getElem?_map] at hx
    cases hy : ys[i]? with
    | none => rw [hy] at hx; cases hx
    | some y =>
      rw [hy] at hx
      injection hx with hx
      subst hx
      have h4 := (h i y hy).1
      simpa [hy] using h4
set_option maxRecDepth 100000 in
theorem open_acts {H : Type} {enc : TypeId × Value → H} {w : World} {base : Nat} {held : Bool} {a : Option Addr} {len cap : Nat} {d : DataW H} {p : List MemPlace}
    (h : DataW.Trod enc Tryz.prog w base (fun _ => true) held 24 (.slice a len cap) d p) : ∃ l : List (Ac × List Int), l.length = len ∧ ActR w No a l ∧ len ≤ cap ∧ cap ≤ maxLen := by
  obtain ⟨fuel, hf⟩ := h
  rcases Deep.open_slice Tryz.underlying24 hf with ⟨hcs, _⟩ | ⟨ad, l, c, m, n, D, Pl, hcs, _, hl, hm, hmm, _, hx⟩
  · simp [Value.cells] at hcs
    obtain ⟨rfl, rfl, rfl⟩ := hcs
    exact ⟨[], rfl, ⟨⟨fun _ => .slice none 0 0, Rd.none_, fun i x hx => by simp at hx⟩⟩, Nat.le_refl _, by unfold maxLen; omega⟩
  · simp [Value.cells] at hcs
    obtain ⟨rfl, rfl, rfl⟩ := hcs
    have hlm : len ≤ m := by rw [hmm]; split <;> omega
    have each : ∀ i, i < len → ∃ y, ActAt w ad i y := by
      intro i hi
      obtain ⟨cs', h1, h2⟩ := hx i (by omega)
      rw [cells43] at h1
      obtain ⟨_, hlen, hcell⟩ := World.cells?_some h1
      obtain ⟨c0, c1, c2, c3, c4, c5, c6, c7, rfl⟩ := list8 hlen
      obtain ⟨t, V, ht, hV⟩ := trod_act h2
      refine ⟨((t, V), c7), hV, fun j u hu => ?_⟩
      rw [← ht] at hu
      have hj : j < 8 := by
        have := (Array.getElem?_eq_some_iff.1 hu).1
        simpa using this
      have h3 := hcell j (by omega)
      rw [add_of_add] at h3
      rw [h3]
      simpa using hu
    obtain ⟨ys, h1, h2⟩ := choose_list _ len each
    exact ⟨ys.map (·.1), by simp [h1], acts_of h2, hl, hm⟩
set_option maxRecDepth 100000 in
theorem open_form {H : Type} {enc : TypeId × Value → H} {w : World} {b0 base : Nat} {spare : Nat → Bool} {held : Bool} {r : Reach} {v : Value} {d : DataW H} {p : List MemPlace}
    (hv : Value.okWide Tryz.prog w r b0 23 v) (h : DataW.Trod enc Tryz.prog w base spare held 23 v d p) : ∃ a b c : Int, v = frm a b c ∧ (-9223372036854775808 ≤ a ∧ a ≤ 9223372036854775807) ∧ (-9223372036854775808 ≤ b ∧ b ≤ 9223372036854775807) ∧ (-9223372036854775808 ≤ c ∧ c ≤ 9223372036854775807) := by
  obtain ⟨cs, rfl, hsz⟩ := okWide_struct Tryz.underlying23 hv
  obtain ⟨c0, c1, c2, rfl⟩ := three_of (hsz.trans cells23)
  obtain ⟨fuel, hf⟩ := h
  have hf' : DataW.trod enc Tryz.prog w base spare held fuel 23 [c0, c1, c2] = some (d, p) := by simpa [Value.cells] using hf
  obtain ⟨xs, n, _, _, _, hl, hf⟩ := DataW.trod_struct Tryz.underlying23 hf'
  obtain ⟨y0, y1, y2, rfl⟩ := list3 hl
  have g0 : DataW.trod enc Tryz.prog w base spare held n 3 [c0] = some y0 := by
    have := hf 0 _ rfl
    simpa [cells3] using this
  have g1 : DataW.trod enc Tryz.prog w base spare held n 3 [c1] = some y1 := by
    have := hf 1 _ rfl
    simpa [cells3] using this
  have g2 : DataW.trod enc Tryz.prog w base spare held n 3 [c2] = some y2 := by
    have := hf 2 _ rfl
    simpa [cells3] using this
  obtain ⟨z0, e0, _, wf0⟩ := DataW.trod_int Tryz.underlying3 g0
  obtain ⟨z1, e1, _, wf1⟩ := DataW.trod_int Tryz.underlying3 g1
  obtain ⟨z2, e2, _, wf2⟩ := DataW.trod_int Tryz.underlying3 g2
  injection e0 with e0
  injection e1 with e1
  injection e2 with e2
  subst e0 e1 e2
  exact ⟨z0, z1, z2, rfl, i64_bounds wf0, i64_bounds wf1, i64_bounds wf2⟩
set_option maxRecDepth 100000 in
theorem open_nums {H : Type} {enc : TypeId × Value → H} {w : World} {base : Nat} {held : Bool} {a : Option Addr} {len cap : Nat} {d : DataW H} {p : List MemPlace}
    (h : DataW.Trod enc Tryz.prog w base (fun _ => true) held 41 (.slice a len cap) d p) : ∃ V, V.length = len ∧ Rd w No 1 a len (intsOf V) := by
  obtain ⟨fuel, hf⟩ := h
  obtain ⟨V, A, c, e, hr⟩ := trod_nums (c := .slice a len cap) (by simpa [Value.cells] using hf)
  injection e with e1 e2 e3
  subst e1 e2 e3
  exact ⟨V, rfl, hr⟩
end Go.Proofs.YtpmdicbhliclcaaGreat
namespace Go.Proofs.YtpmdicbhliclcaaGreat
open Go.RowKit Go.Maps Go.ChangeShapes Go.WideShapes
set_option linter.unusedVariables false
set_option linter.unusedSimpArgs false
/-- An element type's facts, for an append: of at most 72 bytes. -/
structure ElA (t e k : Nat) (z : Value) (by_ : Nat) : Prop where
  und : Tryz.prog.underlying t = some (.slice e)
  info : (Tryz.prog.info? e).map (fun i => (i.zero, i.size, i.bytes)) = some (some z, k, by_)
  zc : z.cells.size = k
  pos : 0 < k
  by72 : by_ ≤ 72
def zA : Value := .agg #[.int .i64 0, .int .i64 0, .int .i64 0, .int .i64 0, .int .i64 0, .bool false, .bool false, .slice none 0 0]
theorem el24 : ElA 24 43 8 zA 72 := ⟨Tryz.underlying24, by kernel_rfl, rfl, by omega, by omega⟩
section
variable {t e k by_ : Nat} {z : Value} (E : ElA t e k z by_) (w : World)
include E
set_option maxRecDepth 100000 in
theorem run_append_a (v : Value) (css : List (Array Value)) (hown : OwnK w e k v css) (X : Nat → Prop) (A : Option Addr) (m c : Nat) (kss : List (Array Value)) (hr : Rd w X k A m kss) (ty : TypeId)
    (hl : css.length ≤ 1000000000) (hm : m ≤ 1000000000) :
    ∃ v' w', (Builtin.append_ #[t, t] ty #[v, .slice A m c]).run Tryz.prog w = .ok v' w' ∧ OwnK w' e k v' (css ++ kss) ∧ Grew v w v' w' := by
  obtain ⟨i, hi, hz0, hz1, hz2⟩ := info_parts E.info
  rcases A with _ | ad
  · have h0 : m = 0 := by
      rcases Nat.eq_zero_or_pos m with h0 | h0
      · exact h0
      · obtain ⟨ad, h, _⟩ := hr.2.2 h0
        cases h
    subst h0
    have hk : kss = [] := List.eq_nil_of_length_eq_zero hr.1
    subst hk
    refine ⟨v, w, ?_, by simpa using hown, Grew.refl⟩
    rcases hown.1.2 with ⟨rfl, _⟩ | ⟨g, cap, cur, rfl, _, _, hnc, _⟩
    · simp [Builtin.append_, run_underlying E.und, sizeOf, typeInfo, hi, Builtin.lenOf, Builtin.firstCells]
    · simp [Builtin.append_, run_underlying E.und, sizeOf, typeInfo, hi, Builtin.lenOf, Builtin.firstCells, hnc, storeCells]
  · have hcells : ∀ j u, (flatA kss)[j]? = some u → w.cell? (ad.add j) = some u := by
      intro j u hu
      rcases Nat.eq_zero_or_pos m with h0 | h0
      · subst h0
        have hn : kss = [] := List.eq_nil_of_length_eq_zero hr.1
        subst hn
        simp [flatA] at hu
      · obtain ⟨ad', h, _, _, hc⟩ := hr.2.2 h0
        injection h with h
        subst h
        exact hc j u hu
    have hby : (css.length + m) * by_ ≤ 140737488355328 := Nat.le_trans (Nat.mul_le_mul_left _ E.by72) (by omega)
    obtain ⟨v', w', hrun, h2, h3, _, h5⟩ := run_append_own_at (P := Tryz.prog) w 0 t ty e i z k by_ E.und hi hz0 hz1 hz2 E.zc E.pos v css.length (flatA css) hown.1 ad m c (flatA kss) (by rw [length_flatA hr.2.1, hr.1]) hcells
      (fun u hu => by
        obtain ⟨x, hx, he⟩ := List.mem_flatMap.1 hu
        exact (hr.2.1 x hx).2 u he) (by unfold maxLen; omega) hby (Nat.zero_le _)
    refine ⟨v', w', hrun, ⟨?_, hown.2.app hr.2.1⟩, h3, fun g e => ?_⟩
    · rw [List.length_append, flatA_append, hr.1]
      exact h2
    · rcases h5 with h | h
      · exact .inl (h.symm.trans e)
      · rw [h] at e; injection e with e; exact .inr (by omega)
variable {ops : Array Oper} {rest : List Oper} {o : Oper} {a : Act} {Q : Exit → Act → World → Prop}
set_option maxRecDepth 100000 in
theorem wpList_append_a (hw : Region.wanted o (yielded ops a.tmps) = true) (s x : Operand)
    (ho : o.op = .call { callee := .builtin .append, args := #[s, x], argTypes := #[t, t] })
    (v : Value) (css : List (Array Value)) (hs : a.eval s = v) (hown : OwnK w e k v css) (X : Nat → Prop) (A : Option Addr) (m c : Nat) (kss : List (Array Value)) (hx : a.eval x = .slice A m c) (hr : Rd w X k A m kss)
    (hl : css.length ≤ 1000000000) (hm : m ≤ 1000000000)
    (h : ∀ v' w', OwnK w' e k v' (css ++ kss) → Grew v w v' w' → wpList Tryz.prog ops Q rest (a.put o.dst v') w') : wpList Tryz.prog ops Q (o :: rest) a w := by
  refine BigFrame.wpList_want hw fun K hK => ?_
  obtain ⟨v', w', hrun, h2, h3⟩ := run_append_a E w v css hown X A m c kss hr o.type hl hm
  unfold Oper.wp execOp
  simp only [ho, resolve, invoke, builtin, Sem.run_bind, Sem.run_pure, Result.andThen_ok, List.map_toArray, List.map_cons, List.map_nil, hs, hx, hrun]
  exact hK _ _ (h v' w' h2 h3)
end
section
variable {ops : Array Oper} {o : Oper} {a : Act} {w : World} {K : Act → World → Prop} {Q : Exit → Act → World → Prop} {E : Prop} {d : Nat}
theorem step_append_a {t e k by_ : Nat} {z : Value} (El : ElA t e k z by_) (hw : Region.wanted o (yielded ops a.tmps) = true) (hd : o.dst = some d) (s x : Operand)
    (ho : o.op = .call { callee := .builtin .append, args := #[s, x], argTypes := #[t, t] })
    (v : Value) (css : List (Array Value)) (hs : a.eval s = v) (hown : OwnK w e k v css) (X : Nat → Prop) (A : Option Addr) (m c : Nat) (kss : List (Array Value)) (hx : a.eval x = .slice A m c) (hr : Rd w X k A m kss)
    (hl : css.length ≤ 1000000000) (hm : m ≤ 1000000000)
    (h : ∀ v' w', OwnK w' e k v' (css ++ kss) → Grew v w v' w' → K { a with tmps := a.tmps.setIfInBounds d v' } w') : if Region.wanted o (yielded ops a.tmps) = true then Oper.wp Tryz.prog o a w K Q else E := by
  rw [if_pos hw]
  obtain ⟨v', w', hrun, h2, h3⟩ := run_append_a El w v css hown X A m c kss hr o.type hl hm
  unfold Oper.wp execOp
  simp only [ho, resolve, invoke, builtin, Sem.run_bind, Sem.run_pure, Result.andThen_ok, List.map_toArray, List.map_cons, List.map_nil, hs, hx, hrun]
  show K (a.put o.dst v') w'
  rw [hd]
  exact h v' w' h2 h3
end
/-- Acts that bear no list, as rows. -/
def rowA (l : List Ac) : List (Array Value) := l.map fun x => aArr x (.slice none 0 0)
theorem rowA_len (l : List Ac) : (rowA l).length = l.length := by simp [rowA]
theorem rowA_app (l k : List Ac) : rowA (l ++ k) = rowA l ++ rowA k := by simp [rowA]
theorem rowA_sized (l : List Ac) : Sized 8 (rowA l) := by
  intro c hc
  obtain ⟨y, -, rfl⟩ := List.mem_map.1 hc
  exact ⟨rfl, by simp [aArr, Value.oneCell']⟩
theorem rd_lit {W : World} {X : Nat → Prop} {g : Nat} {t : TypeId} {cs : Array Value} {l : List Ac} {n : Nat} (hb : Blk W g t cs) (he : cs.toList = flatA (rowA l)) (hn : l.length = n) (hX : ¬ X g) : Rd W X 8 (some ⟨g, 0, none⟩) n (rowA l) := by
  refine ⟨by rw [rowA_len, hn], rowA_sized l, fun _ => ⟨_, rfl, hb.lt, hX, fun j u hu => ?_⟩⟩
  rw [add0, hb.cell j, ← Array.getElem?_toList, he]
  exact hu
/-- A list of acts that is being made. -/
structure AcI (w : World) (l : List Ac) (v : Value) (W : World) : Prop where
  own : OwnK W 43 8 v (rowA l)
  fresh : ∀ b, v.ownBlock = some b → w.heap.size ≤ b
  low : Below w.heap.size w W
theorem AcI.one {w W : World} (h : Below w.heap.size w W) (x : Ac) : AcI w [x] (.slice (some ⟨W.heap.size, 0, none⟩) 1 1) (W.alloc (.cells (aArr x (.slice none 0 0)) 43)) := by
  refine ⟨⟨⟨by simp [flatA, rowA, aArr], .inr ⟨W.heap.size, 1, aArr x (.slice none 0 0), rfl, Nat.zero_le _, heap_alloc_new W _, Nat.le_refl _, by unfold maxLen; omega, rfl, rfl⟩⟩, rowA_sized _⟩, fun b e => ?_, h.alloc h.size _⟩
  simp [Value.ownBlock] at e
  have := h.size
  omega
theorem AcI.nil (w : World) : AcI w [] (.slice none 0 0) w := ⟨OwnK.nil _ _ _, fun z e => (nomatch e), Below.refl _ _⟩
theorem AcI.more {w W w9 : World} {l k : List Ac} {v v9 : Value} {o : Obj} (h : AcI w l v W) (ho : OwnK w9 43 8 v9 (rowA l ++ rowA k)) (hg : Grew v (W.alloc o) v9 w9) : AcI w (l ++ k) v9 w9 := by
  refine ⟨by rw [rowA_app]; exact ho, fun z e => ?_, below_grew (h.low.alloc h.low.size _) hg h.fresh (le_alloc h.low.size _)⟩
  rcases hg.2 z e with q | q
  · exact h.fresh z q
  · exact Nat.le_trans (le_alloc h.low.size _) q
theorem AcI.form {w W : World} {l : List Ac} {v : Value} (h : AcI w l v W) : ∃ A c, v = .slice A l.length c := by
  obtain ⟨A, q, c, e, e2, -, -⟩ := h.own.form
  rw [rowA_len] at e2
  exact ⟨A, c, by rw [e, e2]⟩
theorem AcI.acts {w W : World} {l : List Ac} {A : Option Addr} {n c : Nat} (h : AcI w l (.slice A n c) W) : ActR W No A (l.map fun x => (x, [])) := by
  have hr := h.own.rd (X := No) (fun _ _ e => e)
  have hn : n = l.length := by have := hr.1; rw [rowA_len] at this; exact this.symm
  subst hn
  refine ⟨⟨fun _ => .slice none 0 0, ?_, fun i x hx => ?_⟩⟩
  · have e : (rowsOf (l.map fun x => ((x, []) : Ac × List Int)).length fun i => match (l.map fun x => ((x, []) : Ac × List Int))[i]? with | some x => aArr x.1 (.slice none 0 0) | none => #[]) = rowA l := by
      refine List.ext_getElem? fun i => ?_
      by_cases hi : i < l.length
      · rw [rowsOf_at _ (by simpa using hi)]
        simp [rowA, List.getElem?_eq_getElem hi]
      · rw [List.getElem?_eq_none (by rw [rowsOf_len]; simpa using hi), List.getElem?_eq_none (by rw [rowA_len]; omega)]
    suffices hR : Rd W No 8 A (l.map fun x => ((x, []) : Ac × List Int)).length (rowA l) by
      rw [← e] at hR
      exact hR
    rw [List.length_map]
    exact hr
  · rw [List.getElem?_map] at hx
    obtain ⟨y, -, rfl⟩ := Option.map_eq_some_iff.1 hx
    exact ⟨none, 0, rfl, Rd.none_⟩
theorem cells65 : Tryz.prog.cellsOf 65 = 2 := by kernel_rfl
theorem two_of {cs : Array Value} (h : cs.size = 2) : ∃ c0 c1, cs = #[c0, c1] := by
  obtain ⟨l⟩ := cs
  match l, h with
  | [c0, c1], _ => exact ⟨c0, c1, rfl⟩
theorem list2 {α : Type} {l : List α} (h : l.length = 2) : ∃ c0 c1, l = [c0, c1] := by
  match l, h with
  | [c0, c1], _ => exact ⟨c0, c1, rfl⟩
set_option maxRecDepth 100000 in
theorem open_ending {H : Type} {enc : TypeId × Value → H} {w : World} {b0 base : Nat} {spare : Nat → Bool} {held : Bool} {r : Reach} {v : Value} {d : DataW H} {p : List MemPlace}
    (hv : Value.okWide Tryz.prog w r b0 65 v) (h : DataW.Trod enc Tryz.prog w base spare held 65 v d p) : ∃ (c : Bool) (o : Int), v = .agg #[.bool c, .int .i64 o] := by
  obtain ⟨cs, rfl, hsz⟩ := okWide_struct Tryz.underlying65 hv
  obtain ⟨c0, c1, rfl⟩ := two_of (hsz.trans cells65)
  obtain ⟨fuel, hf⟩ := h
  have hf' : DataW.trod enc Tryz.prog w base spare held fuel 65 [c0, c1] = some (d, p) := by simpa [Value.cells] using hf
  obtain ⟨xs, n, _, _, _, hl, hf⟩ := DataW.trod_struct Tryz.underlying65 hf'
  obtain ⟨y0, y1, rfl⟩ := list2 hl
  have g0 : DataW.trod enc Tryz.prog w base spare held n 4 [c0] = some y0 := by
    have := hf 0 _ rfl
    simpa [cells4] using this
  have g1 : DataW.trod enc Tryz.prog w base spare held n 2 [c1] = some y1 := by
    have := hf 1 _ rfl
    simpa [cells2] using this
  obtain ⟨z0, e0, _⟩ := DataW.trod_bool Tryz.underlying4 g0
  obtain ⟨z1, e1, _, wf1⟩ := DataW.trod_int Tryz.underlying2 g1
  injection e0 with e0
  injection e1 with e1
  subst e0 e1
  exact ⟨z0, z1, rfl⟩
end Go.Proofs.YtpmdicbhliclcaaGreat
namespace Go.Proofs.YtpmdicbhliclcaaGreat
open Go.RowKit Go.Maps Go.ChangeShapes Go.WideShapes
set_option linter.unusedVariables false
set_option linter.unusedSimpArgs false
theorem add_off3 (ad : Addr) (i : Nat) {j : Nat} (h : 0 < j) : (⟨(ad.add i).block, (ad.add i).off + j, none⟩ : Addr) = ad.add (i + j) := by
  rw [← add_of_add]
  unfold Addr.add
  rw [if_neg (show ¬ j = 0 by omega)]
set_option maxRecDepth 100000 in
theorem open_rows {α : Type} {t e k : Nat} (und : Tryz.prog.underlying t = some (.slice e)) (hk : Tryz.prog.cellsOf e = k) (kpos : 0 < k) {H : Type} {enc : TypeId × Value → H} {w : World} {base : Nat} {held : Bool} (Q : α → Array Value → Prop)
    (one : ∀ y cs, Q y cs → ∀ u ∈ cs.toList, u.oneCell' = true) (each : ∀ fuel cs x, cs.length = k → DataW.trod enc Tryz.prog w base (fun _ => true) held fuel e cs = some x → ∃ y, Q y cs.toArray)
    {a : Option Addr} {len cap : Nat} {d : DataW H} {p : List MemPlace}
    (h : DataW.Trod enc Tryz.prog w base (fun _ => true) held t (.slice a len cap) d p) : (∃ (ys : List α) (css : List (Array Value)), Rd w No k a len css ∧ css.length = ys.length ∧ ∀ (i : Nat) (y : α) (cs : Array Value), ys[i]? = some y → css[i]? = some cs → Q y cs) ∧ len ≤ cap ∧ cap ≤ maxLen := by
  obtain ⟨fuel, hf⟩ := h
  rcases Deep.open_slice und hf with ⟨hcs, _⟩ | ⟨ad, l, c, m, n, D, Pl, hcs, _, hl, hm, hmm, _, hx⟩
  · simp [Value.cells] at hcs
    obtain ⟨rfl, rfl, rfl⟩ := hcs
    exact ⟨⟨[], [], Rd.none_, rfl, fun i y cs e => by simp at e⟩, Nat.le_refl _, by unfold maxLen; omega⟩
  · simp [Value.cells] at hcs
    obtain ⟨rfl, rfl, rfl⟩ := hcs
    have hlm : len ≤ m := by rw [hmm]; split <;> omega
    have each' : ∀ i, i < len → ∃ y : α × Array Value, Q y.1 y.2 ∧ y.2.size = k ∧ ∀ j u, y.2[j]? = some u → w.cell? (ad.add (i * k + j)) = some u := by
      intro i hi
      obtain ⟨cs', h1, h2⟩ := hx i (by omega)
      rw [hk] at h1
      obtain ⟨_, hlen, hcell⟩ := World.cells?_some h1
      obtain ⟨y, hy⟩ := each _ _ _ hlen h2
      refine ⟨(y, cs'.toArray), hy, by simp [hlen], fun j u hu => ?_⟩
      have hj : j < k := by
        have := (Array.getElem?_eq_some_iff.1 hu).1
        simpa [hlen] using this
      have h3 := hcell j (by omega)
      rw [add_of_add] at h3
      rw [h3]
      simpa using hu
    obtain ⟨ys, h1, h2⟩ := choose_list _ len each'
    have hsized : Sized k (ys.map (·.2)) := fun c hc => by
      obtain ⟨y, hy, rfl⟩ := List.mem_map.1 hc
      obtain ⟨i, hi⟩ := List.getElem?_of_mem hy
      obtain ⟨q1, q2, _⟩ := h2 i y hi
      exact ⟨q2, one _ _ q1⟩
    refine ⟨⟨ys.map (·.1), ys.map (·.2), ⟨by simp [h1], hsized, fun h0 => ⟨ad, rfl, ?_, fun h => h, fun j u hu => ?_⟩⟩, by simp, fun i t cs e1 e2 => ?_⟩, hl, hm⟩
    · obtain ⟨y, _, hsz, hc⟩ := each' 0 h0
      have := block_lt_of_cell (hc 0 _ (Array.getElem?_eq_getElem (by omega)))
      rwa [block_of_add] at this
    · obtain ⟨i, c, q, rfl, hi, hq⟩ := flatA_get hsized hu
      rw [List.getElem?_map] at hi
      cases hy : ys[i]? with
      | none => rw [hy] at hi; cases hi
      | some y =>
        rw [hy] at hi
        injection hi with hi
        subst hi
        exact (h2 i y hy).2.2 q u hq
    · rw [List.getElem?_map] at e1 e2
      cases hy : ys[i]? with
      | none => rw [hy] at e1; cases e1
      | some y =>
        rw [hy] at e1 e2
        injection e1 with e1
        injection e2 with e2
        subst e1 e2
        exact (h2 i y hy).1
theorem u8_bounds {n : Int} (h : (Lit.int .u8 n).wf = true) : ∃ m : Nat, n = (m : Int) ∧ m < 256 := by
  have hmin : IntKind.u8.min = 0 := rfl
  have hmax : IntKind.u8.max = 255 := rfl
  simp only [Lit.wf, Bool.and_eq_true, decide_eq_true_eq] at h
  exact ⟨n.toNat, by omega, by omega⟩
theorem cells5 : Tryz.prog.cellsOf 5 = 1 := by kernel_rfl
theorem cells83 : Tryz.prog.cellsOf 83 = 3 := by kernel_rfl
/-- Three bytes. -/
def B3 (y : Nat × Nat × Nat) (cs : Array Value) : Prop := cs = #[.int .u8 (y.1 : Int), .int .u8 (y.2.1 : Int), .int .u8 (y.2.2 : Int)] ∧ y.1 < 256 ∧ y.2.1 < 256 ∧ y.2.2 < 256
set_option maxRecDepth 100000 in
theorem trod_b3 {H : Type} {enc : TypeId × Value → H} {w : World} {base : Nat} {held : Bool} {fuel : Nat} {cs : List Value} {x : DataW H × List MemPlace} (hl3 : cs.length = 3)
    (h : DataW.trod enc Tryz.prog w base (fun _ => true) held fuel 83 cs = some x) : ∃ y, B3 y cs.toArray := by
  obtain ⟨c0, c1, c2, rfl⟩ := list3 hl3
  obtain ⟨xs, n, _, _, _, hl, hf⟩ := DataW.trod_array Tryz.underlying83 h
  obtain ⟨y0, y1, y2, rfl⟩ := list3 hl
  have g0 : DataW.trod enc Tryz.prog w base (fun _ => true) held n 5 [c0] = some y0 := by simpa [cells5] using hf 0 (by omega)
  have g1 : DataW.trod enc Tryz.prog w base (fun _ => true) held n 5 [c1] = some y1 := by simpa [cells5] using hf 1 (by omega)
  have g2 : DataW.trod enc Tryz.prog w base (fun _ => true) held n 5 [c2] = some y2 := by simpa [cells5] using hf 2 (by omega)
  obtain ⟨z0, e0, _, wf0⟩ := DataW.trod_int Tryz.underlying5 g0
  obtain ⟨z1, e1, _, wf1⟩ := DataW.trod_int Tryz.underlying5 g1
  obtain ⟨z2, e2, _, wf2⟩ := DataW.trod_int Tryz.underlying5 g2
  injection e0 with e0
  injection e1 with e1
  injection e2 with e2
  subst e0 e1 e2
  obtain ⟨m0, rfl, q0⟩ := u8_bounds wf0
  obtain ⟨m1, rfl, q1⟩ := u8_bounds wf1
  obtain ⟨m2, rfl, q2⟩ := u8_bounds wf2
  exact ⟨(m0, m1, m2), rfl, q0, q1, q2⟩
/-- A slice of three bytes each. -/
def Rows3 (w : World) (A : Option Addr) (n : Nat) (z : Nat → Nat × Nat × Nat) : Prop :=
  ∀ i, i < n → (z i).1 < 256 ∧ (z i).2.1 < 256 ∧ (z i).2.2 < 256 ∧ ∃ ad, A = some ad ∧ ad.block < w.heap.size ∧ w.cell? (ad.add (i * 3)) = some (.int .u8 ((z i).1 : Int)) ∧ w.cell? (ad.add (i * 3 + 1)) = some (.int .u8 ((z i).2.1 : Int)) ∧ w.cell? (ad.add (i * 3 + 2)) = some (.int .u8 ((z i).2.2 : Int))
theorem Rows3.below {w w' : World} {A : Option Addr} {n : Nat} {z : Nat → Nat × Nat × Nat} (h : Rows3 w A n z) (hb : Below w.heap.size w w') : Rows3 w' A n z := fun i hi => by
  obtain ⟨h1, h2, h3, ad, e, hl, c0, c1, c2⟩ := h i hi
  exact ⟨h1, h2, h3, ad, e, Nat.lt_of_lt_of_le hl hb.size, (hb.cell (p := ad.add (i * 3)) (by rw [block_of_add]; exact hl)).trans c0, (hb.cell (p := ad.add (i * 3 + 1)) (by rw [block_of_add]; exact hl)).trans c1, (hb.cell (p := ad.add (i * 3 + 2)) (by rw [block_of_add]; exact hl)).trans c2⟩
theorem open_rows3 {H : Type} {enc : TypeId × Value → H} {w : World} {base : Nat} {held : Bool} {a : Option Addr} {len cap : Nat} {d : DataW H} {p : List MemPlace}
    (h : DataW.Trod enc Tryz.prog w base (fun _ => true) held 82 (.slice a len cap) d p) : (∃ z, Rows3 w a len z) ∧ len ≤ cap ∧ cap ≤ maxLen := by
  obtain ⟨⟨ys, css, h1, h2, h3⟩, h4, h5⟩ := open_rows Tryz.underlying82 cells83 (by omega) B3 (fun y cs hq u hu => by
    rw [hq.1] at hu
    simp at hu
    rcases hu with rfl | rfl | rfl <;> rfl) (fun fuel cs x hl hf => trod_b3 hl hf) h
  refine ⟨⟨fun i => ys.getD i (0, 0, 0), fun i hi => ?_⟩, h4, h5⟩
  have hc : css.length = len := h1.1
  have hy := List.getElem?_eq_getElem (show i < ys.length by omega)
  have hcs := List.getElem?_eq_getElem (show i < css.length by omega)
  obtain ⟨e, b1, b2, b3⟩ := h3 i _ _ hy hcs
  have hg : ys.getD i (0, 0, 0) = ys[i]'(by omega) := by rw [List.getD_eq_getElem?_getD, hy]; rfl
  simp only [hg]
  obtain ⟨ad, e1, e2, _, e4⟩ := h1.at_ hcs
  rw [e] at e4
  exact ⟨b1, b2, b3, ad, e1, e2, e4 0 _ rfl, e4 1 _ rfl, e4 2 _ rfl⟩
/-- The three bytes of a place, in the form in which a load asks for them. -/
theorem Rows3.at_ {w : World} {A : Option Addr} {n : Nat} {z : Nat → Nat × Nat × Nat} (h : Rows3 w A n z) {i : Nat} (hi : i < n) : (z i).1 < 256 ∧ (z i).2.1 < 256 ∧ (z i).2.2 < 256 ∧ ∃ ad, A = some ad ∧ ad.block < w.heap.size ∧ w.cell? (ad.add (i * 3)) = some (.int .u8 ((z i).1 : Int)) ∧ w.cell? ⟨(ad.add (i * 3)).block, (ad.add (i * 3)).off + 1, none⟩ = some (.int .u8 ((z i).2.1 : Int)) ∧ w.cell? ⟨(ad.add (i * 3)).block, (ad.add (i * 3)).off + 2, none⟩ = some (.int .u8 ((z i).2.2 : Int)) := by
  obtain ⟨h1, h2, h3, ad, e, hl, c0, c1, c2⟩ := h i hi
  exact ⟨h1, h2, h3, ad, e, hl, c0, by rw [add_off3 ad _ (by omega)]; exact c1, by rw [add_off3 ad _ (by omega)]; exact c2⟩
end Go.Proofs.YtpmdicbhliclcaaGreat
namespace Go.Proofs.YtpmdicbhliclcaaGreat
open Go.RowKit Go.Maps Go.ChangeShapes Go.WideShapes
set_option linter.unusedVariables false
set_option linter.unusedSimpArgs false
/-- Acts with their lists, as rows. -/
def rowB (l : List ((Ac × List Int) × Value)) : List (Array Value) := l.map fun y => aArr y.1.1 y.2
theorem rowB_len (l : List ((Ac × List Int) × Value)) : (rowB l).length = l.length := by simp [rowB]
/-- A list of acts that is being made; each act's own list lies outside of it. -/
structure AcJ (w : World) (l : List ((Ac × List Int) × Value)) (v : Value) (W : World) : Prop where
  own : OwnK W 43 8 v (rowB l)
  isr : ∀ (i : Nat) (y : (Ac × List Int) × Value), l[i]? = some y → IsR W (fun z => v.ownBlock = some z) y.2 y.1.2
  fresh : ∀ b, v.ownBlock = some b → w.heap.size ≤ b
  low : Below w.heap.size w W
theorem AcJ.nil (w : World) : AcJ w [] (.slice none 0 0) w := ⟨OwnK.nil _ _ _, fun i y h => by simp at h, fun z e => (nomatch e), Below.refl _ _⟩
theorem AcJ.below {w W W' : World} {l : List ((Ac × List Int) × Value)} {v : Value} (h : AcJ w l v W) (hb : Below W.heap.size W W') : AcJ w l v W' := ⟨h.own.below hb, fun i y hy => (h.isr i y hy).below hb, h.fresh, h.low.trans (hb.mono h.low.size)⟩
theorem AcJ.form {w W : World} {l : List ((Ac × List Int) × Value)} {v : Value} (h : AcJ w l v W) : ∃ A c, v = .slice A l.length c := by
  obtain ⟨A, q, c, e, e2, -, -⟩ := h.own.form
  rw [rowB_len] at e2
  exact ⟨A, c, by rw [e, e2]⟩
theorem IsR.grew {W w9 : World} {o : Obj} {v v9 sv : Value} {V : List Int} (h : IsR W (fun z => v.ownBlock = some z) sv V) (hv : ∀ b, v.ownBlock = some b → b < W.heap.size) (hg : Grew v (W.alloc o) v9 w9) : IsR w9 (fun z => v9.ownBlock = some z) sv V := by
  have h1 : IsR W (fun z => v.ownBlock = some z ∨ v9.ownBlock = some z) sv V := h.wide (fun b hb e => e.elim id (fun e => by
    rcases hg.2 b e with q | q
    · exact q
    · have : (W.alloc o).heap.size = W.heap.size + 1 := by simp
      omega))
  have h2 := h1.below ((Below.refl W.heap.size W).alloc (Nat.le_refl _) o)
  exact (h2.keep (hg.turn (S := fun z => v.ownBlock = some z) (fun g e => e)) (fun b _ e => .inl e)).wide (fun b _ e => .inr e)
theorem AcJ.more {w W w9 : World} {l : List ((Ac × List Int) × Value)} {v v9 sv : Value} {o : Obj} {x : Ac} {V : List Int} (h : AcJ w l v W) (ho : OwnK w9 43 8 v9 (rowB l ++ [aArr x sv])) (hg : Grew v (W.alloc o) v9 w9) (hs : IsR W (fun z => v.ownBlock = some z) sv V) : AcJ w (l ++ [((x, V), sv)]) v9 w9 := by
  have hv : ∀ b, v.ownBlock = some b → b < W.heap.size := fun b e => h.own.lt e
  refine ⟨by simpa [rowB] using ho, fun i y hy => ?_, fun z e => ?_, below_grew (h.low.alloc h.low.size _) hg h.fresh (le_alloc h.low.size _)⟩
  · by_cases hi : i < l.length
    · rw [List.getElem?_append_left hi] at hy
      exact (h.isr i y hy).grew hv hg
    · rw [List.getElem?_append_right (by omega)] at hy
      have : i - l.length = 0 := by
        have := (List.getElem?_eq_some_iff.1 hy).1
        simp at this; omega
      rw [this] at hy
      injection hy with hy
      subst hy
      exact hs.grew hv hg
  · rcases hg.2 z e with q | q
    · exact h.fresh z q
    · exact Nat.le_trans (le_alloc h.low.size _) q
theorem AcJ.acts {w W : World} {l : List ((Ac × List Int) × Value)} {A : Option Addr} {n c : Nat} (h : AcJ w l (.slice A n c) W) : ActR W No A (l.map (·.1)) := by
  have hr := h.own.rd (X := No) (fun _ _ e => e)
  have hn : n = l.length := by have := hr.1; rw [rowB_len] at this; exact this.symm
  subst hn
  refine ⟨⟨fun i => (l[i]?.map (·.2)).getD (.slice none 0 0), ?_, fun i x hx => ?_⟩⟩
  · have e : (rowsOf (l.map (·.1)).length fun i => match (l.map (·.1))[i]? with | some x => aArr x.1 ((l[i]?.map (·.2)).getD (.slice none 0 0)) | none => #[]) = rowB l := by
      refine List.ext_getElem? fun i => ?_
      by_cases hi : i < l.length
      · rw [rowsOf_at _ (by simpa using hi)]
        simp [rowB, List.getElem?_eq_getElem hi]
      · rw [List.getElem?_eq_none (by rw [rowsOf_len]; simpa using hi), List.getElem?_eq_none (by rw [rowB_len]; omega)]
    suffices hR : Rd W No 8 A (l.map (·.1)).length (rowB l) by
      rw [← e] at hR
      exact hR
    rw [List.length_map]
    exact hr
  · rw [List.getElem?_map] at hx
    cases hy : l[i]? with
    | none => rw [hy] at hx; cases hx
    | some y =>
      rw [hy] at hx
      injection hx with hx
      subst hx
      have h4 := (h.isr i y hy).wide (Y := No) (fun b _ e => e.elim)
      simpa [hy] using h4
theorem rd_act {W : World} {X : Nat → Prop} {x : Ac} {sv : Value} (h1 : sv.oneCell' = true) (hX : ¬ X W.heap.size) : Rd (W.alloc (.cells (aArr x sv) 43)) X 8 (some ⟨W.heap.size, 0, none⟩) 1 [aArr x sv] := rd_one W 43 (aArr x sv) rfl (by
  intro u hu
  simp only [aArr, List.mem_cons, List.not_mem_nil, or_false] at hu
  rcases hu with rfl | rfl | rfl | rfl | rfl | rfl | rfl | rfl
  all_goals first | exact h1 | rfl) hX
end Go.Proofs.YtpmdicbhliclcaaGreat
