/-
  The law: a list of acts is played, by the controller and by the document. Conditions: a controller as it is between two calls.
-/
import Derived.Test.YtpmdicbhliclcaaGreatLaw
import Derived.Test.YtpmdicbhliclcaaGreatDoes
import Derived.Test.YtpmdicbhliclcaaGreatRef15
import Derived.Test.YtpmdicbhliclcaaGreatRef16
import Derived.Test.YtpmdicbhliclcaaGreatMNew
namespace Go.Proofs.YtpmdicbhliclcaaGreat
open Go.RowKit Go.Maps
set_option linter.unusedVariables false
set_option linter.unusedSimpArgs false
/-- Two worlds of a play. -/
theorem Pl.grow {w w' : World} {g : Nat} {M : Mt} {v : Value} {S Y Y' : Nat → Prop} (h : Pl w g M v S Y) (hb : Below w.heap.size w w') (hl : ∀ b, Y' b → b < w'.heap.size) (hY : ∀ b, b < w.heap.size → Y' b → Y b) : Pl w' g M v S Y' :=
  ⟨h.mm.below hb, (h.rf.wide (fun b hb0 e => e.imp_right (hY b hb0))).below hb, fun b q => Nat.lt_of_lt_of_le (h.lt b q) hb.size, hl⟩
theorem Pl.below {w w' : World} {g : Nat} {M : Mt} {v : Value} {S Y : Nat → Prop} (h : Pl w g M v S Y) (hb : Below w.heap.size w w') : Pl w' g M v S Y :=
  h.grow hb (fun b q => Nat.lt_of_lt_of_le (h.yl b q) hb.size) (fun _ _ e => e)
theorem Pl.keep {w w' : World} {g ox : Nat} {M : Mt} {v : Value} {S Y : Nat → Prop} (h : Pl w g M v S Y) (ht : Turn (fun z => z = ox) w w') (hy : Y ox) (hs : ¬ S ox) : Pl w' g M v S Y :=
  ⟨h.mm.keep ht (fun b hb e => hs (e ▸ hb)), h.rf.keep ht (fun b _ e => .inr (e ▸ hy)), fun b q => Nat.lt_of_lt_of_le (h.lt b q) ht.size, fun b q => Nat.lt_of_lt_of_le (h.yl b q) ht.size⟩
/-- Between two rounds of a play. -/
structure PyI (w : World) (g gx : Nat) (W : World) (M : Mt) (cs : Array Value) (S : Nat → Prop) : Prop where
  low : Below w.heap.size w W
  pl : Pl W g M (.agg cs) S (fun z => z = gx)
  ok : M.ok
  gb : Blk W gx 36 cs
  ng : ¬ S gx
  lo : ∀ b, S b → w.heap.size ≤ b
  glo : w.heap.size ≤ gx
theorem PyI.drew {w W : World} {g gx : Nat} {M : Mt} {cs : Array Value} {S : Nat → Prop} (h : PyI w g gx W M cs S) : PyI w g gx W.drew M cs S := ⟨h.low.drew, h.pl.below (Below.refl _ _).drew, h.ok, h.gb.drew, h.ng, h.lo, h.glo⟩
theorem PyI.below {w W W' : World} {g gx : Nat} {M : Mt} {cs : Array Value} {S : Nat → Prop} (h : PyI w g gx W M cs S) (hb : Below W.heap.size W W') : PyI w g gx W' M cs S := ⟨h.low.trans (hb.mono h.low.size), h.pl.below hb, h.ok, h.gb.below hb h.gb.lt, h.ng, h.lo, h.glo⟩
/-- Within a round: the controller that comes lies at another place. -/
structure PyJ (w : World) (g gx ox : Nat) (W : World) (M : Mt) (cs : Array Value) (S : Nat → Prop) : Prop where
  low : Below w.heap.size w W
  pl : Pl W g M (.agg cs) S (fun z => z = gx ∨ z = ox)
  ok : M.ok
  ob : Blk W ox 36 cs
  ng : ¬ S gx
  no : ¬ S ox
  ne : gx ≠ ox
  lo : ∀ b, S b → w.heap.size ≤ b
  glo : w.heap.size ≤ gx
theorem PyJ.below {w W W' : World} {g gx ox : Nat} {M : Mt} {cs : Array Value} {S : Nat → Prop} (h : PyJ w g gx ox W M cs S) (hb : Below W.heap.size W W') : PyJ w g gx ox W' M cs S := ⟨h.low.trans (hb.mono h.low.size), h.pl.below hb, h.ok, h.ob.below hb h.ob.lt, h.ng, h.no, h.ne, h.lo, h.glo⟩
theorem PyJ.turn {w W W' : World} {g gx ox : Nat} {M : Mt} {cs : Array Value} {S : Nat → Prop} (h : PyJ w g gx ox W M cs S) (ht : Turn (fun z => z = gx) W W') (hb : Blk W' gx 36 cs) : PyI w g gx W' M cs S :=
  ⟨h.low.trans (ht.below h.low.size (fun b e => e ▸ h.glo)), (h.pl.keep ht (.inl rfl) h.ng).grow (Below.refl _ _) (fun b e => e ▸ hb.lt) (fun b _ e => .inl e), h.ok, hb, h.ng, h.lo, h.glo⟩
/-- The call comes first. -/
theorem PyI.first {w V0 V1 V2 : World} {g gx : Nat} {M M1 : Mt} {cs cs1 : Array Value} {S S1 : Nat → Prop} (h : PyI w g gx V0 M cs S) (hk : M1.ok) (hp : Pl V1 g M1 (.agg cs1) S1 (fun z => z = gx)) (hs : ∀ b, b < V0.heap.size → S1 b → S b) (ht : Turn S V0 V1) (ho : Turn (fun z => z = V1.heap.size) (V1.alloc (.cells #[.int .i64 0, .int .i64 0, .int .i64 0, .slice none 0 0, .slice none 0 0, .slice none 0 0] 36)) V2) (hb : Blk V2 V1.heap.size 36 cs1) : PyJ w g gx V1.heap.size V2 M1 cs1 S1 := by
  have hal : Below V1.heap.size V1 (V1.alloc (.cells #[.int .i64 0, .int .i64 0, .int .i64 0, .slice none 0 0, .slice none 0 0, .slice none 0 0] 36)) := (Below.refl _ _).alloc (Nat.le_refl _) _
  have hz : V0.heap.size ≤ V1.heap.size := ht.size
  have hno : ¬ S1 V1.heap.size := fun q => by have := hp.lt _ q; omega
  have hl1 : Below w.heap.size w V1 := h.low.trans (ht.below h.low.size (fun b e => h.lo b e))
  have hgx : gx < V0.heap.size := h.gb.lt
  refine ⟨(hl1.trans (hal.mono hl1.size)).trans (ho.below (Nat.le_trans hl1.size hal.size) (fun b e => by have := hl1.size; omega)), ?_, hk, hb, fun q => h.ng (hs _ hgx q), hno, by omega, fun b q => ?_, h.glo⟩
  · refine Pl.keep (hp.grow hal (fun b e => ?_) (fun b hb0 e => e.elim id (fun e => by omega))) ho (.inr rfl) hno
    have : (V1.alloc (.cells #[.int .i64 0, .int .i64 0, .int .i64 0, .slice none 0 0, .slice none 0 0, .slice none 0 0] 36)).heap.size = V1.heap.size + 1 := by simp
    rcases e with e | e <;> omega
  · by_cases hlt : b < V0.heap.size
    · exact h.lo b (hs b hlt q)
    · have := h.low.size; omega
/-- The place comes first. -/
theorem PyI.second {w V0 V1 V2 : World} {g gx : Nat} {M M1 : Mt} {cs cs1 : Array Value} {S S1 : Nat → Prop} (h : PyI w g gx V0 M cs S) (hk : M1.ok) (hp : Pl V1 g M1 (.agg cs1) S1 (fun z => z = gx ∨ z = V0.heap.size)) (hs : ∀ b, b < (V0.alloc (.cells #[.int .i64 0, .int .i64 0, .int .i64 0, .slice none 0 0, .slice none 0 0, .slice none 0 0] 36)).heap.size → S1 b → S b) (ht : Turn S (V0.alloc (.cells #[.int .i64 0, .int .i64 0, .int .i64 0, .slice none 0 0, .slice none 0 0, .slice none 0 0] 36)) V1) (ho : Turn (fun z => z = V0.heap.size) V1 V2) (hb : Blk V2 V0.heap.size 36 cs1) : PyJ w g gx V0.heap.size V2 M1 cs1 S1 := by
  have hal : Below V0.heap.size V0 (V0.alloc (.cells #[.int .i64 0, .int .i64 0, .int .i64 0, .slice none 0 0, .slice none 0 0, .slice none 0 0] 36)) := (Below.refl _ _).alloc (Nat.le_refl _) _
  have hsz : (V0.alloc (.cells #[.int .i64 0, .int .i64 0, .int .i64 0, .slice none 0 0, .slice none 0 0, .slice none 0 0] 36)).heap.size = V0.heap.size + 1 := by simp
  have hgx : gx < V0.heap.size := h.gb.lt
  have hno : ¬ S1 V0.heap.size := fun q => by have := h.pl.lt _ (hs _ (by omega) q); omega
  have hl1 : Below w.heap.size w V1 := (h.low.trans (hal.mono h.low.size)).trans (ht.below (Nat.le_trans h.low.size hal.size) (fun b e => h.lo b e))
  refine ⟨hl1.trans (ho.below hl1.size (fun b e => by have := h.low.size; omega)), hp.keep ho (.inr rfl) hno, hk, hb, fun q => h.ng (hs _ (by omega) q), hno, by omega, fun b q => ?_, h.glo⟩
  by_cases hlt : b < (V0.alloc (.cells #[.int .i64 0, .int .i64 0, .int .i64 0, .slice none 0 0, .slice none 0 0, .slice none 0 0] 36)).heap.size
  · exact h.lo b (hs b hlt q)
  · have := h.low.size; omega
/-- Before the call, the place laid. -/
theorem PyI.laid {w V0 : World} {g gx : Nat} {M : Mt} {cs : Array Value} {S : Nat → Prop} (h : PyI w g gx V0 M cs S) : Pl (V0.alloc (.cells #[.int .i64 0, .int .i64 0, .int .i64 0, .slice none 0 0, .slice none 0 0, .slice none 0 0] 36)) g M (.agg cs) S (fun z => z = gx ∨ z = V0.heap.size) := by
  have hsz : (V0.alloc (.cells #[.int .i64 0, .int .i64 0, .int .i64 0, .slice none 0 0, .slice none 0 0, .slice none 0 0] 36)).heap.size = V0.heap.size + 1 := by simp
  have hgx : gx < V0.heap.size := h.gb.lt
  exact h.pl.grow ((Below.refl _ _).alloc (Nat.le_refl _) _) (fun b e => by rcases e with e | e <;> omega) (fun b hb0 e => e.elim id (fun e => by omega))
/-- The numbers of an act, in the world of the call. -/
theorem ActR.ints {w W : World} {A : Option Addr} {l : List (Ac × List Int)} {X : Nat → Prop} {L : Option Addr} {k : Nat} {V : List Int} (h : Rd w No 1 L k (intsOf V)) (hb : Below w.heap.size w W) (hX : ∀ b, X b → w.heap.size ≤ b) : Rd W X 1 L k (intsOf V) :=
  (h.wide (X' := fun z => w.heap.size ≤ z) (fun b hb0 e => absurd hb0 (Nat.not_lt.2 e))).below hb |>.wide (fun b _ e => hX b e)
set_option maxRecDepth 100000 in
set_option maxHeartbeats 16000000 in
theorem play_any {w : World} {A : Option Addr} {l : List (Ac × List Int)} {k : Nat} (hA : ActR w No A l) (a b c : Int) : Calls Tryz.prog 3 #[frm a b c, .slice A l.length k] w fun r w' => r = .returned (.bool true) ∧ Below w.heap.size w w' := by
  have hal := (Below.refl w.heap.size w).alloc (Nat.le_refl _) (.cells #[.int .i64 a, .int .i64 b, .int .i64 c] 23)
  have HB := Lib.hid hal
  have HX : Hid (Blk (w.alloc (.cells #[.int .i64 a, .int .i64 b, .int .i64 c] 23)) w.heap.size 23 #[.int .i64 a, .int .i64 b, .int .i64 c]) := Lib.hid (Blk.new w 23 _)
  have HA := Lib.hid hA
  have hlarge0 := large12_any (c := k) (hA.below hal)
  have HS : Hid (w.heap.size + 1 ≤ (w.alloc (.cells #[.int .i64 a, .int .i64 b, .int .i64 c] 23)).heap.size) := Lib.hid (by simp)
  obtain ⟨n, hln⟩ : ∃ n, l.length = n := ⟨_, rfl⟩
  have HLN := Lib.hid hln
  rw [hln] at hlarge0 ⊢
  clear hA hal hln
  unfold frm
  go_enter Tryz.func3, Tryz.ntmps3
  go_upto_region 1 with fail
  generalize hw2 : w.alloc (.cells #[.int .i64 a, .int .i64 b, .int .i64 c] 23) = w2 at *
  clear hw2
  have u23 : Tryz.prog.underlying 23 = some (.struct (Tryz.prog.fieldsOf 23)) := by kernel_rfl
  by_cases hbig : 60 < n
  case pos =>
    have d1 : decide (60 < n) = true := decide_eq_true hbig
    have d2 : decide ((60 : Int) < (n : Int)) = true := decide_eq_true (by omega)
    clear hbig hlarge0
    go_wp2_with fail
    refine (known_any _).mono ?_
    rintro r w4 ⟨rfl, hb4⟩
    have HF := Lib.hid (HB.out.trans (hb4.mono HB.out.size))
    clear hb4
    go_wp2_with fail
    go_ret
    exact ⟨rfl, HF.out⟩
  case neg =>
  have d1 : decide (60 < n) = false := decide_eq_false hbig
  have d2 : decide ((60 : Int) < (n : Int)) = false := decide_eq_false (by omega)
  have hn : n ≤ 60 := by omega
  have hlarge := hlarge0 (by omega)
  clear hbig hlarge0
  cases hbl : largeA l with
  | true =>
    rw [hbl] at hlarge
    clear hbl
    go_wp2_with fail
    refine hlarge.mono ?_
    rintro r w3 ⟨rfl, rfl⟩
    clear hlarge
    go_wp2_with fail
    refine (known_any _).mono ?_
    rintro r w4 ⟨rfl, hb4⟩
    have HF := Lib.hid (HB.out.trans (hb4.mono HB.out.size))
    clear hb4
    go_wp2_with fail
    go_ret
    exact ⟨rfl, HF.out⟩
  | false =>
  rw [hbl] at hlarge
  have HSM : Hid (∀ (i : Nat) (x : Ac × List Int), l[i]? = some x → x.2.length ≤ 1000000) := Lib.hid (fun i x hx => by
    unfold largeA at hbl
    rw [List.any_eq_false] at hbl
    have := hbl x (List.mem_iff_getElem?.2 ⟨i, hx⟩)
    simp at this
    omega)
  clear hbl
  go_wp2_with fail
  refine hlarge.mono ?_
  rintro r w3 ⟨rfl, rfl⟩
  clear hlarge
  go_wp2_with (with_reducible refine at_load 23 rfl ?_)
  refine Stop.go (wpList_load_blk (by rfl) 23 _ (by rfl) w.heap.size (by rfl) 23 _ HX.out _ u23 (by rfl) (by kernel_rfl) ?_)
  have hnew := new_any w3 a b c
  unfold frm at hnew
  go_wp2_with fail
  refine hnew.mono ?_
  rintro r w4 (⟨hno, rfl, hb4⟩ | ⟨nb, np, ni, e1, e2, e3, hfo, rfl, hmm, hb4⟩)
  · have hr := right15_any w4 a b c
    rw [decide_eq_false hno] at hr
    unfold frm at hr
    have HB4 := Lib.hid (HB.out.trans (hb4.mono HB.out.size))
    have HX4 := Lib.hid (HX.out.below hb4 HX.out.lt)
    clear hnew hno hb4 HX
    go_wp2_with (with_reducible refine at_load 23 rfl ?_)
    refine Stop.go (wpList_load_blk (by rfl) 23 _ (by rfl) w.heap.size (by rfl) 23 _ HX4.out _ u23 (by rfl) (by kernel_rfl) ?_)
    go_wp2_with fail
    refine hr.mono ?_
    rintro r w5 ⟨rfl, hb5⟩
    have HB5 := Lib.hid (HB4.out.trans (hb5.mono HB4.out.size))
    clear hr hb5
    go_wp2_with fail
    refine (known_any _).mono ?_
    rintro r w6 ⟨rfl, hb6⟩
    have HF := Lib.hid (HB5.out.trans (hb6.mono HB5.out.size))
    clear hb6
    go_wp2_with fail
    go_ret
    exact ⟨rfl, HF.out⟩
  subst e1 e2 e3
  have hr := right15_any w4 nb np ni
  rw [decide_eq_true hfo] at hr
  unfold frm at hr
  have HM4 := Lib.hid hmm
  have hok0 := Mt.fresh_ok hfo
  have HB4 := Lib.hid (HB.out.trans (hb4.mono HB.out.size))
  have HX4 := Lib.hid (HX.out.below hb4 HX.out.lt)
  have HFO := Lib.hid hfo
  have HOK0 := Lib.hid hok0
  have HS3 := Lib.hid (Nat.le_trans HS.out hb4.size)
  have HS2 := Lib.hid HS.out
  clear hnew hfo hmm hok0 hb4 HX HS
  generalize hgg : w3.heap.size + 1 = g at *
  go_wp2_with (with_reducible refine at_load 23 rfl ?_)
  refine Stop.go (wpList_load_blk (by rfl) 23 _ (by rfl) w.heap.size (by rfl) 23 _ HX4.out _ u23 (by rfl) (by kernel_rfl) ?_)
  go_wp2_with fail
  refine hr.mono ?_
  rintro r w5 ⟨rfl, hb5⟩
  have HB5 := Lib.hid (HB4.out.trans (hb5.mono HB4.out.size))
  have HX5 := Lib.hid (HX4.out.below hb5 HX4.out.lt)
  have hmt := (HM4.out.below hb5).tight
  have h16 := new16_any (w := w5) (X := fun z => w3.heap.size ≤ z ∧ z < w5.heap.size) (fun b q => q.2) nb np ni (by have := HFO.out; unfold FormOk at this; omega) (by have := HFO.out; unfold FormOk at this; omega) (by have := HFO.out; unfold FormOk at this; omega)
  unfold frm at h16
  have HMT := Lib.hid hmt
  clear hr hb5 hmt HM4 HX4
  obtain ⟨M, hM⟩ : ∃ M, Mt.fresh nb np ni nb np ni = M := ⟨_, rfl⟩
  rw [hM] at h16 HMT HOK0
  clear hM
  go_wp2_with (with_reducible refine at_load 23 rfl ?_)
  refine Stop.go (wpList_load_blk (by rfl) 23 _ (by rfl) w.heap.size (by rfl) 23 _ HX5.out _ u23 (by rfl) (by kernel_rfl) ?_)
  go_wp2_with fail
  refine h16.mono ?_
  rintro r w6 ⟨v, rfl, hrf, hb6⟩
  have hrf6 := hrf
  obtain ⟨A1, A2, A3, c1, c2, c3, rs, rfl, hR⟩ := hrf
  have HRF := Lib.hid hrf6
  have HMM := Lib.hid (HMT.out.below hb6)
  have HB6 := Lib.hid (HB5.out.trans (hb6.mono HB5.out.size))
  have HSZ := Lib.hid hb6.size
  clear h16 hrf6 hR hb6 HMT
  go_wp2_with (with_reducible refine at_store 36 rfl ?_)
  refine Stop.go (wpList_store_blk (by rfl) (by rfl) 36 _ _ (by rfl) w6.heap.size _ #[.int .i64 (M.nb : Int), .int .i64 (M.np : Int), .int .i64 (M.ni : Int), .slice A1 M.nb c1, .slice A2 M.np c2, .slice A3 M.ni c3] (by rfl) (by rfl) 36 (Blk.new w6 36 #[.int .i64 0, .int .i64 0, .int .i64 0, .slice none 0 0, .slice none 0 0, .slice none 0 0]) (by rfl) (by kernel_rfl) (by simp [Value.oneCell']) ?_)
  intro w7 hB7 hg7 hs7
  have hb7 : Below w6.heap.size w6 w7 := below_grown ((Below.refl w6.heap.size w6).alloc (Nat.le_refl _) (.cells #[.int .i64 0, .int .i64 0, .int .i64 0, .slice none 0 0, .slice none 0 0, .slice none 0 0] 36)) hg7 (Nat.le_refl _) (Nat.le_refl _)
  have HP : Hid (PyI w g w6.heap.size w7 M #[.int .i64 (M.nb : Int), .int .i64 (M.np : Int), .int .i64 (M.ni : Int), .slice A1 M.nb c1, .slice A2 M.np c2, .slice A3 M.ni c3] (fun z => w3.heap.size ≤ z ∧ z < w5.heap.size)) := Lib.hid ⟨HB6.out.trans (hb7.mono HB6.out.size), ⟨HMM.out.below hb7, (HRF.out.wide (fun z hz e => e.elim id (fun e => by omega))).below hb7, fun z q => Nat.lt_of_lt_of_le q.2 (Nat.le_trans HSZ.out hb7.size), fun z e => e ▸ hB7.lt⟩, HOK0.out, hB7, fun q => by have := HSZ.out; have := q.2; omega, fun z q => by have := HS2.out; have := q.1; omega, HB6.out.size⟩
  clear hB7 hg7 hs7 hb7 HMM HRF HB6 HSZ HB5 HX5 HS3 HB4 HOK0 HFO hgg
  generalize w6.heap.size = gx at *
  generalize (fun z => w3.heap.size ≤ z ∧ z < w5.heap.size) = S at *
  clear HS2 HB
  have hcl := same17_any HP.out.pl.mm (HP.out.pl.rf.wide (fun z _ e => .inl e)) HP.out.ok
  have z0 : w7.cell? ⟨gx, 0, none⟩ = some (.int .i64 (M.nb : Int)) := HP.out.gb.cell 0
  have z1 : w7.cell? ⟨gx, 1, none⟩ = some (.int .i64 (M.np : Int)) := HP.out.gb.cell 1
  have z2 : w7.cell? ⟨gx, 2, none⟩ = some (.int .i64 (M.ni : Int)) := HP.out.gb.cell 2
  have z3 : w7.cell? ⟨gx, 3, none⟩ = some (.slice A1 M.nb c1) := HP.out.gb.cell 3
  have z4 : w7.cell? ⟨gx, 4, none⟩ = some (.slice A2 M.np c2) := HP.out.gb.cell 4
  have z5 : w7.cell? ⟨gx, 5, none⟩ = some (.slice A3 M.ni c3) := HP.out.gb.cell 5
  go_wp2_with fail
  refine hcl.mono ?_
  rintro r w8 ⟨rfl, hb8⟩
  have HP8 := Lib.hid (HP.out.below hb8)
  clear hcl hb8 HP z0 z1 z2 z3 z4 z5
  go_wp2_with fail
  go_loopw [8] (fun i wv => ∃ q : Nat, q ≤ n ∧ i = .int .i64 q ∧ ∃ M A1 A2 A3 c1 c2 c3 S, Hid (PyI w g gx wv M #[.int .i64 (M.nb : Int), .int .i64 (M.np : Int), .int .i64 (M.ni : Int), .slice A1 M.nb c1, .slice A2 M.np c2, .slice A3 M.ni c3] S)) (fun i _ => n - (iOf i).toNat)
  case atStart => exact ⟨0, by omega, rfl, _, _, _, _, _, _, _, _, HP8⟩
  case round =>
    clear HP8
    obtain ⟨q, hq, rfl, M, A1, A2, A3, c1, c2, c3, S, HP⟩ := hrel
    by_cases hlt : q < n
    case neg =>
      have hd1 : decide (q < n) = false := decide_eq_false hlt
      have HLOW := Lib.hid HP.out.low
      clear hlt HP
      go_wp2_with fail
      refine (known_any _).mono ?_
      rintro r w9 ⟨rfl, hb9⟩
      have HF := Lib.hid (HLOW.out.trans (hb9.mono HLOW.out.size))
      clear hb9
      go_wp2_with fail
      go_ret
      exact ⟨rfl, HF.out⟩
    case pos =>
    have hd1 : decide (q < n) = true := decide_eq_true hlt
    obtain ⟨y, hx⟩ : ∃ y, l[q]? = some y := ⟨_, List.getElem?_eq_getElem (by have := HLN.out; omega)⟩
    obtain ⟨x, xs⟩ := y
    obtain ⟨ad, L, lk, eA, hrd, k0, k1, k2, k3, k4, k5, k6, k7⟩ := HA.out.at_ hx
    dsimp only at hrd k0 k1 k2 k3 k4 k5 k6 k7
    subst eA
    have HRD := Lib.hid hrd
    have HXS : Hid (xs.length ≤ 1000000) := Lib.hid (HSM.out q _ hx)
    have HE := Lib.hid (And.intro k0 (And.intro k1 (And.intro k2 (And.intro k3 (And.intro k4 (And.intro k5 (And.intro k6 k7)))))))
    have HPD := Lib.hid HP.out.drew
    obtain ⟨M1, hM1⟩ : ∃ M1, M.step x xs = M1 := ⟨_, rfl⟩
    have HM1 := Lib.hid hM1
    have HOK1 : Hid M1.ok := Lib.hid (by rw [← hM1]; exact HP.out.ok.does _ _)
    have HLT := Lib.hid hlt
    clear hrd hx k0 k1 k2 k3 k4 k5 k6 k7 hM1 hlt
    go_upto_region 12 with fail
    refine wp_region_np ?_
    refine wp_region_held_drew (S := fun W => Below w.heap.size w W ∧ Blk W gx 36 #[.int .i64 (M.nb : Int), .int .i64 (M.np : Int), .int .i64 (M.ni : Int), .slice A1 M.nb c1, .slice A2 M.np c2, .slice A3 M.ni c3]) (by kernel_rfl) (show (fun W => Below w.heap.size w W ∧ Blk W gx 36 #[.int .i64 (M.nb : Int), .int .i64 (M.np : Int), .int .i64 (M.ni : Int), .slice A1 M.nb c1, .slice A2 M.np c2, .slice A3 M.ni c3]) wr.drew from ⟨HPD.out.low, HPD.out.gb⟩) (fun hHeld => ?_)
    generalize hv0 : wr.drew = V0 at *
    clear hv0 HP
    refine wpAnyH_takeAt (i := 0) (d := 53) (v := ?vq0x) rfl rfl (by kernel_rfl) (by kernel_rfl) (by kernel_rfl) (fun _ _ _ h => h) (Or.inl ⟨by rfl, ?hyq0x⟩) hHeld ?_
    case hyq0x =>
      intro W hSw
      clear hSw
      (go_simp; try with_reducible rfl)
    simp only [List.setIfInBounds_toArray, List.set_cons_zero, List.set_cons_succ]
    refine wpAnyH_takeAt (i := 1) (d := 54) (v := ?vq1x) rfl rfl (by kernel_rfl) (by kernel_rfl) (by kernel_rfl) (fun _ _ _ h => h) (Or.inl ⟨by rfl, ?hyq1x⟩) hHeld ?_
    case hyq1x =>
      intro W hSw
      obtain ⟨kb, kl⟩ := hSw; have q0 : W.cell? ⟨gx, 0, none⟩ = some (.int .i64 (M.nb : Int)) := kl.cell 0; have q1 : W.cell? ⟨gx, 1, none⟩ = some (.int .i64 (M.np : Int)) := kl.cell 1; have q2 : W.cell? ⟨gx, 2, none⟩ = some (.int .i64 (M.ni : Int)) := kl.cell 2; have q3 : W.cell? ⟨gx, 3, none⟩ = some (.slice A1 M.nb c1) := kl.cell 3; have q4 : W.cell? ⟨gx, 4, none⟩ = some (.slice A2 M.np c2) := kl.cell 4; have q5 : W.cell? ⟨gx, 5, none⟩ = some (.slice A3 M.ni c3) := kl.cell 5; have e0 : W.cell? (ad.add (q * 8)) = some (.int .i64 x.kind) := cell_below HE.out.1 kb; have e1 : W.cell? ⟨(ad.add (q * 8)).block, (ad.add (q * 8)).off + 1, none⟩ = some (.int .i64 x.a) := cell_below HE.out.2.1 kb; have e2 : W.cell? ⟨(ad.add (q * 8)).block, (ad.add (q * 8)).off + 2, none⟩ = some (.int .i64 x.b) := cell_below HE.out.2.2.1 kb; have e3 : W.cell? ⟨(ad.add (q * 8)).block, (ad.add (q * 8)).off + 3, none⟩ = some (.int .i64 x.n) := cell_below HE.out.2.2.2.1 kb; have e4 : W.cell? ⟨(ad.add (q * 8)).block, (ad.add (q * 8)).off + 4, none⟩ = some (.int .i64 x.o) := cell_below HE.out.2.2.2.2.1 kb; have e5 : W.cell? ⟨(ad.add (q * 8)).block, (ad.add (q * 8)).off + 5, none⟩ = some (.bool x.flag) := cell_below HE.out.2.2.2.2.2.1 kb; have e6 : W.cell? ⟨(ad.add (q * 8)).block, (ad.add (q * 8)).off + 6, none⟩ = some (.bool x.near) := cell_below HE.out.2.2.2.2.2.2.1 kb; have e7 : W.cell? ⟨(ad.add (q * 8)).block, (ad.add (q * 8)).off + 7, none⟩ = some (.slice L xs.length lk) := cell_below HE.out.2.2.2.2.2.2.2 kb; clear kl kb
      (go_simp; try with_reducible rfl)
    simp only [List.setIfInBounds_toArray, List.set_cons_zero, List.set_cons_succ]
    refine wpAnyH_takeAt (i := 2) (d := 55) (v := ?vq2x) rfl rfl (by kernel_rfl) (by kernel_rfl) (by kernel_rfl) (fun _ _ _ h => h) (Or.inl ⟨by rfl, ?hyq2x⟩) hHeld ?_
    case hyq2x =>
      intro W hSw
      clear hSw
      (go_simp; try with_reducible rfl)
    simp only [List.setIfInBounds_toArray, List.set_cons_zero, List.set_cons_succ]
    refine wpAnyH_takeAt (i := 3) (d := 56) (v := ?vq3x) rfl rfl (by kernel_rfl) (by kernel_rfl) (by kernel_rfl) (fun _ _ _ h => h) (Or.inl ⟨by rfl, ?hyq3x⟩) hHeld ?_
    case hyq3x =>
      intro W hSw
      clear hSw
      (go_simp; try with_reducible rfl)
    simp only [List.setIfInBounds_toArray, List.set_cons_zero, List.set_cons_succ]
    refine wpAnyH_takeAt (i := 4) (d := 57) (v := ?vq4x) rfl rfl (by kernel_rfl) (by kernel_rfl) (by kernel_rfl) (fun _ _ _ h => h) (Or.inl ⟨by rfl, ?hyq4x⟩) hHeld ?_
    case hyq4x =>
      intro W hSw
      clear hSw; have h9 := HLT.out
      (go_simp; try with_reducible rfl)
    simp only [List.setIfInBounds_toArray, List.set_cons_zero, List.set_cons_succ]
    refine wpAnyH_takeAt (i := 5) (d := 58) (v := ?vq5x) rfl rfl (by kernel_rfl) (by kernel_rfl) (by kernel_rfl) (fun _ _ _ h => h) (Or.inl ⟨by rfl, ?hyq5x⟩) hHeld ?_
    case hyq5x =>
      intro W hSw
      obtain ⟨kb, kl⟩ := hSw; have q0 : W.cell? ⟨gx, 0, none⟩ = some (.int .i64 (M.nb : Int)) := kl.cell 0; have q1 : W.cell? ⟨gx, 1, none⟩ = some (.int .i64 (M.np : Int)) := kl.cell 1; have q2 : W.cell? ⟨gx, 2, none⟩ = some (.int .i64 (M.ni : Int)) := kl.cell 2; have q3 : W.cell? ⟨gx, 3, none⟩ = some (.slice A1 M.nb c1) := kl.cell 3; have q4 : W.cell? ⟨gx, 4, none⟩ = some (.slice A2 M.np c2) := kl.cell 4; have q5 : W.cell? ⟨gx, 5, none⟩ = some (.slice A3 M.ni c3) := kl.cell 5; have e0 : W.cell? (ad.add (q * 8)) = some (.int .i64 x.kind) := cell_below HE.out.1 kb; have e1 : W.cell? ⟨(ad.add (q * 8)).block, (ad.add (q * 8)).off + 1, none⟩ = some (.int .i64 x.a) := cell_below HE.out.2.1 kb; have e2 : W.cell? ⟨(ad.add (q * 8)).block, (ad.add (q * 8)).off + 2, none⟩ = some (.int .i64 x.b) := cell_below HE.out.2.2.1 kb; have e3 : W.cell? ⟨(ad.add (q * 8)).block, (ad.add (q * 8)).off + 3, none⟩ = some (.int .i64 x.n) := cell_below HE.out.2.2.2.1 kb; have e4 : W.cell? ⟨(ad.add (q * 8)).block, (ad.add (q * 8)).off + 4, none⟩ = some (.int .i64 x.o) := cell_below HE.out.2.2.2.2.1 kb; have e5 : W.cell? ⟨(ad.add (q * 8)).block, (ad.add (q * 8)).off + 5, none⟩ = some (.bool x.flag) := cell_below HE.out.2.2.2.2.2.1 kb; have e6 : W.cell? ⟨(ad.add (q * 8)).block, (ad.add (q * 8)).off + 6, none⟩ = some (.bool x.near) := cell_below HE.out.2.2.2.2.2.2.1 kb; have e7 : W.cell? ⟨(ad.add (q * 8)).block, (ad.add (q * 8)).off + 7, none⟩ = some (.slice L xs.length lk) := cell_below HE.out.2.2.2.2.2.2.2 kb; clear kl kb
      (go_simp; try with_reducible rfl)
    simp only [List.setIfInBounds_toArray, List.set_cons_zero, List.set_cons_succ]
    refine wpAnyH_ready (rs := [6, 10]) (by kernel_rfl) (by simp) (AllReadyH.cons rfl (fun K hK => ?_) (AllReadyH.cons rfl (fun K hK => ?_) AllReadyH.nil))
    · go_simp
      have hpl := HPD.out.pl
      have hdo := does_any (lk := lk) hpl HPD.out.ok x (ActR.ints (A := some ad) (l := l) HRD.out (HPD.out.low) (fun z e => (e.elim (HPD.out.lo z) (fun e => e ▸ HPD.out.glo)))) HXS.out
      rw [HM1.out] at hdo
      unfold aArr at hdo
      refine hdo.mono ?_
      rintro r V1 ⟨v', S1, rfl, hpl1, hs1, ht1⟩
      obtain ⟨B1, B2, B3, d1, d2, d3, rs1, rfl, hR1⟩ := hpl1.rf
      dsimp only
      have hHeld2 : (fun W => Below w.heap.size w W ∧ Blk W gx 36 #[.int .i64 (M.nb : Int), .int .i64 (M.np : Int), .int .i64 (M.ni : Int), .slice A1 M.nb c1, .slice A2 M.np c2, .slice A3 M.ni c3]) V1 := ⟨hHeld.1.trans (ht1.below hHeld.1.size (fun z e => HPD.out.lo z e)), hHeld.2.keep ht1 HPD.out.ng⟩
      have HP1 := Lib.hid hpl1
      have HS1 := Lib.hid hs1
      have HT1 := Lib.hid ht1
      refine hK.out _ _ hHeld2 (fun hHeld => ?_)
      clear hK K hdo hHeld2 hpl hpl1 hs1 ht1 hR1
      try simp only [List.setIfInBounds_toArray, List.set_cons_zero, List.set_cons_succ]
      refine wpAnyH_takeAt (i := 7) (d := 52) (v := ?vq6x) rfl rfl (by kernel_rfl) (by kernel_rfl) (by kernel_rfl) (fun _ _ _ h => h) (Or.inl ⟨by rfl, ?hyq6x⟩) hHeld ?_
      case hyq6x =>
        intro W hSw
        clear hSw
        (go_simp; try with_reducible rfl)
      simp only [List.setIfInBounds_toArray, List.set_cons_zero, List.set_cons_succ]
      refine wpAnyH_takeAt (i := 8) (d := 60) (v := ?vq7x) rfl rfl (by kernel_rfl) (by kernel_rfl) (by kernel_rfl) (fun _ _ _ h => h) (Or.inl ⟨by rfl, ?hyq7x⟩) hHeld ?_
      case hyq7x =>
        intro W hSw
        clear hSw
        (go_simp; try with_reducible rfl)
      simp only [List.setIfInBounds_toArray, List.set_cons_zero, List.set_cons_succ]
      refine wpAnyH_takeAt (i := 9) (d := 61) (v := ?vq8x) rfl rfl (by kernel_rfl) (by kernel_rfl) (by kernel_rfl) (fun _ _ _ h => h) (Or.inl ⟨by rfl, ?hyq8x⟩) hHeld ?_
      case hyq8x =>
        intro W hSw
        clear hSw
        (go_simp; try with_reducible rfl)
      simp only [List.setIfInBounds_toArray, List.set_cons_zero, List.set_cons_succ]
      refine wpAnyH_ready (rs := [10]) (by kernel_rfl) (by simp) (AllReadyH.cons rfl (fun K hK => ?_) AllReadyH.nil)
      go_simp
      have hHeld2 : (fun W => Below w.heap.size w W ∧ Blk W gx 36 #[.int .i64 (M.nb : Int), .int .i64 (M.np : Int), .int .i64 (M.ni : Int), .slice A1 M.nb c1, .slice A2 M.np c2, .slice A3 M.ni c3]) (V1.alloc (.cells #[.int .i64 0, .int .i64 0, .int .i64 0, .slice none 0 0, .slice none 0 0, .slice none 0 0] 36)) := ⟨hHeld.1.alloc hHeld.1.size _, hHeld.2.alloc _⟩
      refine hK.out _ _ hHeld2 (fun hHeld => ?_)
      clear hK K hHeld2
      try simp only [List.setIfInBounds_toArray, List.set_cons_zero, List.set_cons_succ]
      refine wpAnyH_ready (rs := [11]) (by kernel_rfl) (by simp) (AllReadyH.cons rfl (fun K hK => ?_) AllReadyH.nil)
      refine step_store_blk (by rfl) rfl 36 _ _ rfl V1.heap.size _ #[.int .i64 (M1.nb : Int), .int .i64 (M1.np : Int), .int .i64 (M1.ni : Int), .slice B1 M1.nb d1, .slice B2 M1.np d2, .slice B3 M1.ni d3] rfl rfl 36 (Blk.new V1 36 #[.int .i64 0, .int .i64 0, .int .i64 0, .slice none 0 0, .slice none 0 0, .slice none 0 0]) rfl (by kernel_rfl) (by simp [Value.oneCell']) ?_
      intro V2 hB2 hg2 hs2
      have hT2 : Turn (fun z => z = V1.heap.size) (V1.alloc (.cells #[.int .i64 0, .int .i64 0, .int .i64 0, .slice none 0 0, .slice none 0 0, .slice none 0 0] 36)) V2 := Turn.of_grown hg2 (fun r e => by injection e with e; exact e.symm)
      have HJ : Hid (PyJ w g gx V1.heap.size V2 M1 #[.int .i64 (M1.nb : Int), .int .i64 (M1.np : Int), .int .i64 (M1.ni : Int), .slice B1 M1.nb d1, .slice B2 M1.np d2, .slice B3 M1.ni d3] S1) := Lib.hid (HPD.out.first HOK1.out HP1.out HS1.out HT1.out hT2 hB2)
      have hHeld2 : (fun W => Below w.heap.size w W ∧ Blk W gx 36 #[.int .i64 (M.nb : Int), .int .i64 (M.np : Int), .int .i64 (M.ni : Int), .slice A1 M.nb c1, .slice A2 M.np c2, .slice A3 M.ni c3]) V2 := ⟨HJ.out.low, hHeld.2.keep hT2 (fun e => HJ.out.ne e)⟩
      refine hK.out _ _ hHeld2 (fun hHeld => ?_)
      clear hK K hHeld2 hT2 hB2 hg2 hs2
      try simp only [List.setIfInBounds_toArray, List.set_cons_zero, List.set_cons_succ]
      refine wpAnyH_takeAt (i := 12) (d := 10) (v := ?vq9x) rfl rfl (by kernel_rfl) (by kernel_rfl) (by kernel_rfl) (fun _ _ _ h => h) (Or.inl ⟨by rfl, ?hyq9x⟩) hHeld ?_
      case hyq9x =>
        intro W hSw
        clear hSw
        (go_simp; try with_reducible rfl)
      simp only [List.setIfInBounds_toArray, List.set_cons_zero, List.set_cons_succ]
      refine wpAnyH_done (by kernel_rfl) ?_ _
      have HG2 := Lib.hid hHeld.2
      clear hHeld HPD HP1 HS1 HT1
      generalize V1.heap.size = ox at *
      have hcl := same17_any HJ.out.pl.mm (HJ.out.pl.rf.wide (fun z _ e => .inl e)) HJ.out.ok
      have z0 : V2.cell? ⟨ox, 0, none⟩ = some (.int .i64 (M1.nb : Int)) := HJ.out.ob.cell 0
      have z1 : V2.cell? ⟨ox, 1, none⟩ = some (.int .i64 (M1.np : Int)) := HJ.out.ob.cell 1
      have z2 : V2.cell? ⟨ox, 2, none⟩ = some (.int .i64 (M1.ni : Int)) := HJ.out.ob.cell 2
      have z3 : V2.cell? ⟨ox, 3, none⟩ = some (.slice B1 M1.nb d1) := HJ.out.ob.cell 3
      have z4 : V2.cell? ⟨ox, 4, none⟩ = some (.slice B2 M1.np d2) := HJ.out.ob.cell 4
      have z5 : V2.cell? ⟨ox, 5, none⟩ = some (.slice B3 M1.ni d3) := HJ.out.ob.cell 5
      go_wp2_with fail
      refine hcl.mono ?_
      rintro r V3 ⟨rfl, hb3⟩
      have HJ3 := Lib.hid (HJ.out.below hb3)
      have HG3 := Lib.hid (HG2.out.below hb3 HG2.out.lt)
      clear hcl hb3 HJ HG2 z0 z1 z2 z3 z4 z5
      go_wp2_with (with_reducible refine at_load 36 rfl ?_)
      refine Stop.go (wpList_load_blk (by rfl) 36 _ (by rfl) ox (by rfl) 36 _ HJ3.out.ob _ und36 (by rfl) (by kernel_rfl) ?_)
      go_wp2_with (with_reducible refine at_store 36 rfl ?_)
      refine Stop.go (wpList_store_blk (by rfl) (by rfl) 36 _ _ (by rfl) gx _ #[.int .i64 (M1.nb : Int), .int .i64 (M1.np : Int), .int .i64 (M1.ni : Int), .slice B1 M1.nb d1, .slice B2 M1.np d2, .slice B3 M1.ni d3] (by rfl) (by rfl) 36 HG3.out (by rfl) (by kernel_rfl) (by simp [Value.oneCell']) ?_)
      intro V4 hB4 hg4 hs4
      have hT4 : Turn (fun z => z = gx) V3 V4 := Turn.of_grown hg4 (fun r e => by injection e with e; exact e.symm)
      have HP4 := Lib.hid (HJ3.out.turn hT4 hB4)
      clear hB4 hg4 hs4 hT4 HJ3 HG3
      go_wp2_with fail
      go_round
      case rel => exact ⟨q + 1, by have := HLT.out; omega, by go_num, _, _, _, _, _, _, _, _, HP4⟩
      case measure => simp [iOf]; have := HLT.out; omega
    · go_simp
      have hHeld2 : (fun W => Below w.heap.size w W ∧ Blk W gx 36 #[.int .i64 (M.nb : Int), .int .i64 (M.np : Int), .int .i64 (M.ni : Int), .slice A1 M.nb c1, .slice A2 M.np c2, .slice A3 M.ni c3]) (V0.alloc (.cells #[.int .i64 0, .int .i64 0, .int .i64 0, .slice none 0 0, .slice none 0 0, .slice none 0 0] 36)) := ⟨hHeld.1.alloc hHeld.1.size _, hHeld.2.alloc _⟩
      refine hK.out _ _ hHeld2 (fun hHeld => ?_)
      clear hK K hHeld2
      try simp only [List.setIfInBounds_toArray, List.set_cons_zero, List.set_cons_succ]
      refine wpAnyH_ready (rs := [6]) (by kernel_rfl) (by simp) (AllReadyH.cons rfl (fun K hK => ?_) AllReadyH.nil)
      go_simp
      have hpl := HPD.out.laid
      have hdo := does_any (lk := lk) hpl HPD.out.ok x (ActR.ints (A := some ad) (l := l) HRD.out (HPD.out.low.trans (((Below.refl _ _).alloc (Nat.le_refl _) _).mono HPD.out.low.size)) (fun z e => (e.elim (HPD.out.lo z) (fun e => e.elim (fun e => e ▸ HPD.out.glo) (fun e => e ▸ HPD.out.low.size))))) HXS.out
      rw [HM1.out] at hdo
      unfold aArr at hdo
      refine hdo.mono ?_
      rintro r V1 ⟨v', S1, rfl, hpl1, hs1, ht1⟩
      obtain ⟨B1, B2, B3, d1, d2, d3, rs1, rfl, hR1⟩ := hpl1.rf
      dsimp only
      have hHeld2 : (fun W => Below w.heap.size w W ∧ Blk W gx 36 #[.int .i64 (M.nb : Int), .int .i64 (M.np : Int), .int .i64 (M.ni : Int), .slice A1 M.nb c1, .slice A2 M.np c2, .slice A3 M.ni c3]) V1 := ⟨hHeld.1.trans (ht1.below hHeld.1.size (fun z e => HPD.out.lo z e)), hHeld.2.keep ht1 HPD.out.ng⟩
      have HP1 := Lib.hid hpl1
      have HS1 := Lib.hid hs1
      have HT1 := Lib.hid ht1
      refine hK.out _ _ hHeld2 (fun hHeld => ?_)
      clear hK K hdo hHeld2 hpl hpl1 hs1 ht1 hR1
      try simp only [List.setIfInBounds_toArray, List.set_cons_zero, List.set_cons_succ]
      refine wpAnyH_takeAt (i := 7) (d := 52) (v := ?vq10x) rfl rfl (by kernel_rfl) (by kernel_rfl) (by kernel_rfl) (fun _ _ _ h => h) (Or.inl ⟨by rfl, ?hyq10x⟩) hHeld ?_
      case hyq10x =>
        intro W hSw
        clear hSw
        (go_simp; try with_reducible rfl)
      simp only [List.setIfInBounds_toArray, List.set_cons_zero, List.set_cons_succ]
      refine wpAnyH_takeAt (i := 8) (d := 60) (v := ?vq11x) rfl rfl (by kernel_rfl) (by kernel_rfl) (by kernel_rfl) (fun _ _ _ h => h) (Or.inl ⟨by rfl, ?hyq11x⟩) hHeld ?_
      case hyq11x =>
        intro W hSw
        clear hSw
        (go_simp; try with_reducible rfl)
      simp only [List.setIfInBounds_toArray, List.set_cons_zero, List.set_cons_succ]
      refine wpAnyH_takeAt (i := 9) (d := 61) (v := ?vq12x) rfl rfl (by kernel_rfl) (by kernel_rfl) (by kernel_rfl) (fun _ _ _ h => h) (Or.inl ⟨by rfl, ?hyq12x⟩) hHeld ?_
      case hyq12x =>
        intro W hSw
        clear hSw
        (go_simp; try with_reducible rfl)
      simp only [List.setIfInBounds_toArray, List.set_cons_zero, List.set_cons_succ]
      refine wpAnyH_ready (rs := [11]) (by kernel_rfl) (by simp) (AllReadyH.cons rfl (fun K hK => ?_) AllReadyH.nil)
      refine step_store_blk (by rfl) rfl 36 _ _ rfl V0.heap.size _ #[.int .i64 (M1.nb : Int), .int .i64 (M1.np : Int), .int .i64 (M1.ni : Int), .slice B1 M1.nb d1, .slice B2 M1.np d2, .slice B3 M1.ni d3] rfl rfl 36 ((Blk.new V0 36 #[.int .i64 0, .int .i64 0, .int .i64 0, .slice none 0 0, .slice none 0 0, .slice none 0 0]).keep HT1.out (fun e => by have := HPD.out.pl.lt _ e; omega)) rfl (by kernel_rfl) (by simp [Value.oneCell']) ?_
      intro V2 hB2 hg2 hs2
      have hT2 : Turn (fun z => z = V0.heap.size) V1 V2 := Turn.of_grown hg2 (fun r e => by injection e with e; exact e.symm)
      have HJ : Hid (PyJ w g gx V0.heap.size V2 M1 #[.int .i64 (M1.nb : Int), .int .i64 (M1.np : Int), .int .i64 (M1.ni : Int), .slice B1 M1.nb d1, .slice B2 M1.np d2, .slice B3 M1.ni d3] S1) := Lib.hid (HPD.out.second HOK1.out HP1.out HS1.out HT1.out hT2 hB2)
      have hHeld2 : (fun W => Below w.heap.size w W ∧ Blk W gx 36 #[.int .i64 (M.nb : Int), .int .i64 (M.np : Int), .int .i64 (M.ni : Int), .slice A1 M.nb c1, .slice A2 M.np c2, .slice A3 M.ni c3]) V2 := ⟨HJ.out.low, hHeld.2.keep hT2 (fun e => HJ.out.ne e)⟩
      refine hK.out _ _ hHeld2 (fun hHeld => ?_)
      clear hK K hHeld2 hT2 hB2 hg2 hs2
      try simp only [List.setIfInBounds_toArray, List.set_cons_zero, List.set_cons_succ]
      refine wpAnyH_takeAt (i := 12) (d := 10) (v := ?vq13x) rfl rfl (by kernel_rfl) (by kernel_rfl) (by kernel_rfl) (fun _ _ _ h => h) (Or.inl ⟨by rfl, ?hyq13x⟩) hHeld ?_
      case hyq13x =>
        intro W hSw
        clear hSw
        (go_simp; try with_reducible rfl)
      simp only [List.setIfInBounds_toArray, List.set_cons_zero, List.set_cons_succ]
      refine wpAnyH_done (by kernel_rfl) ?_ _
      have HG2 := Lib.hid hHeld.2
      clear hHeld HPD HP1 HS1 HT1
      generalize V0.heap.size = ox at *
      have hcl := same17_any HJ.out.pl.mm (HJ.out.pl.rf.wide (fun z _ e => .inl e)) HJ.out.ok
      have z0 : V2.cell? ⟨ox, 0, none⟩ = some (.int .i64 (M1.nb : Int)) := HJ.out.ob.cell 0
      have z1 : V2.cell? ⟨ox, 1, none⟩ = some (.int .i64 (M1.np : Int)) := HJ.out.ob.cell 1
      have z2 : V2.cell? ⟨ox, 2, none⟩ = some (.int .i64 (M1.ni : Int)) := HJ.out.ob.cell 2
      have z3 : V2.cell? ⟨ox, 3, none⟩ = some (.slice B1 M1.nb d1) := HJ.out.ob.cell 3
      have z4 : V2.cell? ⟨ox, 4, none⟩ = some (.slice B2 M1.np d2) := HJ.out.ob.cell 4
      have z5 : V2.cell? ⟨ox, 5, none⟩ = some (.slice B3 M1.ni d3) := HJ.out.ob.cell 5
      go_wp2_with fail
      refine hcl.mono ?_
      rintro r V3 ⟨rfl, hb3⟩
      have HJ3 := Lib.hid (HJ.out.below hb3)
      have HG3 := Lib.hid (HG2.out.below hb3 HG2.out.lt)
      clear hcl hb3 HJ HG2 z0 z1 z2 z3 z4 z5
      go_wp2_with (with_reducible refine at_load 36 rfl ?_)
      refine Stop.go (wpList_load_blk (by rfl) 36 _ (by rfl) ox (by rfl) 36 _ HJ3.out.ob _ und36 (by rfl) (by kernel_rfl) ?_)
      go_wp2_with (with_reducible refine at_store 36 rfl ?_)
      refine Stop.go (wpList_store_blk (by rfl) (by rfl) 36 _ _ (by rfl) gx _ #[.int .i64 (M1.nb : Int), .int .i64 (M1.np : Int), .int .i64 (M1.ni : Int), .slice B1 M1.nb d1, .slice B2 M1.np d2, .slice B3 M1.ni d3] (by rfl) (by rfl) 36 HG3.out (by rfl) (by kernel_rfl) (by simp [Value.oneCell']) ?_)
      intro V4 hB4 hg4 hs4
      have hT4 : Turn (fun z => z = gx) V3 V4 := Turn.of_grown hg4 (fun r e => by injection e with e; exact e.symm)
      have HP4 := Lib.hid (HJ3.out.turn hT4 hB4)
      clear hB4 hg4 hs4 hT4 HJ3 HG3
      go_wp2_with fail
      go_round
      case rel => exact ⟨q + 1, by have := HLT.out; omega, by go_num, _, _, _, _, _, _, _, _, HP4⟩
      case measure => simp [iOf]; have := HLT.out; omega
end Go.Proofs.YtpmdicbhliclcaaGreat
