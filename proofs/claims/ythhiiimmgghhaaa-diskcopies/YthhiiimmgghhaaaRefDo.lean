/-
  The document's Do: a thing is done, or refused. Conditions: bounds.
-/
import Derived.Test.YthhiiimmgghhaaaRefN
namespace Go.Proofs.Ythhiiimmgghhaaa
open Go.RowKit
/-- Why a thing is refused, or 0. -/
def doC (s : St) (t : RT) : Int := if t.what = 0 then putC s t.name t.bytes else if t.what = 1 then cutC s t.name t.n else missC s.files t.name
def RDk.did (d : RDk) (t : RT) : RDk := ⟨d.room, d.lasts, d.waits ++ [t]⟩
theorem RDk.did_st (d : RDk) (t : RT) : (d.did t).st = d.st.done t.th := by unfold RDk.did RDk.st St.done; simp
/-- A disk of the document's, behind a thing that may be done. -/
def RDk.then (d : RDk) (t : RT) : RDk := if doC d.st t = 0 then d.did t else d
def DidRD (w : World) (X : Nat → Prop) (d : RDk) (t : RT) (e : Ending) (w' : World) : Prop := ∃ cs, e = .returned (.tuple #[.agg cs, .int .i64 (doC d.st t)]) ∧ RDAt w' X (d.then t) cs ∧ Below w.heap.size w w'
theorem Blk.three {w : World} {g : Nat} {t : TypeId} {a b c : Value} (h : Blk w g t #[a, b, c]) : w.cell? ⟨g, 0, none⟩ = some a ∧ w.cell? ⟨g, 1, none⟩ = some b ∧ w.cell? ⟨g, 2, none⟩ = some c := ⟨h.cell 0, h.cell 1, h.cell 2⟩
theorem doC_nm {s : St} {t : RT} (h : isNm t.name = false) : doC s t = 130 := by
  unfold doC putC cutC missC
  rw [h]
  simp
theorem doC_none {s : St} {t : RT} (h : isNm t.name = true) (h0 : t.what ≠ 0) (hf : find s.files t.name = none) : doC s t = 5 := by
  unfold doC cutC missC
  rw [h, hf]
  simp [h0]
theorem doC_range {s : St} {t : RT} {b : Bs} (h : isNm t.name = true) (h1 : t.what = 1) (hf : find s.files t.name = some b) (hn : t.n < 0 ∨ (b.length : Int) < t.n) : doC s t = 4 := by
  unfold doC cutC missC sizeF
  rw [h, hf, h1]
  simp
  omega
theorem doC_room {s : St} {t : RT} (h : isNm t.name = true) (h0 : t.what = 0) (hr : (s.room : Int) - (total s.files : Int) < (t.bytes.length : Int)) : doC s t = 131 := by
  unfold doC putC
  rw [h, h0]
  simp
  omega
theorem doC_put {s : St} {t : RT} (h : isNm t.name = true) (h0 : t.what = 0) (hr : (t.bytes.length : Int) ≤ (s.room : Int) - (total s.files : Int)) : doC s t = 0 := by
  unfold doC putC
  rw [h, h0]
  simp
  omega
theorem doC_cut {s : St} {t : RT} {b : Bs} (h : isNm t.name = true) (h1 : t.what = 1) (hf : find s.files t.name = some b) (hn : 0 ≤ t.n ∧ t.n ≤ (b.length : Int)) : doC s t = 0 := by
  unfold doC cutC missC sizeF
  rw [h, hf, h1]
  simp
  omega
theorem doC_rem {s : St} {t : RT} {b : Bs} (h : isNm t.name = true) (h1 : t.what = 2) (hf : find s.files t.name = some b) : doC s t = 0 := by
  unfold doC missC
  rw [h, hf, h1]
  simp
theorem did_refused {w w' : World} {X : Nat → Prop} {d : RDk} {t : RT} {cs : Array Value} {k : Int} (hk : doC d.st t = k) (h0 : k ≠ 0) (h : RDAt w' X d cs) (hb : Below w.heap.size w w') : DidRD w X d t (.returned (.tuple #[.agg cs, .int .i64 k])) w' :=
  ⟨cs, by rw [hk], by unfold RDk.then; rw [if_neg (by omega)]; exact h, hb⟩
/-- A slice of things, one more behind. -/
theorem RTs.snoc {w : World} {X : Nat → Prop} {ts : List RT} {css : List (Array Value)} {t : RT} {ct : Array Value} {A : Option Addr} {q c : Nat} (ho : OwnK w 65 4 (.slice A q c) (css ++ [ct])) (hX : ∀ g, Value.ownBlock (.slice A q c) = some g → ¬ X g)
    (hcl : css.length = ts.length) (hcs : ∀ (i : Nat) (t : RT) (cs : Array Value), ts[i]? = some t → css[i]? = some cs → RTAt w X t cs) (ht : RTAt w X t ct) : RTs w X A q (ts ++ [t]) := by
  refine ⟨css ++ [ct], ho.rd hX, by simp [hcl], fun i u cs e1 e2 => ?_⟩
  rcases Nat.lt_or_ge i ts.length with hi | hi
  · rw [List.getElem?_append_left hi] at e1
    rw [List.getElem?_append_left (by omega)] at e2
    exact hcs i u cs e1 e2
  · rw [List.getElem?_append_right hi] at e1
    rw [List.getElem?_append_right (by omega)] at e2
    rcases hj : i - ts.length with _ | j
    · rw [hj] at e1
      rw [hcl, hj] at e2
      simp at e1 e2
      subst e1 e2
      exact ht
    · rw [hj] at e1
      simp at e1
/-- What Used tells, wherever the files lie as they lay. -/
def UsedAt (A : Option Addr) (q c : Nat) (k : Nat) (w2 : World) : Prop := ∀ W, Below w2.heap.size w2 W → Calls Try.prog 60 #[.slice A q c] W fun e w' => e = .returned (.int .i64 (k : Int)) ∧ w' = W
theorem UsedAt.same {A : Option Addr} {q c k : Nat} {w2 W' : World} (h : UsedAt A q c k w2) (e : W'.heap = w2.heap := by rfl) (e2 : W'.os = w2.os := by rfl) (e3 : W'.tape = w2.tape := by rfl) (e4 : W'.output = w2.output := by rfl) : UsedAt A q c k W' := fun W hb =>
  h W ⟨hb.os.trans e2, hb.tape.trans e3, hb.output.trans e4, by have := hb.size; rw [e] at this; exact this, fun i hi => by have := hb.block i (by rw [e]; exact hi); rw [e] at this; exact this⟩
theorem UsedAt.used {A : Option Addr} {q c k : Nat} {w2 : World} (h : UsedAt A q c k w2) (W : World) (e : W.heap = w2.heap) (e2 : W.os = w2.os := by rfl) (e3 : W.tape = w2.tape := by rfl) (e4 : W.output = w2.output := by rfl) : Calls Try.prog 60 #[.slice A q c] W fun e w' => e = .returned (.int .i64 (k : Int)) ∧ w' = W :=
  h W ⟨e2, e3, e4, by rw [e]; exact Nat.le_refl _, fun i _ => by rw [e]⟩
theorem rd_keep1 {W N : World} {z0 z5 k n : Nat} {css : List (Array Value)} (h : Rd W No k (some ⟨z5, 0, none⟩) n css) (ht : Turn (fun b => b = z0) W N) (hne : z5 ≠ z0) : Rd N No k (some ⟨z5, 0, none⟩) n css :=
  ⟨h.1, h.2.1, fun hn => by
    obtain ⟨ad, e, hb, hx, hc⟩ := h.2.2 hn
    cases e
    exact ⟨_, rfl, Nat.lt_of_lt_of_le hb ht.size, hx, fun j u hu => (ht.cell (p := Addr.add ⟨z5, 0, none⟩ j) (by rw [block_of_add]; exact hb) (by rw [block_of_add]; exact hne)).trans (hc j u hu)⟩⟩
theorem did_done {w w' : World} {X : Nat → Prop} {d : RDk} {t : RT} {A A6 : Option Addr} {n c q6 c6 : Nat} {css : List (Array Value)} {ct : Array Value} (hl : RFs w X A n d.lasts) (hnc : n ≤ c) (hcm : c ≤ maxLen) (ht : RTAt w X t ct)
    (hcl : css.length = d.waits.length) (hcs : ∀ (i : Nat) (t : RT) (cs : Array Value), d.waits[i]? = some t → css[i]? = some cs → RTAt w X t cs) (hk : doC d.st t = 0) (ho : OwnK w' 65 4 (.slice A6 q6 c6) (css ++ [ct]))
    (hv : ∀ g, Value.ownBlock (.slice A6 q6 c6) = some g → ¬ X g) (hq : q6 ≤ c6) (hc : c6 ≤ maxLen) (hb : Below w.heap.size w w') : DidRD w X d t (.returned (.tuple #[.agg #[.int .i64 (d.room : Int), .slice A n c, .slice A6 q6 c6], .int .i64 0])) w' :=
  ⟨_, by rw [hk], by
    unfold RDk.then
    rw [if_pos hk]
    exact ⟨A, n, c, A6, q6, c6, rfl, hl.below hb, hnc, hcm, RTs.snoc ho hv hcl (fun i u cs e1 e2 => (hcs i u cs e1 e2).below hb) (ht.below hb), hq, hc⟩, hb⟩
set_option maxRecDepth 100000 in
set_option maxHeartbeats 16000000 in
theorem refDo_any {w : World} {X : Nat → Prop} {d : RDk} {cs ct : Array Value} {t : RT} (h : RDAt w X d cs) (hX : ∀ b, X b → b < w.heap.size) (hok : d.ok) (ht : RTAt w X t ct) (hw : t.what = 0 ∨ t.what = 1 ∨ t.what = 2)
    (hn : t.name.length ≤ 1000000000) (hb : t.bytes.length ≤ 100000000) (hsz : d.st.size < 900000) : Calls Try.prog 63 #[.agg cs, .agg ct] w (DidRD w X d t) := by
  have HO := Lib.hid hok
  have HX := Lib.hid hX
  have HD := Lib.hid h
  have HTA := Lib.hid ht
  have HW := Lib.hid hw
  have hfl := St.files_len d.st
  have HSZ : Hid (d.st.files.length ≤ 1000000) := Lib.hid (by omega)
  have HTS := Lib.hid (total_small hok.1).1
  obtain ⟨A, n, c, B, m, k0, rfl, hl, hnc, hcm, hts, hmk, hkm⟩ := h
  obtain ⟨Ab, qb, cb, rfl, hyb, hqb, hcb⟩ := ht
  have HT := Lib.hid hts
  obtain ⟨css, hrd, hcl, hcs⟩ := hts
  have HRD := Lib.hid hrd
  have HCS := Lib.hid hcl
  have HCSR := Lib.hid hcs
  have HL := Lib.hid hl
  have HQ := Lib.hid hyb.1
  have hqbl : qb ≤ 100000000 := by have := hyb.1; omega
  have HM : Hid (m ≤ 900000) := Lib.hid (by have := HT.out.len; unfold St.size RDk.st at hsz; simp only [List.length_map] at hsz; omega)
  have HRM : Hid (1 ≤ d.room ∧ d.room ≤ 16777216) := Lib.hid ⟨hok.1.1, hok.1.2.1⟩
  clear hok hX hw hfl hsz hyb hl hb hrd hcl hcs
  go_enter Try.func63, Try.ntmps63
  have b0 : Blk (((w.alloc (.cells #[.int .i64 (d.room : Int), .slice A n c, .slice B m k0] 29)).alloc (.cells #[.int .i64 t.what, .string (str t.name), .slice Ab qb cb, .int .i64 t.n] 65)).alloc (.cells #[.int .i64 0, .slice none 0 0, .slice none 0 0] 29)) w.heap.size 29 #[.int .i64 (d.room : Int), .slice A n c, .slice B m k0] := ((Blk.new _ _ _).alloc _).alloc _
  have t0 : Blk (((w.alloc (.cells #[.int .i64 (d.room : Int), .slice A n c, .slice B m k0] 29)).alloc (.cells #[.int .i64 t.what, .string (str t.name), .slice Ab qb cb, .int .i64 t.n] 65)).alloc (.cells #[.int .i64 0, .slice none 0 0, .slice none 0 0] 29)) (w.heap.size + 1) 65 #[.int .i64 t.what, .string (str t.name), .slice Ab qb cb, .int .i64 t.n] := by
    have := Blk.new (w.alloc (.cells #[.int .i64 (d.room : Int), .slice A n c, .slice B m k0] 29)) 65 #[.int .i64 t.what, .string (str t.name), .slice Ab qb cb, .int .i64 t.n]
    rw [World.size_alloc] at this
    exact this.alloc _
  have r0 : Blk (((w.alloc (.cells #[.int .i64 (d.room : Int), .slice A n c, .slice B m k0] 29)).alloc (.cells #[.int .i64 t.what, .string (str t.name), .slice Ab qb cb, .int .i64 t.n] 65)).alloc (.cells #[.int .i64 0, .slice none 0 0, .slice none 0 0] 29)) (w.heap.size + 2) 29 #[.int .i64 0, .slice none 0 0, .slice none 0 0] := by
    have := Blk.new ((w.alloc (.cells #[.int .i64 (d.room : Int), .slice A n c, .slice B m k0] 29)).alloc (.cells #[.int .i64 t.what, .string (str t.name), .slice Ab qb cb, .int .i64 t.n] 65)) 29 #[.int .i64 0, .slice none 0 0, .slice none 0 0]
    rwa [World.size_alloc, World.size_alloc] at this
  have hb0 : Below w.heap.size w (((w.alloc (.cells #[.int .i64 (d.room : Int), .slice A n c, .slice B m k0] 29)).alloc (.cells #[.int .i64 t.what, .string (str t.name), .slice Ab qb cb, .int .i64 t.n] 65)).alloc (.cells #[.int .i64 0, .slice none 0 0, .slice none 0 0] 29)) := (((Below.refl _ _).alloc (Nat.le_refl _) _).alloc (by simp) _).alloc (by simp; omega) _
  go_wp2_with fail
  generalize (((w.alloc (.cells #[.int .i64 (d.room : Int), .slice A n c, .slice B m k0] 29)).alloc (.cells #[.int .i64 t.what, .string (str t.name), .slice Ab qb cb, .int .i64 t.n] 65)).alloc (.cells #[.int .i64 0, .slice none 0 0, .slice none 0 0] 29)) = w1 at *
  refine (refName_any t.name w1 hn).mono ?_
  rintro e w' ⟨rfl, rfl⟩
  obtain ⟨x0, x1, x2⟩ := b0.three
  obtain ⟨y0, y1, y2, y3⟩ := t0.four
  by_cases hnm : isNm t.name = true
  case neg =>
    have hnf : isNm t.name = false := by simpa using hnm
    rw [hnf]
    have HF := Lib.hid (doC_nm (s := d.st) hnf)
    clear hnm hnf
    go_wp2_with (with_reducible refine at_store 29 rfl ?_)
    refine Stop.go (wpList_store_blk (by rfl) (by rfl) 29 _ _ (by rfl) (w.heap.size + 2) _ #[.int .i64 (d.room : Int), .slice A n c, .slice B m k0] (by rfl) (by rfl) 29 r0 (by rfl) (info29 _ rfl) (by simp [Value.oneCell']) ?_)
    intro w9 f9 g9 s9
    go_wp2_with fail
    refine bodyPost_ret (v := .tuple #[.agg #[.int .i64 (d.room : Int), .slice A n c, .slice B m k0], .int .i64 130]) (results_ct (by rfl) _ _ (w.heap.size + 2) 29 _ (0, 0) _ (by rfl) f9 Try.underlying29 (by rfl) (info29 _ rfl) (by rfl)) rfl ?_
    have hb9 := below_grown hb0 g9 (Nat.le_refl _) (by omega)
    exact did_refused HF.out (by omega) (HD.out.below hb9) hb9
  case pos =>
  rw [hnm]
  have HNM := Lib.hid hnm
  clear hnm
  go_wp2_with fail
  refine (refFiles_any (X := fun b => X b ∨ b = w.heap.size ∨ b = w.heap.size + 1 ∨ b = w.heap.size + 2) ((HD.out.wide (fun b hb e => e.elim id (fun e => by omega))).below hb0) (fun b hb => by
    have h0 := hb0.size
    have h1 := r0.lt
    rcases hb with hb | hb | hb | hb
    · have := HX.out b hb; omega
    · omega
    · omega
    · omega) HO.out).mono ?_
  rintro e w2 ⟨A2, q2, c2, rfl, hr2, hqc2, hcm2, hb2⟩
  have HR2 := Lib.hid hr2
  have hq2 : q2 ≤ 1000000 := by have := hr2.len; have := HSZ.out; omega
  have b2 := b0.below hb2 b0.lt
  have t2 := t0.below hb2 t0.lt
  have r2 := r0.below hb2 r0.lt
  have hbl2 := hb0.trans (hb2.mono hb0.size)
  have HF2 := Lib.hid (refFind_any (c := c2) hr2 t.name (by omega))
  have HU2 : Hid (UsedAt A2 q2 c2 (total d.st.files) w2) := Lib.hid (fun W hb => (refUsed_any (c := c2) (hr2.below hb) (by omega) HTS.out).mono fun _ _ h => ⟨h.1, h.2.symm⟩)
  clear hr2 b0 t0 r0 hb0 hb2 x0 x1 x2 y0 y1 y2 y3
  obtain ⟨x0, x1, x2⟩ := b2.three
  obtain ⟨y0, y1, y2, y3⟩ := t2.four
  have HB2 := Lib.hid b2
  have HT2 := Lib.hid t2
  have HRR := Lib.hid r2
  have HBL := Lib.hid hbl2
  clear b2 t2 r2 hbl2
  go_wp2_with fail
  refine HF2.out.mono ?_
  rintro e w' ⟨rfl, rfl⟩
  rcases HW.out with hw | hw | hw
  · have hq0 : (t.what == 0) = true := by simpa using hw
    have hq1 : (t.what == 1) = false := by rw [hw]; rfl
    go_wp2_with fail
    go_quiet (fail)
    have HB2 := Lib.hid (HB2.out.drewN nq)
    have HT2 := Lib.hid (HT2.out.drewN nq)
    have HRR := Lib.hid (HRR.out.drewN nq)
    have HBL := Lib.hid (below_drewN HBL.out nq)
    have HU2 := Lib.hid (HU2.out.same (W' := w2.drewN nq) rfl)
    clear x0 x1 x2 y0 y1 y2 y3
    generalize w2.drewN nq = wq at *
    obtain ⟨x0, x1, x2⟩ := HB2.out.three
    obtain ⟨y0, y1, y2, y3⟩ := HT2.out.four
    have hwr : IntKind.i64.wrap ((d.room : Int) - (total d.st.files : Int)) = (d.room : Int) - (total d.st.files : Int) := by
      have h1 := HRM.out
      have h2 := HTS.out
      apply IntWalk.i64_in
      omega
    by_cases hr : (qb : Int) ≤ (d.room : Int) - (total d.st.files : Int)
    · have hdr : decide ((d.room : Int) - (total d.st.files : Int) < (qb : Int)) = false := by simp; omega
      have HK : Hid (doC d.st t = 0) := Lib.hid (doC_put HNM.out hw (by rw [HQ.out]; exact hr))
      clear hw hr
      go_wp2_with fail
      go_quiet ((go_at_call 60; exact Calls.quiet_of_same (HU2.out.used _ rfl)))
      have HB2 := Lib.hid (HB2.out.drewN nq)
      have HT2 := Lib.hid (HT2.out.drewN nq)
      have HRR := Lib.hid (HRR.out.drewN nq)
      have HBL := Lib.hid (below_drewN HBL.out nq)
      have HU2 := Lib.hid (HU2.out.same (W' := wq.drewN nq) rfl)
      clear x0 x1 x2 y0 y1 y2 y3
      generalize wq.drewN nq = wp at *
      obtain ⟨x0, x1, x2⟩ := HB2.out.three
      obtain ⟨y0, y1, y2, y3⟩ := HT2.out.four
      go_wp2_with fail
      have HBq := HB2
      have HTq := HT2
      have HRq := HRR
      have HBLq := HBL
      clear HB2 HT2 HRR HBL x0 x1 x2 y0 y1 y2 y3
      refine wp_region_np ?_
      refine wp_region_held_drew (S := fun W => Blk W (w.heap.size + 1) 65 #[.int .i64 t.what, .string (str t.name), .slice Ab qb cb, .int .i64 t.n]) (by kernel_rfl) HTq.out.drew (fun hHeld => ?_)
      have HBq := Lib.hid HBq.out.drew
      have HRq := Lib.hid HRq.out.drew
      have HBLq := Lib.hid HBLq.out.drew
      generalize wp.drew = wa0 at *
      refine wpAnyH_takeAt (i := 1) (d := 63) (v := ?vq0x) rfl rfl (by kernel_rfl) (by kernel_rfl) (by kernel_rfl) (fun _ _ _ h => h) (Or.inl ⟨by rfl, ?hyq0x⟩) hHeld ?_
      case hyq0x =>
        intro W hSw
        clear hSw
        (go_simp; try with_reducible rfl)
      simp only [List.setIfInBounds_toArray, List.set_cons_zero, List.set_cons_succ]
      refine wpAnyH_takeAt (i := 4) (d := 66) (v := ?vq1x) rfl rfl (by kernel_rfl) (by kernel_rfl) (by kernel_rfl) (fun _ _ _ h => h) (Or.inl ⟨by rfl, ?hyq1x⟩) hHeld ?_
      case hyq1x =>
        intro W hSw
        obtain ⟨c0, c1, c2, c3⟩ := Blk.four (show Blk W (w.heap.size + 1) 65 #[.int .i64 t.what, .string (str t.name), .slice Ab qb cb, .int .i64 t.n] from hSw)
        (go_simp; try with_reducible rfl)
      simp only [List.setIfInBounds_toArray, List.set_cons_zero, List.set_cons_succ]
      refine wpAnyH_ready (rs := [0, 2, 5]) (by kernel_rfl) (by simp) (AllReadyH.cons rfl (fun K hK => ?_) (AllReadyH.cons rfl (fun K hK => ?_) (AllReadyH.cons rfl (fun K hK => ?_) AllReadyH.nil)))
      · go_simp
        refine hK.out _ _ (hHeld.alloc _) (fun hHeld => ?_)
        clear hK K
        try simp only [List.setIfInBounds_toArray, List.set_cons_zero, List.set_cons_succ]
        have hal : Below wa0.heap.size wa0 (wa0.alloc (.cells #[] 65)) := (Below.refl _ _).alloc (Nat.le_refl _) _
        have HO0 := Lib.hid (ownK_empty wa0 65 4)
        have HZ0 : Hid (w.heap.size + 3 ≤ wa0.heap.size) := Lib.hid (by have := HRq.out.lt; omega)
        have HBq := Lib.hid (HBq.out.below hal HBq.out.lt)
        have HRq := Lib.hid (HRq.out.below hal HRq.out.lt)
        have HBLq := Lib.hid (HBLq.out.trans (hal.mono HBLq.out.size))
        clear hal
        generalize wa0.alloc (.cells #[] 65) = wa0a at *
        generalize wa0.heap.size = z0 at *
        refine wpAnyH_ready (rs := [2, 5]) (by kernel_rfl) (by simp) (AllReadyH.cons rfl (fun K hK => ?_) (AllReadyH.cons rfl (fun K hK => ?_) AllReadyH.nil))
        · have f2 : wa0a.cell? ⟨w.heap.size, 2, none⟩ = some (.slice B m k0) := HBq.out.cell 2
          go_simp
          refine hK.out _ _ hHeld (fun hHeld => ?_)
          clear hK K f2
          try simp only [List.setIfInBounds_toArray, List.set_cons_zero, List.set_cons_succ]
          refine wpAnyH_ready (rs := [3, 5]) (by kernel_rfl) (by simp) (AllReadyH.cons rfl (fun K hK => ?_) (AllReadyH.cons rfl (fun K hK => ?_) AllReadyH.nil))
          · refine step_append_k (d := 65) el27 (by rfl) rfl _ _ (by rfl) _ [] (by rfl) HO0.out X B m k0 css (by rfl) (HRD.out.below HBLq.out) (by simp) (by have := HM.out; omega) ?_
            intro v3 wa0ac ho3 hg3
            rw [List.nil_append] at ho3
            have hT3 : Turn (fun b => b = z0) wa0a wa0ac := hg3.turn (fun g e => by cases e; rfl)
            have hz := HZ0.out
            refine hK.out _ _ (Blk.keep hHeld hT3 (by omega)) (fun hHeld => ?_)
            clear hK K
            try simp only [List.setIfInBounds_toArray, List.set_cons_zero, List.set_cons_succ]
            have HV3 : Hid (∀ g, v3.ownBlock = some g → w.heap.size + 3 ≤ g) := Lib.hid (fun g e => by
              rcases hg3.2 g e with q | q
              · cases q; exact hz
              · have := HRq.out.lt; omega)
            have HBq := Lib.hid (HBq.out.keep hT3 (by omega))
            have HRq := Lib.hid (HRq.out.keep hT3 (by omega))
            have HBLq := Lib.hid (HBLq.out.trans (hT3.below HBLq.out.size (fun b e => by omega)))
            have HO3 := Lib.hid ho3
            clear ho3 hg3 hT3 hz
            refine wpAnyH_ready (rs := [5]) (by kernel_rfl) (by simp) (AllReadyH.cons rfl (fun K hK => ?_) AllReadyH.nil)
            go_simp
            refine hK.out _ _ (hHeld.alloc _) (fun hHeld => ?_)
            clear hK K
            try simp only [List.setIfInBounds_toArray, List.set_cons_zero, List.set_cons_succ]
            have hal : Below wa0ac.heap.size wa0ac (wa0ac.alloc (.cells #[.int .i64 t.what, .string (str t.name), .slice Ab qb cb, .int .i64 t.n] 65)) := (Below.refl _ _).alloc (Nat.le_refl _) _
            have HR5 := Lib.hid (rd_one (X := No) (k := 4) wa0ac 65 #[.int .i64 t.what, .string (str t.name), .slice Ab qb cb, .int .i64 t.n] rfl (fun u hu => by simp at hu; rcases hu with rfl | rfl | rfl | rfl <;> rfl) (fun h => h))
            have HL5 : Hid (wa0ac.heap.size < (wa0ac.alloc (.cells #[.int .i64 t.what, .string (str t.name), .slice Ab qb cb, .int .i64 t.n] 65)).heap.size) := Lib.hid (by simp)
            have HO3 := Lib.hid (HO3.out.below hal)
            have HBq := Lib.hid (HBq.out.below hal HBq.out.lt)
            have HRq := Lib.hid (HRq.out.below hal HRq.out.lt)
            have HBLq := Lib.hid (HBLq.out.trans (hal.mono HBLq.out.size))
            clear hal
            generalize wa0ac.alloc (.cells #[.int .i64 t.what, .string (str t.name), .slice Ab qb cb, .int .i64 t.n] 65) = wa0acb at *
            generalize wa0ac.heap.size = z5 at *
            refine wpAnyH_ready (rs := [6]) (by kernel_rfl) (by simp) (AllReadyH.cons rfl (fun K hK => ?_) AllReadyH.nil)
            refine step_append_k (d := 68) el27 (by rfl) rfl _ _ (by rfl) _ css (by rfl) HO3.out No _ 1 1 [#[.int .i64 t.what, .string (str t.name), .slice Ab qb cb, .int .i64 t.n]] (by rfl) HR5.out (by have h1 := HCS.out; have h2 := HT.out.len; have h3 := HM.out; omega) (by omega) ?_
            intro v6 wa0acbd ho6 hg6
            have hT6 : Turn (fun b => w.heap.size + 3 ≤ b) wa0acb wa0acbd := hg6.turn (fun g e => HV3.out g e)
            have HV6 : Hid (∀ g, v6.ownBlock = some g → w.heap.size + 3 ≤ g) := Lib.hid (fun g e => by
              rcases hg6.2 g e with q | q
              · exact HV3.out g q
              · have := HRq.out.lt; omega)
            refine hK.out _ _ (Blk.keep hHeld hT6 (by omega)) (fun hHeld => ?_)
            clear hK K
            try simp only [List.setIfInBounds_toArray, List.set_cons_zero, List.set_cons_succ]
            have HBq := Lib.hid (HBq.out.keep hT6 (by omega))
            have HRq := Lib.hid (HRq.out.keep hT6 (by omega))
            have HBLq := Lib.hid (HBLq.out.trans (hT6.below HBLq.out.size (fun b e => by omega)))
            have HO6 := Lib.hid ho6
            obtain ⟨A6, q6, c6, rfl, -, hqc6, hcm6⟩ := ho6.form
            clear ho6 hg6 hT6
            refine wpAnyH_takeAt (i := 7) (d := 69) (v := ?vq2x) rfl rfl (by kernel_rfl) (by kernel_rfl) (by kernel_rfl) (fun _ _ _ h => h) (Or.inl ⟨by rfl, ?hyq2x⟩) hHeld ?_
            case hyq2x =>
              intro W hSw
              clear hSw
              (go_simp; try with_reducible rfl)
            simp only [List.setIfInBounds_toArray, List.set_cons_zero, List.set_cons_succ]
            refine wpAnyH_ready (rs := [8]) (by kernel_rfl) (by simp) (AllReadyH.cons rfl (fun K hK => ?_) AllReadyH.nil)
            have g2 : wa0acbd.cell? ⟨w.heap.size, 2, none⟩ = some (.slice B m k0) := HBq.out.cell 2
            have f2 := HBq.out.frozen 2
            go_simp
            refine hK.out _ _ (Blk.far hHeld (by simp) _) (fun hHeld => ?_)
            clear hK K g2 f2
            have hB8 : Blk (wa0acbd.setCell ⟨w.heap.size, 2, none⟩ (.slice A6 q6 c6)) w.heap.size 29 #[.int .i64 (d.room : Int), .slice A n c, .slice A6 q6 c6] := HBq.out.set_ 2 _
            have HR8 := Lib.hid (HRq.out.far (p := ⟨w.heap.size, 2, none⟩) (by simp) (.slice A6 q6 c6))
            have HBL8 := Lib.hid (HBLq.out.setCell (p := ⟨w.heap.size, 2, none⟩) (Nat.le_refl _) (.slice A6 q6 c6))
            have HO8 : Hid (OwnK (wa0acbd.setCell ⟨w.heap.size, 2, none⟩ (.slice A6 q6 c6)) 65 4 (.slice A6 q6 c6) (css ++ [#[.int .i64 t.what, .string (str t.name), .slice Ab qb cb, .int .i64 t.n]])) := Lib.hid (HO6.out.keepB (fun g e => Below.heap_setCell _ ⟨w.heap.size, 2, none⟩ _ g (by show g ≠ w.heap.size; have := HV6.out g e; omega)))
            generalize wa0acbd.setCell ⟨w.heap.size, 2, none⟩ (.slice A6 q6 c6) = w8 at *
            refine wpAnyH_done (by kernel_rfl) ?_ _
            obtain ⟨u0, u1, u2⟩ := hB8.three
            clear hHeld hB8
            go_wp2_with (with_reducible refine at_store 29 rfl ?_)
            refine Stop.go (wpList_store_blk (by rfl) (by rfl) 29 _ _ (by rfl) (w.heap.size + 2) _ #[.int .i64 (d.room : Int), .slice A n c, .slice A6 q6 c6] (by rfl) (by rfl) 29 HR8.out (by rfl) (info29 _ rfl) (by simp [Value.oneCell']) ?_)
            intro w9 f9 g9 s9
            go_wp2_with fail
            refine bodyPost_ret (v := .tuple #[.agg #[.int .i64 (d.room : Int), .slice A n c, .slice A6 q6 c6], .int .i64 0]) (results_ct (by rfl) _ _ (w.heap.size + 2) 29 _ (0, 0) _ (by rfl) f9 Try.underlying29 (by rfl) (info29 _ rfl) (by rfl)) rfl ?_
            have hb9 := below_grown HBL8.out g9 (Nat.le_refl _) (by omega)
            have ho9 := HO8.out.keep (Turn.of_grown (S := fun b => b = w.heap.size + 2) g9 (fun r e => by cases e; rfl)) (fun g e e' => by have := HV6.out g e; omega)
            exact did_done HL.out hnc hcm HTA.out HCS.out HCSR.out HK.out ho9 (fun g e hx => by have h1 := HV6.out g e; have h2 := HX.out g hx; omega) hqc6 hcm6 hb9
          · go_simp
            refine hK.out _ _ (hHeld.alloc _) (fun hHeld => ?_)
            clear hK K
            try simp only [List.setIfInBounds_toArray, List.set_cons_zero, List.set_cons_succ]
            have hal : Below wa0a.heap.size wa0a (wa0a.alloc (.cells #[.int .i64 t.what, .string (str t.name), .slice Ab qb cb, .int .i64 t.n] 65)) := (Below.refl _ _).alloc (Nat.le_refl _) _
            have HR5 := Lib.hid (rd_one (X := No) (k := 4) wa0a 65 #[.int .i64 t.what, .string (str t.name), .slice Ab qb cb, .int .i64 t.n] rfl (fun u hu => by simp at hu; rcases hu with rfl | rfl | rfl | rfl <;> rfl) (fun h => h))
            have HL5 : Hid (wa0a.heap.size < (wa0a.alloc (.cells #[.int .i64 t.what, .string (str t.name), .slice Ab qb cb, .int .i64 t.n] 65)).heap.size) := Lib.hid (by simp)
            have HNE : Hid (wa0a.heap.size ≠ z0) := Lib.hid (by have := HO0.out.lt (g := z0) rfl; omega)
            have HO0 := Lib.hid (HO0.out.below hal)
            have HBq := Lib.hid (HBq.out.below hal HBq.out.lt)
            have HRq := Lib.hid (HRq.out.below hal HRq.out.lt)
            have HBLq := Lib.hid (HBLq.out.trans (hal.mono HBLq.out.size))
            clear hal
            generalize wa0a.alloc (.cells #[.int .i64 t.what, .string (str t.name), .slice Ab qb cb, .int .i64 t.n] 65) = wa0ab at *
            generalize wa0a.heap.size = z5 at *
            refine wpAnyH_ready (rs := [3]) (by kernel_rfl) (by simp) (AllReadyH.cons rfl (fun K hK => ?_) AllReadyH.nil)
            refine step_append_k (d := 65) el27 (by rfl) rfl _ _ (by rfl) _ [] (by rfl) HO0.out X B m k0 css (by rfl) (HRD.out.below HBLq.out) (by simp) (by have := HM.out; omega) ?_
            intro v3 wa0abc ho3 hg3
            rw [List.nil_append] at ho3
            have hT3 : Turn (fun b => b = z0) wa0ab wa0abc := hg3.turn (fun g e => by cases e; rfl)
            have hz := HZ0.out
            refine hK.out _ _ (Blk.keep hHeld hT3 (by omega)) (fun hHeld => ?_)
            clear hK K
            try simp only [List.setIfInBounds_toArray, List.set_cons_zero, List.set_cons_succ]
            have HV3 : Hid (∀ g, v3.ownBlock = some g → w.heap.size + 3 ≤ g) := Lib.hid (fun g e => by
              rcases hg3.2 g e with q | q
              · cases q; exact hz
              · have := HRq.out.lt; omega)
            have HR5 := Lib.hid (rd_keep1 HR5.out hT3 (fun e => HNE.out e))
            have HBq := Lib.hid (HBq.out.keep hT3 (by omega))
            have HRq := Lib.hid (HRq.out.keep hT3 (by omega))
            have HBLq := Lib.hid (HBLq.out.trans (hT3.below HBLq.out.size (fun b e => by omega)))
            have HO3 := Lib.hid ho3
            clear ho3 hg3 hT3 hz
            refine wpAnyH_ready (rs := [6]) (by kernel_rfl) (by simp) (AllReadyH.cons rfl (fun K hK => ?_) AllReadyH.nil)
            refine step_append_k (d := 68) el27 (by rfl) rfl _ _ (by rfl) _ css (by rfl) HO3.out No _ 1 1 [#[.int .i64 t.what, .string (str t.name), .slice Ab qb cb, .int .i64 t.n]] (by rfl) HR5.out (by have h1 := HCS.out; have h2 := HT.out.len; have h3 := HM.out; omega) (by omega) ?_
            intro v6 wa0abcd ho6 hg6
            have hT6 : Turn (fun b => w.heap.size + 3 ≤ b) wa0abc wa0abcd := hg6.turn (fun g e => HV3.out g e)
            have HV6 : Hid (∀ g, v6.ownBlock = some g → w.heap.size + 3 ≤ g) := Lib.hid (fun g e => by
              rcases hg6.2 g e with q | q
              · exact HV3.out g q
              · have := HRq.out.lt; omega)
            refine hK.out _ _ (Blk.keep hHeld hT6 (by omega)) (fun hHeld => ?_)
            clear hK K
            try simp only [List.setIfInBounds_toArray, List.set_cons_zero, List.set_cons_succ]
            have HBq := Lib.hid (HBq.out.keep hT6 (by omega))
            have HRq := Lib.hid (HRq.out.keep hT6 (by omega))
            have HBLq := Lib.hid (HBLq.out.trans (hT6.below HBLq.out.size (fun b e => by omega)))
            have HO6 := Lib.hid ho6
            obtain ⟨A6, q6, c6, rfl, -, hqc6, hcm6⟩ := ho6.form
            clear ho6 hg6 hT6
            refine wpAnyH_takeAt (i := 7) (d := 69) (v := ?vq3x) rfl rfl (by kernel_rfl) (by kernel_rfl) (by kernel_rfl) (fun _ _ _ h => h) (Or.inl ⟨by rfl, ?hyq3x⟩) hHeld ?_
            case hyq3x =>
              intro W hSw
              clear hSw
              (go_simp; try with_reducible rfl)
            simp only [List.setIfInBounds_toArray, List.set_cons_zero, List.set_cons_succ]
            refine wpAnyH_ready (rs := [8]) (by kernel_rfl) (by simp) (AllReadyH.cons rfl (fun K hK => ?_) AllReadyH.nil)
            have g2 : wa0abcd.cell? ⟨w.heap.size, 2, none⟩ = some (.slice B m k0) := HBq.out.cell 2
            have f2 := HBq.out.frozen 2
            go_simp
            refine hK.out _ _ (Blk.far hHeld (by simp) _) (fun hHeld => ?_)
            clear hK K g2 f2
            have hB8 : Blk (wa0abcd.setCell ⟨w.heap.size, 2, none⟩ (.slice A6 q6 c6)) w.heap.size 29 #[.int .i64 (d.room : Int), .slice A n c, .slice A6 q6 c6] := HBq.out.set_ 2 _
            have HR8 := Lib.hid (HRq.out.far (p := ⟨w.heap.size, 2, none⟩) (by simp) (.slice A6 q6 c6))
            have HBL8 := Lib.hid (HBLq.out.setCell (p := ⟨w.heap.size, 2, none⟩) (Nat.le_refl _) (.slice A6 q6 c6))
            have HO8 : Hid (OwnK (wa0abcd.setCell ⟨w.heap.size, 2, none⟩ (.slice A6 q6 c6)) 65 4 (.slice A6 q6 c6) (css ++ [#[.int .i64 t.what, .string (str t.name), .slice Ab qb cb, .int .i64 t.n]])) := Lib.hid (HO6.out.keepB (fun g e => Below.heap_setCell _ ⟨w.heap.size, 2, none⟩ _ g (by show g ≠ w.heap.size; have := HV6.out g e; omega)))
            generalize wa0abcd.setCell ⟨w.heap.size, 2, none⟩ (.slice A6 q6 c6) = w8 at *
            refine wpAnyH_done (by kernel_rfl) ?_ _
            obtain ⟨u0, u1, u2⟩ := hB8.three
            clear hHeld hB8
            go_wp2_with (with_reducible refine at_store 29 rfl ?_)
            refine Stop.go (wpList_store_blk (by rfl) (by rfl) 29 _ _ (by rfl) (w.heap.size + 2) _ #[.int .i64 (d.room : Int), .slice A n c, .slice A6 q6 c6] (by rfl) (by rfl) 29 HR8.out (by rfl) (info29 _ rfl) (by simp [Value.oneCell']) ?_)
            intro w9 f9 g9 s9
            go_wp2_with fail
            refine bodyPost_ret (v := .tuple #[.agg #[.int .i64 (d.room : Int), .slice A n c, .slice A6 q6 c6], .int .i64 0]) (results_ct (by rfl) _ _ (w.heap.size + 2) 29 _ (0, 0) _ (by rfl) f9 Try.underlying29 (by rfl) (info29 _ rfl) (by rfl)) rfl ?_
            have hb9 := below_grown HBL8.out g9 (Nat.le_refl _) (by omega)
            have ho9 := HO8.out.keep (Turn.of_grown (S := fun b => b = w.heap.size + 2) g9 (fun r e => by cases e; rfl)) (fun g e e' => by have := HV6.out g e; omega)
            exact did_done HL.out hnc hcm HTA.out HCS.out HCSR.out HK.out ho9 (fun g e hx => by have h1 := HV6.out g e; have h2 := HX.out g hx; omega) hqc6 hcm6 hb9
        · go_simp
          refine hK.out _ _ (hHeld.alloc _) (fun hHeld => ?_)
          clear hK K
          try simp only [List.setIfInBounds_toArray, List.set_cons_zero, List.set_cons_succ]
          have hal : Below wa0a.heap.size wa0a (wa0a.alloc (.cells #[.int .i64 t.what, .string (str t.name), .slice Ab qb cb, .int .i64 t.n] 65)) := (Below.refl _ _).alloc (Nat.le_refl _) _
          have HR5 := Lib.hid (rd_one (X := No) (k := 4) wa0a 65 #[.int .i64 t.what, .string (str t.name), .slice Ab qb cb, .int .i64 t.n] rfl (fun u hu => by simp at hu; rcases hu with rfl | rfl | rfl | rfl <;> rfl) (fun h => h))
          have HL5 : Hid (wa0a.heap.size < (wa0a.alloc (.cells #[.int .i64 t.what, .string (str t.name), .slice Ab qb cb, .int .i64 t.n] 65)).heap.size) := Lib.hid (by simp)
          have HNE : Hid (wa0a.heap.size ≠ z0) := Lib.hid (by have := HO0.out.lt (g := z0) rfl; omega)
          have HO0 := Lib.hid (HO0.out.below hal)
          have HBq := Lib.hid (HBq.out.below hal HBq.out.lt)
          have HRq := Lib.hid (HRq.out.below hal HRq.out.lt)
          have HBLq := Lib.hid (HBLq.out.trans (hal.mono HBLq.out.size))
          clear hal
          generalize wa0a.alloc (.cells #[.int .i64 t.what, .string (str t.name), .slice Ab qb cb, .int .i64 t.n] 65) = wa0ab at *
          generalize wa0a.heap.size = z5 at *
          refine wpAnyH_ready (rs := [2]) (by kernel_rfl) (by simp) (AllReadyH.cons rfl (fun K hK => ?_) AllReadyH.nil)
          have f2 : wa0ab.cell? ⟨w.heap.size, 2, none⟩ = some (.slice B m k0) := HBq.out.cell 2
          go_simp
          refine hK.out _ _ hHeld (fun hHeld => ?_)
          clear hK K f2
          try simp only [List.setIfInBounds_toArray, List.set_cons_zero, List.set_cons_succ]
          refine wpAnyH_ready (rs := [3]) (by kernel_rfl) (by simp) (AllReadyH.cons rfl (fun K hK => ?_) AllReadyH.nil)
          refine step_append_k (d := 65) el27 (by rfl) rfl _ _ (by rfl) _ [] (by rfl) HO0.out X B m k0 css (by rfl) (HRD.out.below HBLq.out) (by simp) (by have := HM.out; omega) ?_
          intro v3 wa0abc ho3 hg3
          rw [List.nil_append] at ho3
          have hT3 : Turn (fun b => b = z0) wa0ab wa0abc := hg3.turn (fun g e => by cases e; rfl)
          have hz := HZ0.out
          refine hK.out _ _ (Blk.keep hHeld hT3 (by omega)) (fun hHeld => ?_)
          clear hK K
          try simp only [List.setIfInBounds_toArray, List.set_cons_zero, List.set_cons_succ]
          have HV3 : Hid (∀ g, v3.ownBlock = some g → w.heap.size + 3 ≤ g) := Lib.hid (fun g e => by
            rcases hg3.2 g e with q | q
            · cases q; exact hz
            · have := HRq.out.lt; omega)
          have HR5 := Lib.hid (rd_keep1 HR5.out hT3 (fun e => HNE.out e))
          have HBq := Lib.hid (HBq.out.keep hT3 (by omega))
          have HRq := Lib.hid (HRq.out.keep hT3 (by omega))
          have HBLq := Lib.hid (HBLq.out.trans (hT3.below HBLq.out.size (fun b e => by omega)))
          have HO3 := Lib.hid ho3
          clear ho3 hg3 hT3 hz
          refine wpAnyH_ready (rs := [6]) (by kernel_rfl) (by simp) (AllReadyH.cons rfl (fun K hK => ?_) AllReadyH.nil)
          refine step_append_k (d := 68) el27 (by rfl) rfl _ _ (by rfl) _ css (by rfl) HO3.out No _ 1 1 [#[.int .i64 t.what, .string (str t.name), .slice Ab qb cb, .int .i64 t.n]] (by rfl) HR5.out (by have h1 := HCS.out; have h2 := HT.out.len; have h3 := HM.out; omega) (by omega) ?_
          intro v6 wa0abcd ho6 hg6
          have hT6 : Turn (fun b => w.heap.size + 3 ≤ b) wa0abc wa0abcd := hg6.turn (fun g e => HV3.out g e)
          have HV6 : Hid (∀ g, v6.ownBlock = some g → w.heap.size + 3 ≤ g) := Lib.hid (fun g e => by
            rcases hg6.2 g e with q | q
            · exact HV3.out g q
            · have := HRq.out.lt; omega)
          refine hK.out _ _ (Blk.keep hHeld hT6 (by omega)) (fun hHeld => ?_)
          clear hK K
          try simp only [List.setIfInBounds_toArray, List.set_cons_zero, List.set_cons_succ]
          have HBq := Lib.hid (HBq.out.keep hT6 (by omega))
          have HRq := Lib.hid (HRq.out.keep hT6 (by omega))
          have HBLq := Lib.hid (HBLq.out.trans (hT6.below HBLq.out.size (fun b e => by omega)))
          have HO6 := Lib.hid ho6
          obtain ⟨A6, q6, c6, rfl, -, hqc6, hcm6⟩ := ho6.form
          clear ho6 hg6 hT6
          refine wpAnyH_takeAt (i := 7) (d := 69) (v := ?vq4x) rfl rfl (by kernel_rfl) (by kernel_rfl) (by kernel_rfl) (fun _ _ _ h => h) (Or.inl ⟨by rfl, ?hyq4x⟩) hHeld ?_
          case hyq4x =>
            intro W hSw
            clear hSw
            (go_simp; try with_reducible rfl)
          simp only [List.setIfInBounds_toArray, List.set_cons_zero, List.set_cons_succ]
          refine wpAnyH_ready (rs := [8]) (by kernel_rfl) (by simp) (AllReadyH.cons rfl (fun K hK => ?_) AllReadyH.nil)
          have g2 : wa0abcd.cell? ⟨w.heap.size, 2, none⟩ = some (.slice B m k0) := HBq.out.cell 2
          have f2 := HBq.out.frozen 2
          go_simp
          refine hK.out _ _ (Blk.far hHeld (by simp) _) (fun hHeld => ?_)
          clear hK K g2 f2
          have hB8 : Blk (wa0abcd.setCell ⟨w.heap.size, 2, none⟩ (.slice A6 q6 c6)) w.heap.size 29 #[.int .i64 (d.room : Int), .slice A n c, .slice A6 q6 c6] := HBq.out.set_ 2 _
          have HR8 := Lib.hid (HRq.out.far (p := ⟨w.heap.size, 2, none⟩) (by simp) (.slice A6 q6 c6))
          have HBL8 := Lib.hid (HBLq.out.setCell (p := ⟨w.heap.size, 2, none⟩) (Nat.le_refl _) (.slice A6 q6 c6))
          have HO8 : Hid (OwnK (wa0abcd.setCell ⟨w.heap.size, 2, none⟩ (.slice A6 q6 c6)) 65 4 (.slice A6 q6 c6) (css ++ [#[.int .i64 t.what, .string (str t.name), .slice Ab qb cb, .int .i64 t.n]])) := Lib.hid (HO6.out.keepB (fun g e => Below.heap_setCell _ ⟨w.heap.size, 2, none⟩ _ g (by show g ≠ w.heap.size; have := HV6.out g e; omega)))
          generalize wa0abcd.setCell ⟨w.heap.size, 2, none⟩ (.slice A6 q6 c6) = w8 at *
          refine wpAnyH_done (by kernel_rfl) ?_ _
          obtain ⟨u0, u1, u2⟩ := hB8.three
          clear hHeld hB8
          go_wp2_with (with_reducible refine at_store 29 rfl ?_)
          refine Stop.go (wpList_store_blk (by rfl) (by rfl) 29 _ _ (by rfl) (w.heap.size + 2) _ #[.int .i64 (d.room : Int), .slice A n c, .slice A6 q6 c6] (by rfl) (by rfl) 29 HR8.out (by rfl) (info29 _ rfl) (by simp [Value.oneCell']) ?_)
          intro w9 f9 g9 s9
          go_wp2_with fail
          refine bodyPost_ret (v := .tuple #[.agg #[.int .i64 (d.room : Int), .slice A n c, .slice A6 q6 c6], .int .i64 0]) (results_ct (by rfl) _ _ (w.heap.size + 2) 29 _ (0, 0) _ (by rfl) f9 Try.underlying29 (by rfl) (info29 _ rfl) (by rfl)) rfl ?_
          have hb9 := below_grown HBL8.out g9 (Nat.le_refl _) (by omega)
          have ho9 := HO8.out.keep (Turn.of_grown (S := fun b => b = w.heap.size + 2) g9 (fun r e => by cases e; rfl)) (fun g e e' => by have := HV6.out g e; omega)
          exact did_done HL.out hnc hcm HTA.out HCS.out HCSR.out HK.out ho9 (fun g e hx => by have h1 := HV6.out g e; have h2 := HX.out g hx; omega) hqc6 hcm6 hb9
      · have f2 : wa0.cell? ⟨w.heap.size, 2, none⟩ = some (.slice B m k0) := HBq.out.cell 2
        go_simp
        refine hK.out _ _ hHeld (fun hHeld => ?_)
        clear hK K f2
        try simp only [List.setIfInBounds_toArray, List.set_cons_zero, List.set_cons_succ]
        refine wpAnyH_ready (rs := [0, 5]) (by kernel_rfl) (by simp) (AllReadyH.cons rfl (fun K hK => ?_) (AllReadyH.cons rfl (fun K hK => ?_) AllReadyH.nil))
        · go_simp
          refine hK.out _ _ (hHeld.alloc _) (fun hHeld => ?_)
          clear hK K
          try simp only [List.setIfInBounds_toArray, List.set_cons_zero, List.set_cons_succ]
          have hal : Below wa0.heap.size wa0 (wa0.alloc (.cells #[] 65)) := (Below.refl _ _).alloc (Nat.le_refl _) _
          have HO0 := Lib.hid (ownK_empty wa0 65 4)
          have HZ0 : Hid (w.heap.size + 3 ≤ wa0.heap.size) := Lib.hid (by have := HRq.out.lt; omega)
          have HBq := Lib.hid (HBq.out.below hal HBq.out.lt)
          have HRq := Lib.hid (HRq.out.below hal HRq.out.lt)
          have HBLq := Lib.hid (HBLq.out.trans (hal.mono HBLq.out.size))
          clear hal
          generalize wa0.alloc (.cells #[] 65) = wa0a at *
          generalize wa0.heap.size = z0 at *
          refine wpAnyH_ready (rs := [3, 5]) (by kernel_rfl) (by simp) (AllReadyH.cons rfl (fun K hK => ?_) (AllReadyH.cons rfl (fun K hK => ?_) AllReadyH.nil))
          · refine step_append_k (d := 65) el27 (by rfl) rfl _ _ (by rfl) _ [] (by rfl) HO0.out X B m k0 css (by rfl) (HRD.out.below HBLq.out) (by simp) (by have := HM.out; omega) ?_
            intro v3 wa0ac ho3 hg3
            rw [List.nil_append] at ho3
            have hT3 : Turn (fun b => b = z0) wa0a wa0ac := hg3.turn (fun g e => by cases e; rfl)
            have hz := HZ0.out
            refine hK.out _ _ (Blk.keep hHeld hT3 (by omega)) (fun hHeld => ?_)
            clear hK K
            try simp only [List.setIfInBounds_toArray, List.set_cons_zero, List.set_cons_succ]
            have HV3 : Hid (∀ g, v3.ownBlock = some g → w.heap.size + 3 ≤ g) := Lib.hid (fun g e => by
              rcases hg3.2 g e with q | q
              · cases q; exact hz
              · have := HRq.out.lt; omega)
            have HBq := Lib.hid (HBq.out.keep hT3 (by omega))
            have HRq := Lib.hid (HRq.out.keep hT3 (by omega))
            have HBLq := Lib.hid (HBLq.out.trans (hT3.below HBLq.out.size (fun b e => by omega)))
            have HO3 := Lib.hid ho3
            clear ho3 hg3 hT3 hz
            refine wpAnyH_ready (rs := [5]) (by kernel_rfl) (by simp) (AllReadyH.cons rfl (fun K hK => ?_) AllReadyH.nil)
            go_simp
            refine hK.out _ _ (hHeld.alloc _) (fun hHeld => ?_)
            clear hK K
            try simp only [List.setIfInBounds_toArray, List.set_cons_zero, List.set_cons_succ]
            have hal : Below wa0ac.heap.size wa0ac (wa0ac.alloc (.cells #[.int .i64 t.what, .string (str t.name), .slice Ab qb cb, .int .i64 t.n] 65)) := (Below.refl _ _).alloc (Nat.le_refl _) _
            have HR5 := Lib.hid (rd_one (X := No) (k := 4) wa0ac 65 #[.int .i64 t.what, .string (str t.name), .slice Ab qb cb, .int .i64 t.n] rfl (fun u hu => by simp at hu; rcases hu with rfl | rfl | rfl | rfl <;> rfl) (fun h => h))
            have HL5 : Hid (wa0ac.heap.size < (wa0ac.alloc (.cells #[.int .i64 t.what, .string (str t.name), .slice Ab qb cb, .int .i64 t.n] 65)).heap.size) := Lib.hid (by simp)
            have HO3 := Lib.hid (HO3.out.below hal)
            have HBq := Lib.hid (HBq.out.below hal HBq.out.lt)
            have HRq := Lib.hid (HRq.out.below hal HRq.out.lt)
            have HBLq := Lib.hid (HBLq.out.trans (hal.mono HBLq.out.size))
            clear hal
            generalize wa0ac.alloc (.cells #[.int .i64 t.what, .string (str t.name), .slice Ab qb cb, .int .i64 t.n] 65) = wa0acb at *
            generalize wa0ac.heap.size = z5 at *
            refine wpAnyH_ready (rs := [6]) (by kernel_rfl) (by simp) (AllReadyH.cons rfl (fun K hK => ?_) AllReadyH.nil)
            refine step_append_k (d := 68) el27 (by rfl) rfl _ _ (by rfl) _ css (by rfl) HO3.out No _ 1 1 [#[.int .i64 t.what, .string (str t.name), .slice Ab qb cb, .int .i64 t.n]] (by rfl) HR5.out (by have h1 := HCS.out; have h2 := HT.out.len; have h3 := HM.out; omega) (by omega) ?_
            intro v6 wa0acbd ho6 hg6
            have hT6 : Turn (fun b => w.heap.size + 3 ≤ b) wa0acb wa0acbd := hg6.turn (fun g e => HV3.out g e)
            have HV6 : Hid (∀ g, v6.ownBlock = some g → w.heap.size + 3 ≤ g) := Lib.hid (fun g e => by
              rcases hg6.2 g e with q | q
              · exact HV3.out g q
              · have := HRq.out.lt; omega)
            refine hK.out _ _ (Blk.keep hHeld hT6 (by omega)) (fun hHeld => ?_)
            clear hK K
            try simp only [List.setIfInBounds_toArray, List.set_cons_zero, List.set_cons_succ]
            have HBq := Lib.hid (HBq.out.keep hT6 (by omega))
            have HRq := Lib.hid (HRq.out.keep hT6 (by omega))
            have HBLq := Lib.hid (HBLq.out.trans (hT6.below HBLq.out.size (fun b e => by omega)))
            have HO6 := Lib.hid ho6
            obtain ⟨A6, q6, c6, rfl, -, hqc6, hcm6⟩ := ho6.form
            clear ho6 hg6 hT6
            refine wpAnyH_takeAt (i := 7) (d := 69) (v := ?vq5x) rfl rfl (by kernel_rfl) (by kernel_rfl) (by kernel_rfl) (fun _ _ _ h => h) (Or.inl ⟨by rfl, ?hyq5x⟩) hHeld ?_
            case hyq5x =>
              intro W hSw
              clear hSw
              (go_simp; try with_reducible rfl)
            simp only [List.setIfInBounds_toArray, List.set_cons_zero, List.set_cons_succ]
            refine wpAnyH_ready (rs := [8]) (by kernel_rfl) (by simp) (AllReadyH.cons rfl (fun K hK => ?_) AllReadyH.nil)
            have g2 : wa0acbd.cell? ⟨w.heap.size, 2, none⟩ = some (.slice B m k0) := HBq.out.cell 2
            have f2 := HBq.out.frozen 2
            go_simp
            refine hK.out _ _ (Blk.far hHeld (by simp) _) (fun hHeld => ?_)
            clear hK K g2 f2
            have hB8 : Blk (wa0acbd.setCell ⟨w.heap.size, 2, none⟩ (.slice A6 q6 c6)) w.heap.size 29 #[.int .i64 (d.room : Int), .slice A n c, .slice A6 q6 c6] := HBq.out.set_ 2 _
            have HR8 := Lib.hid (HRq.out.far (p := ⟨w.heap.size, 2, none⟩) (by simp) (.slice A6 q6 c6))
            have HBL8 := Lib.hid (HBLq.out.setCell (p := ⟨w.heap.size, 2, none⟩) (Nat.le_refl _) (.slice A6 q6 c6))
            have HO8 : Hid (OwnK (wa0acbd.setCell ⟨w.heap.size, 2, none⟩ (.slice A6 q6 c6)) 65 4 (.slice A6 q6 c6) (css ++ [#[.int .i64 t.what, .string (str t.name), .slice Ab qb cb, .int .i64 t.n]])) := Lib.hid (HO6.out.keepB (fun g e => Below.heap_setCell _ ⟨w.heap.size, 2, none⟩ _ g (by show g ≠ w.heap.size; have := HV6.out g e; omega)))
            generalize wa0acbd.setCell ⟨w.heap.size, 2, none⟩ (.slice A6 q6 c6) = w8 at *
            refine wpAnyH_done (by kernel_rfl) ?_ _
            obtain ⟨u0, u1, u2⟩ := hB8.three
            clear hHeld hB8
            go_wp2_with (with_reducible refine at_store 29 rfl ?_)
            refine Stop.go (wpList_store_blk (by rfl) (by rfl) 29 _ _ (by rfl) (w.heap.size + 2) _ #[.int .i64 (d.room : Int), .slice A n c, .slice A6 q6 c6] (by rfl) (by rfl) 29 HR8.out (by rfl) (info29 _ rfl) (by simp [Value.oneCell']) ?_)
            intro w9 f9 g9 s9
            go_wp2_with fail
            refine bodyPost_ret (v := .tuple #[.agg #[.int .i64 (d.room : Int), .slice A n c, .slice A6 q6 c6], .int .i64 0]) (results_ct (by rfl) _ _ (w.heap.size + 2) 29 _ (0, 0) _ (by rfl) f9 Try.underlying29 (by rfl) (info29 _ rfl) (by rfl)) rfl ?_
            have hb9 := below_grown HBL8.out g9 (Nat.le_refl _) (by omega)
            have ho9 := HO8.out.keep (Turn.of_grown (S := fun b => b = w.heap.size + 2) g9 (fun r e => by cases e; rfl)) (fun g e e' => by have := HV6.out g e; omega)
            exact did_done HL.out hnc hcm HTA.out HCS.out HCSR.out HK.out ho9 (fun g e hx => by have h1 := HV6.out g e; have h2 := HX.out g hx; omega) hqc6 hcm6 hb9
          · go_simp
            refine hK.out _ _ (hHeld.alloc _) (fun hHeld => ?_)
            clear hK K
            try simp only [List.setIfInBounds_toArray, List.set_cons_zero, List.set_cons_succ]
            have hal : Below wa0a.heap.size wa0a (wa0a.alloc (.cells #[.int .i64 t.what, .string (str t.name), .slice Ab qb cb, .int .i64 t.n] 65)) := (Below.refl _ _).alloc (Nat.le_refl _) _
            have HR5 := Lib.hid (rd_one (X := No) (k := 4) wa0a 65 #[.int .i64 t.what, .string (str t.name), .slice Ab qb cb, .int .i64 t.n] rfl (fun u hu => by simp at hu; rcases hu with rfl | rfl | rfl | rfl <;> rfl) (fun h => h))
            have HL5 : Hid (wa0a.heap.size < (wa0a.alloc (.cells #[.int .i64 t.what, .string (str t.name), .slice Ab qb cb, .int .i64 t.n] 65)).heap.size) := Lib.hid (by simp)
            have HNE : Hid (wa0a.heap.size ≠ z0) := Lib.hid (by have := HO0.out.lt (g := z0) rfl; omega)
            have HO0 := Lib.hid (HO0.out.below hal)
            have HBq := Lib.hid (HBq.out.below hal HBq.out.lt)
            have HRq := Lib.hid (HRq.out.below hal HRq.out.lt)
            have HBLq := Lib.hid (HBLq.out.trans (hal.mono HBLq.out.size))
            clear hal
            generalize wa0a.alloc (.cells #[.int .i64 t.what, .string (str t.name), .slice Ab qb cb, .int .i64 t.n] 65) = wa0ab at *
            generalize wa0a.heap.size = z5 at *
            refine wpAnyH_ready (rs := [3]) (by kernel_rfl) (by simp) (AllReadyH.cons rfl (fun K hK => ?_) AllReadyH.nil)
            refine step_append_k (d := 65) el27 (by rfl) rfl _ _ (by rfl) _ [] (by rfl) HO0.out X B m k0 css (by rfl) (HRD.out.below HBLq.out) (by simp) (by have := HM.out; omega) ?_
            intro v3 wa0abc ho3 hg3
            rw [List.nil_append] at ho3
            have hT3 : Turn (fun b => b = z0) wa0ab wa0abc := hg3.turn (fun g e => by cases e; rfl)
            have hz := HZ0.out
            refine hK.out _ _ (Blk.keep hHeld hT3 (by omega)) (fun hHeld => ?_)
            clear hK K
            try simp only [List.setIfInBounds_toArray, List.set_cons_zero, List.set_cons_succ]
            have HV3 : Hid (∀ g, v3.ownBlock = some g → w.heap.size + 3 ≤ g) := Lib.hid (fun g e => by
              rcases hg3.2 g e with q | q
              · cases q; exact hz
              · have := HRq.out.lt; omega)
            have HR5 := Lib.hid (rd_keep1 HR5.out hT3 (fun e => HNE.out e))
            have HBq := Lib.hid (HBq.out.keep hT3 (by omega))
            have HRq := Lib.hid (HRq.out.keep hT3 (by omega))
            have HBLq := Lib.hid (HBLq.out.trans (hT3.below HBLq.out.size (fun b e => by omega)))
            have HO3 := Lib.hid ho3
            clear ho3 hg3 hT3 hz
            refine wpAnyH_ready (rs := [6]) (by kernel_rfl) (by simp) (AllReadyH.cons rfl (fun K hK => ?_) AllReadyH.nil)
            refine step_append_k (d := 68) el27 (by rfl) rfl _ _ (by rfl) _ css (by rfl) HO3.out No _ 1 1 [#[.int .i64 t.what, .string (str t.name), .slice Ab qb cb, .int .i64 t.n]] (by rfl) HR5.out (by have h1 := HCS.out; have h2 := HT.out.len; have h3 := HM.out; omega) (by omega) ?_
            intro v6 wa0abcd ho6 hg6
            have hT6 : Turn (fun b => w.heap.size + 3 ≤ b) wa0abc wa0abcd := hg6.turn (fun g e => HV3.out g e)
            have HV6 : Hid (∀ g, v6.ownBlock = some g → w.heap.size + 3 ≤ g) := Lib.hid (fun g e => by
              rcases hg6.2 g e with q | q
              · exact HV3.out g q
              · have := HRq.out.lt; omega)
            refine hK.out _ _ (Blk.keep hHeld hT6 (by omega)) (fun hHeld => ?_)
            clear hK K
            try simp only [List.setIfInBounds_toArray, List.set_cons_zero, List.set_cons_succ]
            have HBq := Lib.hid (HBq.out.keep hT6 (by omega))
            have HRq := Lib.hid (HRq.out.keep hT6 (by omega))
            have HBLq := Lib.hid (HBLq.out.trans (hT6.below HBLq.out.size (fun b e => by omega)))
            have HO6 := Lib.hid ho6
            obtain ⟨A6, q6, c6, rfl, -, hqc6, hcm6⟩ := ho6.form
            clear ho6 hg6 hT6
            refine wpAnyH_takeAt (i := 7) (d := 69) (v := ?vq6x) rfl rfl (by kernel_rfl) (by kernel_rfl) (by kernel_rfl) (fun _ _ _ h => h) (Or.inl ⟨by rfl, ?hyq6x⟩) hHeld ?_
            case hyq6x =>
              intro W hSw
              clear hSw
              (go_simp; try with_reducible rfl)
            simp only [List.setIfInBounds_toArray, List.set_cons_zero, List.set_cons_succ]
            refine wpAnyH_ready (rs := [8]) (by kernel_rfl) (by simp) (AllReadyH.cons rfl (fun K hK => ?_) AllReadyH.nil)
            have g2 : wa0abcd.cell? ⟨w.heap.size, 2, none⟩ = some (.slice B m k0) := HBq.out.cell 2
            have f2 := HBq.out.frozen 2
            go_simp
            refine hK.out _ _ (Blk.far hHeld (by simp) _) (fun hHeld => ?_)
            clear hK K g2 f2
            have hB8 : Blk (wa0abcd.setCell ⟨w.heap.size, 2, none⟩ (.slice A6 q6 c6)) w.heap.size 29 #[.int .i64 (d.room : Int), .slice A n c, .slice A6 q6 c6] := HBq.out.set_ 2 _
            have HR8 := Lib.hid (HRq.out.far (p := ⟨w.heap.size, 2, none⟩) (by simp) (.slice A6 q6 c6))
            have HBL8 := Lib.hid (HBLq.out.setCell (p := ⟨w.heap.size, 2, none⟩) (Nat.le_refl _) (.slice A6 q6 c6))
            have HO8 : Hid (OwnK (wa0abcd.setCell ⟨w.heap.size, 2, none⟩ (.slice A6 q6 c6)) 65 4 (.slice A6 q6 c6) (css ++ [#[.int .i64 t.what, .string (str t.name), .slice Ab qb cb, .int .i64 t.n]])) := Lib.hid (HO6.out.keepB (fun g e => Below.heap_setCell _ ⟨w.heap.size, 2, none⟩ _ g (by show g ≠ w.heap.size; have := HV6.out g e; omega)))
            generalize wa0abcd.setCell ⟨w.heap.size, 2, none⟩ (.slice A6 q6 c6) = w8 at *
            refine wpAnyH_done (by kernel_rfl) ?_ _
            obtain ⟨u0, u1, u2⟩ := hB8.three
            clear hHeld hB8
            go_wp2_with (with_reducible refine at_store 29 rfl ?_)
            refine Stop.go (wpList_store_blk (by rfl) (by rfl) 29 _ _ (by rfl) (w.heap.size + 2) _ #[.int .i64 (d.room : Int), .slice A n c, .slice A6 q6 c6] (by rfl) (by rfl) 29 HR8.out (by rfl) (info29 _ rfl) (by simp [Value.oneCell']) ?_)
            intro w9 f9 g9 s9
            go_wp2_with fail
            refine bodyPost_ret (v := .tuple #[.agg #[.int .i64 (d.room : Int), .slice A n c, .slice A6 q6 c6], .int .i64 0]) (results_ct (by rfl) _ _ (w.heap.size + 2) 29 _ (0, 0) _ (by rfl) f9 Try.underlying29 (by rfl) (info29 _ rfl) (by rfl)) rfl ?_
            have hb9 := below_grown HBL8.out g9 (Nat.le_refl _) (by omega)
            have ho9 := HO8.out.keep (Turn.of_grown (S := fun b => b = w.heap.size + 2) g9 (fun r e => by cases e; rfl)) (fun g e e' => by have := HV6.out g e; omega)
            exact did_done HL.out hnc hcm HTA.out HCS.out HCSR.out HK.out ho9 (fun g e hx => by have h1 := HV6.out g e; have h2 := HX.out g hx; omega) hqc6 hcm6 hb9
        · go_simp
          refine hK.out _ _ (hHeld.alloc _) (fun hHeld => ?_)
          clear hK K
          try simp only [List.setIfInBounds_toArray, List.set_cons_zero, List.set_cons_succ]
          have hal : Below wa0.heap.size wa0 (wa0.alloc (.cells #[.int .i64 t.what, .string (str t.name), .slice Ab qb cb, .int .i64 t.n] 65)) := (Below.refl _ _).alloc (Nat.le_refl _) _
          have HR5 := Lib.hid (rd_one (X := No) (k := 4) wa0 65 #[.int .i64 t.what, .string (str t.name), .slice Ab qb cb, .int .i64 t.n] rfl (fun u hu => by simp at hu; rcases hu with rfl | rfl | rfl | rfl <;> rfl) (fun h => h))
          have HL5 : Hid (wa0.heap.size < (wa0.alloc (.cells #[.int .i64 t.what, .string (str t.name), .slice Ab qb cb, .int .i64 t.n] 65)).heap.size) := Lib.hid (by simp)
          have HBq := Lib.hid (HBq.out.below hal HBq.out.lt)
          have HRq := Lib.hid (HRq.out.below hal HRq.out.lt)
          have HBLq := Lib.hid (HBLq.out.trans (hal.mono HBLq.out.size))
          clear hal
          generalize wa0.alloc (.cells #[.int .i64 t.what, .string (str t.name), .slice Ab qb cb, .int .i64 t.n] 65) = wa0b at *
          generalize wa0.heap.size = z5 at *
          refine wpAnyH_ready (rs := [0]) (by kernel_rfl) (by simp) (AllReadyH.cons rfl (fun K hK => ?_) AllReadyH.nil)
          go_simp
          refine hK.out _ _ (hHeld.alloc _) (fun hHeld => ?_)
          clear hK K
          try simp only [List.setIfInBounds_toArray, List.set_cons_zero, List.set_cons_succ]
          have hal : Below wa0b.heap.size wa0b (wa0b.alloc (.cells #[] 65)) := (Below.refl _ _).alloc (Nat.le_refl _) _
          have HO0 := Lib.hid (ownK_empty wa0b 65 4)
          have HZ0 : Hid (w.heap.size + 3 ≤ wa0b.heap.size) := Lib.hid (by have := HRq.out.lt; omega)
          have HBq := Lib.hid (HBq.out.below hal HBq.out.lt)
          have HRq := Lib.hid (HRq.out.below hal HRq.out.lt)
          have HBLq := Lib.hid (HBLq.out.trans (hal.mono HBLq.out.size))
          have HR5 := Lib.hid (HR5.out.below hal)
          have HNE : Hid (z5 ≠ wa0b.heap.size) := Lib.hid (by have := HL5.out; omega)
          clear hal
          generalize wa0b.alloc (.cells #[] 65) = wa0ba at *
          generalize wa0b.heap.size = z0 at *
          refine wpAnyH_ready (rs := [3]) (by kernel_rfl) (by simp) (AllReadyH.cons rfl (fun K hK => ?_) AllReadyH.nil)
          refine step_append_k (d := 65) el27 (by rfl) rfl _ _ (by rfl) _ [] (by rfl) HO0.out X B m k0 css (by rfl) (HRD.out.below HBLq.out) (by simp) (by have := HM.out; omega) ?_
          intro v3 wa0bac ho3 hg3
          rw [List.nil_append] at ho3
          have hT3 : Turn (fun b => b = z0) wa0ba wa0bac := hg3.turn (fun g e => by cases e; rfl)
          have hz := HZ0.out
          refine hK.out _ _ (Blk.keep hHeld hT3 (by omega)) (fun hHeld => ?_)
          clear hK K
          try simp only [List.setIfInBounds_toArray, List.set_cons_zero, List.set_cons_succ]
          have HV3 : Hid (∀ g, v3.ownBlock = some g → w.heap.size + 3 ≤ g) := Lib.hid (fun g e => by
            rcases hg3.2 g e with q | q
            · cases q; exact hz
            · have := HRq.out.lt; omega)
          have HR5 := Lib.hid (rd_keep1 HR5.out hT3 (fun e => HNE.out e))
          have HBq := Lib.hid (HBq.out.keep hT3 (by omega))
          have HRq := Lib.hid (HRq.out.keep hT3 (by omega))
          have HBLq := Lib.hid (HBLq.out.trans (hT3.below HBLq.out.size (fun b e => by omega)))
          have HO3 := Lib.hid ho3
          clear ho3 hg3 hT3 hz
          refine wpAnyH_ready (rs := [6]) (by kernel_rfl) (by simp) (AllReadyH.cons rfl (fun K hK => ?_) AllReadyH.nil)
          refine step_append_k (d := 68) el27 (by rfl) rfl _ _ (by rfl) _ css (by rfl) HO3.out No _ 1 1 [#[.int .i64 t.what, .string (str t.name), .slice Ab qb cb, .int .i64 t.n]] (by rfl) HR5.out (by have h1 := HCS.out; have h2 := HT.out.len; have h3 := HM.out; omega) (by omega) ?_
          intro v6 wa0bacd ho6 hg6
          have hT6 : Turn (fun b => w.heap.size + 3 ≤ b) wa0bac wa0bacd := hg6.turn (fun g e => HV3.out g e)
          have HV6 : Hid (∀ g, v6.ownBlock = some g → w.heap.size + 3 ≤ g) := Lib.hid (fun g e => by
            rcases hg6.2 g e with q | q
            · exact HV3.out g q
            · have := HRq.out.lt; omega)
          refine hK.out _ _ (Blk.keep hHeld hT6 (by omega)) (fun hHeld => ?_)
          clear hK K
          try simp only [List.setIfInBounds_toArray, List.set_cons_zero, List.set_cons_succ]
          have HBq := Lib.hid (HBq.out.keep hT6 (by omega))
          have HRq := Lib.hid (HRq.out.keep hT6 (by omega))
          have HBLq := Lib.hid (HBLq.out.trans (hT6.below HBLq.out.size (fun b e => by omega)))
          have HO6 := Lib.hid ho6
          obtain ⟨A6, q6, c6, rfl, -, hqc6, hcm6⟩ := ho6.form
          clear ho6 hg6 hT6
          refine wpAnyH_takeAt (i := 7) (d := 69) (v := ?vq7x) rfl rfl (by kernel_rfl) (by kernel_rfl) (by kernel_rfl) (fun _ _ _ h => h) (Or.inl ⟨by rfl, ?hyq7x⟩) hHeld ?_
          case hyq7x =>
            intro W hSw
            clear hSw
            (go_simp; try with_reducible rfl)
          simp only [List.setIfInBounds_toArray, List.set_cons_zero, List.set_cons_succ]
          refine wpAnyH_ready (rs := [8]) (by kernel_rfl) (by simp) (AllReadyH.cons rfl (fun K hK => ?_) AllReadyH.nil)
          have g2 : wa0bacd.cell? ⟨w.heap.size, 2, none⟩ = some (.slice B m k0) := HBq.out.cell 2
          have f2 := HBq.out.frozen 2
          go_simp
          refine hK.out _ _ (Blk.far hHeld (by simp) _) (fun hHeld => ?_)
          clear hK K g2 f2
          have hB8 : Blk (wa0bacd.setCell ⟨w.heap.size, 2, none⟩ (.slice A6 q6 c6)) w.heap.size 29 #[.int .i64 (d.room : Int), .slice A n c, .slice A6 q6 c6] := HBq.out.set_ 2 _
          have HR8 := Lib.hid (HRq.out.far (p := ⟨w.heap.size, 2, none⟩) (by simp) (.slice A6 q6 c6))
          have HBL8 := Lib.hid (HBLq.out.setCell (p := ⟨w.heap.size, 2, none⟩) (Nat.le_refl _) (.slice A6 q6 c6))
          have HO8 : Hid (OwnK (wa0bacd.setCell ⟨w.heap.size, 2, none⟩ (.slice A6 q6 c6)) 65 4 (.slice A6 q6 c6) (css ++ [#[.int .i64 t.what, .string (str t.name), .slice Ab qb cb, .int .i64 t.n]])) := Lib.hid (HO6.out.keepB (fun g e => Below.heap_setCell _ ⟨w.heap.size, 2, none⟩ _ g (by show g ≠ w.heap.size; have := HV6.out g e; omega)))
          generalize wa0bacd.setCell ⟨w.heap.size, 2, none⟩ (.slice A6 q6 c6) = w8 at *
          refine wpAnyH_done (by kernel_rfl) ?_ _
          obtain ⟨u0, u1, u2⟩ := hB8.three
          clear hHeld hB8
          go_wp2_with (with_reducible refine at_store 29 rfl ?_)
          refine Stop.go (wpList_store_blk (by rfl) (by rfl) 29 _ _ (by rfl) (w.heap.size + 2) _ #[.int .i64 (d.room : Int), .slice A n c, .slice A6 q6 c6] (by rfl) (by rfl) 29 HR8.out (by rfl) (info29 _ rfl) (by simp [Value.oneCell']) ?_)
          intro w9 f9 g9 s9
          go_wp2_with fail
          refine bodyPost_ret (v := .tuple #[.agg #[.int .i64 (d.room : Int), .slice A n c, .slice A6 q6 c6], .int .i64 0]) (results_ct (by rfl) _ _ (w.heap.size + 2) 29 _ (0, 0) _ (by rfl) f9 Try.underlying29 (by rfl) (info29 _ rfl) (by rfl)) rfl ?_
          have hb9 := below_grown HBL8.out g9 (Nat.le_refl _) (by omega)
          have ho9 := HO8.out.keep (Turn.of_grown (S := fun b => b = w.heap.size + 2) g9 (fun r e => by cases e; rfl)) (fun g e e' => by have := HV6.out g e; omega)
          exact did_done HL.out hnc hcm HTA.out HCS.out HCSR.out HK.out ho9 (fun g e hx => by have h1 := HV6.out g e; have h2 := HX.out g hx; omega) hqc6 hcm6 hb9
      · go_simp
        refine hK.out _ _ (hHeld.alloc _) (fun hHeld => ?_)
        clear hK K
        try simp only [List.setIfInBounds_toArray, List.set_cons_zero, List.set_cons_succ]
        have hal : Below wa0.heap.size wa0 (wa0.alloc (.cells #[.int .i64 t.what, .string (str t.name), .slice Ab qb cb, .int .i64 t.n] 65)) := (Below.refl _ _).alloc (Nat.le_refl _) _
        have HR5 := Lib.hid (rd_one (X := No) (k := 4) wa0 65 #[.int .i64 t.what, .string (str t.name), .slice Ab qb cb, .int .i64 t.n] rfl (fun u hu => by simp at hu; rcases hu with rfl | rfl | rfl | rfl <;> rfl) (fun h => h))
        have HL5 : Hid (wa0.heap.size < (wa0.alloc (.cells #[.int .i64 t.what, .string (str t.name), .slice Ab qb cb, .int .i64 t.n] 65)).heap.size) := Lib.hid (by simp)
        have HBq := Lib.hid (HBq.out.below hal HBq.out.lt)
        have HRq := Lib.hid (HRq.out.below hal HRq.out.lt)
        have HBLq := Lib.hid (HBLq.out.trans (hal.mono HBLq.out.size))
        clear hal
        generalize wa0.alloc (.cells #[.int .i64 t.what, .string (str t.name), .slice Ab qb cb, .int .i64 t.n] 65) = wa0b at *
        generalize wa0.heap.size = z5 at *
        refine wpAnyH_ready (rs := [0, 2]) (by kernel_rfl) (by simp) (AllReadyH.cons rfl (fun K hK => ?_) (AllReadyH.cons rfl (fun K hK => ?_) AllReadyH.nil))
        · go_simp
          refine hK.out _ _ (hHeld.alloc _) (fun hHeld => ?_)
          clear hK K
          try simp only [List.setIfInBounds_toArray, List.set_cons_zero, List.set_cons_succ]
          have hal : Below wa0b.heap.size wa0b (wa0b.alloc (.cells #[] 65)) := (Below.refl _ _).alloc (Nat.le_refl _) _
          have HO0 := Lib.hid (ownK_empty wa0b 65 4)
          have HZ0 : Hid (w.heap.size + 3 ≤ wa0b.heap.size) := Lib.hid (by have := HRq.out.lt; omega)
          have HBq := Lib.hid (HBq.out.below hal HBq.out.lt)
          have HRq := Lib.hid (HRq.out.below hal HRq.out.lt)
          have HBLq := Lib.hid (HBLq.out.trans (hal.mono HBLq.out.size))
          have HR5 := Lib.hid (HR5.out.below hal)
          have HNE : Hid (z5 ≠ wa0b.heap.size) := Lib.hid (by have := HL5.out; omega)
          clear hal
          generalize wa0b.alloc (.cells #[] 65) = wa0ba at *
          generalize wa0b.heap.size = z0 at *
          refine wpAnyH_ready (rs := [2]) (by kernel_rfl) (by simp) (AllReadyH.cons rfl (fun K hK => ?_) AllReadyH.nil)
          have f2 : wa0ba.cell? ⟨w.heap.size, 2, none⟩ = some (.slice B m k0) := HBq.out.cell 2
          go_simp
          refine hK.out _ _ hHeld (fun hHeld => ?_)
          clear hK K f2
          try simp only [List.setIfInBounds_toArray, List.set_cons_zero, List.set_cons_succ]
          refine wpAnyH_ready (rs := [3]) (by kernel_rfl) (by simp) (AllReadyH.cons rfl (fun K hK => ?_) AllReadyH.nil)
          refine step_append_k (d := 65) el27 (by rfl) rfl _ _ (by rfl) _ [] (by rfl) HO0.out X B m k0 css (by rfl) (HRD.out.below HBLq.out) (by simp) (by have := HM.out; omega) ?_
          intro v3 wa0bac ho3 hg3
          rw [List.nil_append] at ho3
          have hT3 : Turn (fun b => b = z0) wa0ba wa0bac := hg3.turn (fun g e => by cases e; rfl)
          have hz := HZ0.out
          refine hK.out _ _ (Blk.keep hHeld hT3 (by omega)) (fun hHeld => ?_)
          clear hK K
          try simp only [List.setIfInBounds_toArray, List.set_cons_zero, List.set_cons_succ]
          have HV3 : Hid (∀ g, v3.ownBlock = some g → w.heap.size + 3 ≤ g) := Lib.hid (fun g e => by
            rcases hg3.2 g e with q | q
            · cases q; exact hz
            · have := HRq.out.lt; omega)
          have HR5 := Lib.hid (rd_keep1 HR5.out hT3 (fun e => HNE.out e))
          have HBq := Lib.hid (HBq.out.keep hT3 (by omega))
          have HRq := Lib.hid (HRq.out.keep hT3 (by omega))
          have HBLq := Lib.hid (HBLq.out.trans (hT3.below HBLq.out.size (fun b e => by omega)))
          have HO3 := Lib.hid ho3
          clear ho3 hg3 hT3 hz
          refine wpAnyH_ready (rs := [6]) (by kernel_rfl) (by simp) (AllReadyH.cons rfl (fun K hK => ?_) AllReadyH.nil)
          refine step_append_k (d := 68) el27 (by rfl) rfl _ _ (by rfl) _ css (by rfl) HO3.out No _ 1 1 [#[.int .i64 t.what, .string (str t.name), .slice Ab qb cb, .int .i64 t.n]] (by rfl) HR5.out (by have h1 := HCS.out; have h2 := HT.out.len; have h3 := HM.out; omega) (by omega) ?_
          intro v6 wa0bacd ho6 hg6
          have hT6 : Turn (fun b => w.heap.size + 3 ≤ b) wa0bac wa0bacd := hg6.turn (fun g e => HV3.out g e)
          have HV6 : Hid (∀ g, v6.ownBlock = some g → w.heap.size + 3 ≤ g) := Lib.hid (fun g e => by
            rcases hg6.2 g e with q | q
            · exact HV3.out g q
            · have := HRq.out.lt; omega)
          refine hK.out _ _ (Blk.keep hHeld hT6 (by omega)) (fun hHeld => ?_)
          clear hK K
          try simp only [List.setIfInBounds_toArray, List.set_cons_zero, List.set_cons_succ]
          have HBq := Lib.hid (HBq.out.keep hT6 (by omega))
          have HRq := Lib.hid (HRq.out.keep hT6 (by omega))
          have HBLq := Lib.hid (HBLq.out.trans (hT6.below HBLq.out.size (fun b e => by omega)))
          have HO6 := Lib.hid ho6
          obtain ⟨A6, q6, c6, rfl, -, hqc6, hcm6⟩ := ho6.form
          clear ho6 hg6 hT6
          refine wpAnyH_takeAt (i := 7) (d := 69) (v := ?vq8x) rfl rfl (by kernel_rfl) (by kernel_rfl) (by kernel_rfl) (fun _ _ _ h => h) (Or.inl ⟨by rfl, ?hyq8x⟩) hHeld ?_
          case hyq8x =>
            intro W hSw
            clear hSw
            (go_simp; try with_reducible rfl)
          simp only [List.setIfInBounds_toArray, List.set_cons_zero, List.set_cons_succ]
          refine wpAnyH_ready (rs := [8]) (by kernel_rfl) (by simp) (AllReadyH.cons rfl (fun K hK => ?_) AllReadyH.nil)
          have g2 : wa0bacd.cell? ⟨w.heap.size, 2, none⟩ = some (.slice B m k0) := HBq.out.cell 2
          have f2 := HBq.out.frozen 2
          go_simp
          refine hK.out _ _ (Blk.far hHeld (by simp) _) (fun hHeld => ?_)
          clear hK K g2 f2
          have hB8 : Blk (wa0bacd.setCell ⟨w.heap.size, 2, none⟩ (.slice A6 q6 c6)) w.heap.size 29 #[.int .i64 (d.room : Int), .slice A n c, .slice A6 q6 c6] := HBq.out.set_ 2 _
          have HR8 := Lib.hid (HRq.out.far (p := ⟨w.heap.size, 2, none⟩) (by simp) (.slice A6 q6 c6))
          have HBL8 := Lib.hid (HBLq.out.setCell (p := ⟨w.heap.size, 2, none⟩) (Nat.le_refl _) (.slice A6 q6 c6))
          have HO8 : Hid (OwnK (wa0bacd.setCell ⟨w.heap.size, 2, none⟩ (.slice A6 q6 c6)) 65 4 (.slice A6 q6 c6) (css ++ [#[.int .i64 t.what, .string (str t.name), .slice Ab qb cb, .int .i64 t.n]])) := Lib.hid (HO6.out.keepB (fun g e => Below.heap_setCell _ ⟨w.heap.size, 2, none⟩ _ g (by show g ≠ w.heap.size; have := HV6.out g e; omega)))
          generalize wa0bacd.setCell ⟨w.heap.size, 2, none⟩ (.slice A6 q6 c6) = w8 at *
          refine wpAnyH_done (by kernel_rfl) ?_ _
          obtain ⟨u0, u1, u2⟩ := hB8.three
          clear hHeld hB8
          go_wp2_with (with_reducible refine at_store 29 rfl ?_)
          refine Stop.go (wpList_store_blk (by rfl) (by rfl) 29 _ _ (by rfl) (w.heap.size + 2) _ #[.int .i64 (d.room : Int), .slice A n c, .slice A6 q6 c6] (by rfl) (by rfl) 29 HR8.out (by rfl) (info29 _ rfl) (by simp [Value.oneCell']) ?_)
          intro w9 f9 g9 s9
          go_wp2_with fail
          refine bodyPost_ret (v := .tuple #[.agg #[.int .i64 (d.room : Int), .slice A n c, .slice A6 q6 c6], .int .i64 0]) (results_ct (by rfl) _ _ (w.heap.size + 2) 29 _ (0, 0) _ (by rfl) f9 Try.underlying29 (by rfl) (info29 _ rfl) (by rfl)) rfl ?_
          have hb9 := below_grown HBL8.out g9 (Nat.le_refl _) (by omega)
          have ho9 := HO8.out.keep (Turn.of_grown (S := fun b => b = w.heap.size + 2) g9 (fun r e => by cases e; rfl)) (fun g e e' => by have := HV6.out g e; omega)
          exact did_done HL.out hnc hcm HTA.out HCS.out HCSR.out HK.out ho9 (fun g e hx => by have h1 := HV6.out g e; have h2 := HX.out g hx; omega) hqc6 hcm6 hb9
        · have f2 : wa0b.cell? ⟨w.heap.size, 2, none⟩ = some (.slice B m k0) := HBq.out.cell 2
          go_simp
          refine hK.out _ _ hHeld (fun hHeld => ?_)
          clear hK K f2
          try simp only [List.setIfInBounds_toArray, List.set_cons_zero, List.set_cons_succ]
          refine wpAnyH_ready (rs := [0]) (by kernel_rfl) (by simp) (AllReadyH.cons rfl (fun K hK => ?_) AllReadyH.nil)
          go_simp
          refine hK.out _ _ (hHeld.alloc _) (fun hHeld => ?_)
          clear hK K
          try simp only [List.setIfInBounds_toArray, List.set_cons_zero, List.set_cons_succ]
          have hal : Below wa0b.heap.size wa0b (wa0b.alloc (.cells #[] 65)) := (Below.refl _ _).alloc (Nat.le_refl _) _
          have HO0 := Lib.hid (ownK_empty wa0b 65 4)
          have HZ0 : Hid (w.heap.size + 3 ≤ wa0b.heap.size) := Lib.hid (by have := HRq.out.lt; omega)
          have HBq := Lib.hid (HBq.out.below hal HBq.out.lt)
          have HRq := Lib.hid (HRq.out.below hal HRq.out.lt)
          have HBLq := Lib.hid (HBLq.out.trans (hal.mono HBLq.out.size))
          have HR5 := Lib.hid (HR5.out.below hal)
          have HNE : Hid (z5 ≠ wa0b.heap.size) := Lib.hid (by have := HL5.out; omega)
          clear hal
          generalize wa0b.alloc (.cells #[] 65) = wa0ba at *
          generalize wa0b.heap.size = z0 at *
          refine wpAnyH_ready (rs := [3]) (by kernel_rfl) (by simp) (AllReadyH.cons rfl (fun K hK => ?_) AllReadyH.nil)
          refine step_append_k (d := 65) el27 (by rfl) rfl _ _ (by rfl) _ [] (by rfl) HO0.out X B m k0 css (by rfl) (HRD.out.below HBLq.out) (by simp) (by have := HM.out; omega) ?_
          intro v3 wa0bac ho3 hg3
          rw [List.nil_append] at ho3
          have hT3 : Turn (fun b => b = z0) wa0ba wa0bac := hg3.turn (fun g e => by cases e; rfl)
          have hz := HZ0.out
          refine hK.out _ _ (Blk.keep hHeld hT3 (by omega)) (fun hHeld => ?_)
          clear hK K
          try simp only [List.setIfInBounds_toArray, List.set_cons_zero, List.set_cons_succ]
          have HV3 : Hid (∀ g, v3.ownBlock = some g → w.heap.size + 3 ≤ g) := Lib.hid (fun g e => by
            rcases hg3.2 g e with q | q
            · cases q; exact hz
            · have := HRq.out.lt; omega)
          have HR5 := Lib.hid (rd_keep1 HR5.out hT3 (fun e => HNE.out e))
          have HBq := Lib.hid (HBq.out.keep hT3 (by omega))
          have HRq := Lib.hid (HRq.out.keep hT3 (by omega))
          have HBLq := Lib.hid (HBLq.out.trans (hT3.below HBLq.out.size (fun b e => by omega)))
          have HO3 := Lib.hid ho3
          clear ho3 hg3 hT3 hz
          refine wpAnyH_ready (rs := [6]) (by kernel_rfl) (by simp) (AllReadyH.cons rfl (fun K hK => ?_) AllReadyH.nil)
          refine step_append_k (d := 68) el27 (by rfl) rfl _ _ (by rfl) _ css (by rfl) HO3.out No _ 1 1 [#[.int .i64 t.what, .string (str t.name), .slice Ab qb cb, .int .i64 t.n]] (by rfl) HR5.out (by have h1 := HCS.out; have h2 := HT.out.len; have h3 := HM.out; omega) (by omega) ?_
          intro v6 wa0bacd ho6 hg6
          have hT6 : Turn (fun b => w.heap.size + 3 ≤ b) wa0bac wa0bacd := hg6.turn (fun g e => HV3.out g e)
          have HV6 : Hid (∀ g, v6.ownBlock = some g → w.heap.size + 3 ≤ g) := Lib.hid (fun g e => by
            rcases hg6.2 g e with q | q
            · exact HV3.out g q
            · have := HRq.out.lt; omega)
          refine hK.out _ _ (Blk.keep hHeld hT6 (by omega)) (fun hHeld => ?_)
          clear hK K
          try simp only [List.setIfInBounds_toArray, List.set_cons_zero, List.set_cons_succ]
          have HBq := Lib.hid (HBq.out.keep hT6 (by omega))
          have HRq := Lib.hid (HRq.out.keep hT6 (by omega))
          have HBLq := Lib.hid (HBLq.out.trans (hT6.below HBLq.out.size (fun b e => by omega)))
          have HO6 := Lib.hid ho6
          obtain ⟨A6, q6, c6, rfl, -, hqc6, hcm6⟩ := ho6.form
          clear ho6 hg6 hT6
          refine wpAnyH_takeAt (i := 7) (d := 69) (v := ?vq9x) rfl rfl (by kernel_rfl) (by kernel_rfl) (by kernel_rfl) (fun _ _ _ h => h) (Or.inl ⟨by rfl, ?hyq9x⟩) hHeld ?_
          case hyq9x =>
            intro W hSw
            clear hSw
            (go_simp; try with_reducible rfl)
          simp only [List.setIfInBounds_toArray, List.set_cons_zero, List.set_cons_succ]
          refine wpAnyH_ready (rs := [8]) (by kernel_rfl) (by simp) (AllReadyH.cons rfl (fun K hK => ?_) AllReadyH.nil)
          have g2 : wa0bacd.cell? ⟨w.heap.size, 2, none⟩ = some (.slice B m k0) := HBq.out.cell 2
          have f2 := HBq.out.frozen 2
          go_simp
          refine hK.out _ _ (Blk.far hHeld (by simp) _) (fun hHeld => ?_)
          clear hK K g2 f2
          have hB8 : Blk (wa0bacd.setCell ⟨w.heap.size, 2, none⟩ (.slice A6 q6 c6)) w.heap.size 29 #[.int .i64 (d.room : Int), .slice A n c, .slice A6 q6 c6] := HBq.out.set_ 2 _
          have HR8 := Lib.hid (HRq.out.far (p := ⟨w.heap.size, 2, none⟩) (by simp) (.slice A6 q6 c6))
          have HBL8 := Lib.hid (HBLq.out.setCell (p := ⟨w.heap.size, 2, none⟩) (Nat.le_refl _) (.slice A6 q6 c6))
          have HO8 : Hid (OwnK (wa0bacd.setCell ⟨w.heap.size, 2, none⟩ (.slice A6 q6 c6)) 65 4 (.slice A6 q6 c6) (css ++ [#[.int .i64 t.what, .string (str t.name), .slice Ab qb cb, .int .i64 t.n]])) := Lib.hid (HO6.out.keepB (fun g e => Below.heap_setCell _ ⟨w.heap.size, 2, none⟩ _ g (by show g ≠ w.heap.size; have := HV6.out g e; omega)))
          generalize wa0bacd.setCell ⟨w.heap.size, 2, none⟩ (.slice A6 q6 c6) = w8 at *
          refine wpAnyH_done (by kernel_rfl) ?_ _
          obtain ⟨u0, u1, u2⟩ := hB8.three
          clear hHeld hB8
          go_wp2_with (with_reducible refine at_store 29 rfl ?_)
          refine Stop.go (wpList_store_blk (by rfl) (by rfl) 29 _ _ (by rfl) (w.heap.size + 2) _ #[.int .i64 (d.room : Int), .slice A n c, .slice A6 q6 c6] (by rfl) (by rfl) 29 HR8.out (by rfl) (info29 _ rfl) (by simp [Value.oneCell']) ?_)
          intro w9 f9 g9 s9
          go_wp2_with fail
          refine bodyPost_ret (v := .tuple #[.agg #[.int .i64 (d.room : Int), .slice A n c, .slice A6 q6 c6], .int .i64 0]) (results_ct (by rfl) _ _ (w.heap.size + 2) 29 _ (0, 0) _ (by rfl) f9 Try.underlying29 (by rfl) (info29 _ rfl) (by rfl)) rfl ?_
          have hb9 := below_grown HBL8.out g9 (Nat.le_refl _) (by omega)
          have ho9 := HO8.out.keep (Turn.of_grown (S := fun b => b = w.heap.size + 2) g9 (fun r e => by cases e; rfl)) (fun g e e' => by have := HV6.out g e; omega)
          exact did_done HL.out hnc hcm HTA.out HCS.out HCSR.out HK.out ho9 (fun g e hx => by have h1 := HV6.out g e; have h2 := HX.out g hx; omega) hqc6 hcm6 hb9
    · have hdr : decide ((d.room : Int) - (total d.st.files : Int) < (qb : Int)) = true := by simp; omega
      have HK : Hid (doC d.st t = 131) := Lib.hid (doC_room HNM.out hw (by rw [HQ.out]; show (d.room : Int) - (total d.st.files : Int) < (qb : Int); omega))
      clear hw hr
      go_wp2_with fail
      go_quiet ((go_at_call 60; exact Calls.quiet_of_same (HU2.out.used _ rfl)))
      have HB2 := Lib.hid (HB2.out.drewN nq)
      have HT2 := Lib.hid (HT2.out.drewN nq)
      have HRR := Lib.hid (HRR.out.drewN nq)
      have HBL := Lib.hid (below_drewN HBL.out nq)
      have HU2 := Lib.hid (HU2.out.same (W' := wq.drewN nq) rfl)
      clear x0 x1 x2 y0 y1 y2 y3
      generalize wq.drewN nq = wp at *
      obtain ⟨x0, x1, x2⟩ := HB2.out.three
      obtain ⟨y0, y1, y2, y3⟩ := HT2.out.four
      go_wp2_with (with_reducible refine at_store 29 rfl ?_)
      refine Stop.go (wpList_store_blk (by rfl) (by rfl) 29 _ _ (by rfl) (w.heap.size + 2) _ #[.int .i64 (d.room : Int), .slice A n c, .slice B m k0] (by rfl) (by rfl) 29 HRR.out (by rfl) (info29 _ rfl) (by simp [Value.oneCell']) ?_)
      intro w9 f9 g9 s9
      go_wp2_with fail
      refine bodyPost_ret (v := .tuple #[.agg #[.int .i64 (d.room : Int), .slice A n c, .slice B m k0], .int .i64 131]) (results_ct (by rfl) _ _ (w.heap.size + 2) 29 _ (0, 0) _ (by rfl) f9 Try.underlying29 (by rfl) (info29 _ rfl) (by rfl)) rfl ?_
      have hb9 := below_grown HBL.out g9 (Nat.le_refl _) (by omega)
      exact did_refused HK.out (by omega) (HD.out.below hb9) hb9
  · have hq0 : (t.what == 0) = false := by rw [hw]; rfl
    have hq9 : (!t.what == 0) = true := by rw [hw]; rfl
    have hq8 : ¬ t.what = 0 := by omega
    have hq1 : (t.what == 1) = true := by rw [hw]; rfl
    have hfa := atF_find t.name d.st.files
    cases hf : atF t.name d.st.files with
    | none =>
      have hnone := hfa.2 hf
      have hat : atI t.name d.st.files = -1 := by unfold atI; rw [hf]
      rw [hat]
      have HK : Hid (doC d.st t = 5) := Lib.hid (doC_none HNM.out (by omega) hnone)
      clear hfa hf hnone hat hw
      go_wp2_with (with_reducible refine at_store 29 rfl ?_)
      refine Stop.go (wpList_store_blk (by rfl) (by rfl) 29 _ _ (by rfl) (w.heap.size + 2) _ #[.int .i64 (d.room : Int), .slice A n c, .slice B m k0] (by rfl) (by rfl) 29 HRR.out (by rfl) (info29 _ rfl) (by simp [Value.oneCell']) ?_)
      intro w9 f9 g9 s9
      go_wp2_with fail
      refine bodyPost_ret (v := .tuple #[.agg #[.int .i64 (d.room : Int), .slice A n c, .slice B m k0], .int .i64 5]) (results_ct (by rfl) _ _ (w.heap.size + 2) 29 _ (0, 0) _ (by rfl) f9 Try.underlying29 (by rfl) (info29 _ rfl) (by rfl)) rfl ?_
      have hb9 := below_grown HBL.out g9 (Nat.le_refl _) (by omega)
      exact did_refused HK.out (by omega) (HD.out.below hb9) hb9
    | some k =>
      obtain ⟨hkl, hk1, hk2⟩ := hfa.1 k hf
      have hat : atI t.name d.st.files = (k : Int) := by unfold atI; rw [hf]
      rw [hat]
      have hkq : k < q2 := by have := HR2.out.len; omega
      have hki : (k : Int) < (q2 : Int) := by omega
      have hkn : decide ((k : Int) < 0) = false := by simp
      obtain ⟨ad, B1, q1, c1, rfl, ha1, -, s0, s1, hy1, hq1, hc1⟩ := HR2.out.at_ hkl
      have HY1 := Lib.hid hy1.1
      clear hfa hf hat hk1 hy1
      by_cases hn0 : t.n < 0
      · have hd0 : decide (t.n < 0) = true := by simpa using hn0
        have HK : Hid (doC d.st t = 4) := Lib.hid (doC_range HNM.out hw hk2 (.inl hn0))
        clear hw hn0 hk2
        go_wp2_with fail
        go_quiet (fail)
        have HB2 := Lib.hid (HB2.out.drewN nq)
        have HT2 := Lib.hid (HT2.out.drewN nq)
        have HRR := Lib.hid (HRR.out.drewN nq)
        have HBL := Lib.hid (below_drewN HBL.out nq)
        have HU2 := Lib.hid (HU2.out.same (W' := w2.drewN nq) rfl)
        clear x0 x1 x2 y0 y1 y2 y3
        generalize w2.drewN nq = wq at *
        obtain ⟨x0, x1, x2⟩ := HB2.out.three
        obtain ⟨y0, y1, y2, y3⟩ := HT2.out.four
        go_wp2_with (with_reducible refine at_store 29 rfl ?_)
        refine Stop.go (wpList_store_blk (by rfl) (by rfl) 29 _ _ (by rfl) (w.heap.size + 2) _ #[.int .i64 (d.room : Int), .slice A n c, .slice B m k0] (by rfl) (by rfl) 29 HRR.out (by rfl) (info29 _ rfl) (by simp [Value.oneCell']) ?_)
        intro w9 f9 g9 s9
        go_wp2_with fail
        refine bodyPost_ret (v := .tuple #[.agg #[.int .i64 (d.room : Int), .slice A n c, .slice B m k0], .int .i64 4]) (results_ct (by rfl) _ _ (w.heap.size + 2) 29 _ (0, 0) _ (by rfl) f9 Try.underlying29 (by rfl) (info29 _ rfl) (by rfl)) rfl ?_
        have hb9 := below_grown HBL.out g9 (Nat.le_refl _) (by omega)
        exact did_refused HK.out (by omega) (HD.out.below hb9) hb9
      · have hd0 : decide (t.n < 0) = false := by simpa using hn0
        by_cases hn1 : t.n ≤ (q1 : Int)
        · have hd1 : decide ((q1 : Int) < t.n) = false := by simp; omega
          have HK : Hid (doC d.st t = 0) := Lib.hid (doC_cut HNM.out hw hk2 ⟨by omega, by have := HY1.out; omega⟩)
          clear hw hn0 hn1 hk2
          go_wp2_with fail
          go_quiet (fail)
          have HB2 := Lib.hid (HB2.out.drewN nq)
          have HT2 := Lib.hid (HT2.out.drewN nq)
          have HRR := Lib.hid (HRR.out.drewN nq)
          have HBL := Lib.hid (below_drewN HBL.out nq)
          have HU2 := Lib.hid (HU2.out.same (W' := w2.drewN nq) rfl)
          clear x0 x1 x2 y0 y1 y2 y3
          generalize w2.drewN nq = wq at *
          obtain ⟨x0, x1, x2⟩ := HB2.out.three
          obtain ⟨y0, y1, y2, y3⟩ := HT2.out.four
          go_wp2_with fail
          go_quiet (fail)
          have HB2 := Lib.hid (HB2.out.drewN nq)
          have HT2 := Lib.hid (HT2.out.drewN nq)
          have HRR := Lib.hid (HRR.out.drewN nq)
          have HBL := Lib.hid (below_drewN HBL.out nq)
          have HU2 := Lib.hid (HU2.out.same (W' := wq.drewN nq) rfl)
          clear x0 x1 x2 y0 y1 y2 y3
          generalize wq.drewN nq = wp at *
          obtain ⟨x0, x1, x2⟩ := HB2.out.three
          obtain ⟨y0, y1, y2, y3⟩ := HT2.out.four
          go_wp2_with fail
          have HBq := HB2
          have HTq := HT2
          have HRq := HRR
          have HBLq := HBL
          clear HB2 HT2 HRR HBL x0 x1 x2 y0 y1 y2 y3
          refine wp_region_np ?_
          refine wp_region_held_drew (S := fun W => Blk W (w.heap.size + 1) 65 #[.int .i64 t.what, .string (str t.name), .slice Ab qb cb, .int .i64 t.n]) (by kernel_rfl) HTq.out.drew (fun hHeld => ?_)
          have HBq := Lib.hid HBq.out.drew
          have HRq := Lib.hid HRq.out.drew
          have HBLq := Lib.hid HBLq.out.drew
          generalize wp.drew = wa0 at *
          refine wpAnyH_takeAt (i := 1) (d := 63) (v := ?vq10x) rfl rfl (by kernel_rfl) (by kernel_rfl) (by kernel_rfl) (fun _ _ _ h => h) (Or.inl ⟨by rfl, ?hyq10x⟩) hHeld ?_
          case hyq10x =>
            intro W hSw
            clear hSw
            (go_simp; try with_reducible rfl)
          simp only [List.setIfInBounds_toArray, List.set_cons_zero, List.set_cons_succ]
          refine wpAnyH_takeAt (i := 4) (d := 66) (v := ?vq11x) rfl rfl (by kernel_rfl) (by kernel_rfl) (by kernel_rfl) (fun _ _ _ h => h) (Or.inl ⟨by rfl, ?hyq11x⟩) hHeld ?_
          case hyq11x =>
            intro W hSw
            obtain ⟨c0, c1, c2, c3⟩ := Blk.four (show Blk W (w.heap.size + 1) 65 #[.int .i64 t.what, .string (str t.name), .slice Ab qb cb, .int .i64 t.n] from hSw)
            (go_simp; try with_reducible rfl)
          simp only [List.setIfInBounds_toArray, List.set_cons_zero, List.set_cons_succ]
          refine wpAnyH_ready (rs := [0, 2, 5]) (by kernel_rfl) (by simp) (AllReadyH.cons rfl (fun K hK => ?_) (AllReadyH.cons rfl (fun K hK => ?_) (AllReadyH.cons rfl (fun K hK => ?_) AllReadyH.nil)))
          · go_simp
            refine hK.out _ _ (hHeld.alloc _) (fun hHeld => ?_)
            clear hK K
            try simp only [List.setIfInBounds_toArray, List.set_cons_zero, List.set_cons_succ]
            have hal : Below wa0.heap.size wa0 (wa0.alloc (.cells #[] 65)) := (Below.refl _ _).alloc (Nat.le_refl _) _
            have HO0 := Lib.hid (ownK_empty wa0 65 4)
            have HZ0 : Hid (w.heap.size + 3 ≤ wa0.heap.size) := Lib.hid (by have := HRq.out.lt; omega)
            have HBq := Lib.hid (HBq.out.below hal HBq.out.lt)
            have HRq := Lib.hid (HRq.out.below hal HRq.out.lt)
            have HBLq := Lib.hid (HBLq.out.trans (hal.mono HBLq.out.size))
            clear hal
            generalize wa0.alloc (.cells #[] 65) = wa0a at *
            generalize wa0.heap.size = z0 at *
            refine wpAnyH_ready (rs := [2, 5]) (by kernel_rfl) (by simp) (AllReadyH.cons rfl (fun K hK => ?_) (AllReadyH.cons rfl (fun K hK => ?_) AllReadyH.nil))
            · have f2 : wa0a.cell? ⟨w.heap.size, 2, none⟩ = some (.slice B m k0) := HBq.out.cell 2
              go_simp
              refine hK.out _ _ hHeld (fun hHeld => ?_)
              clear hK K f2
              try simp only [List.setIfInBounds_toArray, List.set_cons_zero, List.set_cons_succ]
              refine wpAnyH_ready (rs := [3, 5]) (by kernel_rfl) (by simp) (AllReadyH.cons rfl (fun K hK => ?_) (AllReadyH.cons rfl (fun K hK => ?_) AllReadyH.nil))
              · refine step_append_k (d := 65) el27 (by rfl) rfl _ _ (by rfl) _ [] (by rfl) HO0.out X B m k0 css (by rfl) (HRD.out.below HBLq.out) (by simp) (by have := HM.out; omega) ?_
                intro v3 wa0ac ho3 hg3
                rw [List.nil_append] at ho3
                have hT3 : Turn (fun b => b = z0) wa0a wa0ac := hg3.turn (fun g e => by cases e; rfl)
                have hz := HZ0.out
                refine hK.out _ _ (Blk.keep hHeld hT3 (by omega)) (fun hHeld => ?_)
                clear hK K
                try simp only [List.setIfInBounds_toArray, List.set_cons_zero, List.set_cons_succ]
                have HV3 : Hid (∀ g, v3.ownBlock = some g → w.heap.size + 3 ≤ g) := Lib.hid (fun g e => by
                  rcases hg3.2 g e with q | q
                  · cases q; exact hz
                  · have := HRq.out.lt; omega)
                have HBq := Lib.hid (HBq.out.keep hT3 (by omega))
                have HRq := Lib.hid (HRq.out.keep hT3 (by omega))
                have HBLq := Lib.hid (HBLq.out.trans (hT3.below HBLq.out.size (fun b e => by omega)))
                have HO3 := Lib.hid ho3
                clear ho3 hg3 hT3 hz
                refine wpAnyH_ready (rs := [5]) (by kernel_rfl) (by simp) (AllReadyH.cons rfl (fun K hK => ?_) AllReadyH.nil)
                go_simp
                refine hK.out _ _ (hHeld.alloc _) (fun hHeld => ?_)
                clear hK K
                try simp only [List.setIfInBounds_toArray, List.set_cons_zero, List.set_cons_succ]
                have hal : Below wa0ac.heap.size wa0ac (wa0ac.alloc (.cells #[.int .i64 t.what, .string (str t.name), .slice Ab qb cb, .int .i64 t.n] 65)) := (Below.refl _ _).alloc (Nat.le_refl _) _
                have HR5 := Lib.hid (rd_one (X := No) (k := 4) wa0ac 65 #[.int .i64 t.what, .string (str t.name), .slice Ab qb cb, .int .i64 t.n] rfl (fun u hu => by simp at hu; rcases hu with rfl | rfl | rfl | rfl <;> rfl) (fun h => h))
                have HL5 : Hid (wa0ac.heap.size < (wa0ac.alloc (.cells #[.int .i64 t.what, .string (str t.name), .slice Ab qb cb, .int .i64 t.n] 65)).heap.size) := Lib.hid (by simp)
                have HO3 := Lib.hid (HO3.out.below hal)
                have HBq := Lib.hid (HBq.out.below hal HBq.out.lt)
                have HRq := Lib.hid (HRq.out.below hal HRq.out.lt)
                have HBLq := Lib.hid (HBLq.out.trans (hal.mono HBLq.out.size))
                clear hal
                generalize wa0ac.alloc (.cells #[.int .i64 t.what, .string (str t.name), .slice Ab qb cb, .int .i64 t.n] 65) = wa0acb at *
                generalize wa0ac.heap.size = z5 at *
                refine wpAnyH_ready (rs := [6]) (by kernel_rfl) (by simp) (AllReadyH.cons rfl (fun K hK => ?_) AllReadyH.nil)
                refine step_append_k (d := 68) el27 (by rfl) rfl _ _ (by rfl) _ css (by rfl) HO3.out No _ 1 1 [#[.int .i64 t.what, .string (str t.name), .slice Ab qb cb, .int .i64 t.n]] (by rfl) HR5.out (by have h1 := HCS.out; have h2 := HT.out.len; have h3 := HM.out; omega) (by omega) ?_
                intro v6 wa0acbd ho6 hg6
                have hT6 : Turn (fun b => w.heap.size + 3 ≤ b) wa0acb wa0acbd := hg6.turn (fun g e => HV3.out g e)
                have HV6 : Hid (∀ g, v6.ownBlock = some g → w.heap.size + 3 ≤ g) := Lib.hid (fun g e => by
                  rcases hg6.2 g e with q | q
                  · exact HV3.out g q
                  · have := HRq.out.lt; omega)
                refine hK.out _ _ (Blk.keep hHeld hT6 (by omega)) (fun hHeld => ?_)
                clear hK K
                try simp only [List.setIfInBounds_toArray, List.set_cons_zero, List.set_cons_succ]
                have HBq := Lib.hid (HBq.out.keep hT6 (by omega))
                have HRq := Lib.hid (HRq.out.keep hT6 (by omega))
                have HBLq := Lib.hid (HBLq.out.trans (hT6.below HBLq.out.size (fun b e => by omega)))
                have HO6 := Lib.hid ho6
                obtain ⟨A6, q6, c6, rfl, -, hqc6, hcm6⟩ := ho6.form
                clear ho6 hg6 hT6
                refine wpAnyH_takeAt (i := 7) (d := 69) (v := ?vq12x) rfl rfl (by kernel_rfl) (by kernel_rfl) (by kernel_rfl) (fun _ _ _ h => h) (Or.inl ⟨by rfl, ?hyq12x⟩) hHeld ?_
                case hyq12x =>
                  intro W hSw
                  clear hSw
                  (go_simp; try with_reducible rfl)
                simp only [List.setIfInBounds_toArray, List.set_cons_zero, List.set_cons_succ]
                refine wpAnyH_ready (rs := [8]) (by kernel_rfl) (by simp) (AllReadyH.cons rfl (fun K hK => ?_) AllReadyH.nil)
                have g2 : wa0acbd.cell? ⟨w.heap.size, 2, none⟩ = some (.slice B m k0) := HBq.out.cell 2
                have f2 := HBq.out.frozen 2
                go_simp
                refine hK.out _ _ (Blk.far hHeld (by simp) _) (fun hHeld => ?_)
                clear hK K g2 f2
                have hB8 : Blk (wa0acbd.setCell ⟨w.heap.size, 2, none⟩ (.slice A6 q6 c6)) w.heap.size 29 #[.int .i64 (d.room : Int), .slice A n c, .slice A6 q6 c6] := HBq.out.set_ 2 _
                have HR8 := Lib.hid (HRq.out.far (p := ⟨w.heap.size, 2, none⟩) (by simp) (.slice A6 q6 c6))
                have HBL8 := Lib.hid (HBLq.out.setCell (p := ⟨w.heap.size, 2, none⟩) (Nat.le_refl _) (.slice A6 q6 c6))
                have HO8 : Hid (OwnK (wa0acbd.setCell ⟨w.heap.size, 2, none⟩ (.slice A6 q6 c6)) 65 4 (.slice A6 q6 c6) (css ++ [#[.int .i64 t.what, .string (str t.name), .slice Ab qb cb, .int .i64 t.n]])) := Lib.hid (HO6.out.keepB (fun g e => Below.heap_setCell _ ⟨w.heap.size, 2, none⟩ _ g (by show g ≠ w.heap.size; have := HV6.out g e; omega)))
                generalize wa0acbd.setCell ⟨w.heap.size, 2, none⟩ (.slice A6 q6 c6) = w8 at *
                refine wpAnyH_done (by kernel_rfl) ?_ _
                obtain ⟨u0, u1, u2⟩ := hB8.three
                clear hHeld hB8
                go_wp2_with (with_reducible refine at_store 29 rfl ?_)
                refine Stop.go (wpList_store_blk (by rfl) (by rfl) 29 _ _ (by rfl) (w.heap.size + 2) _ #[.int .i64 (d.room : Int), .slice A n c, .slice A6 q6 c6] (by rfl) (by rfl) 29 HR8.out (by rfl) (info29 _ rfl) (by simp [Value.oneCell']) ?_)
                intro w9 f9 g9 s9
                go_wp2_with fail
                refine bodyPost_ret (v := .tuple #[.agg #[.int .i64 (d.room : Int), .slice A n c, .slice A6 q6 c6], .int .i64 0]) (results_ct (by rfl) _ _ (w.heap.size + 2) 29 _ (0, 0) _ (by rfl) f9 Try.underlying29 (by rfl) (info29 _ rfl) (by rfl)) rfl ?_
                have hb9 := below_grown HBL8.out g9 (Nat.le_refl _) (by omega)
                have ho9 := HO8.out.keep (Turn.of_grown (S := fun b => b = w.heap.size + 2) g9 (fun r e => by cases e; rfl)) (fun g e e' => by have := HV6.out g e; omega)
                exact did_done HL.out hnc hcm HTA.out HCS.out HCSR.out HK.out ho9 (fun g e hx => by have h1 := HV6.out g e; have h2 := HX.out g hx; omega) hqc6 hcm6 hb9
              · go_simp
                refine hK.out _ _ (hHeld.alloc _) (fun hHeld => ?_)
                clear hK K
                try simp only [List.setIfInBounds_toArray, List.set_cons_zero, List.set_cons_succ]
                have hal : Below wa0a.heap.size wa0a (wa0a.alloc (.cells #[.int .i64 t.what, .string (str t.name), .slice Ab qb cb, .int .i64 t.n] 65)) := (Below.refl _ _).alloc (Nat.le_refl _) _
                have HR5 := Lib.hid (rd_one (X := No) (k := 4) wa0a 65 #[.int .i64 t.what, .string (str t.name), .slice Ab qb cb, .int .i64 t.n] rfl (fun u hu => by simp at hu; rcases hu with rfl | rfl | rfl | rfl <;> rfl) (fun h => h))
                have HL5 : Hid (wa0a.heap.size < (wa0a.alloc (.cells #[.int .i64 t.what, .string (str t.name), .slice Ab qb cb, .int .i64 t.n] 65)).heap.size) := Lib.hid (by simp)
                have HNE : Hid (wa0a.heap.size ≠ z0) := Lib.hid (by have := HO0.out.lt (g := z0) rfl; omega)
                have HO0 := Lib.hid (HO0.out.below hal)
                have HBq := Lib.hid (HBq.out.below hal HBq.out.lt)
                have HRq := Lib.hid (HRq.out.below hal HRq.out.lt)
                have HBLq := Lib.hid (HBLq.out.trans (hal.mono HBLq.out.size))
                clear hal
                generalize wa0a.alloc (.cells #[.int .i64 t.what, .string (str t.name), .slice Ab qb cb, .int .i64 t.n] 65) = wa0ab at *
                generalize wa0a.heap.size = z5 at *
                refine wpAnyH_ready (rs := [3]) (by kernel_rfl) (by simp) (AllReadyH.cons rfl (fun K hK => ?_) AllReadyH.nil)
                refine step_append_k (d := 65) el27 (by rfl) rfl _ _ (by rfl) _ [] (by rfl) HO0.out X B m k0 css (by rfl) (HRD.out.below HBLq.out) (by simp) (by have := HM.out; omega) ?_
                intro v3 wa0abc ho3 hg3
                rw [List.nil_append] at ho3
                have hT3 : Turn (fun b => b = z0) wa0ab wa0abc := hg3.turn (fun g e => by cases e; rfl)
                have hz := HZ0.out
                refine hK.out _ _ (Blk.keep hHeld hT3 (by omega)) (fun hHeld => ?_)
                clear hK K
                try simp only [List.setIfInBounds_toArray, List.set_cons_zero, List.set_cons_succ]
                have HV3 : Hid (∀ g, v3.ownBlock = some g → w.heap.size + 3 ≤ g) := Lib.hid (fun g e => by
                  rcases hg3.2 g e with q | q
                  · cases q; exact hz
                  · have := HRq.out.lt; omega)
                have HR5 := Lib.hid (rd_keep1 HR5.out hT3 (fun e => HNE.out e))
                have HBq := Lib.hid (HBq.out.keep hT3 (by omega))
                have HRq := Lib.hid (HRq.out.keep hT3 (by omega))
                have HBLq := Lib.hid (HBLq.out.trans (hT3.below HBLq.out.size (fun b e => by omega)))
                have HO3 := Lib.hid ho3
                clear ho3 hg3 hT3 hz
                refine wpAnyH_ready (rs := [6]) (by kernel_rfl) (by simp) (AllReadyH.cons rfl (fun K hK => ?_) AllReadyH.nil)
                refine step_append_k (d := 68) el27 (by rfl) rfl _ _ (by rfl) _ css (by rfl) HO3.out No _ 1 1 [#[.int .i64 t.what, .string (str t.name), .slice Ab qb cb, .int .i64 t.n]] (by rfl) HR5.out (by have h1 := HCS.out; have h2 := HT.out.len; have h3 := HM.out; omega) (by omega) ?_
                intro v6 wa0abcd ho6 hg6
                have hT6 : Turn (fun b => w.heap.size + 3 ≤ b) wa0abc wa0abcd := hg6.turn (fun g e => HV3.out g e)
                have HV6 : Hid (∀ g, v6.ownBlock = some g → w.heap.size + 3 ≤ g) := Lib.hid (fun g e => by
                  rcases hg6.2 g e with q | q
                  · exact HV3.out g q
                  · have := HRq.out.lt; omega)
                refine hK.out _ _ (Blk.keep hHeld hT6 (by omega)) (fun hHeld => ?_)
                clear hK K
                try simp only [List.setIfInBounds_toArray, List.set_cons_zero, List.set_cons_succ]
                have HBq := Lib.hid (HBq.out.keep hT6 (by omega))
                have HRq := Lib.hid (HRq.out.keep hT6 (by omega))
                have HBLq := Lib.hid (HBLq.out.trans (hT6.below HBLq.out.size (fun b e => by omega)))
                have HO6 := Lib.hid ho6
                obtain ⟨A6, q6, c6, rfl, -, hqc6, hcm6⟩ := ho6.form
                clear ho6 hg6 hT6
                refine wpAnyH_takeAt (i := 7) (d := 69) (v := ?vq13x) rfl rfl (by kernel_rfl) (by kernel_rfl) (by kernel_rfl) (fun _ _ _ h => h) (Or.inl ⟨by rfl, ?hyq13x⟩) hHeld ?_
                case hyq13x =>
                  intro W hSw
                  clear hSw
                  (go_simp; try with_reducible rfl)
                simp only [List.setIfInBounds_toArray, List.set_cons_zero, List.set_cons_succ]
                refine wpAnyH_ready (rs := [8]) (by kernel_rfl) (by simp) (AllReadyH.cons rfl (fun K hK => ?_) AllReadyH.nil)
                have g2 : wa0abcd.cell? ⟨w.heap.size, 2, none⟩ = some (.slice B m k0) := HBq.out.cell 2
                have f2 := HBq.out.frozen 2
                go_simp
                refine hK.out _ _ (Blk.far hHeld (by simp) _) (fun hHeld => ?_)
                clear hK K g2 f2
                have hB8 : Blk (wa0abcd.setCell ⟨w.heap.size, 2, none⟩ (.slice A6 q6 c6)) w.heap.size 29 #[.int .i64 (d.room : Int), .slice A n c, .slice A6 q6 c6] := HBq.out.set_ 2 _
                have HR8 := Lib.hid (HRq.out.far (p := ⟨w.heap.size, 2, none⟩) (by simp) (.slice A6 q6 c6))
                have HBL8 := Lib.hid (HBLq.out.setCell (p := ⟨w.heap.size, 2, none⟩) (Nat.le_refl _) (.slice A6 q6 c6))
                have HO8 : Hid (OwnK (wa0abcd.setCell ⟨w.heap.size, 2, none⟩ (.slice A6 q6 c6)) 65 4 (.slice A6 q6 c6) (css ++ [#[.int .i64 t.what, .string (str t.name), .slice Ab qb cb, .int .i64 t.n]])) := Lib.hid (HO6.out.keepB (fun g e => Below.heap_setCell _ ⟨w.heap.size, 2, none⟩ _ g (by show g ≠ w.heap.size; have := HV6.out g e; omega)))
                generalize wa0abcd.setCell ⟨w.heap.size, 2, none⟩ (.slice A6 q6 c6) = w8 at *
                refine wpAnyH_done (by kernel_rfl) ?_ _
                obtain ⟨u0, u1, u2⟩ := hB8.three
                clear hHeld hB8
                go_wp2_with (with_reducible refine at_store 29 rfl ?_)
                refine Stop.go (wpList_store_blk (by rfl) (by rfl) 29 _ _ (by rfl) (w.heap.size + 2) _ #[.int .i64 (d.room : Int), .slice A n c, .slice A6 q6 c6] (by rfl) (by rfl) 29 HR8.out (by rfl) (info29 _ rfl) (by simp [Value.oneCell']) ?_)
                intro w9 f9 g9 s9
                go_wp2_with fail
                refine bodyPost_ret (v := .tuple #[.agg #[.int .i64 (d.room : Int), .slice A n c, .slice A6 q6 c6], .int .i64 0]) (results_ct (by rfl) _ _ (w.heap.size + 2) 29 _ (0, 0) _ (by rfl) f9 Try.underlying29 (by rfl) (info29 _ rfl) (by rfl)) rfl ?_
                have hb9 := below_grown HBL8.out g9 (Nat.le_refl _) (by omega)
                have ho9 := HO8.out.keep (Turn.of_grown (S := fun b => b = w.heap.size + 2) g9 (fun r e => by cases e; rfl)) (fun g e e' => by have := HV6.out g e; omega)
                exact did_done HL.out hnc hcm HTA.out HCS.out HCSR.out HK.out ho9 (fun g e hx => by have h1 := HV6.out g e; have h2 := HX.out g hx; omega) hqc6 hcm6 hb9
            · go_simp
              refine hK.out _ _ (hHeld.alloc _) (fun hHeld => ?_)
              clear hK K
              try simp only [List.setIfInBounds_toArray, List.set_cons_zero, List.set_cons_succ]
              have hal : Below wa0a.heap.size wa0a (wa0a.alloc (.cells #[.int .i64 t.what, .string (str t.name), .slice Ab qb cb, .int .i64 t.n] 65)) := (Below.refl _ _).alloc (Nat.le_refl _) _
              have HR5 := Lib.hid (rd_one (X := No) (k := 4) wa0a 65 #[.int .i64 t.what, .string (str t.name), .slice Ab qb cb, .int .i64 t.n] rfl (fun u hu => by simp at hu; rcases hu with rfl | rfl | rfl | rfl <;> rfl) (fun h => h))
              have HL5 : Hid (wa0a.heap.size < (wa0a.alloc (.cells #[.int .i64 t.what, .string (str t.name), .slice Ab qb cb, .int .i64 t.n] 65)).heap.size) := Lib.hid (by simp)
              have HNE : Hid (wa0a.heap.size ≠ z0) := Lib.hid (by have := HO0.out.lt (g := z0) rfl; omega)
              have HO0 := Lib.hid (HO0.out.below hal)
              have HBq := Lib.hid (HBq.out.below hal HBq.out.lt)
              have HRq := Lib.hid (HRq.out.below hal HRq.out.lt)
              have HBLq := Lib.hid (HBLq.out.trans (hal.mono HBLq.out.size))
              clear hal
              generalize wa0a.alloc (.cells #[.int .i64 t.what, .string (str t.name), .slice Ab qb cb, .int .i64 t.n] 65) = wa0ab at *
              generalize wa0a.heap.size = z5 at *
              refine wpAnyH_ready (rs := [2]) (by kernel_rfl) (by simp) (AllReadyH.cons rfl (fun K hK => ?_) AllReadyH.nil)
              have f2 : wa0ab.cell? ⟨w.heap.size, 2, none⟩ = some (.slice B m k0) := HBq.out.cell 2
              go_simp
              refine hK.out _ _ hHeld (fun hHeld => ?_)
              clear hK K f2
              try simp only [List.setIfInBounds_toArray, List.set_cons_zero, List.set_cons_succ]
              refine wpAnyH_ready (rs := [3]) (by kernel_rfl) (by simp) (AllReadyH.cons rfl (fun K hK => ?_) AllReadyH.nil)
              refine step_append_k (d := 65) el27 (by rfl) rfl _ _ (by rfl) _ [] (by rfl) HO0.out X B m k0 css (by rfl) (HRD.out.below HBLq.out) (by simp) (by have := HM.out; omega) ?_
              intro v3 wa0abc ho3 hg3
              rw [List.nil_append] at ho3
              have hT3 : Turn (fun b => b = z0) wa0ab wa0abc := hg3.turn (fun g e => by cases e; rfl)
              have hz := HZ0.out
              refine hK.out _ _ (Blk.keep hHeld hT3 (by omega)) (fun hHeld => ?_)
              clear hK K
              try simp only [List.setIfInBounds_toArray, List.set_cons_zero, List.set_cons_succ]
              have HV3 : Hid (∀ g, v3.ownBlock = some g → w.heap.size + 3 ≤ g) := Lib.hid (fun g e => by
                rcases hg3.2 g e with q | q
                · cases q; exact hz
                · have := HRq.out.lt; omega)
              have HR5 := Lib.hid (rd_keep1 HR5.out hT3 (fun e => HNE.out e))
              have HBq := Lib.hid (HBq.out.keep hT3 (by omega))
              have HRq := Lib.hid (HRq.out.keep hT3 (by omega))
              have HBLq := Lib.hid (HBLq.out.trans (hT3.below HBLq.out.size (fun b e => by omega)))
              have HO3 := Lib.hid ho3
              clear ho3 hg3 hT3 hz
              refine wpAnyH_ready (rs := [6]) (by kernel_rfl) (by simp) (AllReadyH.cons rfl (fun K hK => ?_) AllReadyH.nil)
              refine step_append_k (d := 68) el27 (by rfl) rfl _ _ (by rfl) _ css (by rfl) HO3.out No _ 1 1 [#[.int .i64 t.what, .string (str t.name), .slice Ab qb cb, .int .i64 t.n]] (by rfl) HR5.out (by have h1 := HCS.out; have h2 := HT.out.len; have h3 := HM.out; omega) (by omega) ?_
              intro v6 wa0abcd ho6 hg6
              have hT6 : Turn (fun b => w.heap.size + 3 ≤ b) wa0abc wa0abcd := hg6.turn (fun g e => HV3.out g e)
              have HV6 : Hid (∀ g, v6.ownBlock = some g → w.heap.size + 3 ≤ g) := Lib.hid (fun g e => by
                rcases hg6.2 g e with q | q
                · exact HV3.out g q
                · have := HRq.out.lt; omega)
              refine hK.out _ _ (Blk.keep hHeld hT6 (by omega)) (fun hHeld => ?_)
              clear hK K
              try simp only [List.setIfInBounds_toArray, List.set_cons_zero, List.set_cons_succ]
              have HBq := Lib.hid (HBq.out.keep hT6 (by omega))
              have HRq := Lib.hid (HRq.out.keep hT6 (by omega))
              have HBLq := Lib.hid (HBLq.out.trans (hT6.below HBLq.out.size (fun b e => by omega)))
              have HO6 := Lib.hid ho6
              obtain ⟨A6, q6, c6, rfl, -, hqc6, hcm6⟩ := ho6.form
              clear ho6 hg6 hT6
              refine wpAnyH_takeAt (i := 7) (d := 69) (v := ?vq14x) rfl rfl (by kernel_rfl) (by kernel_rfl) (by kernel_rfl) (fun _ _ _ h => h) (Or.inl ⟨by rfl, ?hyq14x⟩) hHeld ?_
              case hyq14x =>
                intro W hSw
                clear hSw
                (go_simp; try with_reducible rfl)
              simp only [List.setIfInBounds_toArray, List.set_cons_zero, List.set_cons_succ]
              refine wpAnyH_ready (rs := [8]) (by kernel_rfl) (by simp) (AllReadyH.cons rfl (fun K hK => ?_) AllReadyH.nil)
              have g2 : wa0abcd.cell? ⟨w.heap.size, 2, none⟩ = some (.slice B m k0) := HBq.out.cell 2
              have f2 := HBq.out.frozen 2
              go_simp
              refine hK.out _ _ (Blk.far hHeld (by simp) _) (fun hHeld => ?_)
              clear hK K g2 f2
              have hB8 : Blk (wa0abcd.setCell ⟨w.heap.size, 2, none⟩ (.slice A6 q6 c6)) w.heap.size 29 #[.int .i64 (d.room : Int), .slice A n c, .slice A6 q6 c6] := HBq.out.set_ 2 _
              have HR8 := Lib.hid (HRq.out.far (p := ⟨w.heap.size, 2, none⟩) (by simp) (.slice A6 q6 c6))
              have HBL8 := Lib.hid (HBLq.out.setCell (p := ⟨w.heap.size, 2, none⟩) (Nat.le_refl _) (.slice A6 q6 c6))
              have HO8 : Hid (OwnK (wa0abcd.setCell ⟨w.heap.size, 2, none⟩ (.slice A6 q6 c6)) 65 4 (.slice A6 q6 c6) (css ++ [#[.int .i64 t.what, .string (str t.name), .slice Ab qb cb, .int .i64 t.n]])) := Lib.hid (HO6.out.keepB (fun g e => Below.heap_setCell _ ⟨w.heap.size, 2, none⟩ _ g (by show g ≠ w.heap.size; have := HV6.out g e; omega)))
              generalize wa0abcd.setCell ⟨w.heap.size, 2, none⟩ (.slice A6 q6 c6) = w8 at *
              refine wpAnyH_done (by kernel_rfl) ?_ _
              obtain ⟨u0, u1, u2⟩ := hB8.three
              clear hHeld hB8
              go_wp2_with (with_reducible refine at_store 29 rfl ?_)
              refine Stop.go (wpList_store_blk (by rfl) (by rfl) 29 _ _ (by rfl) (w.heap.size + 2) _ #[.int .i64 (d.room : Int), .slice A n c, .slice A6 q6 c6] (by rfl) (by rfl) 29 HR8.out (by rfl) (info29 _ rfl) (by simp [Value.oneCell']) ?_)
              intro w9 f9 g9 s9
              go_wp2_with fail
              refine bodyPost_ret (v := .tuple #[.agg #[.int .i64 (d.room : Int), .slice A n c, .slice A6 q6 c6], .int .i64 0]) (results_ct (by rfl) _ _ (w.heap.size + 2) 29 _ (0, 0) _ (by rfl) f9 Try.underlying29 (by rfl) (info29 _ rfl) (by rfl)) rfl ?_
              have hb9 := below_grown HBL8.out g9 (Nat.le_refl _) (by omega)
              have ho9 := HO8.out.keep (Turn.of_grown (S := fun b => b = w.heap.size + 2) g9 (fun r e => by cases e; rfl)) (fun g e e' => by have := HV6.out g e; omega)
              exact did_done HL.out hnc hcm HTA.out HCS.out HCSR.out HK.out ho9 (fun g e hx => by have h1 := HV6.out g e; have h2 := HX.out g hx; omega) hqc6 hcm6 hb9
          · have f2 : wa0.cell? ⟨w.heap.size, 2, none⟩ = some (.slice B m k0) := HBq.out.cell 2
            go_simp
            refine hK.out _ _ hHeld (fun hHeld => ?_)
            clear hK K f2
            try simp only [List.setIfInBounds_toArray, List.set_cons_zero, List.set_cons_succ]
            refine wpAnyH_ready (rs := [0, 5]) (by kernel_rfl) (by simp) (AllReadyH.cons rfl (fun K hK => ?_) (AllReadyH.cons rfl (fun K hK => ?_) AllReadyH.nil))
            · go_simp
              refine hK.out _ _ (hHeld.alloc _) (fun hHeld => ?_)
              clear hK K
              try simp only [List.setIfInBounds_toArray, List.set_cons_zero, List.set_cons_succ]
              have hal : Below wa0.heap.size wa0 (wa0.alloc (.cells #[] 65)) := (Below.refl _ _).alloc (Nat.le_refl _) _
              have HO0 := Lib.hid (ownK_empty wa0 65 4)
              have HZ0 : Hid (w.heap.size + 3 ≤ wa0.heap.size) := Lib.hid (by have := HRq.out.lt; omega)
              have HBq := Lib.hid (HBq.out.below hal HBq.out.lt)
              have HRq := Lib.hid (HRq.out.below hal HRq.out.lt)
              have HBLq := Lib.hid (HBLq.out.trans (hal.mono HBLq.out.size))
              clear hal
              generalize wa0.alloc (.cells #[] 65) = wa0a at *
              generalize wa0.heap.size = z0 at *
              refine wpAnyH_ready (rs := [3, 5]) (by kernel_rfl) (by simp) (AllReadyH.cons rfl (fun K hK => ?_) (AllReadyH.cons rfl (fun K hK => ?_) AllReadyH.nil))
              · refine step_append_k (d := 65) el27 (by rfl) rfl _ _ (by rfl) _ [] (by rfl) HO0.out X B m k0 css (by rfl) (HRD.out.below HBLq.out) (by simp) (by have := HM.out; omega) ?_
                intro v3 wa0ac ho3 hg3
                rw [List.nil_append] at ho3
                have hT3 : Turn (fun b => b = z0) wa0a wa0ac := hg3.turn (fun g e => by cases e; rfl)
                have hz := HZ0.out
                refine hK.out _ _ (Blk.keep hHeld hT3 (by omega)) (fun hHeld => ?_)
                clear hK K
                try simp only [List.setIfInBounds_toArray, List.set_cons_zero, List.set_cons_succ]
                have HV3 : Hid (∀ g, v3.ownBlock = some g → w.heap.size + 3 ≤ g) := Lib.hid (fun g e => by
                  rcases hg3.2 g e with q | q
                  · cases q; exact hz
                  · have := HRq.out.lt; omega)
                have HBq := Lib.hid (HBq.out.keep hT3 (by omega))
                have HRq := Lib.hid (HRq.out.keep hT3 (by omega))
                have HBLq := Lib.hid (HBLq.out.trans (hT3.below HBLq.out.size (fun b e => by omega)))
                have HO3 := Lib.hid ho3
                clear ho3 hg3 hT3 hz
                refine wpAnyH_ready (rs := [5]) (by kernel_rfl) (by simp) (AllReadyH.cons rfl (fun K hK => ?_) AllReadyH.nil)
                go_simp
                refine hK.out _ _ (hHeld.alloc _) (fun hHeld => ?_)
                clear hK K
                try simp only [List.setIfInBounds_toArray, List.set_cons_zero, List.set_cons_succ]
                have hal : Below wa0ac.heap.size wa0ac (wa0ac.alloc (.cells #[.int .i64 t.what, .string (str t.name), .slice Ab qb cb, .int .i64 t.n] 65)) := (Below.refl _ _).alloc (Nat.le_refl _) _
                have HR5 := Lib.hid (rd_one (X := No) (k := 4) wa0ac 65 #[.int .i64 t.what, .string (str t.name), .slice Ab qb cb, .int .i64 t.n] rfl (fun u hu => by simp at hu; rcases hu with rfl | rfl | rfl | rfl <;> rfl) (fun h => h))
                have HL5 : Hid (wa0ac.heap.size < (wa0ac.alloc (.cells #[.int .i64 t.what, .string (str t.name), .slice Ab qb cb, .int .i64 t.n] 65)).heap.size) := Lib.hid (by simp)
                have HO3 := Lib.hid (HO3.out.below hal)
                have HBq := Lib.hid (HBq.out.below hal HBq.out.lt)
                have HRq := Lib.hid (HRq.out.below hal HRq.out.lt)
                have HBLq := Lib.hid (HBLq.out.trans (hal.mono HBLq.out.size))
                clear hal
                generalize wa0ac.alloc (.cells #[.int .i64 t.what, .string (str t.name), .slice Ab qb cb, .int .i64 t.n] 65) = wa0acb at *
                generalize wa0ac.heap.size = z5 at *
                refine wpAnyH_ready (rs := [6]) (by kernel_rfl) (by simp) (AllReadyH.cons rfl (fun K hK => ?_) AllReadyH.nil)
                refine step_append_k (d := 68) el27 (by rfl) rfl _ _ (by rfl) _ css (by rfl) HO3.out No _ 1 1 [#[.int .i64 t.what, .string (str t.name), .slice Ab qb cb, .int .i64 t.n]] (by rfl) HR5.out (by have h1 := HCS.out; have h2 := HT.out.len; have h3 := HM.out; omega) (by omega) ?_
                intro v6 wa0acbd ho6 hg6
                have hT6 : Turn (fun b => w.heap.size + 3 ≤ b) wa0acb wa0acbd := hg6.turn (fun g e => HV3.out g e)
                have HV6 : Hid (∀ g, v6.ownBlock = some g → w.heap.size + 3 ≤ g) := Lib.hid (fun g e => by
                  rcases hg6.2 g e with q | q
                  · exact HV3.out g q
                  · have := HRq.out.lt; omega)
                refine hK.out _ _ (Blk.keep hHeld hT6 (by omega)) (fun hHeld => ?_)
                clear hK K
                try simp only [List.setIfInBounds_toArray, List.set_cons_zero, List.set_cons_succ]
                have HBq := Lib.hid (HBq.out.keep hT6 (by omega))
                have HRq := Lib.hid (HRq.out.keep hT6 (by omega))
                have HBLq := Lib.hid (HBLq.out.trans (hT6.below HBLq.out.size (fun b e => by omega)))
                have HO6 := Lib.hid ho6
                obtain ⟨A6, q6, c6, rfl, -, hqc6, hcm6⟩ := ho6.form
                clear ho6 hg6 hT6
                refine wpAnyH_takeAt (i := 7) (d := 69) (v := ?vq15x) rfl rfl (by kernel_rfl) (by kernel_rfl) (by kernel_rfl) (fun _ _ _ h => h) (Or.inl ⟨by rfl, ?hyq15x⟩) hHeld ?_
                case hyq15x =>
                  intro W hSw
                  clear hSw
                  (go_simp; try with_reducible rfl)
                simp only [List.setIfInBounds_toArray, List.set_cons_zero, List.set_cons_succ]
                refine wpAnyH_ready (rs := [8]) (by kernel_rfl) (by simp) (AllReadyH.cons rfl (fun K hK => ?_) AllReadyH.nil)
                have g2 : wa0acbd.cell? ⟨w.heap.size, 2, none⟩ = some (.slice B m k0) := HBq.out.cell 2
                have f2 := HBq.out.frozen 2
                go_simp
                refine hK.out _ _ (Blk.far hHeld (by simp) _) (fun hHeld => ?_)
                clear hK K g2 f2
                have hB8 : Blk (wa0acbd.setCell ⟨w.heap.size, 2, none⟩ (.slice A6 q6 c6)) w.heap.size 29 #[.int .i64 (d.room : Int), .slice A n c, .slice A6 q6 c6] := HBq.out.set_ 2 _
                have HR8 := Lib.hid (HRq.out.far (p := ⟨w.heap.size, 2, none⟩) (by simp) (.slice A6 q6 c6))
                have HBL8 := Lib.hid (HBLq.out.setCell (p := ⟨w.heap.size, 2, none⟩) (Nat.le_refl _) (.slice A6 q6 c6))
                have HO8 : Hid (OwnK (wa0acbd.setCell ⟨w.heap.size, 2, none⟩ (.slice A6 q6 c6)) 65 4 (.slice A6 q6 c6) (css ++ [#[.int .i64 t.what, .string (str t.name), .slice Ab qb cb, .int .i64 t.n]])) := Lib.hid (HO6.out.keepB (fun g e => Below.heap_setCell _ ⟨w.heap.size, 2, none⟩ _ g (by show g ≠ w.heap.size; have := HV6.out g e; omega)))
                generalize wa0acbd.setCell ⟨w.heap.size, 2, none⟩ (.slice A6 q6 c6) = w8 at *
                refine wpAnyH_done (by kernel_rfl) ?_ _
                obtain ⟨u0, u1, u2⟩ := hB8.three
                clear hHeld hB8
                go_wp2_with (with_reducible refine at_store 29 rfl ?_)
                refine Stop.go (wpList_store_blk (by rfl) (by rfl) 29 _ _ (by rfl) (w.heap.size + 2) _ #[.int .i64 (d.room : Int), .slice A n c, .slice A6 q6 c6] (by rfl) (by rfl) 29 HR8.out (by rfl) (info29 _ rfl) (by simp [Value.oneCell']) ?_)
                intro w9 f9 g9 s9
                go_wp2_with fail
                refine bodyPost_ret (v := .tuple #[.agg #[.int .i64 (d.room : Int), .slice A n c, .slice A6 q6 c6], .int .i64 0]) (results_ct (by rfl) _ _ (w.heap.size + 2) 29 _ (0, 0) _ (by rfl) f9 Try.underlying29 (by rfl) (info29 _ rfl) (by rfl)) rfl ?_
                have hb9 := below_grown HBL8.out g9 (Nat.le_refl _) (by omega)
                have ho9 := HO8.out.keep (Turn.of_grown (S := fun b => b = w.heap.size + 2) g9 (fun r e => by cases e; rfl)) (fun g e e' => by have := HV6.out g e; omega)
                exact did_done HL.out hnc hcm HTA.out HCS.out HCSR.out HK.out ho9 (fun g e hx => by have h1 := HV6.out g e; have h2 := HX.out g hx; omega) hqc6 hcm6 hb9
              · go_simp
                refine hK.out _ _ (hHeld.alloc _) (fun hHeld => ?_)
                clear hK K
                try simp only [List.setIfInBounds_toArray, List.set_cons_zero, List.set_cons_succ]
                have hal : Below wa0a.heap.size wa0a (wa0a.alloc (.cells #[.int .i64 t.what, .string (str t.name), .slice Ab qb cb, .int .i64 t.n] 65)) := (Below.refl _ _).alloc (Nat.le_refl _) _
                have HR5 := Lib.hid (rd_one (X := No) (k := 4) wa0a 65 #[.int .i64 t.what, .string (str t.name), .slice Ab qb cb, .int .i64 t.n] rfl (fun u hu => by simp at hu; rcases hu with rfl | rfl | rfl | rfl <;> rfl) (fun h => h))
                have HL5 : Hid (wa0a.heap.size < (wa0a.alloc (.cells #[.int .i64 t.what, .string (str t.name), .slice Ab qb cb, .int .i64 t.n] 65)).heap.size) := Lib.hid (by simp)
                have HNE : Hid (wa0a.heap.size ≠ z0) := Lib.hid (by have := HO0.out.lt (g := z0) rfl; omega)
                have HO0 := Lib.hid (HO0.out.below hal)
                have HBq := Lib.hid (HBq.out.below hal HBq.out.lt)
                have HRq := Lib.hid (HRq.out.below hal HRq.out.lt)
                have HBLq := Lib.hid (HBLq.out.trans (hal.mono HBLq.out.size))
                clear hal
                generalize wa0a.alloc (.cells #[.int .i64 t.what, .string (str t.name), .slice Ab qb cb, .int .i64 t.n] 65) = wa0ab at *
                generalize wa0a.heap.size = z5 at *
                refine wpAnyH_ready (rs := [3]) (by kernel_rfl) (by simp) (AllReadyH.cons rfl (fun K hK => ?_) AllReadyH.nil)
                refine step_append_k (d := 65) el27 (by rfl) rfl _ _ (by rfl) _ [] (by rfl) HO0.out X B m k0 css (by rfl) (HRD.out.below HBLq.out) (by simp) (by have := HM.out; omega) ?_
                intro v3 wa0abc ho3 hg3
                rw [List.nil_append] at ho3
                have hT3 : Turn (fun b => b = z0) wa0ab wa0abc := hg3.turn (fun g e => by cases e; rfl)
                have hz := HZ0.out
                refine hK.out _ _ (Blk.keep hHeld hT3 (by omega)) (fun hHeld => ?_)
                clear hK K
                try simp only [List.setIfInBounds_toArray, List.set_cons_zero, List.set_cons_succ]
                have HV3 : Hid (∀ g, v3.ownBlock = some g → w.heap.size + 3 ≤ g) := Lib.hid (fun g e => by
                  rcases hg3.2 g e with q | q
                  · cases q; exact hz
                  · have := HRq.out.lt; omega)
                have HR5 := Lib.hid (rd_keep1 HR5.out hT3 (fun e => HNE.out e))
                have HBq := Lib.hid (HBq.out.keep hT3 (by omega))
                have HRq := Lib.hid (HRq.out.keep hT3 (by omega))
                have HBLq := Lib.hid (HBLq.out.trans (hT3.below HBLq.out.size (fun b e => by omega)))
                have HO3 := Lib.hid ho3
                clear ho3 hg3 hT3 hz
                refine wpAnyH_ready (rs := [6]) (by kernel_rfl) (by simp) (AllReadyH.cons rfl (fun K hK => ?_) AllReadyH.nil)
                refine step_append_k (d := 68) el27 (by rfl) rfl _ _ (by rfl) _ css (by rfl) HO3.out No _ 1 1 [#[.int .i64 t.what, .string (str t.name), .slice Ab qb cb, .int .i64 t.n]] (by rfl) HR5.out (by have h1 := HCS.out; have h2 := HT.out.len; have h3 := HM.out; omega) (by omega) ?_
                intro v6 wa0abcd ho6 hg6
                have hT6 : Turn (fun b => w.heap.size + 3 ≤ b) wa0abc wa0abcd := hg6.turn (fun g e => HV3.out g e)
                have HV6 : Hid (∀ g, v6.ownBlock = some g → w.heap.size + 3 ≤ g) := Lib.hid (fun g e => by
                  rcases hg6.2 g e with q | q
                  · exact HV3.out g q
                  · have := HRq.out.lt; omega)
                refine hK.out _ _ (Blk.keep hHeld hT6 (by omega)) (fun hHeld => ?_)
                clear hK K
                try simp only [List.setIfInBounds_toArray, List.set_cons_zero, List.set_cons_succ]
                have HBq := Lib.hid (HBq.out.keep hT6 (by omega))
                have HRq := Lib.hid (HRq.out.keep hT6 (by omega))
                have HBLq := Lib.hid (HBLq.out.trans (hT6.below HBLq.out.size (fun b e => by omega)))
                have HO6 := Lib.hid ho6
                obtain ⟨A6, q6, c6, rfl, -, hqc6, hcm6⟩ := ho6.form
                clear ho6 hg6 hT6
                refine wpAnyH_takeAt (i := 7) (d := 69) (v := ?vq16x) rfl rfl (by kernel_rfl) (by kernel_rfl) (by kernel_rfl) (fun _ _ _ h => h) (Or.inl ⟨by rfl, ?hyq16x⟩) hHeld ?_
                case hyq16x =>
                  intro W hSw
                  clear hSw
                  (go_simp; try with_reducible rfl)
                simp only [List.setIfInBounds_toArray, List.set_cons_zero, List.set_cons_succ]
                refine wpAnyH_ready (rs := [8]) (by kernel_rfl) (by simp) (AllReadyH.cons rfl (fun K hK => ?_) AllReadyH.nil)
                have g2 : wa0abcd.cell? ⟨w.heap.size, 2, none⟩ = some (.slice B m k0) := HBq.out.cell 2
                have f2 := HBq.out.frozen 2
                go_simp
                refine hK.out _ _ (Blk.far hHeld (by simp) _) (fun hHeld => ?_)
                clear hK K g2 f2
                have hB8 : Blk (wa0abcd.setCell ⟨w.heap.size, 2, none⟩ (.slice A6 q6 c6)) w.heap.size 29 #[.int .i64 (d.room : Int), .slice A n c, .slice A6 q6 c6] := HBq.out.set_ 2 _
                have HR8 := Lib.hid (HRq.out.far (p := ⟨w.heap.size, 2, none⟩) (by simp) (.slice A6 q6 c6))
                have HBL8 := Lib.hid (HBLq.out.setCell (p := ⟨w.heap.size, 2, none⟩) (Nat.le_refl _) (.slice A6 q6 c6))
                have HO8 : Hid (OwnK (wa0abcd.setCell ⟨w.heap.size, 2, none⟩ (.slice A6 q6 c6)) 65 4 (.slice A6 q6 c6) (css ++ [#[.int .i64 t.what, .string (str t.name), .slice Ab qb cb, .int .i64 t.n]])) := Lib.hid (HO6.out.keepB (fun g e => Below.heap_setCell _ ⟨w.heap.size, 2, none⟩ _ g (by show g ≠ w.heap.size; have := HV6.out g e; omega)))
                generalize wa0abcd.setCell ⟨w.heap.size, 2, none⟩ (.slice A6 q6 c6) = w8 at *
                refine wpAnyH_done (by kernel_rfl) ?_ _
                obtain ⟨u0, u1, u2⟩ := hB8.three
                clear hHeld hB8
                go_wp2_with (with_reducible refine at_store 29 rfl ?_)
                refine Stop.go (wpList_store_blk (by rfl) (by rfl) 29 _ _ (by rfl) (w.heap.size + 2) _ #[.int .i64 (d.room : Int), .slice A n c, .slice A6 q6 c6] (by rfl) (by rfl) 29 HR8.out (by rfl) (info29 _ rfl) (by simp [Value.oneCell']) ?_)
                intro w9 f9 g9 s9
                go_wp2_with fail
                refine bodyPost_ret (v := .tuple #[.agg #[.int .i64 (d.room : Int), .slice A n c, .slice A6 q6 c6], .int .i64 0]) (results_ct (by rfl) _ _ (w.heap.size + 2) 29 _ (0, 0) _ (by rfl) f9 Try.underlying29 (by rfl) (info29 _ rfl) (by rfl)) rfl ?_
                have hb9 := below_grown HBL8.out g9 (Nat.le_refl _) (by omega)
                have ho9 := HO8.out.keep (Turn.of_grown (S := fun b => b = w.heap.size + 2) g9 (fun r e => by cases e; rfl)) (fun g e e' => by have := HV6.out g e; omega)
                exact did_done HL.out hnc hcm HTA.out HCS.out HCSR.out HK.out ho9 (fun g e hx => by have h1 := HV6.out g e; have h2 := HX.out g hx; omega) hqc6 hcm6 hb9
            · go_simp
              refine hK.out _ _ (hHeld.alloc _) (fun hHeld => ?_)
              clear hK K
              try simp only [List.setIfInBounds_toArray, List.set_cons_zero, List.set_cons_succ]
              have hal : Below wa0.heap.size wa0 (wa0.alloc (.cells #[.int .i64 t.what, .string (str t.name), .slice Ab qb cb, .int .i64 t.n] 65)) := (Below.refl _ _).alloc (Nat.le_refl _) _
              have HR5 := Lib.hid (rd_one (X := No) (k := 4) wa0 65 #[.int .i64 t.what, .string (str t.name), .slice Ab qb cb, .int .i64 t.n] rfl (fun u hu => by simp at hu; rcases hu with rfl | rfl | rfl | rfl <;> rfl) (fun h => h))
              have HL5 : Hid (wa0.heap.size < (wa0.alloc (.cells #[.int .i64 t.what, .string (str t.name), .slice Ab qb cb, .int .i64 t.n] 65)).heap.size) := Lib.hid (by simp)
              have HBq := Lib.hid (HBq.out.below hal HBq.out.lt)
              have HRq := Lib.hid (HRq.out.below hal HRq.out.lt)
              have HBLq := Lib.hid (HBLq.out.trans (hal.mono HBLq.out.size))
              clear hal
              generalize wa0.alloc (.cells #[.int .i64 t.what, .string (str t.name), .slice Ab qb cb, .int .i64 t.n] 65) = wa0b at *
              generalize wa0.heap.size = z5 at *
              refine wpAnyH_ready (rs := [0]) (by kernel_rfl) (by simp) (AllReadyH.cons rfl (fun K hK => ?_) AllReadyH.nil)
              go_simp
              refine hK.out _ _ (hHeld.alloc _) (fun hHeld => ?_)
              clear hK K
              try simp only [List.setIfInBounds_toArray, List.set_cons_zero, List.set_cons_succ]
              have hal : Below wa0b.heap.size wa0b (wa0b.alloc (.cells #[] 65)) := (Below.refl _ _).alloc (Nat.le_refl _) _
              have HO0 := Lib.hid (ownK_empty wa0b 65 4)
              have HZ0 : Hid (w.heap.size + 3 ≤ wa0b.heap.size) := Lib.hid (by have := HRq.out.lt; omega)
              have HBq := Lib.hid (HBq.out.below hal HBq.out.lt)
              have HRq := Lib.hid (HRq.out.below hal HRq.out.lt)
              have HBLq := Lib.hid (HBLq.out.trans (hal.mono HBLq.out.size))
              have HR5 := Lib.hid (HR5.out.below hal)
              have HNE : Hid (z5 ≠ wa0b.heap.size) := Lib.hid (by have := HL5.out; omega)
              clear hal
              generalize wa0b.alloc (.cells #[] 65) = wa0ba at *
              generalize wa0b.heap.size = z0 at *
              refine wpAnyH_ready (rs := [3]) (by kernel_rfl) (by simp) (AllReadyH.cons rfl (fun K hK => ?_) AllReadyH.nil)
              refine step_append_k (d := 65) el27 (by rfl) rfl _ _ (by rfl) _ [] (by rfl) HO0.out X B m k0 css (by rfl) (HRD.out.below HBLq.out) (by simp) (by have := HM.out; omega) ?_
              intro v3 wa0bac ho3 hg3
              rw [List.nil_append] at ho3
              have hT3 : Turn (fun b => b = z0) wa0ba wa0bac := hg3.turn (fun g e => by cases e; rfl)
              have hz := HZ0.out
              refine hK.out _ _ (Blk.keep hHeld hT3 (by omega)) (fun hHeld => ?_)
              clear hK K
              try simp only [List.setIfInBounds_toArray, List.set_cons_zero, List.set_cons_succ]
              have HV3 : Hid (∀ g, v3.ownBlock = some g → w.heap.size + 3 ≤ g) := Lib.hid (fun g e => by
                rcases hg3.2 g e with q | q
                · cases q; exact hz
                · have := HRq.out.lt; omega)
              have HR5 := Lib.hid (rd_keep1 HR5.out hT3 (fun e => HNE.out e))
              have HBq := Lib.hid (HBq.out.keep hT3 (by omega))
              have HRq := Lib.hid (HRq.out.keep hT3 (by omega))
              have HBLq := Lib.hid (HBLq.out.trans (hT3.below HBLq.out.size (fun b e => by omega)))
              have HO3 := Lib.hid ho3
              clear ho3 hg3 hT3 hz
              refine wpAnyH_ready (rs := [6]) (by kernel_rfl) (by simp) (AllReadyH.cons rfl (fun K hK => ?_) AllReadyH.nil)
              refine step_append_k (d := 68) el27 (by rfl) rfl _ _ (by rfl) _ css (by rfl) HO3.out No _ 1 1 [#[.int .i64 t.what, .string (str t.name), .slice Ab qb cb, .int .i64 t.n]] (by rfl) HR5.out (by have h1 := HCS.out; have h2 := HT.out.len; have h3 := HM.out; omega) (by omega) ?_
              intro v6 wa0bacd ho6 hg6
              have hT6 : Turn (fun b => w.heap.size + 3 ≤ b) wa0bac wa0bacd := hg6.turn (fun g e => HV3.out g e)
              have HV6 : Hid (∀ g, v6.ownBlock = some g → w.heap.size + 3 ≤ g) := Lib.hid (fun g e => by
                rcases hg6.2 g e with q | q
                · exact HV3.out g q
                · have := HRq.out.lt; omega)
              refine hK.out _ _ (Blk.keep hHeld hT6 (by omega)) (fun hHeld => ?_)
              clear hK K
              try simp only [List.setIfInBounds_toArray, List.set_cons_zero, List.set_cons_succ]
              have HBq := Lib.hid (HBq.out.keep hT6 (by omega))
              have HRq := Lib.hid (HRq.out.keep hT6 (by omega))
              have HBLq := Lib.hid (HBLq.out.trans (hT6.below HBLq.out.size (fun b e => by omega)))
              have HO6 := Lib.hid ho6
              obtain ⟨A6, q6, c6, rfl, -, hqc6, hcm6⟩ := ho6.form
              clear ho6 hg6 hT6
              refine wpAnyH_takeAt (i := 7) (d := 69) (v := ?vq17x) rfl rfl (by kernel_rfl) (by kernel_rfl) (by kernel_rfl) (fun _ _ _ h => h) (Or.inl ⟨by rfl, ?hyq17x⟩) hHeld ?_
              case hyq17x =>
                intro W hSw
                clear hSw
                (go_simp; try with_reducible rfl)
              simp only [List.setIfInBounds_toArray, List.set_cons_zero, List.set_cons_succ]
              refine wpAnyH_ready (rs := [8]) (by kernel_rfl) (by simp) (AllReadyH.cons rfl (fun K hK => ?_) AllReadyH.nil)
              have g2 : wa0bacd.cell? ⟨w.heap.size, 2, none⟩ = some (.slice B m k0) := HBq.out.cell 2
              have f2 := HBq.out.frozen 2
              go_simp
              refine hK.out _ _ (Blk.far hHeld (by simp) _) (fun hHeld => ?_)
              clear hK K g2 f2
              have hB8 : Blk (wa0bacd.setCell ⟨w.heap.size, 2, none⟩ (.slice A6 q6 c6)) w.heap.size 29 #[.int .i64 (d.room : Int), .slice A n c, .slice A6 q6 c6] := HBq.out.set_ 2 _
              have HR8 := Lib.hid (HRq.out.far (p := ⟨w.heap.size, 2, none⟩) (by simp) (.slice A6 q6 c6))
              have HBL8 := Lib.hid (HBLq.out.setCell (p := ⟨w.heap.size, 2, none⟩) (Nat.le_refl _) (.slice A6 q6 c6))
              have HO8 : Hid (OwnK (wa0bacd.setCell ⟨w.heap.size, 2, none⟩ (.slice A6 q6 c6)) 65 4 (.slice A6 q6 c6) (css ++ [#[.int .i64 t.what, .string (str t.name), .slice Ab qb cb, .int .i64 t.n]])) := Lib.hid (HO6.out.keepB (fun g e => Below.heap_setCell _ ⟨w.heap.size, 2, none⟩ _ g (by show g ≠ w.heap.size; have := HV6.out g e; omega)))
              generalize wa0bacd.setCell ⟨w.heap.size, 2, none⟩ (.slice A6 q6 c6) = w8 at *
              refine wpAnyH_done (by kernel_rfl) ?_ _
              obtain ⟨u0, u1, u2⟩ := hB8.three
              clear hHeld hB8
              go_wp2_with (with_reducible refine at_store 29 rfl ?_)
              refine Stop.go (wpList_store_blk (by rfl) (by rfl) 29 _ _ (by rfl) (w.heap.size + 2) _ #[.int .i64 (d.room : Int), .slice A n c, .slice A6 q6 c6] (by rfl) (by rfl) 29 HR8.out (by rfl) (info29 _ rfl) (by simp [Value.oneCell']) ?_)
              intro w9 f9 g9 s9
              go_wp2_with fail
              refine bodyPost_ret (v := .tuple #[.agg #[.int .i64 (d.room : Int), .slice A n c, .slice A6 q6 c6], .int .i64 0]) (results_ct (by rfl) _ _ (w.heap.size + 2) 29 _ (0, 0) _ (by rfl) f9 Try.underlying29 (by rfl) (info29 _ rfl) (by rfl)) rfl ?_
              have hb9 := below_grown HBL8.out g9 (Nat.le_refl _) (by omega)
              have ho9 := HO8.out.keep (Turn.of_grown (S := fun b => b = w.heap.size + 2) g9 (fun r e => by cases e; rfl)) (fun g e e' => by have := HV6.out g e; omega)
              exact did_done HL.out hnc hcm HTA.out HCS.out HCSR.out HK.out ho9 (fun g e hx => by have h1 := HV6.out g e; have h2 := HX.out g hx; omega) hqc6 hcm6 hb9
          · go_simp
            refine hK.out _ _ (hHeld.alloc _) (fun hHeld => ?_)
            clear hK K
            try simp only [List.setIfInBounds_toArray, List.set_cons_zero, List.set_cons_succ]
            have hal : Below wa0.heap.size wa0 (wa0.alloc (.cells #[.int .i64 t.what, .string (str t.name), .slice Ab qb cb, .int .i64 t.n] 65)) := (Below.refl _ _).alloc (Nat.le_refl _) _
            have HR5 := Lib.hid (rd_one (X := No) (k := 4) wa0 65 #[.int .i64 t.what, .string (str t.name), .slice Ab qb cb, .int .i64 t.n] rfl (fun u hu => by simp at hu; rcases hu with rfl | rfl | rfl | rfl <;> rfl) (fun h => h))
            have HL5 : Hid (wa0.heap.size < (wa0.alloc (.cells #[.int .i64 t.what, .string (str t.name), .slice Ab qb cb, .int .i64 t.n] 65)).heap.size) := Lib.hid (by simp)
            have HBq := Lib.hid (HBq.out.below hal HBq.out.lt)
            have HRq := Lib.hid (HRq.out.below hal HRq.out.lt)
            have HBLq := Lib.hid (HBLq.out.trans (hal.mono HBLq.out.size))
            clear hal
            generalize wa0.alloc (.cells #[.int .i64 t.what, .string (str t.name), .slice Ab qb cb, .int .i64 t.n] 65) = wa0b at *
            generalize wa0.heap.size = z5 at *
            refine wpAnyH_ready (rs := [0, 2]) (by kernel_rfl) (by simp) (AllReadyH.cons rfl (fun K hK => ?_) (AllReadyH.cons rfl (fun K hK => ?_) AllReadyH.nil))
            · go_simp
              refine hK.out _ _ (hHeld.alloc _) (fun hHeld => ?_)
              clear hK K
              try simp only [List.setIfInBounds_toArray, List.set_cons_zero, List.set_cons_succ]
              have hal : Below wa0b.heap.size wa0b (wa0b.alloc (.cells #[] 65)) := (Below.refl _ _).alloc (Nat.le_refl _) _
              have HO0 := Lib.hid (ownK_empty wa0b 65 4)
              have HZ0 : Hid (w.heap.size + 3 ≤ wa0b.heap.size) := Lib.hid (by have := HRq.out.lt; omega)
              have HBq := Lib.hid (HBq.out.below hal HBq.out.lt)
              have HRq := Lib.hid (HRq.out.below hal HRq.out.lt)
              have HBLq := Lib.hid (HBLq.out.trans (hal.mono HBLq.out.size))
              have HR5 := Lib.hid (HR5.out.below hal)
              have HNE : Hid (z5 ≠ wa0b.heap.size) := Lib.hid (by have := HL5.out; omega)
              clear hal
              generalize wa0b.alloc (.cells #[] 65) = wa0ba at *
              generalize wa0b.heap.size = z0 at *
              refine wpAnyH_ready (rs := [2]) (by kernel_rfl) (by simp) (AllReadyH.cons rfl (fun K hK => ?_) AllReadyH.nil)
              have f2 : wa0ba.cell? ⟨w.heap.size, 2, none⟩ = some (.slice B m k0) := HBq.out.cell 2
              go_simp
              refine hK.out _ _ hHeld (fun hHeld => ?_)
              clear hK K f2
              try simp only [List.setIfInBounds_toArray, List.set_cons_zero, List.set_cons_succ]
              refine wpAnyH_ready (rs := [3]) (by kernel_rfl) (by simp) (AllReadyH.cons rfl (fun K hK => ?_) AllReadyH.nil)
              refine step_append_k (d := 65) el27 (by rfl) rfl _ _ (by rfl) _ [] (by rfl) HO0.out X B m k0 css (by rfl) (HRD.out.below HBLq.out) (by simp) (by have := HM.out; omega) ?_
              intro v3 wa0bac ho3 hg3
              rw [List.nil_append] at ho3
              have hT3 : Turn (fun b => b = z0) wa0ba wa0bac := hg3.turn (fun g e => by cases e; rfl)
              have hz := HZ0.out
              refine hK.out _ _ (Blk.keep hHeld hT3 (by omega)) (fun hHeld => ?_)
              clear hK K
              try simp only [List.setIfInBounds_toArray, List.set_cons_zero, List.set_cons_succ]
              have HV3 : Hid (∀ g, v3.ownBlock = some g → w.heap.size + 3 ≤ g) := Lib.hid (fun g e => by
                rcases hg3.2 g e with q | q
                · cases q; exact hz
                · have := HRq.out.lt; omega)
              have HR5 := Lib.hid (rd_keep1 HR5.out hT3 (fun e => HNE.out e))
              have HBq := Lib.hid (HBq.out.keep hT3 (by omega))
              have HRq := Lib.hid (HRq.out.keep hT3 (by omega))
              have HBLq := Lib.hid (HBLq.out.trans (hT3.below HBLq.out.size (fun b e => by omega)))
              have HO3 := Lib.hid ho3
              clear ho3 hg3 hT3 hz
              refine wpAnyH_ready (rs := [6]) (by kernel_rfl) (by simp) (AllReadyH.cons rfl (fun K hK => ?_) AllReadyH.nil)
              refine step_append_k (d := 68) el27 (by rfl) rfl _ _ (by rfl) _ css (by rfl) HO3.out No _ 1 1 [#[.int .i64 t.what, .string (str t.name), .slice Ab qb cb, .int .i64 t.n]] (by rfl) HR5.out (by have h1 := HCS.out; have h2 := HT.out.len; have h3 := HM.out; omega) (by omega) ?_
              intro v6 wa0bacd ho6 hg6
              have hT6 : Turn (fun b => w.heap.size + 3 ≤ b) wa0bac wa0bacd := hg6.turn (fun g e => HV3.out g e)
              have HV6 : Hid (∀ g, v6.ownBlock = some g → w.heap.size + 3 ≤ g) := Lib.hid (fun g e => by
                rcases hg6.2 g e with q | q
                · exact HV3.out g q
                · have := HRq.out.lt; omega)
              refine hK.out _ _ (Blk.keep hHeld hT6 (by omega)) (fun hHeld => ?_)
              clear hK K
              try simp only [List.setIfInBounds_toArray, List.set_cons_zero, List.set_cons_succ]
              have HBq := Lib.hid (HBq.out.keep hT6 (by omega))
              have HRq := Lib.hid (HRq.out.keep hT6 (by omega))
              have HBLq := Lib.hid (HBLq.out.trans (hT6.below HBLq.out.size (fun b e => by omega)))
              have HO6 := Lib.hid ho6
              obtain ⟨A6, q6, c6, rfl, -, hqc6, hcm6⟩ := ho6.form
              clear ho6 hg6 hT6
              refine wpAnyH_takeAt (i := 7) (d := 69) (v := ?vq18x) rfl rfl (by kernel_rfl) (by kernel_rfl) (by kernel_rfl) (fun _ _ _ h => h) (Or.inl ⟨by rfl, ?hyq18x⟩) hHeld ?_
              case hyq18x =>
                intro W hSw
                clear hSw
                (go_simp; try with_reducible rfl)
              simp only [List.setIfInBounds_toArray, List.set_cons_zero, List.set_cons_succ]
              refine wpAnyH_ready (rs := [8]) (by kernel_rfl) (by simp) (AllReadyH.cons rfl (fun K hK => ?_) AllReadyH.nil)
              have g2 : wa0bacd.cell? ⟨w.heap.size, 2, none⟩ = some (.slice B m k0) := HBq.out.cell 2
              have f2 := HBq.out.frozen 2
              go_simp
              refine hK.out _ _ (Blk.far hHeld (by simp) _) (fun hHeld => ?_)
              clear hK K g2 f2
              have hB8 : Blk (wa0bacd.setCell ⟨w.heap.size, 2, none⟩ (.slice A6 q6 c6)) w.heap.size 29 #[.int .i64 (d.room : Int), .slice A n c, .slice A6 q6 c6] := HBq.out.set_ 2 _
              have HR8 := Lib.hid (HRq.out.far (p := ⟨w.heap.size, 2, none⟩) (by simp) (.slice A6 q6 c6))
              have HBL8 := Lib.hid (HBLq.out.setCell (p := ⟨w.heap.size, 2, none⟩) (Nat.le_refl _) (.slice A6 q6 c6))
              have HO8 : Hid (OwnK (wa0bacd.setCell ⟨w.heap.size, 2, none⟩ (.slice A6 q6 c6)) 65 4 (.slice A6 q6 c6) (css ++ [#[.int .i64 t.what, .string (str t.name), .slice Ab qb cb, .int .i64 t.n]])) := Lib.hid (HO6.out.keepB (fun g e => Below.heap_setCell _ ⟨w.heap.size, 2, none⟩ _ g (by show g ≠ w.heap.size; have := HV6.out g e; omega)))
              generalize wa0bacd.setCell ⟨w.heap.size, 2, none⟩ (.slice A6 q6 c6) = w8 at *
              refine wpAnyH_done (by kernel_rfl) ?_ _
              obtain ⟨u0, u1, u2⟩ := hB8.three
              clear hHeld hB8
              go_wp2_with (with_reducible refine at_store 29 rfl ?_)
              refine Stop.go (wpList_store_blk (by rfl) (by rfl) 29 _ _ (by rfl) (w.heap.size + 2) _ #[.int .i64 (d.room : Int), .slice A n c, .slice A6 q6 c6] (by rfl) (by rfl) 29 HR8.out (by rfl) (info29 _ rfl) (by simp [Value.oneCell']) ?_)
              intro w9 f9 g9 s9
              go_wp2_with fail
              refine bodyPost_ret (v := .tuple #[.agg #[.int .i64 (d.room : Int), .slice A n c, .slice A6 q6 c6], .int .i64 0]) (results_ct (by rfl) _ _ (w.heap.size + 2) 29 _ (0, 0) _ (by rfl) f9 Try.underlying29 (by rfl) (info29 _ rfl) (by rfl)) rfl ?_
              have hb9 := below_grown HBL8.out g9 (Nat.le_refl _) (by omega)
              have ho9 := HO8.out.keep (Turn.of_grown (S := fun b => b = w.heap.size + 2) g9 (fun r e => by cases e; rfl)) (fun g e e' => by have := HV6.out g e; omega)
              exact did_done HL.out hnc hcm HTA.out HCS.out HCSR.out HK.out ho9 (fun g e hx => by have h1 := HV6.out g e; have h2 := HX.out g hx; omega) hqc6 hcm6 hb9
            · have f2 : wa0b.cell? ⟨w.heap.size, 2, none⟩ = some (.slice B m k0) := HBq.out.cell 2
              go_simp
              refine hK.out _ _ hHeld (fun hHeld => ?_)
              clear hK K f2
              try simp only [List.setIfInBounds_toArray, List.set_cons_zero, List.set_cons_succ]
              refine wpAnyH_ready (rs := [0]) (by kernel_rfl) (by simp) (AllReadyH.cons rfl (fun K hK => ?_) AllReadyH.nil)
              go_simp
              refine hK.out _ _ (hHeld.alloc _) (fun hHeld => ?_)
              clear hK K
              try simp only [List.setIfInBounds_toArray, List.set_cons_zero, List.set_cons_succ]
              have hal : Below wa0b.heap.size wa0b (wa0b.alloc (.cells #[] 65)) := (Below.refl _ _).alloc (Nat.le_refl _) _
              have HO0 := Lib.hid (ownK_empty wa0b 65 4)
              have HZ0 : Hid (w.heap.size + 3 ≤ wa0b.heap.size) := Lib.hid (by have := HRq.out.lt; omega)
              have HBq := Lib.hid (HBq.out.below hal HBq.out.lt)
              have HRq := Lib.hid (HRq.out.below hal HRq.out.lt)
              have HBLq := Lib.hid (HBLq.out.trans (hal.mono HBLq.out.size))
              have HR5 := Lib.hid (HR5.out.below hal)
              have HNE : Hid (z5 ≠ wa0b.heap.size) := Lib.hid (by have := HL5.out; omega)
              clear hal
              generalize wa0b.alloc (.cells #[] 65) = wa0ba at *
              generalize wa0b.heap.size = z0 at *
              refine wpAnyH_ready (rs := [3]) (by kernel_rfl) (by simp) (AllReadyH.cons rfl (fun K hK => ?_) AllReadyH.nil)
              refine step_append_k (d := 65) el27 (by rfl) rfl _ _ (by rfl) _ [] (by rfl) HO0.out X B m k0 css (by rfl) (HRD.out.below HBLq.out) (by simp) (by have := HM.out; omega) ?_
              intro v3 wa0bac ho3 hg3
              rw [List.nil_append] at ho3
              have hT3 : Turn (fun b => b = z0) wa0ba wa0bac := hg3.turn (fun g e => by cases e; rfl)
              have hz := HZ0.out
              refine hK.out _ _ (Blk.keep hHeld hT3 (by omega)) (fun hHeld => ?_)
              clear hK K
              try simp only [List.setIfInBounds_toArray, List.set_cons_zero, List.set_cons_succ]
              have HV3 : Hid (∀ g, v3.ownBlock = some g → w.heap.size + 3 ≤ g) := Lib.hid (fun g e => by
                rcases hg3.2 g e with q | q
                · cases q; exact hz
                · have := HRq.out.lt; omega)
              have HR5 := Lib.hid (rd_keep1 HR5.out hT3 (fun e => HNE.out e))
              have HBq := Lib.hid (HBq.out.keep hT3 (by omega))
              have HRq := Lib.hid (HRq.out.keep hT3 (by omega))
              have HBLq := Lib.hid (HBLq.out.trans (hT3.below HBLq.out.size (fun b e => by omega)))
              have HO3 := Lib.hid ho3
              clear ho3 hg3 hT3 hz
              refine wpAnyH_ready (rs := [6]) (by kernel_rfl) (by simp) (AllReadyH.cons rfl (fun K hK => ?_) AllReadyH.nil)
              refine step_append_k (d := 68) el27 (by rfl) rfl _ _ (by rfl) _ css (by rfl) HO3.out No _ 1 1 [#[.int .i64 t.what, .string (str t.name), .slice Ab qb cb, .int .i64 t.n]] (by rfl) HR5.out (by have h1 := HCS.out; have h2 := HT.out.len; have h3 := HM.out; omega) (by omega) ?_
              intro v6 wa0bacd ho6 hg6
              have hT6 : Turn (fun b => w.heap.size + 3 ≤ b) wa0bac wa0bacd := hg6.turn (fun g e => HV3.out g e)
              have HV6 : Hid (∀ g, v6.ownBlock = some g → w.heap.size + 3 ≤ g) := Lib.hid (fun g e => by
                rcases hg6.2 g e with q | q
                · exact HV3.out g q
                · have := HRq.out.lt; omega)
              refine hK.out _ _ (Blk.keep hHeld hT6 (by omega)) (fun hHeld => ?_)
              clear hK K
              try simp only [List.setIfInBounds_toArray, List.set_cons_zero, List.set_cons_succ]
              have HBq := Lib.hid (HBq.out.keep hT6 (by omega))
              have HRq := Lib.hid (HRq.out.keep hT6 (by omega))
              have HBLq := Lib.hid (HBLq.out.trans (hT6.below HBLq.out.size (fun b e => by omega)))
              have HO6 := Lib.hid ho6
              obtain ⟨A6, q6, c6, rfl, -, hqc6, hcm6⟩ := ho6.form
              clear ho6 hg6 hT6
              refine wpAnyH_takeAt (i := 7) (d := 69) (v := ?vq19x) rfl rfl (by kernel_rfl) (by kernel_rfl) (by kernel_rfl) (fun _ _ _ h => h) (Or.inl ⟨by rfl, ?hyq19x⟩) hHeld ?_
              case hyq19x =>
                intro W hSw
                clear hSw
                (go_simp; try with_reducible rfl)
              simp only [List.setIfInBounds_toArray, List.set_cons_zero, List.set_cons_succ]
              refine wpAnyH_ready (rs := [8]) (by kernel_rfl) (by simp) (AllReadyH.cons rfl (fun K hK => ?_) AllReadyH.nil)
              have g2 : wa0bacd.cell? ⟨w.heap.size, 2, none⟩ = some (.slice B m k0) := HBq.out.cell 2
              have f2 := HBq.out.frozen 2
              go_simp
              refine hK.out _ _ (Blk.far hHeld (by simp) _) (fun hHeld => ?_)
              clear hK K g2 f2
              have hB8 : Blk (wa0bacd.setCell ⟨w.heap.size, 2, none⟩ (.slice A6 q6 c6)) w.heap.size 29 #[.int .i64 (d.room : Int), .slice A n c, .slice A6 q6 c6] := HBq.out.set_ 2 _
              have HR8 := Lib.hid (HRq.out.far (p := ⟨w.heap.size, 2, none⟩) (by simp) (.slice A6 q6 c6))
              have HBL8 := Lib.hid (HBLq.out.setCell (p := ⟨w.heap.size, 2, none⟩) (Nat.le_refl _) (.slice A6 q6 c6))
              have HO8 : Hid (OwnK (wa0bacd.setCell ⟨w.heap.size, 2, none⟩ (.slice A6 q6 c6)) 65 4 (.slice A6 q6 c6) (css ++ [#[.int .i64 t.what, .string (str t.name), .slice Ab qb cb, .int .i64 t.n]])) := Lib.hid (HO6.out.keepB (fun g e => Below.heap_setCell _ ⟨w.heap.size, 2, none⟩ _ g (by show g ≠ w.heap.size; have := HV6.out g e; omega)))
              generalize wa0bacd.setCell ⟨w.heap.size, 2, none⟩ (.slice A6 q6 c6) = w8 at *
              refine wpAnyH_done (by kernel_rfl) ?_ _
              obtain ⟨u0, u1, u2⟩ := hB8.three
              clear hHeld hB8
              go_wp2_with (with_reducible refine at_store 29 rfl ?_)
              refine Stop.go (wpList_store_blk (by rfl) (by rfl) 29 _ _ (by rfl) (w.heap.size + 2) _ #[.int .i64 (d.room : Int), .slice A n c, .slice A6 q6 c6] (by rfl) (by rfl) 29 HR8.out (by rfl) (info29 _ rfl) (by simp [Value.oneCell']) ?_)
              intro w9 f9 g9 s9
              go_wp2_with fail
              refine bodyPost_ret (v := .tuple #[.agg #[.int .i64 (d.room : Int), .slice A n c, .slice A6 q6 c6], .int .i64 0]) (results_ct (by rfl) _ _ (w.heap.size + 2) 29 _ (0, 0) _ (by rfl) f9 Try.underlying29 (by rfl) (info29 _ rfl) (by rfl)) rfl ?_
              have hb9 := below_grown HBL8.out g9 (Nat.le_refl _) (by omega)
              have ho9 := HO8.out.keep (Turn.of_grown (S := fun b => b = w.heap.size + 2) g9 (fun r e => by cases e; rfl)) (fun g e e' => by have := HV6.out g e; omega)
              exact did_done HL.out hnc hcm HTA.out HCS.out HCSR.out HK.out ho9 (fun g e hx => by have h1 := HV6.out g e; have h2 := HX.out g hx; omega) hqc6 hcm6 hb9
        · have hd1 : decide ((q1 : Int) < t.n) = true := by simp; omega
          have HK : Hid (doC d.st t = 4) := Lib.hid (doC_range HNM.out hw hk2 (.inr (by have := HY1.out; omega)))
          clear hw hn0 hn1 hk2
          go_wp2_with fail
          go_quiet (fail)
          have HB2 := Lib.hid (HB2.out.drewN nq)
          have HT2 := Lib.hid (HT2.out.drewN nq)
          have HRR := Lib.hid (HRR.out.drewN nq)
          have HBL := Lib.hid (below_drewN HBL.out nq)
          have HU2 := Lib.hid (HU2.out.same (W' := w2.drewN nq) rfl)
          clear x0 x1 x2 y0 y1 y2 y3
          generalize w2.drewN nq = wq at *
          obtain ⟨x0, x1, x2⟩ := HB2.out.three
          obtain ⟨y0, y1, y2, y3⟩ := HT2.out.four
          go_wp2_with (with_reducible refine at_store 29 rfl ?_)
          refine Stop.go (wpList_store_blk (by rfl) (by rfl) 29 _ _ (by rfl) (w.heap.size + 2) _ #[.int .i64 (d.room : Int), .slice A n c, .slice B m k0] (by rfl) (by rfl) 29 HRR.out (by rfl) (info29 _ rfl) (by simp [Value.oneCell']) ?_)
          intro w9 f9 g9 s9
          go_wp2_with fail
          refine bodyPost_ret (v := .tuple #[.agg #[.int .i64 (d.room : Int), .slice A n c, .slice B m k0], .int .i64 4]) (results_ct (by rfl) _ _ (w.heap.size + 2) 29 _ (0, 0) _ (by rfl) f9 Try.underlying29 (by rfl) (info29 _ rfl) (by rfl)) rfl ?_
          have hb9 := below_grown HBL.out g9 (Nat.le_refl _) (by omega)
          exact did_refused HK.out (by omega) (HD.out.below hb9) hb9
  · have hq0 : (t.what == 0) = false := by rw [hw]; rfl
    have hq9 : (!t.what == 0) = true := by rw [hw]; rfl
    have hq8 : ¬ t.what = 0 := by omega
    have hq1 : (t.what == 1) = false := by rw [hw]; rfl
    have hfa := atF_find t.name d.st.files
    cases hf : atF t.name d.st.files with
    | none =>
      have hnone := hfa.2 hf
      have hat : atI t.name d.st.files = -1 := by unfold atI; rw [hf]
      rw [hat]
      have HK : Hid (doC d.st t = 5) := Lib.hid (doC_none HNM.out (by omega) hnone)
      clear hfa hf hnone hat hw
      go_wp2_with (with_reducible refine at_store 29 rfl ?_)
      refine Stop.go (wpList_store_blk (by rfl) (by rfl) 29 _ _ (by rfl) (w.heap.size + 2) _ #[.int .i64 (d.room : Int), .slice A n c, .slice B m k0] (by rfl) (by rfl) 29 HRR.out (by rfl) (info29 _ rfl) (by simp [Value.oneCell']) ?_)
      intro w9 f9 g9 s9
      go_wp2_with fail
      refine bodyPost_ret (v := .tuple #[.agg #[.int .i64 (d.room : Int), .slice A n c, .slice B m k0], .int .i64 5]) (results_ct (by rfl) _ _ (w.heap.size + 2) 29 _ (0, 0) _ (by rfl) f9 Try.underlying29 (by rfl) (info29 _ rfl) (by rfl)) rfl ?_
      have hb9 := below_grown HBL.out g9 (Nat.le_refl _) (by omega)
      exact did_refused HK.out (by omega) (HD.out.below hb9) hb9
    | some k =>
      obtain ⟨hkl, hk1, hk2⟩ := hfa.1 k hf
      have hat : atI t.name d.st.files = (k : Int) := by unfold atI; rw [hf]
      rw [hat]
      have hkq : k < q2 := by have := HR2.out.len; omega
      have hki : (k : Int) < (q2 : Int) := by omega
      have hkn : decide ((k : Int) < 0) = false := by simp
      obtain ⟨ad, B1, q1, c1, rfl, ha1, -, s0, s1, hy1, hq1, hc1⟩ := HR2.out.at_ hkl
      have HY1 := Lib.hid hy1.1
      clear hfa hf hat hk1 hy1
      have HK : Hid (doC d.st t = 0) := Lib.hid (doC_rem HNM.out hw hk2)
      clear hw hk2
      go_wp2_with fail
      go_quiet (fail)
      have HB2 := Lib.hid (HB2.out.drewN nq)
      have HT2 := Lib.hid (HT2.out.drewN nq)
      have HRR := Lib.hid (HRR.out.drewN nq)
      have HBL := Lib.hid (below_drewN HBL.out nq)
      have HU2 := Lib.hid (HU2.out.same (W' := w2.drewN nq) rfl)
      clear x0 x1 x2 y0 y1 y2 y3
      generalize w2.drewN nq = wq at *
      obtain ⟨x0, x1, x2⟩ := HB2.out.three
      obtain ⟨y0, y1, y2, y3⟩ := HT2.out.four
      go_wp2_with fail
      go_quiet (fail)
      have HB2 := Lib.hid (HB2.out.drewN nq)
      have HT2 := Lib.hid (HT2.out.drewN nq)
      have HRR := Lib.hid (HRR.out.drewN nq)
      have HBL := Lib.hid (below_drewN HBL.out nq)
      have HU2 := Lib.hid (HU2.out.same (W' := wq.drewN nq) rfl)
      clear x0 x1 x2 y0 y1 y2 y3
      generalize wq.drewN nq = wp at *
      obtain ⟨x0, x1, x2⟩ := HB2.out.three
      obtain ⟨y0, y1, y2, y3⟩ := HT2.out.four
      go_wp2_with fail
      have HBq := HB2
      have HTq := HT2
      have HRq := HRR
      have HBLq := HBL
      clear HB2 HT2 HRR HBL x0 x1 x2 y0 y1 y2 y3
      refine wp_region_np ?_
      refine wp_region_held_drew (S := fun W => Blk W (w.heap.size + 1) 65 #[.int .i64 t.what, .string (str t.name), .slice Ab qb cb, .int .i64 t.n]) (by kernel_rfl) HTq.out.drew (fun hHeld => ?_)
      have HBq := Lib.hid HBq.out.drew
      have HRq := Lib.hid HRq.out.drew
      have HBLq := Lib.hid HBLq.out.drew
      generalize wp.drew = wa0 at *
      refine wpAnyH_takeAt (i := 1) (d := 63) (v := ?vq20x) rfl rfl (by kernel_rfl) (by kernel_rfl) (by kernel_rfl) (fun _ _ _ h => h) (Or.inl ⟨by rfl, ?hyq20x⟩) hHeld ?_
      case hyq20x =>
        intro W hSw
        clear hSw
        (go_simp; try with_reducible rfl)
      simp only [List.setIfInBounds_toArray, List.set_cons_zero, List.set_cons_succ]
      refine wpAnyH_takeAt (i := 4) (d := 66) (v := ?vq21x) rfl rfl (by kernel_rfl) (by kernel_rfl) (by kernel_rfl) (fun _ _ _ h => h) (Or.inl ⟨by rfl, ?hyq21x⟩) hHeld ?_
      case hyq21x =>
        intro W hSw
        obtain ⟨c0, c1, c2, c3⟩ := Blk.four (show Blk W (w.heap.size + 1) 65 #[.int .i64 t.what, .string (str t.name), .slice Ab qb cb, .int .i64 t.n] from hSw)
        (go_simp; try with_reducible rfl)
      simp only [List.setIfInBounds_toArray, List.set_cons_zero, List.set_cons_succ]
      refine wpAnyH_ready (rs := [0, 2, 5]) (by kernel_rfl) (by simp) (AllReadyH.cons rfl (fun K hK => ?_) (AllReadyH.cons rfl (fun K hK => ?_) (AllReadyH.cons rfl (fun K hK => ?_) AllReadyH.nil)))
      · go_simp
        refine hK.out _ _ (hHeld.alloc _) (fun hHeld => ?_)
        clear hK K
        try simp only [List.setIfInBounds_toArray, List.set_cons_zero, List.set_cons_succ]
        have hal : Below wa0.heap.size wa0 (wa0.alloc (.cells #[] 65)) := (Below.refl _ _).alloc (Nat.le_refl _) _
        have HO0 := Lib.hid (ownK_empty wa0 65 4)
        have HZ0 : Hid (w.heap.size + 3 ≤ wa0.heap.size) := Lib.hid (by have := HRq.out.lt; omega)
        have HBq := Lib.hid (HBq.out.below hal HBq.out.lt)
        have HRq := Lib.hid (HRq.out.below hal HRq.out.lt)
        have HBLq := Lib.hid (HBLq.out.trans (hal.mono HBLq.out.size))
        clear hal
        generalize wa0.alloc (.cells #[] 65) = wa0a at *
        generalize wa0.heap.size = z0 at *
        refine wpAnyH_ready (rs := [2, 5]) (by kernel_rfl) (by simp) (AllReadyH.cons rfl (fun K hK => ?_) (AllReadyH.cons rfl (fun K hK => ?_) AllReadyH.nil))
        · have f2 : wa0a.cell? ⟨w.heap.size, 2, none⟩ = some (.slice B m k0) := HBq.out.cell 2
          go_simp
          refine hK.out _ _ hHeld (fun hHeld => ?_)
          clear hK K f2
          try simp only [List.setIfInBounds_toArray, List.set_cons_zero, List.set_cons_succ]
          refine wpAnyH_ready (rs := [3, 5]) (by kernel_rfl) (by simp) (AllReadyH.cons rfl (fun K hK => ?_) (AllReadyH.cons rfl (fun K hK => ?_) AllReadyH.nil))
          · refine step_append_k (d := 65) el27 (by rfl) rfl _ _ (by rfl) _ [] (by rfl) HO0.out X B m k0 css (by rfl) (HRD.out.below HBLq.out) (by simp) (by have := HM.out; omega) ?_
            intro v3 wa0ac ho3 hg3
            rw [List.nil_append] at ho3
            have hT3 : Turn (fun b => b = z0) wa0a wa0ac := hg3.turn (fun g e => by cases e; rfl)
            have hz := HZ0.out
            refine hK.out _ _ (Blk.keep hHeld hT3 (by omega)) (fun hHeld => ?_)
            clear hK K
            try simp only [List.setIfInBounds_toArray, List.set_cons_zero, List.set_cons_succ]
            have HV3 : Hid (∀ g, v3.ownBlock = some g → w.heap.size + 3 ≤ g) := Lib.hid (fun g e => by
              rcases hg3.2 g e with q | q
              · cases q; exact hz
              · have := HRq.out.lt; omega)
            have HBq := Lib.hid (HBq.out.keep hT3 (by omega))
            have HRq := Lib.hid (HRq.out.keep hT3 (by omega))
            have HBLq := Lib.hid (HBLq.out.trans (hT3.below HBLq.out.size (fun b e => by omega)))
            have HO3 := Lib.hid ho3
            clear ho3 hg3 hT3 hz
            refine wpAnyH_ready (rs := [5]) (by kernel_rfl) (by simp) (AllReadyH.cons rfl (fun K hK => ?_) AllReadyH.nil)
            go_simp
            refine hK.out _ _ (hHeld.alloc _) (fun hHeld => ?_)
            clear hK K
            try simp only [List.setIfInBounds_toArray, List.set_cons_zero, List.set_cons_succ]
            have hal : Below wa0ac.heap.size wa0ac (wa0ac.alloc (.cells #[.int .i64 t.what, .string (str t.name), .slice Ab qb cb, .int .i64 t.n] 65)) := (Below.refl _ _).alloc (Nat.le_refl _) _
            have HR5 := Lib.hid (rd_one (X := No) (k := 4) wa0ac 65 #[.int .i64 t.what, .string (str t.name), .slice Ab qb cb, .int .i64 t.n] rfl (fun u hu => by simp at hu; rcases hu with rfl | rfl | rfl | rfl <;> rfl) (fun h => h))
            have HL5 : Hid (wa0ac.heap.size < (wa0ac.alloc (.cells #[.int .i64 t.what, .string (str t.name), .slice Ab qb cb, .int .i64 t.n] 65)).heap.size) := Lib.hid (by simp)
            have HO3 := Lib.hid (HO3.out.below hal)
            have HBq := Lib.hid (HBq.out.below hal HBq.out.lt)
            have HRq := Lib.hid (HRq.out.below hal HRq.out.lt)
            have HBLq := Lib.hid (HBLq.out.trans (hal.mono HBLq.out.size))
            clear hal
            generalize wa0ac.alloc (.cells #[.int .i64 t.what, .string (str t.name), .slice Ab qb cb, .int .i64 t.n] 65) = wa0acb at *
            generalize wa0ac.heap.size = z5 at *
            refine wpAnyH_ready (rs := [6]) (by kernel_rfl) (by simp) (AllReadyH.cons rfl (fun K hK => ?_) AllReadyH.nil)
            refine step_append_k (d := 68) el27 (by rfl) rfl _ _ (by rfl) _ css (by rfl) HO3.out No _ 1 1 [#[.int .i64 t.what, .string (str t.name), .slice Ab qb cb, .int .i64 t.n]] (by rfl) HR5.out (by have h1 := HCS.out; have h2 := HT.out.len; have h3 := HM.out; omega) (by omega) ?_
            intro v6 wa0acbd ho6 hg6
            have hT6 : Turn (fun b => w.heap.size + 3 ≤ b) wa0acb wa0acbd := hg6.turn (fun g e => HV3.out g e)
            have HV6 : Hid (∀ g, v6.ownBlock = some g → w.heap.size + 3 ≤ g) := Lib.hid (fun g e => by
              rcases hg6.2 g e with q | q
              · exact HV3.out g q
              · have := HRq.out.lt; omega)
            refine hK.out _ _ (Blk.keep hHeld hT6 (by omega)) (fun hHeld => ?_)
            clear hK K
            try simp only [List.setIfInBounds_toArray, List.set_cons_zero, List.set_cons_succ]
            have HBq := Lib.hid (HBq.out.keep hT6 (by omega))
            have HRq := Lib.hid (HRq.out.keep hT6 (by omega))
            have HBLq := Lib.hid (HBLq.out.trans (hT6.below HBLq.out.size (fun b e => by omega)))
            have HO6 := Lib.hid ho6
            obtain ⟨A6, q6, c6, rfl, -, hqc6, hcm6⟩ := ho6.form
            clear ho6 hg6 hT6
            refine wpAnyH_takeAt (i := 7) (d := 69) (v := ?vq22x) rfl rfl (by kernel_rfl) (by kernel_rfl) (by kernel_rfl) (fun _ _ _ h => h) (Or.inl ⟨by rfl, ?hyq22x⟩) hHeld ?_
            case hyq22x =>
              intro W hSw
              clear hSw
              (go_simp; try with_reducible rfl)
            simp only [List.setIfInBounds_toArray, List.set_cons_zero, List.set_cons_succ]
            refine wpAnyH_ready (rs := [8]) (by kernel_rfl) (by simp) (AllReadyH.cons rfl (fun K hK => ?_) AllReadyH.nil)
            have g2 : wa0acbd.cell? ⟨w.heap.size, 2, none⟩ = some (.slice B m k0) := HBq.out.cell 2
            have f2 := HBq.out.frozen 2
            go_simp
            refine hK.out _ _ (Blk.far hHeld (by simp) _) (fun hHeld => ?_)
            clear hK K g2 f2
            have hB8 : Blk (wa0acbd.setCell ⟨w.heap.size, 2, none⟩ (.slice A6 q6 c6)) w.heap.size 29 #[.int .i64 (d.room : Int), .slice A n c, .slice A6 q6 c6] := HBq.out.set_ 2 _
            have HR8 := Lib.hid (HRq.out.far (p := ⟨w.heap.size, 2, none⟩) (by simp) (.slice A6 q6 c6))
            have HBL8 := Lib.hid (HBLq.out.setCell (p := ⟨w.heap.size, 2, none⟩) (Nat.le_refl _) (.slice A6 q6 c6))
            have HO8 : Hid (OwnK (wa0acbd.setCell ⟨w.heap.size, 2, none⟩ (.slice A6 q6 c6)) 65 4 (.slice A6 q6 c6) (css ++ [#[.int .i64 t.what, .string (str t.name), .slice Ab qb cb, .int .i64 t.n]])) := Lib.hid (HO6.out.keepB (fun g e => Below.heap_setCell _ ⟨w.heap.size, 2, none⟩ _ g (by show g ≠ w.heap.size; have := HV6.out g e; omega)))
            generalize wa0acbd.setCell ⟨w.heap.size, 2, none⟩ (.slice A6 q6 c6) = w8 at *
            refine wpAnyH_done (by kernel_rfl) ?_ _
            obtain ⟨u0, u1, u2⟩ := hB8.three
            clear hHeld hB8
            go_wp2_with (with_reducible refine at_store 29 rfl ?_)
            refine Stop.go (wpList_store_blk (by rfl) (by rfl) 29 _ _ (by rfl) (w.heap.size + 2) _ #[.int .i64 (d.room : Int), .slice A n c, .slice A6 q6 c6] (by rfl) (by rfl) 29 HR8.out (by rfl) (info29 _ rfl) (by simp [Value.oneCell']) ?_)
            intro w9 f9 g9 s9
            go_wp2_with fail
            refine bodyPost_ret (v := .tuple #[.agg #[.int .i64 (d.room : Int), .slice A n c, .slice A6 q6 c6], .int .i64 0]) (results_ct (by rfl) _ _ (w.heap.size + 2) 29 _ (0, 0) _ (by rfl) f9 Try.underlying29 (by rfl) (info29 _ rfl) (by rfl)) rfl ?_
            have hb9 := below_grown HBL8.out g9 (Nat.le_refl _) (by omega)
            have ho9 := HO8.out.keep (Turn.of_grown (S := fun b => b = w.heap.size + 2) g9 (fun r e => by cases e; rfl)) (fun g e e' => by have := HV6.out g e; omega)
            exact did_done HL.out hnc hcm HTA.out HCS.out HCSR.out HK.out ho9 (fun g e hx => by have h1 := HV6.out g e; have h2 := HX.out g hx; omega) hqc6 hcm6 hb9
          · go_simp
            refine hK.out _ _ (hHeld.alloc _) (fun hHeld => ?_)
            clear hK K
            try simp only [List.setIfInBounds_toArray, List.set_cons_zero, List.set_cons_succ]
            have hal : Below wa0a.heap.size wa0a (wa0a.alloc (.cells #[.int .i64 t.what, .string (str t.name), .slice Ab qb cb, .int .i64 t.n] 65)) := (Below.refl _ _).alloc (Nat.le_refl _) _
            have HR5 := Lib.hid (rd_one (X := No) (k := 4) wa0a 65 #[.int .i64 t.what, .string (str t.name), .slice Ab qb cb, .int .i64 t.n] rfl (fun u hu => by simp at hu; rcases hu with rfl | rfl | rfl | rfl <;> rfl) (fun h => h))
            have HL5 : Hid (wa0a.heap.size < (wa0a.alloc (.cells #[.int .i64 t.what, .string (str t.name), .slice Ab qb cb, .int .i64 t.n] 65)).heap.size) := Lib.hid (by simp)
            have HNE : Hid (wa0a.heap.size ≠ z0) := Lib.hid (by have := HO0.out.lt (g := z0) rfl; omega)
            have HO0 := Lib.hid (HO0.out.below hal)
            have HBq := Lib.hid (HBq.out.below hal HBq.out.lt)
            have HRq := Lib.hid (HRq.out.below hal HRq.out.lt)
            have HBLq := Lib.hid (HBLq.out.trans (hal.mono HBLq.out.size))
            clear hal
            generalize wa0a.alloc (.cells #[.int .i64 t.what, .string (str t.name), .slice Ab qb cb, .int .i64 t.n] 65) = wa0ab at *
            generalize wa0a.heap.size = z5 at *
            refine wpAnyH_ready (rs := [3]) (by kernel_rfl) (by simp) (AllReadyH.cons rfl (fun K hK => ?_) AllReadyH.nil)
            refine step_append_k (d := 65) el27 (by rfl) rfl _ _ (by rfl) _ [] (by rfl) HO0.out X B m k0 css (by rfl) (HRD.out.below HBLq.out) (by simp) (by have := HM.out; omega) ?_
            intro v3 wa0abc ho3 hg3
            rw [List.nil_append] at ho3
            have hT3 : Turn (fun b => b = z0) wa0ab wa0abc := hg3.turn (fun g e => by cases e; rfl)
            have hz := HZ0.out
            refine hK.out _ _ (Blk.keep hHeld hT3 (by omega)) (fun hHeld => ?_)
            clear hK K
            try simp only [List.setIfInBounds_toArray, List.set_cons_zero, List.set_cons_succ]
            have HV3 : Hid (∀ g, v3.ownBlock = some g → w.heap.size + 3 ≤ g) := Lib.hid (fun g e => by
              rcases hg3.2 g e with q | q
              · cases q; exact hz
              · have := HRq.out.lt; omega)
            have HR5 := Lib.hid (rd_keep1 HR5.out hT3 (fun e => HNE.out e))
            have HBq := Lib.hid (HBq.out.keep hT3 (by omega))
            have HRq := Lib.hid (HRq.out.keep hT3 (by omega))
            have HBLq := Lib.hid (HBLq.out.trans (hT3.below HBLq.out.size (fun b e => by omega)))
            have HO3 := Lib.hid ho3
            clear ho3 hg3 hT3 hz
            refine wpAnyH_ready (rs := [6]) (by kernel_rfl) (by simp) (AllReadyH.cons rfl (fun K hK => ?_) AllReadyH.nil)
            refine step_append_k (d := 68) el27 (by rfl) rfl _ _ (by rfl) _ css (by rfl) HO3.out No _ 1 1 [#[.int .i64 t.what, .string (str t.name), .slice Ab qb cb, .int .i64 t.n]] (by rfl) HR5.out (by have h1 := HCS.out; have h2 := HT.out.len; have h3 := HM.out; omega) (by omega) ?_
            intro v6 wa0abcd ho6 hg6
            have hT6 : Turn (fun b => w.heap.size + 3 ≤ b) wa0abc wa0abcd := hg6.turn (fun g e => HV3.out g e)
            have HV6 : Hid (∀ g, v6.ownBlock = some g → w.heap.size + 3 ≤ g) := Lib.hid (fun g e => by
              rcases hg6.2 g e with q | q
              · exact HV3.out g q
              · have := HRq.out.lt; omega)
            refine hK.out _ _ (Blk.keep hHeld hT6 (by omega)) (fun hHeld => ?_)
            clear hK K
            try simp only [List.setIfInBounds_toArray, List.set_cons_zero, List.set_cons_succ]
            have HBq := Lib.hid (HBq.out.keep hT6 (by omega))
            have HRq := Lib.hid (HRq.out.keep hT6 (by omega))
            have HBLq := Lib.hid (HBLq.out.trans (hT6.below HBLq.out.size (fun b e => by omega)))
            have HO6 := Lib.hid ho6
            obtain ⟨A6, q6, c6, rfl, -, hqc6, hcm6⟩ := ho6.form
            clear ho6 hg6 hT6
            refine wpAnyH_takeAt (i := 7) (d := 69) (v := ?vq23x) rfl rfl (by kernel_rfl) (by kernel_rfl) (by kernel_rfl) (fun _ _ _ h => h) (Or.inl ⟨by rfl, ?hyq23x⟩) hHeld ?_
            case hyq23x =>
              intro W hSw
              clear hSw
              (go_simp; try with_reducible rfl)
            simp only [List.setIfInBounds_toArray, List.set_cons_zero, List.set_cons_succ]
            refine wpAnyH_ready (rs := [8]) (by kernel_rfl) (by simp) (AllReadyH.cons rfl (fun K hK => ?_) AllReadyH.nil)
            have g2 : wa0abcd.cell? ⟨w.heap.size, 2, none⟩ = some (.slice B m k0) := HBq.out.cell 2
            have f2 := HBq.out.frozen 2
            go_simp
            refine hK.out _ _ (Blk.far hHeld (by simp) _) (fun hHeld => ?_)
            clear hK K g2 f2
            have hB8 : Blk (wa0abcd.setCell ⟨w.heap.size, 2, none⟩ (.slice A6 q6 c6)) w.heap.size 29 #[.int .i64 (d.room : Int), .slice A n c, .slice A6 q6 c6] := HBq.out.set_ 2 _
            have HR8 := Lib.hid (HRq.out.far (p := ⟨w.heap.size, 2, none⟩) (by simp) (.slice A6 q6 c6))
            have HBL8 := Lib.hid (HBLq.out.setCell (p := ⟨w.heap.size, 2, none⟩) (Nat.le_refl _) (.slice A6 q6 c6))
            have HO8 : Hid (OwnK (wa0abcd.setCell ⟨w.heap.size, 2, none⟩ (.slice A6 q6 c6)) 65 4 (.slice A6 q6 c6) (css ++ [#[.int .i64 t.what, .string (str t.name), .slice Ab qb cb, .int .i64 t.n]])) := Lib.hid (HO6.out.keepB (fun g e => Below.heap_setCell _ ⟨w.heap.size, 2, none⟩ _ g (by show g ≠ w.heap.size; have := HV6.out g e; omega)))
            generalize wa0abcd.setCell ⟨w.heap.size, 2, none⟩ (.slice A6 q6 c6) = w8 at *
            refine wpAnyH_done (by kernel_rfl) ?_ _
            obtain ⟨u0, u1, u2⟩ := hB8.three
            clear hHeld hB8
            go_wp2_with (with_reducible refine at_store 29 rfl ?_)
            refine Stop.go (wpList_store_blk (by rfl) (by rfl) 29 _ _ (by rfl) (w.heap.size + 2) _ #[.int .i64 (d.room : Int), .slice A n c, .slice A6 q6 c6] (by rfl) (by rfl) 29 HR8.out (by rfl) (info29 _ rfl) (by simp [Value.oneCell']) ?_)
            intro w9 f9 g9 s9
            go_wp2_with fail
            refine bodyPost_ret (v := .tuple #[.agg #[.int .i64 (d.room : Int), .slice A n c, .slice A6 q6 c6], .int .i64 0]) (results_ct (by rfl) _ _ (w.heap.size + 2) 29 _ (0, 0) _ (by rfl) f9 Try.underlying29 (by rfl) (info29 _ rfl) (by rfl)) rfl ?_
            have hb9 := below_grown HBL8.out g9 (Nat.le_refl _) (by omega)
            have ho9 := HO8.out.keep (Turn.of_grown (S := fun b => b = w.heap.size + 2) g9 (fun r e => by cases e; rfl)) (fun g e e' => by have := HV6.out g e; omega)
            exact did_done HL.out hnc hcm HTA.out HCS.out HCSR.out HK.out ho9 (fun g e hx => by have h1 := HV6.out g e; have h2 := HX.out g hx; omega) hqc6 hcm6 hb9
        · go_simp
          refine hK.out _ _ (hHeld.alloc _) (fun hHeld => ?_)
          clear hK K
          try simp only [List.setIfInBounds_toArray, List.set_cons_zero, List.set_cons_succ]
          have hal : Below wa0a.heap.size wa0a (wa0a.alloc (.cells #[.int .i64 t.what, .string (str t.name), .slice Ab qb cb, .int .i64 t.n] 65)) := (Below.refl _ _).alloc (Nat.le_refl _) _
          have HR5 := Lib.hid (rd_one (X := No) (k := 4) wa0a 65 #[.int .i64 t.what, .string (str t.name), .slice Ab qb cb, .int .i64 t.n] rfl (fun u hu => by simp at hu; rcases hu with rfl | rfl | rfl | rfl <;> rfl) (fun h => h))
          have HL5 : Hid (wa0a.heap.size < (wa0a.alloc (.cells #[.int .i64 t.what, .string (str t.name), .slice Ab qb cb, .int .i64 t.n] 65)).heap.size) := Lib.hid (by simp)
          have HNE : Hid (wa0a.heap.size ≠ z0) := Lib.hid (by have := HO0.out.lt (g := z0) rfl; omega)
          have HO0 := Lib.hid (HO0.out.below hal)
          have HBq := Lib.hid (HBq.out.below hal HBq.out.lt)
          have HRq := Lib.hid (HRq.out.below hal HRq.out.lt)
          have HBLq := Lib.hid (HBLq.out.trans (hal.mono HBLq.out.size))
          clear hal
          generalize wa0a.alloc (.cells #[.int .i64 t.what, .string (str t.name), .slice Ab qb cb, .int .i64 t.n] 65) = wa0ab at *
          generalize wa0a.heap.size = z5 at *
          refine wpAnyH_ready (rs := [2]) (by kernel_rfl) (by simp) (AllReadyH.cons rfl (fun K hK => ?_) AllReadyH.nil)
          have f2 : wa0ab.cell? ⟨w.heap.size, 2, none⟩ = some (.slice B m k0) := HBq.out.cell 2
          go_simp
          refine hK.out _ _ hHeld (fun hHeld => ?_)
          clear hK K f2
          try simp only [List.setIfInBounds_toArray, List.set_cons_zero, List.set_cons_succ]
          refine wpAnyH_ready (rs := [3]) (by kernel_rfl) (by simp) (AllReadyH.cons rfl (fun K hK => ?_) AllReadyH.nil)
          refine step_append_k (d := 65) el27 (by rfl) rfl _ _ (by rfl) _ [] (by rfl) HO0.out X B m k0 css (by rfl) (HRD.out.below HBLq.out) (by simp) (by have := HM.out; omega) ?_
          intro v3 wa0abc ho3 hg3
          rw [List.nil_append] at ho3
          have hT3 : Turn (fun b => b = z0) wa0ab wa0abc := hg3.turn (fun g e => by cases e; rfl)
          have hz := HZ0.out
          refine hK.out _ _ (Blk.keep hHeld hT3 (by omega)) (fun hHeld => ?_)
          clear hK K
          try simp only [List.setIfInBounds_toArray, List.set_cons_zero, List.set_cons_succ]
          have HV3 : Hid (∀ g, v3.ownBlock = some g → w.heap.size + 3 ≤ g) := Lib.hid (fun g e => by
            rcases hg3.2 g e with q | q
            · cases q; exact hz
            · have := HRq.out.lt; omega)
          have HR5 := Lib.hid (rd_keep1 HR5.out hT3 (fun e => HNE.out e))
          have HBq := Lib.hid (HBq.out.keep hT3 (by omega))
          have HRq := Lib.hid (HRq.out.keep hT3 (by omega))
          have HBLq := Lib.hid (HBLq.out.trans (hT3.below HBLq.out.size (fun b e => by omega)))
          have HO3 := Lib.hid ho3
          clear ho3 hg3 hT3 hz
          refine wpAnyH_ready (rs := [6]) (by kernel_rfl) (by simp) (AllReadyH.cons rfl (fun K hK => ?_) AllReadyH.nil)
          refine step_append_k (d := 68) el27 (by rfl) rfl _ _ (by rfl) _ css (by rfl) HO3.out No _ 1 1 [#[.int .i64 t.what, .string (str t.name), .slice Ab qb cb, .int .i64 t.n]] (by rfl) HR5.out (by have h1 := HCS.out; have h2 := HT.out.len; have h3 := HM.out; omega) (by omega) ?_
          intro v6 wa0abcd ho6 hg6
          have hT6 : Turn (fun b => w.heap.size + 3 ≤ b) wa0abc wa0abcd := hg6.turn (fun g e => HV3.out g e)
          have HV6 : Hid (∀ g, v6.ownBlock = some g → w.heap.size + 3 ≤ g) := Lib.hid (fun g e => by
            rcases hg6.2 g e with q | q
            · exact HV3.out g q
            · have := HRq.out.lt; omega)
          refine hK.out _ _ (Blk.keep hHeld hT6 (by omega)) (fun hHeld => ?_)
          clear hK K
          try simp only [List.setIfInBounds_toArray, List.set_cons_zero, List.set_cons_succ]
          have HBq := Lib.hid (HBq.out.keep hT6 (by omega))
          have HRq := Lib.hid (HRq.out.keep hT6 (by omega))
          have HBLq := Lib.hid (HBLq.out.trans (hT6.below HBLq.out.size (fun b e => by omega)))
          have HO6 := Lib.hid ho6
          obtain ⟨A6, q6, c6, rfl, -, hqc6, hcm6⟩ := ho6.form
          clear ho6 hg6 hT6
          refine wpAnyH_takeAt (i := 7) (d := 69) (v := ?vq24x) rfl rfl (by kernel_rfl) (by kernel_rfl) (by kernel_rfl) (fun _ _ _ h => h) (Or.inl ⟨by rfl, ?hyq24x⟩) hHeld ?_
          case hyq24x =>
            intro W hSw
            clear hSw
            (go_simp; try with_reducible rfl)
          simp only [List.setIfInBounds_toArray, List.set_cons_zero, List.set_cons_succ]
          refine wpAnyH_ready (rs := [8]) (by kernel_rfl) (by simp) (AllReadyH.cons rfl (fun K hK => ?_) AllReadyH.nil)
          have g2 : wa0abcd.cell? ⟨w.heap.size, 2, none⟩ = some (.slice B m k0) := HBq.out.cell 2
          have f2 := HBq.out.frozen 2
          go_simp
          refine hK.out _ _ (Blk.far hHeld (by simp) _) (fun hHeld => ?_)
          clear hK K g2 f2
          have hB8 : Blk (wa0abcd.setCell ⟨w.heap.size, 2, none⟩ (.slice A6 q6 c6)) w.heap.size 29 #[.int .i64 (d.room : Int), .slice A n c, .slice A6 q6 c6] := HBq.out.set_ 2 _
          have HR8 := Lib.hid (HRq.out.far (p := ⟨w.heap.size, 2, none⟩) (by simp) (.slice A6 q6 c6))
          have HBL8 := Lib.hid (HBLq.out.setCell (p := ⟨w.heap.size, 2, none⟩) (Nat.le_refl _) (.slice A6 q6 c6))
          have HO8 : Hid (OwnK (wa0abcd.setCell ⟨w.heap.size, 2, none⟩ (.slice A6 q6 c6)) 65 4 (.slice A6 q6 c6) (css ++ [#[.int .i64 t.what, .string (str t.name), .slice Ab qb cb, .int .i64 t.n]])) := Lib.hid (HO6.out.keepB (fun g e => Below.heap_setCell _ ⟨w.heap.size, 2, none⟩ _ g (by show g ≠ w.heap.size; have := HV6.out g e; omega)))
          generalize wa0abcd.setCell ⟨w.heap.size, 2, none⟩ (.slice A6 q6 c6) = w8 at *
          refine wpAnyH_done (by kernel_rfl) ?_ _
          obtain ⟨u0, u1, u2⟩ := hB8.three
          clear hHeld hB8
          go_wp2_with (with_reducible refine at_store 29 rfl ?_)
          refine Stop.go (wpList_store_blk (by rfl) (by rfl) 29 _ _ (by rfl) (w.heap.size + 2) _ #[.int .i64 (d.room : Int), .slice A n c, .slice A6 q6 c6] (by rfl) (by rfl) 29 HR8.out (by rfl) (info29 _ rfl) (by simp [Value.oneCell']) ?_)
          intro w9 f9 g9 s9
          go_wp2_with fail
          refine bodyPost_ret (v := .tuple #[.agg #[.int .i64 (d.room : Int), .slice A n c, .slice A6 q6 c6], .int .i64 0]) (results_ct (by rfl) _ _ (w.heap.size + 2) 29 _ (0, 0) _ (by rfl) f9 Try.underlying29 (by rfl) (info29 _ rfl) (by rfl)) rfl ?_
          have hb9 := below_grown HBL8.out g9 (Nat.le_refl _) (by omega)
          have ho9 := HO8.out.keep (Turn.of_grown (S := fun b => b = w.heap.size + 2) g9 (fun r e => by cases e; rfl)) (fun g e e' => by have := HV6.out g e; omega)
          exact did_done HL.out hnc hcm HTA.out HCS.out HCSR.out HK.out ho9 (fun g e hx => by have h1 := HV6.out g e; have h2 := HX.out g hx; omega) hqc6 hcm6 hb9
      · have f2 : wa0.cell? ⟨w.heap.size, 2, none⟩ = some (.slice B m k0) := HBq.out.cell 2
        go_simp
        refine hK.out _ _ hHeld (fun hHeld => ?_)
        clear hK K f2
        try simp only [List.setIfInBounds_toArray, List.set_cons_zero, List.set_cons_succ]
        refine wpAnyH_ready (rs := [0, 5]) (by kernel_rfl) (by simp) (AllReadyH.cons rfl (fun K hK => ?_) (AllReadyH.cons rfl (fun K hK => ?_) AllReadyH.nil))
        · go_simp
          refine hK.out _ _ (hHeld.alloc _) (fun hHeld => ?_)
          clear hK K
          try simp only [List.setIfInBounds_toArray, List.set_cons_zero, List.set_cons_succ]
          have hal : Below wa0.heap.size wa0 (wa0.alloc (.cells #[] 65)) := (Below.refl _ _).alloc (Nat.le_refl _) _
          have HO0 := Lib.hid (ownK_empty wa0 65 4)
          have HZ0 : Hid (w.heap.size + 3 ≤ wa0.heap.size) := Lib.hid (by have := HRq.out.lt; omega)
          have HBq := Lib.hid (HBq.out.below hal HBq.out.lt)
          have HRq := Lib.hid (HRq.out.below hal HRq.out.lt)
          have HBLq := Lib.hid (HBLq.out.trans (hal.mono HBLq.out.size))
          clear hal
          generalize wa0.alloc (.cells #[] 65) = wa0a at *
          generalize wa0.heap.size = z0 at *
          refine wpAnyH_ready (rs := [3, 5]) (by kernel_rfl) (by simp) (AllReadyH.cons rfl (fun K hK => ?_) (AllReadyH.cons rfl (fun K hK => ?_) AllReadyH.nil))
          · refine step_append_k (d := 65) el27 (by rfl) rfl _ _ (by rfl) _ [] (by rfl) HO0.out X B m k0 css (by rfl) (HRD.out.below HBLq.out) (by simp) (by have := HM.out; omega) ?_
            intro v3 wa0ac ho3 hg3
            rw [List.nil_append] at ho3
            have hT3 : Turn (fun b => b = z0) wa0a wa0ac := hg3.turn (fun g e => by cases e; rfl)
            have hz := HZ0.out
            refine hK.out _ _ (Blk.keep hHeld hT3 (by omega)) (fun hHeld => ?_)
            clear hK K
            try simp only [List.setIfInBounds_toArray, List.set_cons_zero, List.set_cons_succ]
            have HV3 : Hid (∀ g, v3.ownBlock = some g → w.heap.size + 3 ≤ g) := Lib.hid (fun g e => by
              rcases hg3.2 g e with q | q
              · cases q; exact hz
              · have := HRq.out.lt; omega)
            have HBq := Lib.hid (HBq.out.keep hT3 (by omega))
            have HRq := Lib.hid (HRq.out.keep hT3 (by omega))
            have HBLq := Lib.hid (HBLq.out.trans (hT3.below HBLq.out.size (fun b e => by omega)))
            have HO3 := Lib.hid ho3
            clear ho3 hg3 hT3 hz
            refine wpAnyH_ready (rs := [5]) (by kernel_rfl) (by simp) (AllReadyH.cons rfl (fun K hK => ?_) AllReadyH.nil)
            go_simp
            refine hK.out _ _ (hHeld.alloc _) (fun hHeld => ?_)
            clear hK K
            try simp only [List.setIfInBounds_toArray, List.set_cons_zero, List.set_cons_succ]
            have hal : Below wa0ac.heap.size wa0ac (wa0ac.alloc (.cells #[.int .i64 t.what, .string (str t.name), .slice Ab qb cb, .int .i64 t.n] 65)) := (Below.refl _ _).alloc (Nat.le_refl _) _
            have HR5 := Lib.hid (rd_one (X := No) (k := 4) wa0ac 65 #[.int .i64 t.what, .string (str t.name), .slice Ab qb cb, .int .i64 t.n] rfl (fun u hu => by simp at hu; rcases hu with rfl | rfl | rfl | rfl <;> rfl) (fun h => h))
            have HL5 : Hid (wa0ac.heap.size < (wa0ac.alloc (.cells #[.int .i64 t.what, .string (str t.name), .slice Ab qb cb, .int .i64 t.n] 65)).heap.size) := Lib.hid (by simp)
            have HO3 := Lib.hid (HO3.out.below hal)
            have HBq := Lib.hid (HBq.out.below hal HBq.out.lt)
            have HRq := Lib.hid (HRq.out.below hal HRq.out.lt)
            have HBLq := Lib.hid (HBLq.out.trans (hal.mono HBLq.out.size))
            clear hal
            generalize wa0ac.alloc (.cells #[.int .i64 t.what, .string (str t.name), .slice Ab qb cb, .int .i64 t.n] 65) = wa0acb at *
            generalize wa0ac.heap.size = z5 at *
            refine wpAnyH_ready (rs := [6]) (by kernel_rfl) (by simp) (AllReadyH.cons rfl (fun K hK => ?_) AllReadyH.nil)
            refine step_append_k (d := 68) el27 (by rfl) rfl _ _ (by rfl) _ css (by rfl) HO3.out No _ 1 1 [#[.int .i64 t.what, .string (str t.name), .slice Ab qb cb, .int .i64 t.n]] (by rfl) HR5.out (by have h1 := HCS.out; have h2 := HT.out.len; have h3 := HM.out; omega) (by omega) ?_
            intro v6 wa0acbd ho6 hg6
            have hT6 : Turn (fun b => w.heap.size + 3 ≤ b) wa0acb wa0acbd := hg6.turn (fun g e => HV3.out g e)
            have HV6 : Hid (∀ g, v6.ownBlock = some g → w.heap.size + 3 ≤ g) := Lib.hid (fun g e => by
              rcases hg6.2 g e with q | q
              · exact HV3.out g q
              · have := HRq.out.lt; omega)
            refine hK.out _ _ (Blk.keep hHeld hT6 (by omega)) (fun hHeld => ?_)
            clear hK K
            try simp only [List.setIfInBounds_toArray, List.set_cons_zero, List.set_cons_succ]
            have HBq := Lib.hid (HBq.out.keep hT6 (by omega))
            have HRq := Lib.hid (HRq.out.keep hT6 (by omega))
            have HBLq := Lib.hid (HBLq.out.trans (hT6.below HBLq.out.size (fun b e => by omega)))
            have HO6 := Lib.hid ho6
            obtain ⟨A6, q6, c6, rfl, -, hqc6, hcm6⟩ := ho6.form
            clear ho6 hg6 hT6
            refine wpAnyH_takeAt (i := 7) (d := 69) (v := ?vq25x) rfl rfl (by kernel_rfl) (by kernel_rfl) (by kernel_rfl) (fun _ _ _ h => h) (Or.inl ⟨by rfl, ?hyq25x⟩) hHeld ?_
            case hyq25x =>
              intro W hSw
              clear hSw
              (go_simp; try with_reducible rfl)
            simp only [List.setIfInBounds_toArray, List.set_cons_zero, List.set_cons_succ]
            refine wpAnyH_ready (rs := [8]) (by kernel_rfl) (by simp) (AllReadyH.cons rfl (fun K hK => ?_) AllReadyH.nil)
            have g2 : wa0acbd.cell? ⟨w.heap.size, 2, none⟩ = some (.slice B m k0) := HBq.out.cell 2
            have f2 := HBq.out.frozen 2
            go_simp
            refine hK.out _ _ (Blk.far hHeld (by simp) _) (fun hHeld => ?_)
            clear hK K g2 f2
            have hB8 : Blk (wa0acbd.setCell ⟨w.heap.size, 2, none⟩ (.slice A6 q6 c6)) w.heap.size 29 #[.int .i64 (d.room : Int), .slice A n c, .slice A6 q6 c6] := HBq.out.set_ 2 _
            have HR8 := Lib.hid (HRq.out.far (p := ⟨w.heap.size, 2, none⟩) (by simp) (.slice A6 q6 c6))
            have HBL8 := Lib.hid (HBLq.out.setCell (p := ⟨w.heap.size, 2, none⟩) (Nat.le_refl _) (.slice A6 q6 c6))
            have HO8 : Hid (OwnK (wa0acbd.setCell ⟨w.heap.size, 2, none⟩ (.slice A6 q6 c6)) 65 4 (.slice A6 q6 c6) (css ++ [#[.int .i64 t.what, .string (str t.name), .slice Ab qb cb, .int .i64 t.n]])) := Lib.hid (HO6.out.keepB (fun g e => Below.heap_setCell _ ⟨w.heap.size, 2, none⟩ _ g (by show g ≠ w.heap.size; have := HV6.out g e; omega)))
            generalize wa0acbd.setCell ⟨w.heap.size, 2, none⟩ (.slice A6 q6 c6) = w8 at *
            refine wpAnyH_done (by kernel_rfl) ?_ _
            obtain ⟨u0, u1, u2⟩ := hB8.three
            clear hHeld hB8
            go_wp2_with (with_reducible refine at_store 29 rfl ?_)
            refine Stop.go (wpList_store_blk (by rfl) (by rfl) 29 _ _ (by rfl) (w.heap.size + 2) _ #[.int .i64 (d.room : Int), .slice A n c, .slice A6 q6 c6] (by rfl) (by rfl) 29 HR8.out (by rfl) (info29 _ rfl) (by simp [Value.oneCell']) ?_)
            intro w9 f9 g9 s9
            go_wp2_with fail
            refine bodyPost_ret (v := .tuple #[.agg #[.int .i64 (d.room : Int), .slice A n c, .slice A6 q6 c6], .int .i64 0]) (results_ct (by rfl) _ _ (w.heap.size + 2) 29 _ (0, 0) _ (by rfl) f9 Try.underlying29 (by rfl) (info29 _ rfl) (by rfl)) rfl ?_
            have hb9 := below_grown HBL8.out g9 (Nat.le_refl _) (by omega)
            have ho9 := HO8.out.keep (Turn.of_grown (S := fun b => b = w.heap.size + 2) g9 (fun r e => by cases e; rfl)) (fun g e e' => by have := HV6.out g e; omega)
            exact did_done HL.out hnc hcm HTA.out HCS.out HCSR.out HK.out ho9 (fun g e hx => by have h1 := HV6.out g e; have h2 := HX.out g hx; omega) hqc6 hcm6 hb9
          · go_simp
            refine hK.out _ _ (hHeld.alloc _) (fun hHeld => ?_)
            clear hK K
            try simp only [List.setIfInBounds_toArray, List.set_cons_zero, List.set_cons_succ]
            have hal : Below wa0a.heap.size wa0a (wa0a.alloc (.cells #[.int .i64 t.what, .string (str t.name), .slice Ab qb cb, .int .i64 t.n] 65)) := (Below.refl _ _).alloc (Nat.le_refl _) _
            have HR5 := Lib.hid (rd_one (X := No) (k := 4) wa0a 65 #[.int .i64 t.what, .string (str t.name), .slice Ab qb cb, .int .i64 t.n] rfl (fun u hu => by simp at hu; rcases hu with rfl | rfl | rfl | rfl <;> rfl) (fun h => h))
            have HL5 : Hid (wa0a.heap.size < (wa0a.alloc (.cells #[.int .i64 t.what, .string (str t.name), .slice Ab qb cb, .int .i64 t.n] 65)).heap.size) := Lib.hid (by simp)
            have HNE : Hid (wa0a.heap.size ≠ z0) := Lib.hid (by have := HO0.out.lt (g := z0) rfl; omega)
            have HO0 := Lib.hid (HO0.out.below hal)
            have HBq := Lib.hid (HBq.out.below hal HBq.out.lt)
            have HRq := Lib.hid (HRq.out.below hal HRq.out.lt)
            have HBLq := Lib.hid (HBLq.out.trans (hal.mono HBLq.out.size))
            clear hal
            generalize wa0a.alloc (.cells #[.int .i64 t.what, .string (str t.name), .slice Ab qb cb, .int .i64 t.n] 65) = wa0ab at *
            generalize wa0a.heap.size = z5 at *
            refine wpAnyH_ready (rs := [3]) (by kernel_rfl) (by simp) (AllReadyH.cons rfl (fun K hK => ?_) AllReadyH.nil)
            refine step_append_k (d := 65) el27 (by rfl) rfl _ _ (by rfl) _ [] (by rfl) HO0.out X B m k0 css (by rfl) (HRD.out.below HBLq.out) (by simp) (by have := HM.out; omega) ?_
            intro v3 wa0abc ho3 hg3
            rw [List.nil_append] at ho3
            have hT3 : Turn (fun b => b = z0) wa0ab wa0abc := hg3.turn (fun g e => by cases e; rfl)
            have hz := HZ0.out
            refine hK.out _ _ (Blk.keep hHeld hT3 (by omega)) (fun hHeld => ?_)
            clear hK K
            try simp only [List.setIfInBounds_toArray, List.set_cons_zero, List.set_cons_succ]
            have HV3 : Hid (∀ g, v3.ownBlock = some g → w.heap.size + 3 ≤ g) := Lib.hid (fun g e => by
              rcases hg3.2 g e with q | q
              · cases q; exact hz
              · have := HRq.out.lt; omega)
            have HR5 := Lib.hid (rd_keep1 HR5.out hT3 (fun e => HNE.out e))
            have HBq := Lib.hid (HBq.out.keep hT3 (by omega))
            have HRq := Lib.hid (HRq.out.keep hT3 (by omega))
            have HBLq := Lib.hid (HBLq.out.trans (hT3.below HBLq.out.size (fun b e => by omega)))
            have HO3 := Lib.hid ho3
            clear ho3 hg3 hT3 hz
            refine wpAnyH_ready (rs := [6]) (by kernel_rfl) (by simp) (AllReadyH.cons rfl (fun K hK => ?_) AllReadyH.nil)
            refine step_append_k (d := 68) el27 (by rfl) rfl _ _ (by rfl) _ css (by rfl) HO3.out No _ 1 1 [#[.int .i64 t.what, .string (str t.name), .slice Ab qb cb, .int .i64 t.n]] (by rfl) HR5.out (by have h1 := HCS.out; have h2 := HT.out.len; have h3 := HM.out; omega) (by omega) ?_
            intro v6 wa0abcd ho6 hg6
            have hT6 : Turn (fun b => w.heap.size + 3 ≤ b) wa0abc wa0abcd := hg6.turn (fun g e => HV3.out g e)
            have HV6 : Hid (∀ g, v6.ownBlock = some g → w.heap.size + 3 ≤ g) := Lib.hid (fun g e => by
              rcases hg6.2 g e with q | q
              · exact HV3.out g q
              · have := HRq.out.lt; omega)
            refine hK.out _ _ (Blk.keep hHeld hT6 (by omega)) (fun hHeld => ?_)
            clear hK K
            try simp only [List.setIfInBounds_toArray, List.set_cons_zero, List.set_cons_succ]
            have HBq := Lib.hid (HBq.out.keep hT6 (by omega))
            have HRq := Lib.hid (HRq.out.keep hT6 (by omega))
            have HBLq := Lib.hid (HBLq.out.trans (hT6.below HBLq.out.size (fun b e => by omega)))
            have HO6 := Lib.hid ho6
            obtain ⟨A6, q6, c6, rfl, -, hqc6, hcm6⟩ := ho6.form
            clear ho6 hg6 hT6
            refine wpAnyH_takeAt (i := 7) (d := 69) (v := ?vq26x) rfl rfl (by kernel_rfl) (by kernel_rfl) (by kernel_rfl) (fun _ _ _ h => h) (Or.inl ⟨by rfl, ?hyq26x⟩) hHeld ?_
            case hyq26x =>
              intro W hSw
              clear hSw
              (go_simp; try with_reducible rfl)
            simp only [List.setIfInBounds_toArray, List.set_cons_zero, List.set_cons_succ]
            refine wpAnyH_ready (rs := [8]) (by kernel_rfl) (by simp) (AllReadyH.cons rfl (fun K hK => ?_) AllReadyH.nil)
            have g2 : wa0abcd.cell? ⟨w.heap.size, 2, none⟩ = some (.slice B m k0) := HBq.out.cell 2
            have f2 := HBq.out.frozen 2
            go_simp
            refine hK.out _ _ (Blk.far hHeld (by simp) _) (fun hHeld => ?_)
            clear hK K g2 f2
            have hB8 : Blk (wa0abcd.setCell ⟨w.heap.size, 2, none⟩ (.slice A6 q6 c6)) w.heap.size 29 #[.int .i64 (d.room : Int), .slice A n c, .slice A6 q6 c6] := HBq.out.set_ 2 _
            have HR8 := Lib.hid (HRq.out.far (p := ⟨w.heap.size, 2, none⟩) (by simp) (.slice A6 q6 c6))
            have HBL8 := Lib.hid (HBLq.out.setCell (p := ⟨w.heap.size, 2, none⟩) (Nat.le_refl _) (.slice A6 q6 c6))
            have HO8 : Hid (OwnK (wa0abcd.setCell ⟨w.heap.size, 2, none⟩ (.slice A6 q6 c6)) 65 4 (.slice A6 q6 c6) (css ++ [#[.int .i64 t.what, .string (str t.name), .slice Ab qb cb, .int .i64 t.n]])) := Lib.hid (HO6.out.keepB (fun g e => Below.heap_setCell _ ⟨w.heap.size, 2, none⟩ _ g (by show g ≠ w.heap.size; have := HV6.out g e; omega)))
            generalize wa0abcd.setCell ⟨w.heap.size, 2, none⟩ (.slice A6 q6 c6) = w8 at *
            refine wpAnyH_done (by kernel_rfl) ?_ _
            obtain ⟨u0, u1, u2⟩ := hB8.three
            clear hHeld hB8
            go_wp2_with (with_reducible refine at_store 29 rfl ?_)
            refine Stop.go (wpList_store_blk (by rfl) (by rfl) 29 _ _ (by rfl) (w.heap.size + 2) _ #[.int .i64 (d.room : Int), .slice A n c, .slice A6 q6 c6] (by rfl) (by rfl) 29 HR8.out (by rfl) (info29 _ rfl) (by simp [Value.oneCell']) ?_)
            intro w9 f9 g9 s9
            go_wp2_with fail
            refine bodyPost_ret (v := .tuple #[.agg #[.int .i64 (d.room : Int), .slice A n c, .slice A6 q6 c6], .int .i64 0]) (results_ct (by rfl) _ _ (w.heap.size + 2) 29 _ (0, 0) _ (by rfl) f9 Try.underlying29 (by rfl) (info29 _ rfl) (by rfl)) rfl ?_
            have hb9 := below_grown HBL8.out g9 (Nat.le_refl _) (by omega)
            have ho9 := HO8.out.keep (Turn.of_grown (S := fun b => b = w.heap.size + 2) g9 (fun r e => by cases e; rfl)) (fun g e e' => by have := HV6.out g e; omega)
            exact did_done HL.out hnc hcm HTA.out HCS.out HCSR.out HK.out ho9 (fun g e hx => by have h1 := HV6.out g e; have h2 := HX.out g hx; omega) hqc6 hcm6 hb9
        · go_simp
          refine hK.out _ _ (hHeld.alloc _) (fun hHeld => ?_)
          clear hK K
          try simp only [List.setIfInBounds_toArray, List.set_cons_zero, List.set_cons_succ]
          have hal : Below wa0.heap.size wa0 (wa0.alloc (.cells #[.int .i64 t.what, .string (str t.name), .slice Ab qb cb, .int .i64 t.n] 65)) := (Below.refl _ _).alloc (Nat.le_refl _) _
          have HR5 := Lib.hid (rd_one (X := No) (k := 4) wa0 65 #[.int .i64 t.what, .string (str t.name), .slice Ab qb cb, .int .i64 t.n] rfl (fun u hu => by simp at hu; rcases hu with rfl | rfl | rfl | rfl <;> rfl) (fun h => h))
          have HL5 : Hid (wa0.heap.size < (wa0.alloc (.cells #[.int .i64 t.what, .string (str t.name), .slice Ab qb cb, .int .i64 t.n] 65)).heap.size) := Lib.hid (by simp)
          have HBq := Lib.hid (HBq.out.below hal HBq.out.lt)
          have HRq := Lib.hid (HRq.out.below hal HRq.out.lt)
          have HBLq := Lib.hid (HBLq.out.trans (hal.mono HBLq.out.size))
          clear hal
          generalize wa0.alloc (.cells #[.int .i64 t.what, .string (str t.name), .slice Ab qb cb, .int .i64 t.n] 65) = wa0b at *
          generalize wa0.heap.size = z5 at *
          refine wpAnyH_ready (rs := [0]) (by kernel_rfl) (by simp) (AllReadyH.cons rfl (fun K hK => ?_) AllReadyH.nil)
          go_simp
          refine hK.out _ _ (hHeld.alloc _) (fun hHeld => ?_)
          clear hK K
          try simp only [List.setIfInBounds_toArray, List.set_cons_zero, List.set_cons_succ]
          have hal : Below wa0b.heap.size wa0b (wa0b.alloc (.cells #[] 65)) := (Below.refl _ _).alloc (Nat.le_refl _) _
          have HO0 := Lib.hid (ownK_empty wa0b 65 4)
          have HZ0 : Hid (w.heap.size + 3 ≤ wa0b.heap.size) := Lib.hid (by have := HRq.out.lt; omega)
          have HBq := Lib.hid (HBq.out.below hal HBq.out.lt)
          have HRq := Lib.hid (HRq.out.below hal HRq.out.lt)
          have HBLq := Lib.hid (HBLq.out.trans (hal.mono HBLq.out.size))
          have HR5 := Lib.hid (HR5.out.below hal)
          have HNE : Hid (z5 ≠ wa0b.heap.size) := Lib.hid (by have := HL5.out; omega)
          clear hal
          generalize wa0b.alloc (.cells #[] 65) = wa0ba at *
          generalize wa0b.heap.size = z0 at *
          refine wpAnyH_ready (rs := [3]) (by kernel_rfl) (by simp) (AllReadyH.cons rfl (fun K hK => ?_) AllReadyH.nil)
          refine step_append_k (d := 65) el27 (by rfl) rfl _ _ (by rfl) _ [] (by rfl) HO0.out X B m k0 css (by rfl) (HRD.out.below HBLq.out) (by simp) (by have := HM.out; omega) ?_
          intro v3 wa0bac ho3 hg3
          rw [List.nil_append] at ho3
          have hT3 : Turn (fun b => b = z0) wa0ba wa0bac := hg3.turn (fun g e => by cases e; rfl)
          have hz := HZ0.out
          refine hK.out _ _ (Blk.keep hHeld hT3 (by omega)) (fun hHeld => ?_)
          clear hK K
          try simp only [List.setIfInBounds_toArray, List.set_cons_zero, List.set_cons_succ]
          have HV3 : Hid (∀ g, v3.ownBlock = some g → w.heap.size + 3 ≤ g) := Lib.hid (fun g e => by
            rcases hg3.2 g e with q | q
            · cases q; exact hz
            · have := HRq.out.lt; omega)
          have HR5 := Lib.hid (rd_keep1 HR5.out hT3 (fun e => HNE.out e))
          have HBq := Lib.hid (HBq.out.keep hT3 (by omega))
          have HRq := Lib.hid (HRq.out.keep hT3 (by omega))
          have HBLq := Lib.hid (HBLq.out.trans (hT3.below HBLq.out.size (fun b e => by omega)))
          have HO3 := Lib.hid ho3
          clear ho3 hg3 hT3 hz
          refine wpAnyH_ready (rs := [6]) (by kernel_rfl) (by simp) (AllReadyH.cons rfl (fun K hK => ?_) AllReadyH.nil)
          refine step_append_k (d := 68) el27 (by rfl) rfl _ _ (by rfl) _ css (by rfl) HO3.out No _ 1 1 [#[.int .i64 t.what, .string (str t.name), .slice Ab qb cb, .int .i64 t.n]] (by rfl) HR5.out (by have h1 := HCS.out; have h2 := HT.out.len; have h3 := HM.out; omega) (by omega) ?_
          intro v6 wa0bacd ho6 hg6
          have hT6 : Turn (fun b => w.heap.size + 3 ≤ b) wa0bac wa0bacd := hg6.turn (fun g e => HV3.out g e)
          have HV6 : Hid (∀ g, v6.ownBlock = some g → w.heap.size + 3 ≤ g) := Lib.hid (fun g e => by
            rcases hg6.2 g e with q | q
            · exact HV3.out g q
            · have := HRq.out.lt; omega)
          refine hK.out _ _ (Blk.keep hHeld hT6 (by omega)) (fun hHeld => ?_)
          clear hK K
          try simp only [List.setIfInBounds_toArray, List.set_cons_zero, List.set_cons_succ]
          have HBq := Lib.hid (HBq.out.keep hT6 (by omega))
          have HRq := Lib.hid (HRq.out.keep hT6 (by omega))
          have HBLq := Lib.hid (HBLq.out.trans (hT6.below HBLq.out.size (fun b e => by omega)))
          have HO6 := Lib.hid ho6
          obtain ⟨A6, q6, c6, rfl, -, hqc6, hcm6⟩ := ho6.form
          clear ho6 hg6 hT6
          refine wpAnyH_takeAt (i := 7) (d := 69) (v := ?vq27x) rfl rfl (by kernel_rfl) (by kernel_rfl) (by kernel_rfl) (fun _ _ _ h => h) (Or.inl ⟨by rfl, ?hyq27x⟩) hHeld ?_
          case hyq27x =>
            intro W hSw
            clear hSw
            (go_simp; try with_reducible rfl)
          simp only [List.setIfInBounds_toArray, List.set_cons_zero, List.set_cons_succ]
          refine wpAnyH_ready (rs := [8]) (by kernel_rfl) (by simp) (AllReadyH.cons rfl (fun K hK => ?_) AllReadyH.nil)
          have g2 : wa0bacd.cell? ⟨w.heap.size, 2, none⟩ = some (.slice B m k0) := HBq.out.cell 2
          have f2 := HBq.out.frozen 2
          go_simp
          refine hK.out _ _ (Blk.far hHeld (by simp) _) (fun hHeld => ?_)
          clear hK K g2 f2
          have hB8 : Blk (wa0bacd.setCell ⟨w.heap.size, 2, none⟩ (.slice A6 q6 c6)) w.heap.size 29 #[.int .i64 (d.room : Int), .slice A n c, .slice A6 q6 c6] := HBq.out.set_ 2 _
          have HR8 := Lib.hid (HRq.out.far (p := ⟨w.heap.size, 2, none⟩) (by simp) (.slice A6 q6 c6))
          have HBL8 := Lib.hid (HBLq.out.setCell (p := ⟨w.heap.size, 2, none⟩) (Nat.le_refl _) (.slice A6 q6 c6))
          have HO8 : Hid (OwnK (wa0bacd.setCell ⟨w.heap.size, 2, none⟩ (.slice A6 q6 c6)) 65 4 (.slice A6 q6 c6) (css ++ [#[.int .i64 t.what, .string (str t.name), .slice Ab qb cb, .int .i64 t.n]])) := Lib.hid (HO6.out.keepB (fun g e => Below.heap_setCell _ ⟨w.heap.size, 2, none⟩ _ g (by show g ≠ w.heap.size; have := HV6.out g e; omega)))
          generalize wa0bacd.setCell ⟨w.heap.size, 2, none⟩ (.slice A6 q6 c6) = w8 at *
          refine wpAnyH_done (by kernel_rfl) ?_ _
          obtain ⟨u0, u1, u2⟩ := hB8.three
          clear hHeld hB8
          go_wp2_with (with_reducible refine at_store 29 rfl ?_)
          refine Stop.go (wpList_store_blk (by rfl) (by rfl) 29 _ _ (by rfl) (w.heap.size + 2) _ #[.int .i64 (d.room : Int), .slice A n c, .slice A6 q6 c6] (by rfl) (by rfl) 29 HR8.out (by rfl) (info29 _ rfl) (by simp [Value.oneCell']) ?_)
          intro w9 f9 g9 s9
          go_wp2_with fail
          refine bodyPost_ret (v := .tuple #[.agg #[.int .i64 (d.room : Int), .slice A n c, .slice A6 q6 c6], .int .i64 0]) (results_ct (by rfl) _ _ (w.heap.size + 2) 29 _ (0, 0) _ (by rfl) f9 Try.underlying29 (by rfl) (info29 _ rfl) (by rfl)) rfl ?_
          have hb9 := below_grown HBL8.out g9 (Nat.le_refl _) (by omega)
          have ho9 := HO8.out.keep (Turn.of_grown (S := fun b => b = w.heap.size + 2) g9 (fun r e => by cases e; rfl)) (fun g e e' => by have := HV6.out g e; omega)
          exact did_done HL.out hnc hcm HTA.out HCS.out HCSR.out HK.out ho9 (fun g e hx => by have h1 := HV6.out g e; have h2 := HX.out g hx; omega) hqc6 hcm6 hb9
      · go_simp
        refine hK.out _ _ (hHeld.alloc _) (fun hHeld => ?_)
        clear hK K
        try simp only [List.setIfInBounds_toArray, List.set_cons_zero, List.set_cons_succ]
        have hal : Below wa0.heap.size wa0 (wa0.alloc (.cells #[.int .i64 t.what, .string (str t.name), .slice Ab qb cb, .int .i64 t.n] 65)) := (Below.refl _ _).alloc (Nat.le_refl _) _
        have HR5 := Lib.hid (rd_one (X := No) (k := 4) wa0 65 #[.int .i64 t.what, .string (str t.name), .slice Ab qb cb, .int .i64 t.n] rfl (fun u hu => by simp at hu; rcases hu with rfl | rfl | rfl | rfl <;> rfl) (fun h => h))
        have HL5 : Hid (wa0.heap.size < (wa0.alloc (.cells #[.int .i64 t.what, .string (str t.name), .slice Ab qb cb, .int .i64 t.n] 65)).heap.size) := Lib.hid (by simp)
        have HBq := Lib.hid (HBq.out.below hal HBq.out.lt)
        have HRq := Lib.hid (HRq.out.below hal HRq.out.lt)
        have HBLq := Lib.hid (HBLq.out.trans (hal.mono HBLq.out.size))
        clear hal
        generalize wa0.alloc (.cells #[.int .i64 t.what, .string (str t.name), .slice Ab qb cb, .int .i64 t.n] 65) = wa0b at *
        generalize wa0.heap.size = z5 at *
        refine wpAnyH_ready (rs := [0, 2]) (by kernel_rfl) (by simp) (AllReadyH.cons rfl (fun K hK => ?_) (AllReadyH.cons rfl (fun K hK => ?_) AllReadyH.nil))
        · go_simp
          refine hK.out _ _ (hHeld.alloc _) (fun hHeld => ?_)
          clear hK K
          try simp only [List.setIfInBounds_toArray, List.set_cons_zero, List.set_cons_succ]
          have hal : Below wa0b.heap.size wa0b (wa0b.alloc (.cells #[] 65)) := (Below.refl _ _).alloc (Nat.le_refl _) _
          have HO0 := Lib.hid (ownK_empty wa0b 65 4)
          have HZ0 : Hid (w.heap.size + 3 ≤ wa0b.heap.size) := Lib.hid (by have := HRq.out.lt; omega)
          have HBq := Lib.hid (HBq.out.below hal HBq.out.lt)
          have HRq := Lib.hid (HRq.out.below hal HRq.out.lt)
          have HBLq := Lib.hid (HBLq.out.trans (hal.mono HBLq.out.size))
          have HR5 := Lib.hid (HR5.out.below hal)
          have HNE : Hid (z5 ≠ wa0b.heap.size) := Lib.hid (by have := HL5.out; omega)
          clear hal
          generalize wa0b.alloc (.cells #[] 65) = wa0ba at *
          generalize wa0b.heap.size = z0 at *
          refine wpAnyH_ready (rs := [2]) (by kernel_rfl) (by simp) (AllReadyH.cons rfl (fun K hK => ?_) AllReadyH.nil)
          have f2 : wa0ba.cell? ⟨w.heap.size, 2, none⟩ = some (.slice B m k0) := HBq.out.cell 2
          go_simp
          refine hK.out _ _ hHeld (fun hHeld => ?_)
          clear hK K f2
          try simp only [List.setIfInBounds_toArray, List.set_cons_zero, List.set_cons_succ]
          refine wpAnyH_ready (rs := [3]) (by kernel_rfl) (by simp) (AllReadyH.cons rfl (fun K hK => ?_) AllReadyH.nil)
          refine step_append_k (d := 65) el27 (by rfl) rfl _ _ (by rfl) _ [] (by rfl) HO0.out X B m k0 css (by rfl) (HRD.out.below HBLq.out) (by simp) (by have := HM.out; omega) ?_
          intro v3 wa0bac ho3 hg3
          rw [List.nil_append] at ho3
          have hT3 : Turn (fun b => b = z0) wa0ba wa0bac := hg3.turn (fun g e => by cases e; rfl)
          have hz := HZ0.out
          refine hK.out _ _ (Blk.keep hHeld hT3 (by omega)) (fun hHeld => ?_)
          clear hK K
          try simp only [List.setIfInBounds_toArray, List.set_cons_zero, List.set_cons_succ]
          have HV3 : Hid (∀ g, v3.ownBlock = some g → w.heap.size + 3 ≤ g) := Lib.hid (fun g e => by
            rcases hg3.2 g e with q | q
            · cases q; exact hz
            · have := HRq.out.lt; omega)
          have HR5 := Lib.hid (rd_keep1 HR5.out hT3 (fun e => HNE.out e))
          have HBq := Lib.hid (HBq.out.keep hT3 (by omega))
          have HRq := Lib.hid (HRq.out.keep hT3 (by omega))
          have HBLq := Lib.hid (HBLq.out.trans (hT3.below HBLq.out.size (fun b e => by omega)))
          have HO3 := Lib.hid ho3
          clear ho3 hg3 hT3 hz
          refine wpAnyH_ready (rs := [6]) (by kernel_rfl) (by simp) (AllReadyH.cons rfl (fun K hK => ?_) AllReadyH.nil)
          refine step_append_k (d := 68) el27 (by rfl) rfl _ _ (by rfl) _ css (by rfl) HO3.out No _ 1 1 [#[.int .i64 t.what, .string (str t.name), .slice Ab qb cb, .int .i64 t.n]] (by rfl) HR5.out (by have h1 := HCS.out; have h2 := HT.out.len; have h3 := HM.out; omega) (by omega) ?_
          intro v6 wa0bacd ho6 hg6
          have hT6 : Turn (fun b => w.heap.size + 3 ≤ b) wa0bac wa0bacd := hg6.turn (fun g e => HV3.out g e)
          have HV6 : Hid (∀ g, v6.ownBlock = some g → w.heap.size + 3 ≤ g) := Lib.hid (fun g e => by
            rcases hg6.2 g e with q | q
            · exact HV3.out g q
            · have := HRq.out.lt; omega)
          refine hK.out _ _ (Blk.keep hHeld hT6 (by omega)) (fun hHeld => ?_)
          clear hK K
          try simp only [List.setIfInBounds_toArray, List.set_cons_zero, List.set_cons_succ]
          have HBq := Lib.hid (HBq.out.keep hT6 (by omega))
          have HRq := Lib.hid (HRq.out.keep hT6 (by omega))
          have HBLq := Lib.hid (HBLq.out.trans (hT6.below HBLq.out.size (fun b e => by omega)))
          have HO6 := Lib.hid ho6
          obtain ⟨A6, q6, c6, rfl, -, hqc6, hcm6⟩ := ho6.form
          clear ho6 hg6 hT6
          refine wpAnyH_takeAt (i := 7) (d := 69) (v := ?vq28x) rfl rfl (by kernel_rfl) (by kernel_rfl) (by kernel_rfl) (fun _ _ _ h => h) (Or.inl ⟨by rfl, ?hyq28x⟩) hHeld ?_
          case hyq28x =>
            intro W hSw
            clear hSw
            (go_simp; try with_reducible rfl)
          simp only [List.setIfInBounds_toArray, List.set_cons_zero, List.set_cons_succ]
          refine wpAnyH_ready (rs := [8]) (by kernel_rfl) (by simp) (AllReadyH.cons rfl (fun K hK => ?_) AllReadyH.nil)
          have g2 : wa0bacd.cell? ⟨w.heap.size, 2, none⟩ = some (.slice B m k0) := HBq.out.cell 2
          have f2 := HBq.out.frozen 2
          go_simp
          refine hK.out _ _ (Blk.far hHeld (by simp) _) (fun hHeld => ?_)
          clear hK K g2 f2
          have hB8 : Blk (wa0bacd.setCell ⟨w.heap.size, 2, none⟩ (.slice A6 q6 c6)) w.heap.size 29 #[.int .i64 (d.room : Int), .slice A n c, .slice A6 q6 c6] := HBq.out.set_ 2 _
          have HR8 := Lib.hid (HRq.out.far (p := ⟨w.heap.size, 2, none⟩) (by simp) (.slice A6 q6 c6))
          have HBL8 := Lib.hid (HBLq.out.setCell (p := ⟨w.heap.size, 2, none⟩) (Nat.le_refl _) (.slice A6 q6 c6))
          have HO8 : Hid (OwnK (wa0bacd.setCell ⟨w.heap.size, 2, none⟩ (.slice A6 q6 c6)) 65 4 (.slice A6 q6 c6) (css ++ [#[.int .i64 t.what, .string (str t.name), .slice Ab qb cb, .int .i64 t.n]])) := Lib.hid (HO6.out.keepB (fun g e => Below.heap_setCell _ ⟨w.heap.size, 2, none⟩ _ g (by show g ≠ w.heap.size; have := HV6.out g e; omega)))
          generalize wa0bacd.setCell ⟨w.heap.size, 2, none⟩ (.slice A6 q6 c6) = w8 at *
          refine wpAnyH_done (by kernel_rfl) ?_ _
          obtain ⟨u0, u1, u2⟩ := hB8.three
          clear hHeld hB8
          go_wp2_with (with_reducible refine at_store 29 rfl ?_)
          refine Stop.go (wpList_store_blk (by rfl) (by rfl) 29 _ _ (by rfl) (w.heap.size + 2) _ #[.int .i64 (d.room : Int), .slice A n c, .slice A6 q6 c6] (by rfl) (by rfl) 29 HR8.out (by rfl) (info29 _ rfl) (by simp [Value.oneCell']) ?_)
          intro w9 f9 g9 s9
          go_wp2_with fail
          refine bodyPost_ret (v := .tuple #[.agg #[.int .i64 (d.room : Int), .slice A n c, .slice A6 q6 c6], .int .i64 0]) (results_ct (by rfl) _ _ (w.heap.size + 2) 29 _ (0, 0) _ (by rfl) f9 Try.underlying29 (by rfl) (info29 _ rfl) (by rfl)) rfl ?_
          have hb9 := below_grown HBL8.out g9 (Nat.le_refl _) (by omega)
          have ho9 := HO8.out.keep (Turn.of_grown (S := fun b => b = w.heap.size + 2) g9 (fun r e => by cases e; rfl)) (fun g e e' => by have := HV6.out g e; omega)
          exact did_done HL.out hnc hcm HTA.out HCS.out HCSR.out HK.out ho9 (fun g e hx => by have h1 := HV6.out g e; have h2 := HX.out g hx; omega) hqc6 hcm6 hb9
        · have f2 : wa0b.cell? ⟨w.heap.size, 2, none⟩ = some (.slice B m k0) := HBq.out.cell 2
          go_simp
          refine hK.out _ _ hHeld (fun hHeld => ?_)
          clear hK K f2
          try simp only [List.setIfInBounds_toArray, List.set_cons_zero, List.set_cons_succ]
          refine wpAnyH_ready (rs := [0]) (by kernel_rfl) (by simp) (AllReadyH.cons rfl (fun K hK => ?_) AllReadyH.nil)
          go_simp
          refine hK.out _ _ (hHeld.alloc _) (fun hHeld => ?_)
          clear hK K
          try simp only [List.setIfInBounds_toArray, List.set_cons_zero, List.set_cons_succ]
          have hal : Below wa0b.heap.size wa0b (wa0b.alloc (.cells #[] 65)) := (Below.refl _ _).alloc (Nat.le_refl _) _
          have HO0 := Lib.hid (ownK_empty wa0b 65 4)
          have HZ0 : Hid (w.heap.size + 3 ≤ wa0b.heap.size) := Lib.hid (by have := HRq.out.lt; omega)
          have HBq := Lib.hid (HBq.out.below hal HBq.out.lt)
          have HRq := Lib.hid (HRq.out.below hal HRq.out.lt)
          have HBLq := Lib.hid (HBLq.out.trans (hal.mono HBLq.out.size))
          have HR5 := Lib.hid (HR5.out.below hal)
          have HNE : Hid (z5 ≠ wa0b.heap.size) := Lib.hid (by have := HL5.out; omega)
          clear hal
          generalize wa0b.alloc (.cells #[] 65) = wa0ba at *
          generalize wa0b.heap.size = z0 at *
          refine wpAnyH_ready (rs := [3]) (by kernel_rfl) (by simp) (AllReadyH.cons rfl (fun K hK => ?_) AllReadyH.nil)
          refine step_append_k (d := 65) el27 (by rfl) rfl _ _ (by rfl) _ [] (by rfl) HO0.out X B m k0 css (by rfl) (HRD.out.below HBLq.out) (by simp) (by have := HM.out; omega) ?_
          intro v3 wa0bac ho3 hg3
          rw [List.nil_append] at ho3
          have hT3 : Turn (fun b => b = z0) wa0ba wa0bac := hg3.turn (fun g e => by cases e; rfl)
          have hz := HZ0.out
          refine hK.out _ _ (Blk.keep hHeld hT3 (by omega)) (fun hHeld => ?_)
          clear hK K
          try simp only [List.setIfInBounds_toArray, List.set_cons_zero, List.set_cons_succ]
          have HV3 : Hid (∀ g, v3.ownBlock = some g → w.heap.size + 3 ≤ g) := Lib.hid (fun g e => by
            rcases hg3.2 g e with q | q
            · cases q; exact hz
            · have := HRq.out.lt; omega)
          have HR5 := Lib.hid (rd_keep1 HR5.out hT3 (fun e => HNE.out e))
          have HBq := Lib.hid (HBq.out.keep hT3 (by omega))
          have HRq := Lib.hid (HRq.out.keep hT3 (by omega))
          have HBLq := Lib.hid (HBLq.out.trans (hT3.below HBLq.out.size (fun b e => by omega)))
          have HO3 := Lib.hid ho3
          clear ho3 hg3 hT3 hz
          refine wpAnyH_ready (rs := [6]) (by kernel_rfl) (by simp) (AllReadyH.cons rfl (fun K hK => ?_) AllReadyH.nil)
          refine step_append_k (d := 68) el27 (by rfl) rfl _ _ (by rfl) _ css (by rfl) HO3.out No _ 1 1 [#[.int .i64 t.what, .string (str t.name), .slice Ab qb cb, .int .i64 t.n]] (by rfl) HR5.out (by have h1 := HCS.out; have h2 := HT.out.len; have h3 := HM.out; omega) (by omega) ?_
          intro v6 wa0bacd ho6 hg6
          have hT6 : Turn (fun b => w.heap.size + 3 ≤ b) wa0bac wa0bacd := hg6.turn (fun g e => HV3.out g e)
          have HV6 : Hid (∀ g, v6.ownBlock = some g → w.heap.size + 3 ≤ g) := Lib.hid (fun g e => by
            rcases hg6.2 g e with q | q
            · exact HV3.out g q
            · have := HRq.out.lt; omega)
          refine hK.out _ _ (Blk.keep hHeld hT6 (by omega)) (fun hHeld => ?_)
          clear hK K
          try simp only [List.setIfInBounds_toArray, List.set_cons_zero, List.set_cons_succ]
          have HBq := Lib.hid (HBq.out.keep hT6 (by omega))
          have HRq := Lib.hid (HRq.out.keep hT6 (by omega))
          have HBLq := Lib.hid (HBLq.out.trans (hT6.below HBLq.out.size (fun b e => by omega)))
          have HO6 := Lib.hid ho6
          obtain ⟨A6, q6, c6, rfl, -, hqc6, hcm6⟩ := ho6.form
          clear ho6 hg6 hT6
          refine wpAnyH_takeAt (i := 7) (d := 69) (v := ?vq29x) rfl rfl (by kernel_rfl) (by kernel_rfl) (by kernel_rfl) (fun _ _ _ h => h) (Or.inl ⟨by rfl, ?hyq29x⟩) hHeld ?_
          case hyq29x =>
            intro W hSw
            clear hSw
            (go_simp; try with_reducible rfl)
          simp only [List.setIfInBounds_toArray, List.set_cons_zero, List.set_cons_succ]
          refine wpAnyH_ready (rs := [8]) (by kernel_rfl) (by simp) (AllReadyH.cons rfl (fun K hK => ?_) AllReadyH.nil)
          have g2 : wa0bacd.cell? ⟨w.heap.size, 2, none⟩ = some (.slice B m k0) := HBq.out.cell 2
          have f2 := HBq.out.frozen 2
          go_simp
          refine hK.out _ _ (Blk.far hHeld (by simp) _) (fun hHeld => ?_)
          clear hK K g2 f2
          have hB8 : Blk (wa0bacd.setCell ⟨w.heap.size, 2, none⟩ (.slice A6 q6 c6)) w.heap.size 29 #[.int .i64 (d.room : Int), .slice A n c, .slice A6 q6 c6] := HBq.out.set_ 2 _
          have HR8 := Lib.hid (HRq.out.far (p := ⟨w.heap.size, 2, none⟩) (by simp) (.slice A6 q6 c6))
          have HBL8 := Lib.hid (HBLq.out.setCell (p := ⟨w.heap.size, 2, none⟩) (Nat.le_refl _) (.slice A6 q6 c6))
          have HO8 : Hid (OwnK (wa0bacd.setCell ⟨w.heap.size, 2, none⟩ (.slice A6 q6 c6)) 65 4 (.slice A6 q6 c6) (css ++ [#[.int .i64 t.what, .string (str t.name), .slice Ab qb cb, .int .i64 t.n]])) := Lib.hid (HO6.out.keepB (fun g e => Below.heap_setCell _ ⟨w.heap.size, 2, none⟩ _ g (by show g ≠ w.heap.size; have := HV6.out g e; omega)))
          generalize wa0bacd.setCell ⟨w.heap.size, 2, none⟩ (.slice A6 q6 c6) = w8 at *
          refine wpAnyH_done (by kernel_rfl) ?_ _
          obtain ⟨u0, u1, u2⟩ := hB8.three
          clear hHeld hB8
          go_wp2_with (with_reducible refine at_store 29 rfl ?_)
          refine Stop.go (wpList_store_blk (by rfl) (by rfl) 29 _ _ (by rfl) (w.heap.size + 2) _ #[.int .i64 (d.room : Int), .slice A n c, .slice A6 q6 c6] (by rfl) (by rfl) 29 HR8.out (by rfl) (info29 _ rfl) (by simp [Value.oneCell']) ?_)
          intro w9 f9 g9 s9
          go_wp2_with fail
          refine bodyPost_ret (v := .tuple #[.agg #[.int .i64 (d.room : Int), .slice A n c, .slice A6 q6 c6], .int .i64 0]) (results_ct (by rfl) _ _ (w.heap.size + 2) 29 _ (0, 0) _ (by rfl) f9 Try.underlying29 (by rfl) (info29 _ rfl) (by rfl)) rfl ?_
          have hb9 := below_grown HBL8.out g9 (Nat.le_refl _) (by omega)
          have ho9 := HO8.out.keep (Turn.of_grown (S := fun b => b = w.heap.size + 2) g9 (fun r e => by cases e; rfl)) (fun g e e' => by have := HV6.out g e; omega)
          exact did_done HL.out hnc hcm HTA.out HCS.out HCSR.out HK.out ho9 (fun g e hx => by have h1 := HV6.out g e; have h2 := HX.out g hx; omega) hqc6 hcm6 hb9
end Go.Proofs.Ythhiiimmgghhaaa
