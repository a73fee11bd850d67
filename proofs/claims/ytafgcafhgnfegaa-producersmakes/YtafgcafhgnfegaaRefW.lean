/-
  The document's answer: what a log has of an ID. Conditions: at most 5000 entries, all of which may be.
-/
import Derived.Test.YtafgcafhgnfegaaRefO
import Derived.Test.YtafgcafhgnfegaaWriter
namespace Go.Proofs.Ytafgcafhgnfegaa
open Go.RowKit Go.Maps
set_option linter.unusedVariables false
section
variable {w w' : World} {X : Nat → Prop} {A : Option Addr} {n c : Nat} {l : List Ent} {e : Ent}
/-- What is known behind the document's Writer. -/
def RWritP (w : World) (x : Wr) (r : Ending) (w' : World) : Prop :=
  ∃ A c, r = .returned (.agg #[.int .i64 x.high, .int .i64 x.next, .int .i64 x.marked, .slice A x.opens.length c]) ∧ OwnK w' 54 2 (.slice A x.opens.length c) (opsOf x.opens) ∧ (∀ b, Value.ownBlock (.slice A x.opens.length c) = some b → w.heap.size ≤ b) ∧ Below w.heap.size w w'
/-- Between two rounds: the numbers so far, in the block z. -/
def WrI (w : World) (z zr : Nat) (hi nx mk : Int) (o : List (Int × Nat)) (v : Value) (W : World) : Prop :=
  Blk W z 41 #[.int .i64 hi, .int .i64 nx, .int .i64 mk, v] ∧ Blk W zr 41 zero41 ∧ OwnK W 54 2 v (opsOf o) ∧ (∀ b, v.ownBlock = some b → w.heap.size ≤ b ∧ b ≠ z ∧ b ≠ zr) ∧ (w.heap.size ≤ zr ∧ zr < z) ∧ Below w.heap.size w W
section
variable {z zr : Nat} {hi nx mk : Int} {o : List (Int × Nat)} {v : Value} {W W' : World}
theorem WrI.drewN (h : WrI w z zr hi nx mk o v W) (q : Nat) : WrI w z zr hi nx mk o v (W.drewN q) := by
  obtain ⟨h1, h2, h3, h4, h5, h6⟩ := h
  exact ⟨h1.drewN q, h2.drewN q, h3.below (below_drewN (Below.refl _ _) q), h4, h5, below_drewN h6 q⟩
theorem WrI.set (h : WrI w z zr hi nx mk o v W) (j : Nat) (hj : j < 3) (u : Int) : WrI w z zr (if j = 0 then u else hi) (if j = 1 then u else nx) (if j = 2 then u else mk) o v (W.setCell ⟨z, j, none⟩ (.int .i64 u)) := by
  obtain ⟨h1, h2, h3, h4, h5, h6⟩ := h
  refine ⟨?_, h2.far (p := ⟨z, j, none⟩) (by show zr ≠ z; omega) _, h3.keepB fun b eb => Below.heap_setCell W _ _ b (h4 b eb).2.1, h4, h5, h6.setCell (p := ⟨z, j, none⟩) (by show w.heap.size ≤ z; omega) _⟩
  have := h1.set_ j (.int .i64 u)
  rcases j with _ | _ | _ | j
  · exact this
  · exact this
  · exact this
  · omega
end
theorem high_take {k : Nat} {id : Int} (h : l[k]? = some e) : high (l.take (k + 1)) id = if e.id = id then max (high (l.take k) id) e.num else high (l.take k) id := by
  rw [List.take_add_one, h]; exact high_snoc _ _ _
theorem marked_take {k : Nat} {id : Int} (h : l[k]? = some e) : markedTo (l.take (k + 1)) id = if e.id = id ∧ 1 < e.kind then max (markedTo (l.take k) id) e.num else markedTo (l.take k) id := by
  rw [List.take_add_one, h]; exact top_snoc _ _ _ _
theorem next_take {k : Nat} {id hh : Int} (h : l[k]? = some e) : nextTo (l.take (k + 1)) id hh = if e.id = id ∧ e.num = hh ∧ e.kind = 1 then max (nextTo (l.take k) id hh) (e.seq + 1) else nextTo (l.take k) id hh := by
  rw [List.take_add_one, h]; exact top_snoc _ _ _ _
set_option maxRecDepth 100000 in
set_option maxHeartbeats 4000000 in
theorem refWriter_any (h : Rd w X 6 A n (cellsOf l)) (hn : n ≤ 5000) (hr : AllR l) (id : Int) : Calls Try.prog 30 #[.slice A n c, .int .i64 id] w (RWritP w (wr id l)) := by
  have HLEN := Lib.hid h.lenE
  have HH := Lib.hid h
  have HR := Lib.hid hr
  have hb1 := (Below.refl w.heap.size w).alloc (Nat.le_refl _) (.cells zero41 41)
  have hcall := refOpens_any (c := c) (h.below hb1) hn id
  have HB1 := Lib.hid hb1
  have HZ : Hid (Blk (w.alloc (.cells zero41 41)) w.heap.size 41 zero41) := Lib.hid (Blk.new w 41 zero41)
  clear h hr hb1
  unfold zero41 at *
  go_enter Try.func30, Try.ntmps30
  go_wp2_with fail
  refine hcall.mono ?_
  rintro r w2 ⟨A2, c2, rfl, hO, hv, hb2⟩
  have hx := Blk.new w2 41 #[.int .i64 0, .int .i64 0, .int .i64 0, .slice A2 (opens l id).length c2]
  have hI : WrI w w2.heap.size w.heap.size 0 0 0 (opens l id) (.slice A2 (opens l id).length c2) (w2.alloc (.cells #[.int .i64 0, .int .i64 0, .int .i64 0, .slice A2 (opens l id).length c2] 41)) :=
    ⟨hx, (HZ.out.below hb2 HZ.out.lt).alloc _, hO.alloc _, fun b eb => by
      have h1 := hv b eb
      have h2 := hO.lt eb
      simp at h1
      exact ⟨by omega, by omega, by omega⟩, ⟨Nat.le_refl _, by have := hb2.size; simp at this; omega⟩, (HB1.out.trans (hb2.mono HB1.out.size)).alloc (Nat.le_trans HB1.out.size hb2.size) _⟩
  have HI := Lib.hid hI
  clear hO hv hb2 hx hI hcall
  go_wp2_with fail
  generalize w2.alloc (.cells #[.int .i64 0, .int .i64 0, .int .i64 0, .slice A2 (opens l id).length c2] 41) = w3 at *
  generalize w2.heap.size = z at *
  have HOP : Hid (opens l id = (Go.Proofs.Ytafgcafhgnfegaa.wr id l).opens) := Lib.hid (wr_opens HR.out id).symm
  generalize opens l id = o at *
  go_loopw [6] (fun i wv => ∃ k : Nat, k ≤ n ∧ i = .int .i64 k ∧ WrI w z w.heap.size (high (l.take k) id) 0 (markedTo (l.take k) id) o (.slice A2 o.length c2) wv) (fun i _ => n - (iOf i).toNat)
  case atStart => exact ⟨0, by omega, rfl, HI.out⟩
  case round =>
    obtain ⟨k, hk, rfl, hI⟩ := hrel
    have HI := Lib.hid hI
    by_cases hlt : k < n
    case neg =>
      have hd1 : decide (k < n) = false := by simpa using hlt
      have hfull : l.take k = l := List.take_of_length_le (by have := HLEN.out; omega)
      rw [hfull] at hI
      have HI2 := Lib.hid hI
      clear hI hfull
      go_wp2_with fail
      generalize wr = w3' at *
      go_loopw [7] (fun i wv => ∃ k : Nat, k ≤ n ∧ i = .int .i64 k ∧ WrI w z w.heap.size (high l id) (nextTo (l.take k) id (high l id)) (markedTo l id) o (.slice A2 o.length c2) wv) (fun i _ => n - (iOf i).toNat)
      case atStart => exact ⟨0, by omega, rfl, HI2.out⟩
      case round =>
        obtain ⟨j, hj, rfl, hI⟩ := hrel
        have HI := Lib.hid hI
        by_cases hlj : j < n
        case neg =>
          have hd2 : decide (j < n) = false := by simpa using hlj
          have hfull : l.take j = l := List.take_of_length_le (by have := HLEN.out; omega)
          rw [hfull] at hI
          have y0 : wr.cell? ⟨z, 0, none⟩ = some (.int .i64 (high l id)) := hI.1.cell 0
          have y1 : wr.cell? ⟨z, 1, none⟩ = some (.int .i64 (nextTo l id (high l id))) := hI.1.cell 1
          have y2 : wr.cell? ⟨z, 2, none⟩ = some (.int .i64 (markedTo l id)) := hI.1.cell 2
          have y3 : wr.cell? ⟨z, 3, none⟩ = some (.slice A2 o.length c2) := hI.1.cell 3
          have HI3 := Lib.hid hI
          have hbz := hI.2.1
          clear hI hfull
          go_wp2_with (with_reducible refine at_store 41 rfl ?_)
          refine Stop.go (wpList_store_blk (by rfl) (by rfl) 41 _ _ (by rfl) w.heap.size _ #[.int .i64 (high l id), .int .i64 (nextTo l id (high l id)), .int .i64 (markedTo l id), .slice A2 o.length c2] (by rfl) (by rfl) 41 hbz (by rfl) (by kernel_rfl) (by simp [Value.oneCell']) ?_)
          intro w8 f8 g8 s8
          have hx : Go.Proofs.Ytafgcafhgnfegaa.wr id l = ⟨high l id, nextTo l id (high l id), markedTo l id, o, (Go.Proofs.Ytafgcafhgnfegaa.wr id l).ended⟩ := by
            have h1 := wr_high l id
            have h2 := wr_next HR.out id
            have h3 := wr_marked HR.out id
            have h4 := HOP.out
            rw [← h1] at h2 ⊢
            rw [← h2, ← h3, h4]
          have HF : Hid (RWritP w (Go.Proofs.Ytafgcafhgnfegaa.wr id l) (.returned (.agg #[.int .i64 (high l id), .int .i64 (nextTo l id (high l id)), .int .i64 (markedTo l id), .slice A2 o.length c2])) w8) := Lib.hid (by
            obtain ⟨q1, q2, q3, q4, q5, q6⟩ := HI3.out
            rw [hx]
            exact ⟨A2, c2, rfl, q3.keepB fun b eb => g8.block b (q3.lt eb) (fun e => by injection e with e; exact (q4 b eb).2.2 e), fun b eb => (q4 b eb).1, below_grown q6 g8 (Nat.le_refl _) (Nat.le_refl _)⟩)
          have HF8 := Lib.hid f8
          clear f8 g8 s8 hx hbz y0 y1 y2 y3
          go_wp2_with fail
          exact bodyPost_ret (v := .agg #[.int .i64 (high l id), .int .i64 (nextTo l id (high l id)), .int .i64 (markedTo l id), .slice A2 o.length c2]) (results_cell_row (by rfl) _ _ w.heap.size 41 _ (0, 0) _ (by rfl) HF8.out Try.underlying41 (by rfl) (by kernel_rfl)) rfl HF.out
        case pos =>
        obtain ⟨e, he⟩ : ∃ e, l[j]? = some e := ⟨_, List.getElem?_eq_getElem (by rw [HLEN.out]; exact hlj)⟩
        obtain ⟨ad, e5, hadl, -, c0, c1, c2', c3, c4, c5⟩ := (HH.out.below HI.out.2.2.2.2.2).ent he
        subst e5
        have hd2 : decide (j < n) = true := by simpa using hlj
        have HNX := Lib.hid (next_take (id := id) (hh := high l id) he)
        have hre : 0 ≤ e.seq ∧ e.seq ≤ 2147483647 := by have := HR.out e (List.mem_of_getElem? he); unfold Right at this; omega
        have y0 : wr.cell? ⟨z, 0, none⟩ = some (.int .i64 (high l id)) := hI.1.cell 0
        have HEE := Lib.hid he
        clear he hI
        generalize hhi : high l id = hi at *
        have HHI := Lib.hid hhi
        clear hhi
        generalize nextTo (l.take j) id hi = nx at *
        have stay : ¬ (e.id = id ∧ e.num = hi ∧ e.kind = 1) → Hid (nextTo (l.take (j + 1)) id hi = nx) := fun q => Lib.hid (by rw [HNX.out, if_neg q])
        by_cases h1 : e.id = id
        case neg =>
          have b1 := neb h1
          have HS := stay (fun q => h1 q.1)
          clear stay h1
          go_wp2_with fail
          go_quiet (fail)
          go_wp2_with fail
          exact ⟨⟨j + 1, by omega, by go_num, by rw [HS.out]; exact HI.out.drewN _⟩, by simp [iOf]; omega⟩
        case pos =>
        have b1 := eqb h1
        by_cases h2 : e.num = hi
        case neg =>
          have b2 := neb h2
          have HS := stay (fun q => h2 q.2.1)
          clear stay h1 h2
          go_wp2_with fail
          go_quiet (fail)
          go_wp2_with fail
          exact ⟨⟨j + 1, by omega, by go_num, by rw [HS.out]; exact HI.out.drewN _⟩, by simp [iOf]; omega⟩
        case pos =>
        have b2 := eqb h2
        by_cases h3 : e.kind = 1
        case neg =>
          have b3 := neb h3
          have HS := stay (fun q => h3 q.2.2)
          clear stay h1 h2 h3
          go_wp2_with fail
          go_quiet (fail)
          go_wp2_with fail
          exact ⟨⟨j + 1, by omega, by go_num, by rw [HS.out]; exact HI.out.drewN _⟩, by simp [iOf]; omega⟩
        case pos =>
          have b3 := eqb h3
          obtain ⟨r, hr5⟩ : ∃ r, max nx (e.seq + 1) = r := ⟨_, rfl⟩
          have HS : Hid (nextTo (l.take (j + 1)) id hi = r) := Lib.hid (by rw [HNX.out, if_pos ⟨h1, h2, h3⟩, hr5])
          have HR5 := Lib.hid hr5
          clear stay h1 h2 h3 hr5
          go_wp2_with fail
          go_quiet (fail)
          have HI4 := Lib.hid (HI.out.drewN nq)
          go_wp2_with fail
          clear y0 c0 c1 c2' c3 c4 c5 hadl
          generalize wr.drewN nq = w4 at *
          obtain ⟨ad', e5, hadl, -, c0, c1, c2', c3, c4, c5⟩ := (HH.out.below HI4.out.2.2.2.2.2).ent HEE.out
          injection e5 with e5
          subst e5
          have y1 : w4.cell? ⟨z, 1, none⟩ = some (.int .i64 nx) := HI4.out.1.cell 1
          have f1 := HI4.out.1.frozen 1
          have hzl := HI4.out.1.lt
          have hI6 := (HI4.out.set 1 (by omega) r).drewN 1
          simp only [if_true, show ¬ (1 : Nat) = 0 by omega, show ¬ (1 : Nat) = 2 by omega, if_false] at hI6
          change WrI _ _ _ _ _ _ _ _ (World.drew _) at hI6
          have HI6 := Lib.hid hI6
          have hmx2 : max nx (e.seq + 1) = r := HR5.out
          have wrp : IntKind.i64.wrap (e.seq + 1) = e.seq + 1 := IntWalk.i64_in _ (by omega)
          clear hI6
          go_region
          go_wp2_with fail

          exact ⟨⟨j + 1, by omega, by go_num, by rw [HS.out]; exact HI6.out⟩, by simp [iOf]; omega⟩
    case pos =>
    obtain ⟨e, he⟩ : ∃ e, l[k]? = some e := ⟨_, List.getElem?_eq_getElem (by rw [HLEN.out]; exact hlt)⟩
    obtain ⟨ad, rfl, hadl, -, c0, c1, c2', c3, c4, c5⟩ := (HH.out.below HI.out.2.2.2.2.2).ent he
    have hd1 : decide (k < n) = true := by simpa using hlt
    have HH1 := Lib.hid (high_take (id := id) he)
    have HM1 := Lib.hid (marked_take (id := id) he)
    have y0 : wr.cell? ⟨z, 0, none⟩ = some (.int .i64 (high (l.take k) id)) := hI.1.cell 0
    have y2 : wr.cell? ⟨z, 2, none⟩ = some (.int .i64 (markedTo (l.take k) id)) := hI.1.cell 2
    have f0 := hI.1.frozen 0
    have f2 := hI.1.frozen 2
    have hzl := hI.1.lt
    have HEE := Lib.hid he
    clear he hI
    generalize high (l.take k) id = hi at *
    generalize markedTo (l.take k) id = mk at *
    by_cases h1 : e.id = id
    case neg =>
      have b1 := nen h1
      have HN : Hid (high (l.take (k + 1)) id = hi ∧ markedTo (l.take (k + 1)) id = mk) := Lib.hid ⟨by rw [HH1.out, if_neg h1], by rw [HM1.out, if_neg (fun q => h1 q.1)]⟩
      clear h1
      go_wp2_with fail
      go_roundw
      case rel => exact ⟨k + 1, by omega, by go_num, by rw [HN.out.1, HN.out.2]; exact HI.out⟩
      case measure => simp [iOf]; omega
    case pos =>
    have b1 := eqn h1
    have hmax : ∃ r, max hi e.num = r := ⟨_, rfl⟩
    obtain ⟨r, hr5⟩ := hmax
    have HN : Hid (high (l.take (k + 1)) id = r) := Lib.hid (by rw [HH1.out, if_pos h1, hr5])
    have HR5 := Lib.hid hr5
    clear hr5
    have hI4 := (HI.out.set 0 (by omega) r).drewN 1
    simp only [if_true, Nat.zero_ne_one, if_false, show ¬ (0 : Nat) = 2 by omega] at hI4
    change WrI _ _ _ _ _ _ _ _ (World.drew _) at hI4
    have HI4 := Lib.hid hI4
    have hmx : max hi e.num = r := HR5.out
    by_cases h2 : 1 < e.kind
    case neg =>
      have b2 : decide (1 < e.kind) = false := by simpa using h2
      have HN2 : Hid (markedTo (l.take (k + 1)) id = mk) := Lib.hid (by rw [HM1.out, if_neg (fun q => h2 q.2)])
      clear h1 h2 hI4
      go_wp2_with fail
      go_region
      go_wp2_with fail
      exact ⟨⟨k + 1, by omega, by go_num, by rw [HN.out, HN2.out]; exact HI4.out⟩, by simp [iOf]; omega⟩
    case pos =>
      have b2 : decide (1 < e.kind) = true := by simpa using h2
      obtain ⟨r2, hr2⟩ : ∃ r, max mk e.num = r := ⟨_, rfl⟩
      have HN2 : Hid (markedTo (l.take (k + 1)) id = r2) := Lib.hid (by rw [HM1.out, if_pos ⟨h1, h2⟩, hr2])
      have HR2 := Lib.hid hr2
      clear h1 h2 hr2 hI4
      go_wp2_with fail
      go_region
      clear y0 y2 f0 f2 hzl c0 c1 c2' c3 c4 c5 hadl
      generalize (wr.setCell ⟨z, 0, none⟩ (.int .i64 r)).drew = w4 at *
      obtain ⟨ad', e5, hadl, -, c0, c1, c2', c3, c4, c5⟩ := (HH.out.below HI4.out.2.2.2.2.2).ent HEE.out
      injection e5 with e5
      subst e5
      have y0 : w4.cell? ⟨z, 0, none⟩ = some (.int .i64 r) := HI4.out.1.cell 0
      have y2 : w4.cell? ⟨z, 2, none⟩ = some (.int .i64 mk) := HI4.out.1.cell 2
      have f2 := HI4.out.1.frozen 2
      have hzl := HI4.out.1.lt
      have hI6 := (HI4.out.set 2 (by omega) r2).drewN 1
      simp only [if_true, show ¬ (2 : Nat) = 0 by omega, show ¬ (2 : Nat) = 1 by omega, if_false] at hI6
      change WrI _ _ _ _ _ _ _ _ (World.drew _) at hI6
      have HI6 := Lib.hid hI6
      have hmx2 : max mk e.num = r2 := HR2.out
      clear hI6 hmx
      go_wp2_with fail
      go_region
      go_wp2_with fail
      exact ⟨⟨k + 1, by omega, by go_num, by rw [HN.out, HN2.out]; exact HI6.out⟩, by simp [iOf]; omega⟩
end
end Go.Proofs.Ytafgcafhgnfegaa
