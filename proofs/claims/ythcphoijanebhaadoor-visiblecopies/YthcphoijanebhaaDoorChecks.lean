/-
  It is told whether a table refuses an entry. Nothing is assumed.
-/
import Derived.Test.YthcphoijanebhaaDoorAppend
namespace Go.Proofs.YthcphoijanebhaaDoor
open Go.RowKit Go.Maps
set_option linter.unusedVariables false
/-- What Check answers. -/
def checkE (l : List Ent) (e : Ent) : Int := first (why l e) ([79, 80, 81, 82] ++ byW e)
theorem checkE_eq (l : List Ent) (e : Ent) : checkE l e = if appendE l e = 0 then first (why l e) (byW e) else appendE l e := by
  unfold checkE
  rw [first_app, why_log]
section
variable {w w' : World} {g : Nat} {l : List Ent} {S : Nat → Prop} {e : Ent}
theorem refuser_writer (h : Tb w S g l) (hr : Right e) {f : Nat} (hf : f ∈ byW e) : Refuser w (.pointer (some ⟨g, 0, none⟩)) e (why l e) f := by
  obtain ⟨⟨v, mp, h1, h2, h4, h3⟩, hr0, hl⟩ := h
  have hlow : ∀ W, Below w.heap.size w W → TX W g v (fun i => wr (i : Int) l) mp := fun W hb => h1.keepB fun b hb' => hb.block b (h1.lt hb')
  have hid : e.id ≠ -1 := fun q => by unfold byW at hf; rw [if_pos q] at hf; cases hf
  obtain ⟨hn, -⟩ := right_in64 hr
  obtain ⟨i, hi, hie⟩ : ∃ i : Nat, i < 4 ∧ e.id = (i : Int) := ⟨e.id.toNat, by unfold Right at hr; omega, by unfold Right at hr; omega⟩
  have hf' : f ∈ [83, 84, 85, 86, 87, 88] := by
    unfold byW at hf
    rw [if_neg hid] at hf
    split at hf
    · simp at hf ⊢; omega
    · simp at hf ⊢; omega
  clear hf hr hid
  obtain ⟨ep, id, n, s, k, va⟩ := e
  dsimp only at hie hn
  subst hie
  simp only [List.mem_cons, List.not_mem_nil, or_false] at hf'
  rcases hf' with rfl | rfl | rfl | rfl | rfl | rfl
  · exact ⟨enters_of Tryd.func83 (by kernel_rfl) rfl, fun W hb => elderData_any (hlow W hb) hi ep n s k va hn⟩
  · exact ⟨enters_of Tryd.func84 (by kernel_rfl) rfl, fun W hb => besideOpen_any (hlow W hb) hi ep n s k va hn⟩
  · exact ⟨enters_of Tryd.func85 (by kernel_rfl) rfl, fun W hb => doubleData_any (hlow W hb) hi ep n s k va hn⟩
  · exact ⟨enters_of Tryd.func86 (by kernel_rfl) rfl, fun W hb => notNext_any (hlow W hb) hi ep n s k va hn⟩
  · exact ⟨enters_of Tryd.func87 (by kernel_rfl) rfl, fun W hb => doubleMarker_any (hlow W hb) hi ep n s k va hn⟩
  · exact ⟨enters_of Tryd.func88 (by kernel_rfl) rfl, fun W hb => elderMarker_any (hlow W hb) hi ep n s k va hn⟩
theorem refuser_all (h : Tb w S g l) {pre : List Nat} {f : Nat} (hp : (pre ++ [f]) <+: [[79, 80, 81, 82], byW e].flatten) (hz : first (why l e) pre = 0) : Refuser w (.pointer (some ⟨g, 0, none⟩)) e (why l e) f := by
  have hfl : [[79, 80, 81, 82], byW e].flatten = [79, 80, 81, 82] ++ byW e := by simp
  rw [hfl] at hp
  obtain ⟨q, hq⟩ := hp
  rcases Nat.lt_or_ge pre.length 4 with hlen | hlen
  · refine refuser_log h ?_
    have e1 : (pre ++ [f] ++ q)[pre.length]? = some f := by simp
    have e2 : ([79, 80, 81, 82] ++ byW e)[pre.length]? = [79, 80, 81, 82][pre.length]? := List.getElem?_append_left (by simpa using hlen)
    rw [hq, e2] at e1
    exact List.mem_of_getElem? e1
  · have hpre : pre = [79, 80, 81, 82] ++ pre.drop 4 := by
      have h1 : pre.take 4 = [79, 80, 81, 82] := by
        have := congrArg (fun z => z.take 4) hq
        simp only [List.append_assoc] at this
        rw [List.take_append_of_le_length (by omega)] at this
        simpa using this
      conv => lhs; rw [← List.take_append_drop 4 pre, h1]
    rw [hpre, first_app, why_log] at hz
    have hz0 : appendE l e = 0 := by
      by_cases q : appendE l e = 0
      · exact q
      · rw [if_neg q] at hz; exact hz
    refine refuser_writer h (append_zero hz0).1 ?_
    rw [hpre, List.append_assoc, List.append_assoc] at hq
    have := List.append_cancel_left hq
    rw [← this]
    simp
set_option maxRecDepth 100000 in
set_option maxHeartbeats 4000000 in
theorem checks_any (h : Tb w S g l) (e : Ent) : Calls Tryd.prog 62 #[.pointer (some ⟨g, 0, none⟩), e.val] w fun r w' => r = .returned (.int .i64 (checkE l e)) ∧ Below w.heap.size w w' := by
  have HTB := Lib.hid h
  have HB := Lib.hid ((Below.refl w.heap.size w).alloc (Nat.le_refl _) (.cells e.cells 45))
  have HBX : Hid (Blk (w.alloc (.cells e.cells 45)) w.heap.size 45 e.cells) := Lib.hid (Blk.new w 45 _)
  clear h
  have hbw : ∀ W : World, Calls Tryd.prog 74 #[.agg #[.int .i64 e.epoch, .int .i64 e.id, .int .i64 e.num, .int .i64 e.seq, .int .i64 e.kind, .int .i64 e.value]] W (NewF W (byW e)) := fun W => byWriter_any e
  unfold Ent.val
  unfold Ent.cells at HB HBX ⊢
  go_enter Tryd.func62, Tryd.ntmps62
  go_wp2_with fail
  generalize hw1 : w.alloc (.cells #[.int .i64 e.epoch, .int .i64 e.id, .int .i64 e.num, .int .i64 e.seq, .int .i64 e.kind, .int .i64 e.value] 45) = W1 at *
  generalize hbx : w.heap.size = bx at *
  have HBW : Hid (bx = w.heap.size) := Lib.hid hbx.symm
  clear hw1 hbx
  refine wp_region_np ?_
  refine wp_region_held_drew (S := fun W => Blk W bx 45 #[.int .i64 e.epoch, .int .i64 e.id, .int .i64 e.num, .int .i64 e.seq, .int .i64 e.kind, .int .i64 e.value]) (by kernel_rfl) HBX.out.drew (fun hHeld => ?_)
  refine wpAnyH_takeAt (i := 0) (d := 5) (v := ?vq0x) rfl rfl (by kernel_rfl) (by kernel_rfl) (by kernel_rfl) (fun _ _ _ h => h) (Or.inl ⟨by rfl, ?hyq0x⟩) hHeld ?_
  case hyq0x =>
    intro W hSw
    clear hSw
    (go_simp; try with_reducible rfl)
  simp only [List.setIfInBounds_toArray, List.set_cons_zero, List.set_cons_succ]
  refine wpAnyH_takeAt (i := 1) (d := 6) (v := ?vq1x) rfl rfl (by kernel_rfl) (by kernel_rfl) (by kernel_rfl) (fun _ _ _ h => h) (Or.inl ⟨by rfl, ?hyq1x⟩) hHeld ?_
  case hyq1x =>
    intro W hSw
    obtain ⟨b0, b1, b2, b3, b4, b5⟩ := Blk.six' (show Blk W bx 45 #[.int .i64 e.epoch, .int .i64 e.id, .int .i64 e.num, .int .i64 e.seq, .int .i64 e.kind, .int .i64 e.value] from hSw); clear hSw
    (go_simp; try with_reducible rfl)
  simp only [List.setIfInBounds_toArray, List.set_cons_zero, List.set_cons_succ]
  refine wpAnyH_takeAt (i := 3) (d := 8) (v := ?vq2x) rfl rfl (by kernel_rfl) (by kernel_rfl) (by kernel_rfl) (fun _ _ _ h => h) (Or.inl ⟨by rfl, ?hyq2x⟩) hHeld ?_
  case hyq2x =>
    intro W hSw
    obtain ⟨b0, b1, b2, b3, b4, b5⟩ := Blk.six' (show Blk W bx 45 #[.int .i64 e.epoch, .int .i64 e.id, .int .i64 e.num, .int .i64 e.seq, .int .i64 e.kind, .int .i64 e.value] from hSw); clear hSw
    (go_simp; try with_reducible rfl)
  simp only [List.setIfInBounds_toArray, List.set_cons_zero, List.set_cons_succ]
  refine wpAnyH_ready (rs := [2]) (by kernel_rfl) (by simp) (AllReadyH.cons rfl (fun K hK => ?_) AllReadyH.nil)
  go_simp
  refine byLog_any.mono ?_
  rintro r w5 ⟨A5, c5, rfl, hR5, hbw5⟩
  dsimp only
  have hcw5 : Below W1.heap.size W1 w5 := ((Below.refl _ _).drew).trans hbw5
  have hdw5 : Below W1.heap.size W1 w5 := hcw5
  refine hK.out _ _ (show Blk w5 bx 45 #[.int .i64 e.epoch, .int .i64 e.id, .int .i64 e.num, .int .i64 e.seq, .int .i64 e.kind, .int .i64 e.value] from HBX.out.below hdw5 HBX.out.lt) (fun hHeld => ?_)
  clear hK K
  try simp only [List.setIfInBounds_toArray, List.set_cons_zero, List.set_cons_succ]
  refine wpAnyH_ready (rs := [4]) (by kernel_rfl) (by simp) (AllReadyH.cons rfl (fun K hK => ?_) AllReadyH.nil)
  go_simp
  refine (hbw _).mono ?_
  rintro r w6 ⟨A6, c6, rfl, hR6, hbw6⟩
  dsimp only
  have hcw6 : Below w5.heap.size w5 w6 := hbw6
  have hdw6 : Below W1.heap.size W1 w6 := hdw5.trans (hcw6.mono hdw5.size)
  refine hK.out _ _ (show Blk w6 bx 45 #[.int .i64 e.epoch, .int .i64 e.id, .int .i64 e.num, .int .i64 e.seq, .int .i64 e.kind, .int .i64 e.value] from HBX.out.below hdw6 HBX.out.lt) (fun hHeld => ?_)
  clear hK K
  try simp only [List.setIfInBounds_toArray, List.set_cons_zero, List.set_cons_succ]
  refine wpAnyH_ready (rs := [5]) (by kernel_rfl) (by simp) (AllReadyH.cons rfl (fun K hK => ?_) AllReadyH.nil)
  go_simp
  have hL7 : Lists (w6.alloc (.cells #[.slice A5 4 c5, .slice A6 (byW e).length c6] 112)) (some ⟨w6.heap.size, 0, none⟩) [[79, 80, 81, 82], byW e] := lists_two (fs := [79, 80, 81, 82]) (Blk.new w6 112 _) ((hR5.below hcw6).alloc _) (hR6.alloc _)
  have hdw7 : Below W1.heap.size W1 (w6.alloc (.cells #[.slice A5 4 c5, .slice A6 (byW e).length c6] 112)) := hdw6.alloc hdw6.size _
  refine hK.out _ _ (show Blk _ bx 45 #[.int .i64 e.epoch, .int .i64 e.id, .int .i64 e.num, .int .i64 e.seq, .int .i64 e.kind, .int .i64 e.value] from HBX.out.below hdw7 HBX.out.lt) (fun hHeld => ?_)
  clear hK K
  generalize w6.alloc (.cells #[.slice A5 4 c5, .slice A6 (byW e).length c6] 112) = w7 at *
  refine wpAnyH_ready (rs := [6]) (by kernel_rfl) (by simp) (AllReadyH.cons rfl (fun K hK => ?_) AllReadyH.nil)
  have hc07 : Below w.heap.size w w7 := HBW.out ▸ (HB.out.trans (hdw7.mono (by have := HB.out.size; have := HBW.out; omega)))
  have hcall := refusal_any (c := 2) (p := .pointer (some ⟨g, 0, none⟩)) (e := e) hL7 (why l e) (fun pre f hpf hz => refuser_all (HTB.out.below hc07) hpf hz) (by simp) (by intro fs hfs; simp at hfs; rcases hfs with rfl | rfl; simp; unfold byW; split <;> (try split) <;> simp)
  rw [show [[79, 80, 81, 82], byW e].flatten = [79, 80, 81, 82] ++ byW e by simp] at hcall
  change Calls _ _ _ _ (fun x w' => x = .returned (.int .i64 (checkE l e)) ∧ _) at hcall
  unfold Ent.val Ent.cells at hcall
  generalize hz : checkE l e = z at hcall
  have HZC := Lib.hid hz
  clear hz
  go_simp
  refine hcall.mono ?_
  rintro r w8 ⟨rfl, hb8⟩
  dsimp only
  have hd8 : Below W1.heap.size W1 w8 := hdw7.trans (hb8.mono hdw7.size)
  refine hK.out _ _ (show Blk w8 bx 45 #[.int .i64 e.epoch, .int .i64 e.id, .int .i64 e.num, .int .i64 e.seq, .int .i64 e.kind, .int .i64 e.value] from HBX.out.below hd8 HBX.out.lt) (fun hHeld => ?_)
  clear hK K
  try simp only [List.setIfInBounds_toArray, List.set_cons_zero, List.set_cons_succ]
  refine wpAnyH_takeAt (i := 7) (d := 4) (v := ?vq3x) rfl rfl (by kernel_rfl) (by kernel_rfl) (by kernel_rfl) (fun _ _ _ h => h) (Or.inl ⟨by rfl, ?hyq3x⟩) hHeld ?_
  case hyq3x =>
    intro W hSw
    clear hSw
    (go_simp; try with_reducible rfl)
  simp only [List.setIfInBounds_toArray, List.set_cons_zero, List.set_cons_succ]
  refine wpAnyH_done (by kernel_rfl) ?_ _
  have HF : Hid (Below w.heap.size w w8) := Lib.hid (HBW.out ▸ (HB.out.trans (hd8.mono (by have := HB.out.size; have := HBW.out; omega))))
  clear hHeld hcall hL7 hR5 hR6
  go_wp2_with fail
  go_ret
  exact ⟨ret_i64 HZC.out.symm, HF.out⟩
end
end Go.Proofs.YthcphoijanebhaaDoor
