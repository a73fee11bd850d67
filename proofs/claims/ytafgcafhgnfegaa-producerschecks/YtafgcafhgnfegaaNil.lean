/-
  Check and Append of no table. Nothing is assumed.
-/
import Derived.Test.YtafgcafhgnfegaaChecks
namespace Go.Proofs.Ytafgcafhgnfegaa
open Go.RowKit Go.Maps
set_option linter.unusedVariables false
section
variable {w w' : World} {e : Ent}
theorem refuser_none {q pre : List Nat} {f : Nat} (hp : (pre ++ [f]) <+: [52, 53, 54, 55] ++ q) (hz : first (fun _ => (1 : Int)) pre = 0) : Refuser w (.pointer none) e (fun _ => 1) f := by
  cases pre with
  | cons a r =>
    unfold first at hz
    simp at hz
  | nil =>
    obtain ⟨z, hz⟩ := hp
    simp only [List.nil_append, List.cons_append, List.cons.injEq] at hz
    rw [hz.1]
    exact ⟨enters_of Try.func52 (by kernel_rfl) rfl, fun W _ => noTable_no e⟩
set_option maxRecDepth 100000 in
set_option maxHeartbeats 4000000 in
theorem checks_none (e : Ent) : Calls Try.prog 21 #[.pointer none, e.val] w fun r w' => r = .returned (.int .i64 1) ∧ Below w.heap.size w w' := by
  have HB := Lib.hid ((Below.refl w.heap.size w).alloc (Nat.le_refl _) (.cells e.cells 26))
  have HBX : Hid (Blk (w.alloc (.cells e.cells 26)) w.heap.size 26 e.cells) := Lib.hid (Blk.new w 26 _)
  have hbw : ∀ W : World, Calls Try.prog 42 #[.agg #[.int .i64 e.epoch, .int .i64 e.id, .int .i64 e.num, .int .i64 e.seq, .int .i64 e.kind, .int .i64 e.value]] W (NewF W (byW e)) := fun W => byWriter_any e
  unfold Ent.val
  unfold Ent.cells at HB HBX ⊢
  go_enter Try.func21, Try.ntmps21
  go_wp2_with fail
  generalize hw1 : w.alloc (.cells #[.int .i64 e.epoch, .int .i64 e.id, .int .i64 e.num, .int .i64 e.seq, .int .i64 e.kind, .int .i64 e.value] 26) = W1 at *
  generalize hbx : w.heap.size = bx at *
  have HBW : Hid (bx = w.heap.size) := Lib.hid hbx.symm
  clear hw1 hbx
  refine wp_region_np ?_
  refine wp_region_held_drew (S := fun W => Blk W bx 26 #[.int .i64 e.epoch, .int .i64 e.id, .int .i64 e.num, .int .i64 e.seq, .int .i64 e.kind, .int .i64 e.value]) (by kernel_rfl) HBX.out.drew (fun hHeld => ?_)
  refine wpAnyH_takeAt (i := 0) (d := 5) (v := ?vq0x) rfl rfl (by kernel_rfl) (by kernel_rfl) (by kernel_rfl) (fun _ _ _ h => h) (Or.inl ⟨by rfl, ?hyq0x⟩) hHeld ?_
  case hyq0x =>
    intro W hSw
    clear hSw
    (go_simp; try with_reducible rfl)
  simp only [List.setIfInBounds_toArray, List.set_cons_zero, List.set_cons_succ]
  refine wpAnyH_takeAt (i := 1) (d := 6) (v := ?vq1x) rfl rfl (by kernel_rfl) (by kernel_rfl) (by kernel_rfl) (fun _ _ _ h => h) (Or.inl ⟨by rfl, ?hyq1x⟩) hHeld ?_
  case hyq1x =>
    intro W hSw
    obtain ⟨b0, b1, b2, b3, b4, b5⟩ := Blk.six' (show Blk W bx 26 #[.int .i64 e.epoch, .int .i64 e.id, .int .i64 e.num, .int .i64 e.seq, .int .i64 e.kind, .int .i64 e.value] from hSw); clear hSw
    (go_simp; try with_reducible rfl)
  simp only [List.setIfInBounds_toArray, List.set_cons_zero, List.set_cons_succ]
  refine wpAnyH_takeAt (i := 3) (d := 8) (v := ?vq2x) rfl rfl (by kernel_rfl) (by kernel_rfl) (by kernel_rfl) (fun _ _ _ h => h) (Or.inl ⟨by rfl, ?hyq2x⟩) hHeld ?_
  case hyq2x =>
    intro W hSw
    obtain ⟨b0, b1, b2, b3, b4, b5⟩ := Blk.six' (show Blk W bx 26 #[.int .i64 e.epoch, .int .i64 e.id, .int .i64 e.num, .int .i64 e.seq, .int .i64 e.kind, .int .i64 e.value] from hSw); clear hSw
    (go_simp; try with_reducible rfl)
  simp only [List.setIfInBounds_toArray, List.set_cons_zero, List.set_cons_succ]
  refine wpAnyH_ready (rs := [2]) (by kernel_rfl) (by simp) (AllReadyH.cons rfl (fun K hK => ?_) AllReadyH.nil)
  go_simp
  refine byLog_any.mono ?_
  rintro r w5 ⟨A5, c5, rfl, hR5, hbw5⟩
  dsimp only
  have hcw5 : Below W1.heap.size W1 w5 := ((Below.refl _ _).drew).trans hbw5
  have hdw5 : Below W1.heap.size W1 w5 := hcw5
  refine hK.out _ _ (show Blk w5 bx 26 #[.int .i64 e.epoch, .int .i64 e.id, .int .i64 e.num, .int .i64 e.seq, .int .i64 e.kind, .int .i64 e.value] from HBX.out.below hdw5 HBX.out.lt) (fun hHeld => ?_)
  clear hK K
  try simp only [List.setIfInBounds_toArray, List.set_cons_zero, List.set_cons_succ]
  refine wpAnyH_ready (rs := [4]) (by kernel_rfl) (by simp) (AllReadyH.cons rfl (fun K hK => ?_) AllReadyH.nil)
  go_simp
  refine (hbw _).mono ?_
  rintro r w6 ⟨A6, c6, rfl, hR6, hbw6⟩
  dsimp only
  have hcw6 : Below w5.heap.size w5 w6 := hbw6
  have hdw6 : Below W1.heap.size W1 w6 := hdw5.trans (hcw6.mono hdw5.size)
  refine hK.out _ _ (show Blk w6 bx 26 #[.int .i64 e.epoch, .int .i64 e.id, .int .i64 e.num, .int .i64 e.seq, .int .i64 e.kind, .int .i64 e.value] from HBX.out.below hdw6 HBX.out.lt) (fun hHeld => ?_)
  clear hK K
  try simp only [List.setIfInBounds_toArray, List.set_cons_zero, List.set_cons_succ]
  refine wpAnyH_ready (rs := [5]) (by kernel_rfl) (by simp) (AllReadyH.cons rfl (fun K hK => ?_) AllReadyH.nil)
  go_simp
  have hL7 : Lists (w6.alloc (.cells #[.slice A5 4 c5, .slice A6 (byW e).length c6] 80)) (some ⟨w6.heap.size, 0, none⟩) [[52, 53, 54, 55], byW e] := lists_two (fs := [52, 53, 54, 55]) (Blk.new w6 80 _) ((hR5.below hcw6).alloc _) (hR6.alloc _)
  have hdw7 : Below W1.heap.size W1 (w6.alloc (.cells #[.slice A5 4 c5, .slice A6 (byW e).length c6] 80)) := hdw6.alloc hdw6.size _
  refine hK.out _ _ (show Blk _ bx 26 #[.int .i64 e.epoch, .int .i64 e.id, .int .i64 e.num, .int .i64 e.seq, .int .i64 e.kind, .int .i64 e.value] from HBX.out.below hdw7 HBX.out.lt) (fun hHeld => ?_)
  clear hK K
  generalize w6.alloc (.cells #[.slice A5 4 c5, .slice A6 (byW e).length c6] 80) = w7 at *
  refine wpAnyH_ready (rs := [6]) (by kernel_rfl) (by simp) (AllReadyH.cons rfl (fun K hK => ?_) AllReadyH.nil)
  have hc07 : Below w.heap.size w w7 := HBW.out ▸ (HB.out.trans (hdw7.mono (by have := HB.out.size; have := HBW.out; omega)))
  have hcall := refusal_any (c := 2) (p := .pointer none) (e := e) hL7 (fun _ => 1) (fun pre f hpf hz => refuser_none (q := byW e) (by simpa using hpf) hz) (by simp) (by intro fs hfs; simp at hfs; rcases hfs with rfl | rfl; simp; unfold byW; split <;> (try split) <;> simp)
  rw [show [[52, 53, 54, 55], byW e].flatten = [52, 53, 54, 55] ++ byW e by simp] at hcall
  rw [show first (fun _ => (1 : Int)) ([52, 53, 54, 55] ++ byW e) = 1 from rfl] at hcall
  unfold Ent.val Ent.cells at hcall
  go_simp
  refine hcall.mono ?_
  rintro r w8 ⟨rfl, hb8⟩
  dsimp only
  have hd8 : Below W1.heap.size W1 w8 := hdw7.trans (hb8.mono hdw7.size)
  refine hK.out _ _ (show Blk w8 bx 26 #[.int .i64 e.epoch, .int .i64 e.id, .int .i64 e.num, .int .i64 e.seq, .int .i64 e.kind, .int .i64 e.value] from HBX.out.below hd8 HBX.out.lt) (fun hHeld => ?_)
  clear hK K
  try simp only [List.setIfInBounds_toArray, List.set_cons_zero, List.set_cons_succ]
  refine wpAnyH_takeAt (i := 7) (d := 4) (v := ?vq3x) rfl rfl (by kernel_rfl) (by kernel_rfl) (by kernel_rfl) (fun _ _ _ h => h) (Or.inl ⟨by rfl, ?hyq3x⟩) hHeld ?_
  case hyq3x =>
    intro W hSw
    clear hSw
    (go_simp; try with_reducible rfl)
  simp only [List.setIfInBounds_toArray, List.set_cons_zero, List.set_cons_succ]
  refine wpAnyH_done (by kernel_rfl) ?_ _
  have HF : Hid (Below w.heap.size w w8) := Lib.hid (HBW.out ▸ (HB.out.trans (hd8.mono (by have := HB.out.size; have := HBW.out; omega))))
  clear hHeld hcall hL7 hR5 hR6
  go_wp2_with fail
  go_ret
  exact ⟨rfl, HF.out⟩
set_option maxRecDepth 100000 in
set_option maxHeartbeats 4000000 in
theorem append_none (e : Ent) : Calls Try.prog 22 #[.pointer none, e.val] w fun r w' => r = .returned (.int .i64 1) ∧ Below w.heap.size w w' := by
  have HB := Lib.hid ((Below.refl w.heap.size w).alloc (Nat.le_refl _) (.cells e.cells 26))
  have HBX : Hid (Blk (w.alloc (.cells e.cells 26)) w.heap.size 26 e.cells) := Lib.hid (Blk.new w 26 _)
  unfold Ent.val
  unfold Ent.cells at HB HBX ⊢
  go_enter Try.func22, Try.ntmps22
  go_wp2_with fail
  generalize hw1 : w.alloc (.cells #[.int .i64 e.epoch, .int .i64 e.id, .int .i64 e.num, .int .i64 e.seq, .int .i64 e.kind, .int .i64 e.value] 26) = W1 at *
  generalize hbx : w.heap.size = bx at *
  have HBW : Hid (bx = w.heap.size) := Lib.hid hbx.symm
  clear hw1 hbx
  refine wp_region_np ?_
  refine wp_region_held_drew (S := fun W => Blk W bx 26 #[.int .i64 e.epoch, .int .i64 e.id, .int .i64 e.num, .int .i64 e.seq, .int .i64 e.kind, .int .i64 e.value]) (by kernel_rfl) HBX.out.drew (fun hHeld => ?_)
  refine wpAnyH_takeAt (i := 0) (d := 6) (v := ?vq0x) rfl rfl (by kernel_rfl) (by kernel_rfl) (by kernel_rfl) (fun _ _ _ h => h) (Or.inl ⟨by rfl, ?hyq0x⟩) hHeld ?_
  case hyq0x =>
    intro W hSw
    clear hSw
    (go_simp; try with_reducible rfl)
  simp only [List.setIfInBounds_toArray, List.set_cons_zero, List.set_cons_succ]
  refine wpAnyH_takeAt (i := 1) (d := 7) (v := ?vq1x) rfl rfl (by kernel_rfl) (by kernel_rfl) (by kernel_rfl) (fun _ _ _ h => h) (Or.inl ⟨by rfl, ?hyq1x⟩) hHeld ?_
  case hyq1x =>
    intro W hSw
    obtain ⟨b0, b1, b2, b3, b4, b5⟩ := Blk.six' (show Blk W bx 26 #[.int .i64 e.epoch, .int .i64 e.id, .int .i64 e.num, .int .i64 e.seq, .int .i64 e.kind, .int .i64 e.value] from hSw); clear hSw
    (go_simp; try with_reducible rfl)
  simp only [List.setIfInBounds_toArray, List.set_cons_zero, List.set_cons_succ]
  refine wpAnyH_ready (rs := [2]) (by kernel_rfl) (by simp) (AllReadyH.cons rfl (fun K hK => ?_) AllReadyH.nil)
  go_simp
  refine byLog_any.mono ?_
  rintro r w5 ⟨A5, c5, rfl, hR5, hb5⟩
  dsimp only
  have hc5 : Below W1.heap.size W1 w5 := ((Below.refl _ _).drew).trans hb5
  refine hK.out _ _ (show Blk w5 bx 26 #[.int .i64 e.epoch, .int .i64 e.id, .int .i64 e.num, .int .i64 e.seq, .int .i64 e.kind, .int .i64 e.value] from HBX.out.below hc5 HBX.out.lt) (fun hHeld => ?_)
  clear hK K
  try simp only [List.setIfInBounds_toArray, List.set_cons_zero, List.set_cons_succ]
  refine wpAnyH_ready (rs := [3]) (by kernel_rfl) (by simp) (AllReadyH.cons rfl (fun K hK => ?_) AllReadyH.nil)
  go_simp
  have hL6 : Lists (w5.alloc (.cells #[.slice A5 4 c5] 80)) (some ⟨w5.heap.size, 0, none⟩) [[52, 53, 54, 55]] := lists_one (fs := [52, 53, 54, 55]) (Blk.new w5 80 _) (hR5.alloc _)
  have hc6 : Below W1.heap.size W1 (w5.alloc (.cells #[.slice A5 4 c5] 80)) := hc5.alloc hc5.size _
  refine hK.out _ _ (show Blk _ bx 26 #[.int .i64 e.epoch, .int .i64 e.id, .int .i64 e.num, .int .i64 e.seq, .int .i64 e.kind, .int .i64 e.value] from HBX.out.below hc6 HBX.out.lt) (fun hHeld => ?_)
  clear hK K
  generalize w5.alloc (.cells #[.slice A5 4 c5] 80) = w6 at *
  refine wpAnyH_ready (rs := [4]) (by kernel_rfl) (by simp) (AllReadyH.cons rfl (fun K hK => ?_) AllReadyH.nil)
  have hc06 : Below w.heap.size w w6 := HBW.out ▸ (HB.out.trans (hc6.mono (by have := HB.out.size; have := HBW.out; omega)))
  have hcall := refusal_any (c := 1) (p := .pointer none) (e := e) hL6 (fun _ => 1) (fun pre f hpf hz => refuser_none (q := []) (by simpa using hpf) hz) (by simp) (by simp)
  rw [show first (fun _ => (1 : Int)) [[52, 53, 54, 55]].flatten = 1 from rfl] at hcall
  unfold Ent.val Ent.cells at hcall
  go_simp
  refine hcall.mono ?_
  rintro r w7 ⟨rfl, hb7⟩
  dsimp only
  have hc7 : Below W1.heap.size W1 w7 := hc6.trans (hb7.mono hc6.size)
  refine hK.out _ _ (show Blk w7 bx 26 #[.int .i64 e.epoch, .int .i64 e.id, .int .i64 e.num, .int .i64 e.seq, .int .i64 e.kind, .int .i64 e.value] from HBX.out.below hc7 HBX.out.lt) (fun hHeld => ?_)
  clear hK K
  try simp only [List.setIfInBounds_toArray, List.set_cons_zero, List.set_cons_succ]
  refine wpAnyH_takeAt (i := 5) (d := 5) (v := ?vq2x) rfl rfl (by kernel_rfl) (by kernel_rfl) (by kernel_rfl) (fun _ _ _ h => h) (Or.inl ⟨by rfl, ?hyq2x⟩) hHeld ?_
  case hyq2x =>
    intro W hSw
    clear hSw
    (go_simp; try with_reducible rfl)
  simp only [List.setIfInBounds_toArray, List.set_cons_zero, List.set_cons_succ]
  refine wpAnyH_done (by kernel_rfl) ?_ _
  clear hHeld hcall hL6 hR5 hb5 hc5
  have HC07 : Hid (Below w.heap.size w w7) := Lib.hid (HBW.out ▸ (HB.out.trans (hc7.mono (by have := HB.out.size; have := HBW.out; omega))))
  have HBX7 := Lib.hid (HBX.out.below hc7 HBX.out.lt)
  clear hc6 hc7 hb7 hc06
  go_wp2_with fail
  go_ret
  exact ⟨rfl, HC07.out⟩
end
end Go.Proofs.Ytafgcafhgnfegaa
