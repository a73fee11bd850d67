/-
  A view and a writer as they are at first. Conditions: at most 1000000 brokers.
-/
import Derived.Test.YtpmdicbhliclcaaGreatFence
import Derived.Test.YtpmdicbhliclcaaGreatEqI
namespace Go.Proofs.YtpmdicbhliclcaaGreat
open Go.RowKit Go.Maps
set_option linter.unusedVariables false
theorem results_cell {P : Program} {fn : Func} {p : Tmp} {ty : TypeId} (h : fn.results = #[.cell p ty]) (tmps : Array Value) (w : World) (g : Nat) (t : TypeId) (cs : Array Value) (fr : Nat × Nat) (d : TypeDesc)
    (hp : tmps.getD p undef = .pointer (some ⟨g, 0, none⟩)) (hg : w.heap[g]? = some (.cells cs t fr))
    (hu : P.underlying ty = some d) (hd : (match d with | .struct _ | .array _ _ => true | _ => false) = true) (hi : (P.info? ty).map (·.size) = some cs.size) :
    (results fn tmps).run P w = .ok (.agg cs) w := by
  have hp' : tmps[p]?.getD undef = .pointer (some ⟨g, 0, none⟩) := by simpa using hp
  simp [results, h, hp', asAddr, run_loadVar_row w g t ty cs fr d hg hu hd hi]
theorem und70 : Tryz.prog.underlying 70 = some (.struct (Tryz.prog.fieldsOf 70)) := by kernel_rfl
theorem und72 : Tryz.prog.underlying 72 = some (.struct (Tryz.prog.fieldsOf 72)) := by kernel_rfl
/-- The first so many numbers. -/
def upTo (n : Nat) : List Int := (List.range n).map fun (i : Nat) => (i : Int)
theorem upTo_succ (n : Nat) : upTo (n + 1) = upTo n ++ [(n : Int)] := by unfold upTo; rw [List.range_succ, List.map_append]; rfl
theorem upTo_len (n : Nat) : (upTo n).length = n := by simp [upTo]
section
variable {w : World}
theorem newWriter_any (w : World) : Calls Tryz.prog 36 #[] w fun r w' => r = .returned (.agg #[.int .i64 0, .int .i64 0, .int .i64 1, .slice none 0 0, .int .i64 0, .int .i64 0]) ∧ Below w.heap.size w w' := by
  have HB0 := Lib.hid ((Below.refl w.heap.size w).alloc (Nat.le_refl _) (.cells #[.int .i64 0, .int .i64 0, .int .i64 0, .slice none 0 0, .int .i64 0, .int .i64 0] 72))
  have HX := Lib.hid (Blk.new w 72 #[.int .i64 0, .int .i64 0, .int .i64 0, .slice none 0 0, .int .i64 0, .int .i64 0])
  go_enter Tryz.func36, Tryz.ntmps36
  go_wp2_with (with_reducible refine at_store 72 rfl ?_)
  refine Stop.go (wpList_store_blk (by rfl) (by rfl) 72 _ _ (by rfl) w.heap.size _ #[.int .i64 0, .int .i64 0, .int .i64 1, .slice none 0 0, .int .i64 0, .int .i64 0] (by rfl) (by rfl) 72 HX.out (by rfl) (by kernel_rfl) (by simp [Value.oneCell']) ?_)
  intro w4 hB4 hg4 hs4
  have hT4 : Turn (fun x => x = w.heap.size) (w.alloc (.cells #[.int .i64 0, .int .i64 0, .int .i64 0, .slice none 0 0, .int .i64 0, .int .i64 0] 72)) w4 := Turn.of_grown hg4 (fun r e => by injection e with e; exact e.symm)
  have HF := Lib.hid (And.intro hB4 (HB0.out.trans (hT4.below HB0.out.size (fun x e => by omega))))
  clear hB4 hg4 hs4 hT4
  go_wp2_with fail
  refine bodyPost_ret (v := .agg #[.int .i64 0, .int .i64 0, .int .i64 1, .slice none 0 0, .int .i64 0, .int .i64 0]) (results_cell (by rfl) _ _ w.heap.size 72 _ (0, 0) _ (by rfl) HF.out.1 und72 (by rfl) (by kernel_rfl)) rfl ?_
  exact ⟨rfl, HF.out.2⟩
/-- Between two rounds. -/
def NvI (w : World) (k : Nat) (bv : Nat) (W : World) : Prop :=
  ∃ v, Blk W bv 70 #[.int .i64 (-1), .int .i64 0, .int .i64 0, v] ∧ OwnK W 3 1 v (intsOf (upTo k)) ∧ (∀ b, v.ownBlock = some b → bv < b) ∧ Below w.heap.size w W
set_option maxRecDepth 100000 in
set_option maxHeartbeats 4000000 in
theorem newView_any (n : Nat) (hn : n ≤ 1000000) : Calls Tryz.prog 35 #[.int .i64 (n : Int)] w fun r w' => ∃ v, r = .returned (.agg #[.int .i64 (-1), .int .i64 0, .int .i64 0, v]) ∧ OwnK w' 3 1 v (intsOf (upTo n)) ∧ (∀ b, v.ownBlock = some b → w.heap.size ≤ b) ∧ Below w.heap.size w w' := by
  have HB0 := Lib.hid (((Below.refl w.heap.size w).alloc (Nat.le_refl _) (.cells #[.int .i64 0, .int .i64 0, .int .i64 0, .slice none 0 0] 70)).alloc (by simp) (.cells #[.int .i64 (-1), .int .i64 0, .int .i64 0, .slice none 0 0] 70))
  have HZ : Hid (Blk ((w.alloc (.cells #[.int .i64 0, .int .i64 0, .int .i64 0, .slice none 0 0] 70)).alloc (.cells #[.int .i64 (-1), .int .i64 0, .int .i64 0, .slice none 0 0] 70)) w.heap.size 70 #[.int .i64 0, .int .i64 0, .int .i64 0, .slice none 0 0]) := Lib.hid ((Blk.new w 70 _).alloc _)
  have HX : Hid (Blk ((w.alloc (.cells #[.int .i64 0, .int .i64 0, .int .i64 0, .slice none 0 0] 70)).alloc (.cells #[.int .i64 (-1), .int .i64 0, .int .i64 0, .slice none 0 0] 70)) (w.heap.size + 1) 70 #[.int .i64 (-1), .int .i64 0, .int .i64 0, .slice none 0 0]) := Lib.hid (by
    have := Blk.new (w.alloc (.cells #[.int .i64 0, .int .i64 0, .int .i64 0, .slice none 0 0] 70)) 70 #[.int .i64 (-1), .int .i64 0, .int .i64 0, .slice none 0 0]
    rwa [show (w.alloc (.cells #[.int .i64 0, .int .i64 0, .int .i64 0, .slice none 0 0] 70)).heap.size = w.heap.size + 1 by simp] at this)
  go_enter Tryz.func35, Tryz.ntmps35
  go_upto_region 2 with fail
  generalize hw2 : (w.alloc (.cells #[.int .i64 0, .int .i64 0, .int .i64 0, .slice none 0 0] 70)).alloc (.cells #[.int .i64 (-1), .int .i64 0, .int .i64 0, .slice none 0 0] 70) = w2 at *
  clear hw2
  have HI0 : Hid (NvI w 0 (w.heap.size + 1) w2 ∧ Blk w2 w.heap.size 70 #[.int .i64 0, .int .i64 0, .int .i64 0, .slice none 0 0]) := Lib.hid ⟨⟨_, HX.out, OwnK.nil _ _ _, fun b e => (nomatch e), HB0.out⟩, HZ.out⟩
  clear HB0 HZ HX
  go_wp2_with fail
  go_loopw [7] (fun i wv => ∃ k : Nat, k ≤ n ∧ i = .int .i64 k ∧ NvI w k (w.heap.size + 1) wv ∧ Blk wv w.heap.size 70 #[.int .i64 0, .int .i64 0, .int .i64 0, .slice none 0 0]) (fun i _ => n - (iOf i).toNat)
  case atStart => exact ⟨0, by omega, rfl, HI0.out⟩
  case round =>
    clear HI0
    obtain ⟨k, hk, rfl, hI, hz⟩ := hrel
    have HZ := Lib.hid hz
    obtain ⟨v, hb, ho, hv, hbw⟩ := hI
    obtain ⟨Av, cv, rfl, -⟩ := ints_form ho
    rw [upTo_len] at hb ho hv
    have HI := Lib.hid (And.intro hb (And.intro ho (And.intro hv hbw)))
    clear hz hb ho hv hbw
    by_cases hlt : k < n
    case neg =>
      have hd1 : decide (k < n) = false := by simpa using hlt
      obtain rfl : k = n := by omega
      clear hlt
      go_wp2_with (with_reducible refine at_load 70 rfl ?_)
      refine Stop.go (wpList_load_blk (by rfl) 70 _ (by rfl) (w.heap.size + 1) (by rfl) 70 _ HI.out.1 _ und70 (by rfl) (by kernel_rfl) ?_)
      go_wp2_with (with_reducible refine at_store 70 rfl ?_)
      refine Stop.go (wpList_store_blk (by rfl) (by rfl) 70 _ _ (by rfl) w.heap.size _ #[.int .i64 (-1), .int .i64 0, .int .i64 0, .slice Av k cv] (by rfl) (by rfl) 70 HZ.out (by rfl) (by kernel_rfl) (by simp [Value.oneCell']) ?_)
      intro w4 hB4 hg4 hs4
      have hT4 : Turn (fun x => x = w.heap.size) wr w4 := Turn.of_grown hg4 (fun r e => by injection e with e; exact e.symm)
      have HF : Hid (Blk w4 w.heap.size 70 #[.int .i64 (-1), .int .i64 0, .int .i64 0, .slice Av k cv] ∧ OwnK w4 3 1 (.slice Av k cv) (intsOf (upTo k)) ∧ Below w.heap.size w w4) := Lib.hid ⟨hB4, HI.out.2.1.keep hT4 (fun b hb e => by have := HI.out.2.2.1 b hb; omega), HI.out.2.2.2.trans (hT4.below HI.out.2.2.2.size (fun x e => by omega))⟩
      clear hB4 hg4 hs4 hT4
      go_wp2_with fail
      refine bodyPost_ret (v := .agg #[.int .i64 (-1), .int .i64 0, .int .i64 0, .slice Av k cv]) (results_cell (by rfl) _ _ w.heap.size 70 _ (0, 0) _ (by rfl) HF.out.1 und70 (by rfl) (by kernel_rfl)) rfl ?_
      exact ⟨_, rfl, HF.out.2.1, fun b hb => by have := HI.out.2.2.1 b hb; omega, HF.out.2.2⟩
    case pos =>
      have hd1 : decide (k < n) = true := by simpa using hlt
      have c3 : wr.cell? ⟨w.heap.size + 1, 3, none⟩ = some (.slice Av k cv) := HI.out.1.cell 3
      go_wp2_with (at_builtin; refine stop ?_)
      refine Stop.go (wpList_append_k el41 _ (by rfl) _ _ (by rfl) (.slice Av k cv) (intsOf (upTo k)) (by rfl) (OwnK.alloc HI.out.2.1 _) No _ 1 _ [#[.int .i64 (k : Int)]] (by rfl) (rd_one wr 3 #[.int .i64 (k : Int)] rfl (by simp [Value.oneCell']) (fun h => h)) (by simp [intsOf, upTo_len]; omega) (by omega) ?_)
      intro v9 w9 ho9 hg9
      have hlt2 := HI.out.1.lt
      have hal := (Below.refl wr.heap.size wr).alloc (Nat.le_refl _) (.cells #[.int .i64 (k : Int)] 3)
      have hT9 : Turn (fun b => (Value.slice Av k cv).ownBlock = some b) (wr.alloc (.cells #[.int .i64 (k : Int)] 3)) w9 := hg9.turn (fun _ q => q)
      have hb9 := (HI.out.1.alloc (.cells #[.int .i64 (k : Int)] 3)).keep hT9 (fun e => by have := HI.out.2.2.1 _ e; omega)
      have hz9 := (HZ.out.alloc (.cells #[.int .i64 (k : Int)] 3)).keep hT9 (fun e => by have := HI.out.2.2.1 _ e; omega)
      have f3 := hb9.frozen 3
      have d3 : w9.cell? ⟨w.heap.size + 1, 3, none⟩ = some (.slice Av k cv) := hb9.cell 3
      have hv9 : ∀ b, v9.ownBlock = some b → w.heap.size + 1 < b := fun b e => by
        rcases hg9.2 b e with q | q
        · exact HI.out.2.2.1 b q
        · simp at q; omega
      have hT8 : Turn (fun b => b = w.heap.size + 1) w9 (w9.setCell ⟨w.heap.size + 1, 3, none⟩ v9) := (Turn.refl (fun b => b = w.heap.size + 1) w9).setCell (p := ⟨w.heap.size + 1, 3, none⟩) (fun _ => rfl) _
      have hbw9 : Below w.heap.size w w9 := (HI.out.2.2.2.alloc HI.out.2.2.2.size _).trans (hT9.below (by have := HI.out.2.2.2.size; simp; omega) (fun x e => by have := HI.out.2.2.1 x e; omega))
      have HN : Hid (NvI w (k + 1) (w.heap.size + 1) (w9.setCell ⟨w.heap.size + 1, 3, none⟩ v9) ∧ Blk (w9.setCell ⟨w.heap.size + 1, 3, none⟩ v9) w.heap.size 70 #[.int .i64 0, .int .i64 0, .int .i64 0, .slice none 0 0]) := Lib.hid
        ⟨⟨v9, hb9.set_ 3 v9, by
          rw [upTo_succ]
          have : OwnK w9 3 1 v9 (intsOf (upTo k ++ [(k : Int)])) := by unfold intsOf at ho9 ⊢; rw [List.map_append]; exact ho9
          exact this.keep hT8 (fun b hb e => by have := hv9 b hb; omega), hv9, hbw9.trans (hT8.below hbw9.size (fun x e => by omega))⟩, hz9.keep hT8 (by omega)⟩
      obtain ⟨A9, q9, c9, rfl, -, -, -⟩ := ho9.form
      clear ho9 hg9 hal hT9 hb9 hz9 hv9 hT8 hbw9 c3
      go_wp2_with fail
      go_round
      case rel => exact ⟨k + 1, by omega, by go_num, HN.out⟩
      case measure => simp [iOf]; omega
end
end Go.Proofs.YtpmdicbhliclcaaGreat
