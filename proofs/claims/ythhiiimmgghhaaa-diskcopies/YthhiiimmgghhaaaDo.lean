/-
  A thing's closure does to files what the thing is. Conditions: the files are fine, within bounds.
-/
import Derived.Test.YthhiiimmgghhaaaStore
namespace Go.Proofs.Ythhiiimmgghhaaa
open Go.RowKit
def Th.fn : Th → Nat
  | .put _ _ => 68
  | .cut _ _ => 70
  | .rem _ => 72
def Th.deed : Th → Int
  | .put _ _ => 1
  | .cut _ _ => 2
  | .rem _ => 3
def Th.num : Th → Int
  | .cut _ k => k
  | _ => 0
def Th.lb (t : Th) (p q : Nat) : Array Value := match t with
  | .put _ _ => #[.pointer (some ⟨p, 0, none⟩), .pointer (some ⟨q, 0, none⟩)]
  | .cut _ _ => #[.pointer (some ⟨p, 0, none⟩), .pointer (some ⟨q, 0, none⟩)]
  | .rem _ => #[.pointer (some ⟨p, 0, none⟩)]
theorem Th.cells_eq (t : Th) (p q : Nat) : t.cells p q = #[.int .i64 t.deed, .string (str t.name), .string (str t.bytes), .int .i64 t.num, .func (.func t.fn) #[] (t.lb p q)] := by cases t <;> rfl
theorem enters_do (t : Th) (args : Array Value) (w : World) : (callFunc t.fn args).run Try.prog w = .ok (.enter t.fn args) w := by
  cases t with
  | put n b => exact enters_of Try.func68 (by kernel_rfl) rfl args w
  | cut n k => exact enters_of Try.func70 (by kernel_rfl) rfl args w
  | rem n => exact enters_of Try.func72 (by kernel_rfl) rfl args w
set_option maxHeartbeats 1000000 in
/-- The closure of a thing, called at the files at block g, offset o. -/
theorem do_any (t : Th) (p q : Nat) {w : World} {S X : Nat → Prop} {m : Nat} {l : FL} (ht : ThAt w X t (t.cells p q)) (h : FM w S m l) (g o : Nat) (hg : ¬ S g) (hc : w.cell? ⟨g, o, none⟩ = some (.map (some m))) (hu : w.cell? ⟨g, o + 1, none⟩ = some (.int .i64 (total l : Int)))
    (hf : w.frozen? ⟨g, o + 1, none⟩ = false) (hn : t.name.length ≤ 24) (hcan : t.can l) (h1 : total l ≤ 16777216) (h2 : total (t.on l) ≤ 16777216) (hlen : l.length < 1000000) :
    Calls Try.prog t.fn (#[.pointer (some ⟨g, o, none⟩)] ++ t.lb p q) w fun e w' => e = .returned (.tuple #[]) ∧ Done w S g o m (total (t.on l) : Int) (t.on l) w' := by
  obtain ⟨p', q', e, _, _, hp, hq⟩ := ht
  have hr := h.rises
  cases t with
  | put n b =>
    obtain ⟨rfl, rfl⟩ : p = p' ∧ q = q' := by simpa [Th.cells] using e
    obtain ⟨_, _, hq⟩ := hq _ rfl
    have e1 : total (Th.on (.put n b) l) = total l + b.length := total_put l n b
    have hs : sizeF l n ≤ 16777216 := by
      unfold sizeF
      cases hfd : find l n with
      | none => simp
      | some x => have := find_le_total l n x hfd; simp; omega
    have hP := put_any h g o (total l) hg hc hu hf n b hn (by omega) (by omega) (by omega) hlen
    have hp' : w.cell? ⟨p, 0, none⟩ = some (.string (str n)) := hp
    clear hp hu hf hc
    show Calls Try.prog 68 #[.pointer (some ⟨g, o, none⟩), .pointer (some ⟨p, 0, none⟩), .pointer (some ⟨q, 0, none⟩)] w _
    rw [e1]
    go_enter Try.func68, Try.ntmps68
    go_wp2_with (go_at_call 69; refine hP.mono ?_; rintro e w' ⟨rfl, hD⟩)
    go_end0
    exact ⟨rfl, hD⟩
  | cut n k =>
    obtain ⟨rfl, rfl⟩ : p = p' ∧ q = q' := by simpa [Th.cells] using e
    obtain ⟨_, _, hq⟩ := hq _ rfl
    obtain ⟨b, hfd, hk⟩ := hcan
    have e1 := total_cut l n k b hr hfd hk
    have e2 : total (Th.on (.cut n k) l) = total (cutF n k l) := rfl
    have hb := find_le_total l n b hfd
    have hP := cut_any h g o (total l) hg hc hu hf n b k hn hfd hk hb (by omega) hlen
    have hp' : w.cell? ⟨p, 0, none⟩ = some (.string (str n)) := hp
    clear hp hu hf hc
    show Calls Try.prog 70 #[.pointer (some ⟨g, o, none⟩), .pointer (some ⟨p, 0, none⟩), .pointer (some ⟨q, 0, none⟩)] w _
    rw [e2, show (total (cutF n k l) : Int) = (total l : Int) - ((b.length : Int) - (k : Int)) from by omega]
    clear e1 e2
    go_enter Try.func70, Try.ntmps70
    go_wp2_with (go_at_call 71; refine hP.mono ?_; rintro e w' ⟨rfl, hD⟩)
    go_end0
    exact ⟨rfl, hD⟩
  | rem n =>
    obtain rfl : p = p' := by simpa [Th.cells] using e
    obtain ⟨b, hfd⟩ := hcan
    have e1 := total_rem l n b hr hfd
    have e2 : total (Th.on (.rem n) l) = total (remF n l) := rfl
    have hb := find_le_total l n b hfd
    have hP := rem_any h g o (total l) hg hc hu hf n b hn hfd hb (by omega)
    have hp' : w.cell? ⟨p, 0, none⟩ = some (.string (str n)) := hp
    clear hp hu hf hc
    show Calls Try.prog 72 #[.pointer (some ⟨g, o, none⟩), .pointer (some ⟨p, 0, none⟩)] w _
    rw [e2, show (total (remF n l) : Int) = (total l : Int) - (b.length : Int) from by omega]
    clear e1 e2
    go_enter Try.func72, Try.ntmps72
    go_wp2_with (go_at_call 73; refine hP.mono ?_; rintro e w' ⟨rfl, hD⟩)
    go_end0
    exact ⟨rfl, hD⟩
set_option maxHeartbeats 1000000 in
theorem sclone_any (n : Bs) (w : World) (hn : n.length ≤ 1000000000) : Calls Try.prog 67 #[.string (str n)] w fun e w' => e = .returned (.string (str n)) ∧ Below w.heap.size w w' := by
  have h := Try.stringslite_Clone (str n) w (by rw [str_size]; omega)
  go_enter Try.func67, Try.ntmps67
  go_wp2_with (go_at_call 79; refine h.mono ?_; rintro e w' ⟨rfl, hb⟩)
  go_ret
  exact ⟨rfl, hb⟩
/-- A thing in new memory: its cells and its closure's variables. -/
def NewTh (w : World) (t : Th) (e : Ending) (w' : World) : Prop := ∃ p q, e = .returned (.agg (t.cells p q)) ∧ w.heap.size ≤ p ∧ w.heap.size ≤ q ∧ ThAt w' No t (t.cells p q) ∧ Below w.heap.size w w'
theorem mf (fn : Fn) (first cap : Array Value) (w : World) : (Instr.makeFunc fn first cap).run Try.prog w = .ok (.func fn first cap) w := rfl
theorem Th.cells_all (t : Th) (p q : Nat) : (t.cells p q).all (·.oneCell') = true := Array.all_eq_true_iff_forall_mem.2 (fun v hv => t.cells_one p q v (by simpa using hv))
set_option maxRecDepth 100000 in
set_option maxHeartbeats 2000000 in
theorem putting_any (n b : Bs) (w : World) (hn : n.length ≤ 1000000000) : Calls Try.prog 50 #[.string (str n), .string (str b)] w (NewTh w (.put n b)) := by
  have hmf := mf
  go_enter Try.func50, Try.ntmps50
  go_wp2_with fail
  have b0 : Blk (((w.alloc (.cells #[.string (str n)] 9)).alloc (.cells #[.string (str b)] 9)).alloc (.cells #[.int .i64 0, .string ⟨#[]⟩, .string ⟨#[]⟩, .int .i64 0, .nilFunc] 92)) (w.heap.size) 9 #[.string (str n)] := ((blk_new w 9 #[.string (str n)] (by simp)).alloc _).alloc _
  have b1 : Blk (((w.alloc (.cells #[.string (str n)] 9)).alloc (.cells #[.string (str b)] 9)).alloc (.cells #[.int .i64 0, .string ⟨#[]⟩, .string ⟨#[]⟩, .int .i64 0, .nilFunc] 92)) (w.heap.size + 1) 9 #[.string (str b)] := (blk_new (w.alloc (.cells #[.string (str n)] 9)) 9 #[.string (str b)] (by simp)).alloc _
  have b2 : Blk (((w.alloc (.cells #[.string (str n)] 9)).alloc (.cells #[.string (str b)] 9)).alloc (.cells #[.int .i64 0, .string ⟨#[]⟩, .string ⟨#[]⟩, .int .i64 0, .nilFunc] 92)) (w.heap.size + 1 + 1) 92 #[.int .i64 0, .string ⟨#[]⟩, .string ⟨#[]⟩, .int .i64 0, .nilFunc] := blk_new ((w.alloc (.cells #[.string (str n)] 9)).alloc (.cells #[.string (str b)] 9)) 92 #[.int .i64 0, .string ⟨#[]⟩, .string ⟨#[]⟩, .int .i64 0, .nilFunc] (by simp)
  have hb0 : Below w.heap.size w (((w.alloc (.cells #[.string (str n)] 9)).alloc (.cells #[.string (str b)] 9)).alloc (.cells #[.int .i64 0, .string ⟨#[]⟩, .string ⟨#[]⟩, .int .i64 0, .nilFunc] 92)) := ((((((Below.refl _ _).alloc (Nat.le_refl _) _)).alloc (by simp) _)).alloc (by simp; omega) _)
  have HZ0 : Hid (w.heap.size + 3 = (((w.alloc (.cells #[.string (str n)] 9)).alloc (.cells #[.string (str b)] 9)).alloc (.cells #[.int .i64 0, .string ⟨#[]⟩, .string ⟨#[]⟩, .int .i64 0, .nilFunc] 92)).heap.size) := Lib.hid (by simp)
  generalize (((w.alloc (.cells #[.string (str n)] 9)).alloc (.cells #[.string (str b)] 9)).alloc (.cells #[.int .i64 0, .string ⟨#[]⟩, .string ⟨#[]⟩, .int .i64 0, .nilFunc] 92)) = w3 at *
  refine (sclone_any n w3 hn).mono ?_
  rintro e w4 ⟨rfl, hb⟩
  have c0 := b0.below hb (by have := HZ0.out; omega)
  have c1 := b1.below hb (by have := HZ0.out; omega)
  have c2 := b2.below hb (by have := HZ0.out; omega)
  have hb4 := hb0.trans (hb.mono hb0.size)
  clear hb hb0 b0 b1 b2
  have d0 : Blk _ _ _ #[.string (str n)] := c0.set_ 0 (.string (str n))
  have d1 := c1.far (p := ⟨w.heap.size, 0, none⟩) (by show w.heap.size + 1 ≠ w.heap.size; omega) (.string (str n))
  have d2 := c2.far (p := ⟨w.heap.size, 0, none⟩) (by show w.heap.size + 1 + 1 ≠ w.heap.size; omega) (.string (str n))
  have HB5 := Lib.hid (hb4.setCell (p := ⟨w.heap.size, 0, none⟩) (Nat.le_refl _) (.string (str n)))
  have e0 : w4.cell? ⟨w.heap.size, 0, none⟩ = some (.string (str n)) := c0.cell 0
  have z0 := c0.frozen 0
  have e1 : w4.cell? ⟨w.heap.size + 1, 0, none⟩ = some (.string (str b)) := c1.cell 0
  clear hb4 c0 c1 c2
  go_wp2_with (with_reducible refine at_store 92 rfl ?_)
  refine Stop.go (wpList_store_blk (by rfl) (by rfl) 92 _ _ (by rfl) (w.heap.size + 1 + 1) #[.int .i64 0, .string ⟨#[]⟩, .string ⟨#[]⟩, .int .i64 0, .nilFunc] (Th.cells (.put n b) w.heap.size (w.heap.size + 1)) (by rfl) (by rfl) 92 d2 (by rfl) (by kernel_rfl) (Th.cells_all _ _ _) ?_)
  intro w5 f5 g5 s5
  have HS5 := Lib.hid s5
  clear s5
  have f0 := d0.grown g5 (by omega)
  have f1 := d1.grown g5 (by omega)
  go_wp2_with fail
  refine bodyPost_ret (v := .agg (Th.cells (.put n b) w.heap.size (w.heap.size + 1))) (results_cell_row (by rfl) _ _ (w.heap.size + 1 + 1) 92 _ (0, 0) _ (by rfl) f5 Try.underlying92 (by rfl) (by kernel_rfl)) rfl ?_
  exact ⟨w.heap.size, w.heap.size + 1, rfl, Nat.le_refl _, by omega, ⟨w.heap.size, w.heap.size + 1, rfl, f0.lt, fun h => h, f0.cell 0, fun v hv => (by cases hv; exact ⟨f1.lt, fun h => h, f1.cell 0⟩)⟩, below_grown HB5.out g5 (Nat.le_refl _) (by omega)⟩
set_option maxRecDepth 100000 in
set_option maxHeartbeats 2000000 in
theorem cutting_any (n : Bs) (k : Nat) (w : World) (hn : n.length ≤ 1000000000) : Calls Try.prog 53 #[.string (str n), .int .i64 (k : Int)] w (NewTh w (.cut n k)) := by
  have hmf := mf
  go_enter Try.func53, Try.ntmps53
  go_wp2_with fail
  have b0 : Blk (((w.alloc (.cells #[.string (str n)] 9)).alloc (.cells #[.int .i64 (k : Int)] 3)).alloc (.cells #[.int .i64 0, .string ⟨#[]⟩, .string ⟨#[]⟩, .int .i64 0, .nilFunc] 92)) (w.heap.size) 9 #[.string (str n)] := ((blk_new w 9 #[.string (str n)] (by simp)).alloc _).alloc _
  have b1 : Blk (((w.alloc (.cells #[.string (str n)] 9)).alloc (.cells #[.int .i64 (k : Int)] 3)).alloc (.cells #[.int .i64 0, .string ⟨#[]⟩, .string ⟨#[]⟩, .int .i64 0, .nilFunc] 92)) (w.heap.size + 1) 3 #[.int .i64 (k : Int)] := (blk_new (w.alloc (.cells #[.string (str n)] 9)) 3 #[.int .i64 (k : Int)] (by simp)).alloc _
  have b2 : Blk (((w.alloc (.cells #[.string (str n)] 9)).alloc (.cells #[.int .i64 (k : Int)] 3)).alloc (.cells #[.int .i64 0, .string ⟨#[]⟩, .string ⟨#[]⟩, .int .i64 0, .nilFunc] 92)) (w.heap.size + 1 + 1) 92 #[.int .i64 0, .string ⟨#[]⟩, .string ⟨#[]⟩, .int .i64 0, .nilFunc] := blk_new ((w.alloc (.cells #[.string (str n)] 9)).alloc (.cells #[.int .i64 (k : Int)] 3)) 92 #[.int .i64 0, .string ⟨#[]⟩, .string ⟨#[]⟩, .int .i64 0, .nilFunc] (by simp)
  have hb0 : Below w.heap.size w (((w.alloc (.cells #[.string (str n)] 9)).alloc (.cells #[.int .i64 (k : Int)] 3)).alloc (.cells #[.int .i64 0, .string ⟨#[]⟩, .string ⟨#[]⟩, .int .i64 0, .nilFunc] 92)) := ((((((Below.refl _ _).alloc (Nat.le_refl _) _)).alloc (by simp) _)).alloc (by simp; omega) _)
  have HZ0 : Hid (w.heap.size + 3 = (((w.alloc (.cells #[.string (str n)] 9)).alloc (.cells #[.int .i64 (k : Int)] 3)).alloc (.cells #[.int .i64 0, .string ⟨#[]⟩, .string ⟨#[]⟩, .int .i64 0, .nilFunc] 92)).heap.size) := Lib.hid (by simp)
  generalize (((w.alloc (.cells #[.string (str n)] 9)).alloc (.cells #[.int .i64 (k : Int)] 3)).alloc (.cells #[.int .i64 0, .string ⟨#[]⟩, .string ⟨#[]⟩, .int .i64 0, .nilFunc] 92)) = w3 at *
  refine (sclone_any n w3 hn).mono ?_
  rintro e w4 ⟨rfl, hb⟩
  have c0 := b0.below hb (by have := HZ0.out; omega)
  have c1 := b1.below hb (by have := HZ0.out; omega)
  have c2 := b2.below hb (by have := HZ0.out; omega)
  have hb4 := hb0.trans (hb.mono hb0.size)
  clear hb hb0 b0 b1 b2
  have d0 : Blk _ _ _ #[.string (str n)] := c0.set_ 0 (.string (str n))
  have d1 := c1.far (p := ⟨w.heap.size, 0, none⟩) (by show w.heap.size + 1 ≠ w.heap.size; omega) (.string (str n))
  have d2 := c2.far (p := ⟨w.heap.size, 0, none⟩) (by show w.heap.size + 1 + 1 ≠ w.heap.size; omega) (.string (str n))
  have HB5 := Lib.hid (hb4.setCell (p := ⟨w.heap.size, 0, none⟩) (Nat.le_refl _) (.string (str n)))
  have e0 : w4.cell? ⟨w.heap.size, 0, none⟩ = some (.string (str n)) := c0.cell 0
  have z0 := c0.frozen 0
  have e1 : w4.cell? ⟨w.heap.size + 1, 0, none⟩ = some (.int .i64 (k : Int)) := c1.cell 0
  clear hb4 c0 c1 c2
  go_wp2_with (with_reducible refine at_store 92 rfl ?_)
  refine Stop.go (wpList_store_blk (by rfl) (by rfl) 92 _ _ (by rfl) (w.heap.size + 1 + 1) #[.int .i64 0, .string ⟨#[]⟩, .string ⟨#[]⟩, .int .i64 0, .nilFunc] (Th.cells (.cut n k) w.heap.size (w.heap.size + 1)) (by rfl) (by rfl) 92 d2 (by rfl) (by kernel_rfl) (Th.cells_all _ _ _) ?_)
  intro w5 f5 g5 s5
  have HS5 := Lib.hid s5
  clear s5
  have f0 := d0.grown g5 (by omega)
  have f1 := d1.grown g5 (by omega)
  go_wp2_with fail
  refine bodyPost_ret (v := .agg (Th.cells (.cut n k) w.heap.size (w.heap.size + 1))) (results_cell_row (by rfl) _ _ (w.heap.size + 1 + 1) 92 _ (0, 0) _ (by rfl) f5 Try.underlying92 (by rfl) (by kernel_rfl)) rfl ?_
  exact ⟨w.heap.size, w.heap.size + 1, rfl, Nat.le_refl _, by omega, ⟨w.heap.size, w.heap.size + 1, rfl, f0.lt, fun h => h, f0.cell 0, fun v hv => (by cases hv; exact ⟨f1.lt, fun h => h, f1.cell 0⟩)⟩, below_grown HB5.out g5 (Nat.le_refl _) (by omega)⟩
set_option maxRecDepth 100000 in
set_option maxHeartbeats 2000000 in
theorem removing_any (n : Bs) (w : World) (hn : n.length ≤ 1000000000) : Calls Try.prog 54 #[.string (str n)] w (NewTh w (.rem n)) := by
  have hmf := mf
  go_enter Try.func54, Try.ntmps54
  go_wp2_with fail
  have b0 : Blk ((w.alloc (.cells #[.string (str n)] 9)).alloc (.cells #[.int .i64 0, .string ⟨#[]⟩, .string ⟨#[]⟩, .int .i64 0, .nilFunc] 92)) (w.heap.size) 9 #[.string (str n)] := (blk_new w 9 #[.string (str n)] (by simp)).alloc _
  have b1 : Blk ((w.alloc (.cells #[.string (str n)] 9)).alloc (.cells #[.int .i64 0, .string ⟨#[]⟩, .string ⟨#[]⟩, .int .i64 0, .nilFunc] 92)) (w.heap.size + 1) 92 #[.int .i64 0, .string ⟨#[]⟩, .string ⟨#[]⟩, .int .i64 0, .nilFunc] := blk_new (w.alloc (.cells #[.string (str n)] 9)) 92 #[.int .i64 0, .string ⟨#[]⟩, .string ⟨#[]⟩, .int .i64 0, .nilFunc] (by simp)
  have hb0 : Below w.heap.size w ((w.alloc (.cells #[.string (str n)] 9)).alloc (.cells #[.int .i64 0, .string ⟨#[]⟩, .string ⟨#[]⟩, .int .i64 0, .nilFunc] 92)) := ((((Below.refl _ _).alloc (Nat.le_refl _) _)).alloc (by simp) _)
  have HZ0 : Hid (w.heap.size + 2 = ((w.alloc (.cells #[.string (str n)] 9)).alloc (.cells #[.int .i64 0, .string ⟨#[]⟩, .string ⟨#[]⟩, .int .i64 0, .nilFunc] 92)).heap.size) := Lib.hid (by simp)
  generalize ((w.alloc (.cells #[.string (str n)] 9)).alloc (.cells #[.int .i64 0, .string ⟨#[]⟩, .string ⟨#[]⟩, .int .i64 0, .nilFunc] 92)) = w3 at *
  refine (sclone_any n w3 hn).mono ?_
  rintro e w4 ⟨rfl, hb⟩
  have c0 := b0.below hb (by have := HZ0.out; omega)
  have c1 := b1.below hb (by have := HZ0.out; omega)
  have hb4 := hb0.trans (hb.mono hb0.size)
  clear hb hb0 b0 b1
  have d0 : Blk _ _ _ #[.string (str n)] := c0.set_ 0 (.string (str n))
  have d1 := c1.far (p := ⟨w.heap.size, 0, none⟩) (by show w.heap.size + 1 ≠ w.heap.size; omega) (.string (str n))
  have HB5 := Lib.hid (hb4.setCell (p := ⟨w.heap.size, 0, none⟩) (Nat.le_refl _) (.string (str n)))
  have e0 : w4.cell? ⟨w.heap.size, 0, none⟩ = some (.string (str n)) := c0.cell 0
  have z0 := c0.frozen 0
  clear hb4 c0 c1
  go_wp2_with (with_reducible refine at_store 92 rfl ?_)
  refine Stop.go (wpList_store_blk (by rfl) (by rfl) 92 _ _ (by rfl) (w.heap.size + 1) #[.int .i64 0, .string ⟨#[]⟩, .string ⟨#[]⟩, .int .i64 0, .nilFunc] (Th.cells (.rem n) w.heap.size (w.heap.size + 1)) (by rfl) (by rfl) 92 d1 (by rfl) (by kernel_rfl) (Th.cells_all _ _ _) ?_)
  intro w5 f5 g5 s5
  have HS5 := Lib.hid s5
  clear s5
  have f0 := d0.grown g5 (by omega)
  go_wp2_with fail
  refine bodyPost_ret (v := .agg (Th.cells (.rem n) w.heap.size (w.heap.size + 1))) (results_cell_row (by rfl) _ _ (w.heap.size + 1) 92 _ (0, 0) _ (by rfl) f5 Try.underlying92 (by rfl) (by kernel_rfl)) rfl ?_
  exact ⟨w.heap.size, w.heap.size + 1, rfl, Nat.le_refl _, by omega, ⟨w.heap.size, w.heap.size + 1, rfl, f0.lt, fun h => h, f0.cell 0, fun v hv => (by cases hv)⟩, below_grown HB5.out g5 (Nat.le_refl _) (by omega)⟩
end Go.Proofs.Ythhiiimmgghhaaa
