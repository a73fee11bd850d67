/-
  The chapter's rows, as waystationlaw03.works asks them: true. Nothing is assumed.
-/
import Derived.Test.YthhiiimmgghhaaaCrash
import Derived.Test.YthhiiimmgghhaaaNew
namespace Go.Proofs.Ythhiiimmgghhaaa
open Go.RowKit
theorem Dk.acted {B : Nat} {w w' : World} {S : Nat → Prop} {g : Nat} {s' : St} (hS : ∀ b, S b → B ≤ b) (hB : B ≤ w.heap.size) (ha : Wrote w S S g s' w') : ∃ S', Dk w' S' S' g s' ∧ (∀ b, S' b → B ≤ b) ∧ Below B w w' := by
  obtain ⟨hT, S', h1, h2, h3⟩ := ha
  refine ⟨S', h3.wide (fun b _ e => .inr e) (fun b e => e), fun b hb => ?_, hT.below hB hS⟩
  rcases h2 b hb with e | e
  · exact hS b e
  · omega
theorem bys_lit (w : World) (l : Bs) (X : Nat → Prop) (fr : Nat × Nat) (hX : ¬ X w.heap.size) : Bys (w.alloc (.cells (l.map byteV).toArray 5 fr)) X (some ⟨w.heap.size, 0, none⟩) l.length l := by
  refine ⟨rfl, fun _ => ⟨_, rfl, by simp, hX, fun j u hu => ?_⟩⟩
  have hadd : (⟨w.heap.size, 0, none⟩ : Addr).add j = ⟨w.heap.size, j, none⟩ := by unfold Addr.add; split <;> simp_all
  rw [hadd, cell_of_row _ w.heap.size j _ 5 fr (heap_alloc_new w _)]
  simp [hu]
theorem lit_step (w : World) (C : Array Value) (n c : Nat) : (convert 32 32 (.slice (some ⟨w.heap.size, 0, none⟩) n c)).run Try.prog (w.alloc (.cells C 5)) = .ok (.slice (some ⟨w.heap.size, 0, none⟩) n c) (w.alloc (.cells C 5 (C.size, C.size + 1))) := Lib.run_convert_bytes_const w 32 5 C n c Try.underlying32 Try.underlying5
/-- A disk in memory of which all is made since block B. -/
def Mine (B : Nat) (g : Nat) (s : St) (w : World) : Prop := ∃ S, Dk w S S g s ∧ (∀ b, S b → B ≤ b) ∧ B ≤ w.heap.size
theorem Mine.below {B : Nat} {g : Nat} {s : St} {w w' : World} (h : Mine B g s w) (hb : Below w.heap.size w w') : Mine B g s w' := by
  obtain ⟨S, h1, h2, h3⟩ := h
  exact ⟨S, h1.below hb, h2, Nat.le_trans h3 hb.size⟩
theorem Mine.wrote {B : Nat} {g : Nat} {s' : St} {w w' : World} {S : Nat → Prop} (h2 : ∀ b, S b → B ≤ b) (h3 : B ≤ w.heap.size) (ha : Wrote w S S g s' w') : Mine B g s' w' ∧ Below B w w' := by
  obtain ⟨S', h4, h5, h6⟩ := Dk.acted h2 h3 ha
  exact ⟨⟨S', h4, h5, Nat.le_trans h3 h6.size⟩, h6⟩
theorem put_mine {B : Nat} {g : Nat} {s : St} {w : World} {Y : Nat → Prop} (h : Mine B g s w) (n : Bs) (A : Option Addr) (q c : Nat) (b : Bs) (hb : Bys w Y A q b) (hn : n.length ≤ 1000000000) (hq : q ≤ 1000000000) (hsz : s.size < 900000) :
    Calls Try.prog 18 #[.pointer (some ⟨g, 0, none⟩), .string (str n), .slice A q c] w fun e w' => e = .returned (.int .i64 (putC s n b)) ∧ Mine B g (if putC s n b = 0 then s.done (.put n b) else s) w' ∧ Below B w w' := by
  obtain ⟨S, h1, h2, h3⟩ := h
  exact (diskPut_any h1 (fun b hb => h1.lt hb) n A q c b hb hn hq hsz).mono fun _ _ ⟨e, ha⟩ => ⟨e, Mine.wrote h2 h3 ha⟩
theorem cut_mine {B : Nat} {g : Nat} {s : St} {w : World} (h : Mine B g s w) (n : Bs) (k : Int) (hn : n.length ≤ 1000000000) (hsz : s.size < 900000) :
    Calls Try.prog 19 #[.pointer (some ⟨g, 0, none⟩), .string (str n), .int .i64 k] w fun e w' => e = .returned (.int .i64 (cutC s n k)) ∧ Mine B g (if cutC s n k = 0 then s.done (.cut n k.toNat) else s) w' ∧ Below B w w' := by
  obtain ⟨S, h1, h2, h3⟩ := h
  exact (diskCut_any h1 (fun b hb => h1.lt hb) n k hn hsz).mono fun _ _ ⟨e, ha⟩ => ⟨e, Mine.wrote h2 h3 ha⟩
theorem remove_mine {B : Nat} {g : Nat} {s : St} {w : World} (h : Mine B g s w) (n : Bs) (hn : n.length ≤ 1000000000) (hsz : s.size < 900000) :
    Calls Try.prog 20 #[.pointer (some ⟨g, 0, none⟩), .string (str n)] w fun e w' => e = .returned (.int .i64 (missC s.files n)) ∧ Mine B g (if missC s.files n = 0 then s.done (.rem n) else s) w' ∧ Below B w w' := by
  obtain ⟨S, h1, h2, h3⟩ := h
  exact (diskRemove_any h1 (fun b hb => h1.lt hb) n hn hsz).mono fun _ _ ⟨e, ha⟩ => ⟨e, Mine.wrote h2 h3 ha⟩
theorem flush_mine {B : Nat} {g : Nat} {s : St} {w : World} (h : Mine B g s w) (hsz : s.size < 900000) :
    Calls Try.prog 21 #[.pointer (some ⟨g, 0, none⟩)] w fun e w' => e = .returned (.int .i64 0) ∧ Mine B g s.flush w' ∧ Below B w w' := by
  obtain ⟨S, h1, h2, h3⟩ := h
  exact (diskFlush_any h1 hsz).mono fun _ _ ⟨e, ha⟩ => ⟨e, Mine.wrote h2 h3 ha⟩
theorem new_mine (r : Nat) (w : World) (h1 : 1 ≤ r) (h2 : r ≤ 16777216) : Calls Try.prog 12 #[.int .i64 (r : Int)] w fun e w' => ∃ g, e = .returned (.tuple #[.pointer (some ⟨g, 0, none⟩), .int .i64 0]) ∧ Mine w.heap.size g ⟨r, [], []⟩ w' ∧ Below w.heap.size w w' := by
  refine (new_yes r w h1 h2).mono ?_
  rintro e w' ⟨g, S, rfl, hD, hS, hb⟩
  exact ⟨g, rfl, ⟨S, hD, hS, hb.size⟩, hb⟩
theorem crash_mine {B : Nat} {g : Nat} {s : St} {w : World} (h : Mine B g s w) (kp tn : Int) (hsz : s.size < 900000) :
    Calls Try.prog 16 #[.pointer (some ⟨g, 0, none⟩), .agg #[.int .i64 kp, .int .i64 tn]] w fun e w' => ∃ g', e = .returned (.tuple #[.pointer (some ⟨g', 0, none⟩), .int .i64 0]) ∧ Mine w.heap.size g' (s.crash kp tn) w' ∧ Below w.heap.size w w' := by
  obtain ⟨S, h1, h2, h3⟩ := h
  refine (diskCrash_any h1 kp tn hsz).mono ?_
  rintro e w' ⟨p, rfl, g', S', rfl, hD, hS, hb⟩
  exact ⟨g', rfl, ⟨S', hD, hS, hb.size⟩, hb⟩
theorem str97 : (⟨#[97]⟩ : ByteArray) = str [97] := rfl
theorem str98 : (⟨#[98]⟩ : ByteArray) = str [98] := rfl
def wk0 : St := ⟨8, [], []⟩
def wk1 : St := ⟨8, [], [.put [97] [104, 105]]⟩
def wk2 : St := ⟨8, [([97], [104, 105])], []⟩
def wk3 : St := ⟨8, [([97], [104, 105])], [.put [97] [121, 111, 117]]⟩
def wk4 : St := ⟨8, [([97], [104, 105, 121, 111])], []⟩
set_option maxRecDepth 100000 in
set_option maxHeartbeats 4000000 in
theorem works_any (w : World) : Calls Try.prog 27 #[] w fun e w' => e = .returned (.bool true) ∧ Below w.heap.size w w' := by
  have hlit := lit_step
  go_enter Try.func27, Try.ntmps27
  go_wp2_with fail
  refine (new_mine 8 w (by omega) (by omega)).mono ?_
  rintro e w1 ⟨g, rfl, hM1, hb1⟩
  go_wp2_with fail
  have hM2 := hM1.below ((Below.refl _ w1).alloc (Nat.le_refl _) (.cells (([104, 105] : Bs).map byteV).toArray 5 (2, 3)))
  have hb2 := hb1.alloc hb1.size (.cells (([104, 105] : Bs).map byteV).toArray 5 (2, 3))
  refine (put_mine hM2 [97] _ 2 _ [104, 105] (bys_lit w1 [104, 105] No (2, 3) (fun h => h)) (by simp) (by omega) (by simp [St.size])).mono ?_
  rintro e w3 ⟨rfl, hM3, hb3⟩
  rw [show putC ⟨8, [], []⟩ [97] [104, 105] = 0 from by decide] at hM3 ⊢
  have hM3' : Mine w.heap.size g wk1 w3 := hM3
  have hb3' := hb2.trans hb3
  clear hM1 hM2 hM3 hb1 hb2 hb3
  go_wp2_with fail
  refine (flush_mine hM3' (by simp [St.size, wk1])).mono ?_
  rintro e w4 ⟨rfl, hM4, hb4⟩
  have hM4' : Mine w.heap.size g wk2 w4 := by
    have e : wk1.flush = wk2 := by unfold St.flush wk2; rw [show wk1.files = [([97], [104, 105])] from by decide +kernel]; rfl
    rw [← e]; exact hM4
  have hb4' := hb3'.trans hb4
  clear hM3' hM4 hb3' hb4
  go_wp2_with fail
  have hM5 := hM4'.below ((Below.refl _ w4).alloc (Nat.le_refl _) (.cells (([121, 111, 117] : Bs).map byteV).toArray 5 (3, 4)))
  have hb5 := hb4'.alloc hb4'.size (.cells (([121, 111, 117] : Bs).map byteV).toArray 5 (3, 4))
  refine (put_mine hM5 [97] _ 3 _ [121, 111, 117] (bys_lit w4 [121, 111, 117] No (3, 4) (fun h => h)) (by simp) (by omega) (by simp [St.size, wk2])).mono ?_
  rintro e w6 ⟨rfl, hM6, hb6⟩
  rw [show putC wk2 [97] [121, 111, 117] = 0 from by decide] at hM6 ⊢
  have hM6' : Mine w.heap.size g wk3 w6 := hM6
  have hb6' := hb5.trans hb6
  clear hM4' hM5 hM6 hb4' hb5 hb6
  go_wp2_with fail
  have hM7 := hM6'.below ((Below.refl _ w6).alloc (Nat.le_refl _) (.cells (([49, 50, 51, 52] : Bs).map byteV).toArray 5 (4, 5)))
  have hb7 := hb6'.alloc hb6'.size (.cells (([49, 50, 51, 52] : Bs).map byteV).toArray 5 (4, 5))
  refine (put_mine hM7 [98] _ 4 _ [49, 50, 51, 52] (bys_lit w6 [49, 50, 51, 52] No (4, 5) (fun h => h)) (by simp) (by omega) (by simp [St.size, wk3])).mono ?_
  rintro e w8 ⟨rfl, hM8, hb8⟩
  rw [show putC wk3 [98] [49, 50, 51, 52] = 131 from by decide +kernel] at hM8 ⊢
  have hM8' : Mine w.heap.size g wk3 w8 := hM8
  have hb8' := hb7.trans hb8
  clear hM6' hM7 hM8 hb6' hb7 hb8
  go_wp2_with fail
  refine (crash_mine hM8' 0 2 (by simp [St.size, wk3])).mono ?_
  rintro e w9 ⟨g', rfl, hC9, hb9⟩
  have hC9' : Mine w8.heap.size g' wk4 w9 := by
    have e : wk3.crash 0 2 = wk4 := by unfold St.crash wk4; rw [show left wk3 0 2 = [([97], [104, 105, 121, 111])] from by decide +kernel]; rfl
    rw [← e]; exact hC9
  have hM9 := hM8'.below hb9
  have hb9' := hb8'.trans (hb9.mono hb8'.size)
  clear hC9 hM8' hb8' hb9
  go_wp2_with fail
  obtain ⟨SC, hDC, hSC, hBC⟩ := hC9'
  refine (diskRead_any hDC [97] (by simp)).mono ?_
  rintro e w10 ⟨v, rfl, ho, hv, hb10⟩
  have em : missC wk4.files [97] = 0 := by decide +kernel
  rw [em] at ho ⊢
  rw [if_pos rfl, show (find wk4.files [97]).getD [] = [104, 105, 121, 111] from by decide +kernel] at ho
  obtain ⟨A10, q10, c10, rfl, -, -, -⟩ := ho.form
  have hcv := conv_str w10 No A10 q10 c10 _ (ho.bys (fun _ _ h => h))
  obtain ⟨SM, hDM, hSM, hBM⟩ := hM9
  have hw1 := waits_any (hDM.below hb10)
  have hw2 := waits_any (hDC.below hb10)
  have hb10' := hb9'.trans (hb10.mono hb9'.size)
  rw [show str [104, 105, 121, 111] = ⟨#[104, 105, 121, 111]⟩ from rfl] at hcv
  rw [show wk3.waits.length = 1 from rfl] at hw1
  rw [show wk4.waits.length = 0 from rfl] at hw2
  clear ho em hDC hDM hb9' hb10 hlit
  go_wp2_with (first
    | (go_at_call 17; refine (num_any _ _).mono ?_; rintro e w' ⟨rfl, rfl⟩)
    | (go_at_call_of 22 (Value.pointer (some ⟨g, 0, none⟩)); refine hw1.mono ?_; rintro e w' ⟨rfl, rfl⟩)
    | (go_at_call_of 22 (Value.pointer (some ⟨g', 0, none⟩)); refine hw2.mono ?_; rintro e w' ⟨rfl, rfl⟩))
  go_ret
  exact ⟨rfl, hb10'⟩
end Go.Proofs.Ythhiiimmgghhaaa
