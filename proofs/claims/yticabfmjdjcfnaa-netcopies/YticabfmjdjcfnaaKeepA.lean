/-
  Calls of a net of whose own blocks some are known to lie as they lay. Conditions: bounds.
-/
import Derived.Test.YticabfmjdjcfnaaCalls
import Derived.Test.YticabfmjdjcfnaaPut
namespace Go.Proofs.Yticabfmjdjcfnaa.K
open Go.RowKit
set_option linter.unusedVariables false
set_option linter.unusedSectionVars false
/-- Blocks that no call of a net turns, and what lies there. -/
class Quiet where
  Q : Nat → Prop
  H : Nat → Option Obj
open Quiet
variable [Quiet]
/-- A net, of whose own blocks some lie as they lay. -/
structure NtAt (w : World) (S : Nat → Prop) (g : Nat) (s : St) (m : Nat) : Prop extends Go.Proofs.Yticabfmjdjcfnaa.NtAt w S g s m where
  qS : ∀ b, Q b → S b
  qm : ¬ Q m
  qg : ¬ Q g
  qh : ∀ b, Q b → w.heap[b]? = H b
def Nt (w : World) (S : Nat → Prop) (g : Nat) (s : St) : Prop := ∃ m, NtAt w S g s m
section
variable {w w' : World} {S S' T : Nat → Prop} {g m : Nat} {s : St}
theorem NtAt.keep (h : NtAt w S g s m) (ht : Turn T w w') (hT : ∀ b, b < w.heap.size → T b → ¬ S b) : NtAt w' S g s m :=
  ⟨h.toNtAt.keep ht hT, h.qS, h.qm, h.qg, fun b e => (ht.block b (h.lt b (h.qS b e)) (fun q => hT b (h.lt b (h.qS b e)) q (h.qS b e))).trans (h.qh b e)⟩
theorem NtAt.below (h : NtAt w S g s m) (hb : Below w.heap.size w w') : NtAt w' S g s m := h.keep (T := No) (Turn.of_below hb No) (fun _ _ h => h.elim)
theorem Nt.keep (h : Nt w S g s) (ht : Turn T w w') (hT : ∀ b, b < w.heap.size → T b → ¬ S b) : Nt w' S g s := by
  obtain ⟨m, h⟩ := h
  exact ⟨m, h.keep ht hT⟩
theorem Nt.below (h : Nt w S g s) (hb : Below w.heap.size w w') : Nt w' S g s := h.keep (T := No) (Turn.of_below hb No) (fun _ _ h => h.elim)
theorem Nt.old (h : Nt w S g s) : Go.Proofs.Yticabfmjdjcfnaa.Nt w S g s := by obtain ⟨m, h⟩ := h; exact ⟨m, h.toNtAt⟩
theorem Nt.ok (h : Nt w S g s) : s.ok := h.old.ok
theorem Nt.lt (h : Nt w S g s) {b : Nat} (hb : S b) : b < w.heap.size := h.old.lt hb
theorem Nt.g_in (h : Nt w S g s) : S g := h.old.g_in
end
/-- What a call that writes to the net leaves: of what was there only its own has turned, and its own is what was and new memory. -/
def Wrote (w : World) (S : Nat → Prop) (g : Nat) (s' : St) (w' : World) : Prop :=
  Turn S w w' ∧ ∃ S', (∀ b, S b → S' b) ∧ (∀ b, S' b → S b ∨ w.heap.size ≤ b) ∧ Nt w' S' g s'
theorem Wrote.same {w : World} {S : Nat → Prop} {g : Nat} {s : St} (h : Nt w S g s) : Wrote w S g s w := ⟨Turn.refl _ _, S, fun _ h => h, fun _ h => .inl h, h⟩
theorem Wrote.low {w w' : World} {S : Nat → Prop} {g : Nat} {s : St} (h : Nt w S g s) (hb : Below w.heap.size w w') : Wrote w S g s w' := ⟨Turn.of_below hb _, S, fun _ h => h, fun _ h => .inl h, h.below hb⟩
theorem Wrote.after {w0 w w' : World} {S : Nat → Prop} {g : Nat} {s : St} (hb : Below w0.heap.size w0 w) (h : Wrote w S g s w') : Wrote w0 S g s w' := by
  obtain ⟨h1, S', h2, h3, h4⟩ := h
  exact ⟨(Turn.of_below hb S).trans h1 (fun _ _ e => e), S', h2, fun b e => (h3 b e).elim .inl (fun q => .inr (Nat.le_trans hb.size q)), h4⟩
theorem Wrote.then {w w' w'' : World} {S : Nat → Prop} {g : Nat} {s : St} (h : Wrote w S g s w') (hb : Below w'.heap.size w' w'') : Wrote w S g s w'' := by
  obtain ⟨h1, S', h2, h3, h4⟩ := h
  exact ⟨h1.trans (Turn.of_below hb No) (fun _ _ e => e.elim), S', h2, h3, h4.below hb⟩
/-- A write at a block that was made ahead of the call, and is none of the net's. -/
theorem Wrote.cellw {w0 w w' w'' : World} {S : Nat → Prop} {g b : Nat} {s : St} (hb : Below w0.heap.size w0 w) (h : Wrote w S g s w') (hg : w'.grownBy w'' (some b)) (hn : ¬ S b) (hl : w0.heap.size ≤ b) (hu : b < w.heap.size) : Wrote w0 S g s w'' := by
  have hA := Wrote.after hb h
  obtain ⟨h1, S', h2, h3, h4⟩ := h
  obtain ⟨k1, _⟩ := hA
  have hT : Turn (fun r => r = b) w' w'' := Turn.of_grown hg (fun r e => by injection e with e; exact e.symm)
  exact ⟨k1.trans hT (fun r hr e => by omega), S', h2, fun r e => (h3 r e).elim .inl (fun q => .inr (Nat.le_trans hb.size q)), h4.keep hT (fun r _ e e' => by subst e; exact (h3 r e').elim hn (fun q => by omega))⟩
set_option maxRecDepth 100000 in
set_option maxHeartbeats 4000000 in
theorem send_any {w : World} {S X : Nat → Prop} {g mb : Nat} {s : St} (h : NtAt w S g s mb) {m : Msg} {v : Value} (hv : MsgV w X m v) (hX : X g) (hl : s.l.length < s.most) (hb : m.b.length ≤ 4096) (hp : 0 ≤ m.fr ∧ m.fr < 64 ∧ 0 ≤ m.to ∧ m.to < 64) (hc : s.came ≤ 1000000000) :
    Calls Try.prog 33 #[.pointer (some ⟨g, 0, none⟩), v] w fun e w' => e = .returned (.int .i64 (s.came : Int)) ∧ Wrote w S g (s.put m) w' := by
  obtain ⟨A, n, c, rfl, hB⟩ := hv
  have k0 : Blk (w.alloc (.cells #[.int .i64 m.fr, .int .i64 m.to, .slice A n c] 39)) w.heap.size 39 #[.int .i64 m.fr, .int .i64 m.to, .slice A n c] := Blk.new _ _ _
  have hb1 : Below w.heap.size w (w.alloc (.cells #[.int .i64 m.fr, .int .i64 m.to, .slice A n c] 39)) := (Below.refl _ _).alloc (Nat.le_refl _) _
  have h1 := h.below hb1
  have hB1 := hB.below hb1
  have hSlt := h.lt
  have hok := h.ok
  have HQ := Lib.hid (And.intro h.qS (And.intro h.qm (And.intro h.qg h.qh)))
  clear h hB
  go_enter Try.func33, Try.ntmps33
  go_wp2_with fail
  generalize w.alloc (.cells #[.int .i64 m.fr, .int .i64 m.to, .slice A n c] 39) = w1 at *
  have hz1 := hb1.size
  have hgl := hSlt g h1.g_in
  refine (give_any (h1.blk.cell 0) (h1.blk.frozen 0) hc).mono ?_
  rintro e w2 ⟨rfl, e2⟩
  have hT2 : Turn (fun b => b = g) w1 w2 := by rw [e2]; exact (Turn.refl (fun b => b = g) w1).setCell (p := ⟨g, 0, none⟩) (fun _ => rfl) _
  have g2 : Blk w2 g 73 #[.int .i64 ((s.came + 1 : Nat) : Int), .map (some mb), .int .i64 (s.most : Int)] := by rw [e2]; exact h1.blk.first _
  have m2 : NM w2 (fun b => ¬ S b ∨ b = mb ∨ b = g) mb s.l := h1.map.keep hT2 (fun b _ e => .inr (.inr e)) (fun e => h1.ne e)
  have k2 := k0.keep hT2 (by omega)
  have hv2 : MsgV w2 X m (.agg #[.int .i64 m.fr, .int .i64 m.to, .slice A n c]) := ⟨A, n, c, rfl, hB1.keep hT2 (fun b _ e => by subst e; exact hX)⟩
  have hgm := h1.ne
  have hgi := h1.g_in
  have hmi := h1.m_in
  have hTw : Turn S w w2 := (Turn.of_below hb1 S).trans hT2 (fun b _ e => by subst e; exact hgi)
  have HK := Lib.hid (And.intro hb1 (And.intro hSlt (And.intro hok (And.intro hT2 (And.intro m2 hTw)))))
  have hz2 := hT2.size
  have hml := hSlt mb hmi
  clear e2 h1 hB1 hb1 hT2 k0 hSlt hok m2 hTw
  go_wp2_with fail
  refine wp_region_np ?_
  refine wp_region_held_drew (S := fun W => W.cell? ⟨g, 1, none⟩ = some (.map (some mb)) ∧ Blk W w.heap.size 39 #[.int .i64 m.fr, .int .i64 m.to, .slice A n c]) (by kernel_rfl) (show _ ∧ _ from ⟨g2.cell 1, k2⟩) (fun hHeld => ?_)
  refine wpAnyH_takeAt (i := 0) (d := 10) (v := ?vq0x) rfl rfl (by kernel_rfl) (by kernel_rfl) (by kernel_rfl) (fun _ _ _ h => h) (Or.inl ⟨by rfl, ?hyq0x⟩) hHeld ?_
  case hyq0x =>
    intro W hSw
    clear hSw
    (go_simp; try with_reducible rfl)
  simp only [List.setIfInBounds_toArray, List.set_cons_zero, List.set_cons_succ]
  refine wpAnyH_takeAt (i := 1) (d := 11) (v := ?vq1x) rfl rfl (by kernel_rfl) (by kernel_rfl) (by kernel_rfl) (fun _ _ _ h => h) (Or.inl ⟨by rfl, ?hyq1x⟩) hHeld ?_
  case hyq1x =>
    intro W hSw
    clear hSw
    (go_simp; try with_reducible rfl)
  simp only [List.setIfInBounds_toArray, List.set_cons_zero, List.set_cons_succ]
  refine wpAnyH_takeAt (i := 2) (d := 12) (v := ?vq2x) rfl rfl (by kernel_rfl) (by kernel_rfl) (by kernel_rfl) (fun _ _ _ h => h) (Or.inl ⟨by rfl, ?hyq2x⟩) hHeld ?_
  case hyq2x =>
    intro W hSw
    clear hSw
    (go_simp; try with_reducible rfl)
  simp only [List.setIfInBounds_toArray, List.set_cons_zero, List.set_cons_succ]
  refine wpAnyH_takeAt (i := 3) (d := 13) (v := ?vq3x) rfl rfl (by kernel_rfl) (by kernel_rfl) (by kernel_rfl) (fun _ _ _ h => h) (Or.inl ⟨by rfl, ?hyq3x⟩) hHeld ?_
  case hyq3x =>
    intro W hSw
    obtain ⟨sc, sk⟩ : _ ∧ Blk W w.heap.size 39 #[.int .i64 m.fr, .int .i64 m.to, .slice A n c] := hSw; obtain ⟨s0, s1, s2⟩ := sk.three; clear sk
    (go_simp; try with_reducible rfl)
  simp only [List.setIfInBounds_toArray, List.set_cons_zero, List.set_cons_succ]
  refine wpAnyH_takeAt (i := 4) (d := 14) (v := ?vq4x) rfl rfl (by kernel_rfl) (by kernel_rfl) (by kernel_rfl) (fun _ _ _ h => h) (Or.inl ⟨by rfl, ?hyq4x⟩) hHeld ?_
  case hyq4x =>
    intro W hSw
    clear hSw
    (go_simp; try with_reducible rfl)
  simp only [List.setIfInBounds_toArray, List.set_cons_zero, List.set_cons_succ]
  refine wpAnyH_takeAt (i := 5) (d := 15) (v := ?vq5x) rfl rfl (by kernel_rfl) (by kernel_rfl) (by kernel_rfl) (fun _ _ _ h => h) (Or.inl ⟨by rfl, ?hyq5x⟩) hHeld ?_
  case hyq5x =>
    intro W hSw
    obtain ⟨sc, sk⟩ : _ ∧ Blk W w.heap.size 39 #[.int .i64 m.fr, .int .i64 m.to, .slice A n c] := hSw; obtain ⟨s0, s1, s2⟩ := sk.three; clear sk
    (go_simp; try with_reducible rfl)
  simp only [List.setIfInBounds_toArray, List.set_cons_zero, List.set_cons_succ]
  refine wpAnyH_ready (rs := [6]) (by kernel_rfl) (by simp) (AllReadyH.cons rfl (fun K hK => ?_) AllReadyH.nil)
  go_simp
  refine (another_any (w := w2.drew) (v := .agg #[.int .i64 m.fr, .int .i64 m.to, .slice A n c]) (m := m) (X := X) (hv2.below (Below.refl _ _).drew) (by omega)).mono ?_
  rintro e w3 ⟨v3, rfl, hn3, hb3⟩
  dsimp only
  have hb3' : Below w2.heap.size w2 w3 := ((Below.refl _ _).drew).trans hb3
  refine hK.out _ _ (show _ ∧ _ from ⟨(hb3'.cell (p := ⟨g, 1, none⟩) (show g < _ from by omega)).trans (g2.cell 1), k2.below hb3' k2.lt⟩) (fun hHeld => ?_)
  clear hK K
  try simp only [List.setIfInBounds_toArray, List.set_cons_zero, List.set_cons_succ]
  refine wpAnyH_ready (rs := [7]) (by kernel_rfl) (by simp) (AllReadyH.cons rfl (fun K hK => ?_) AllReadyH.nil)
  obtain ⟨q1, q2, q3, q4, q5, q6⟩ := HK.out
  have hz3 := hb3'.size
  have m3 : NM w3 (fun b => ¬ (S b ∨ (w2.heap.size ≤ b ∧ b < w3.heap.size)) ∨ b = mb ∨ b = g) mb s.l := (q5.below hb3').wide (fun b _ e => e.elim (fun e => .inl (fun q => e (.inl q))) .inr)
  have hv3 : MsgV w3 (fun b => ¬ (S b ∨ (w2.heap.size ≤ b ∧ b < w3.heap.size)) ∨ b = mb ∨ b = g) m v3 := by
    obtain ⟨A3, n3, c3, e3, ho3, hnw⟩ := hn3
    refine ⟨A3, n3, c3, e3, ho3.bys (fun r e => ?_)⟩
    have r1 : w2.heap.size ≤ r := hnw r e
    have r2 := ho3.lt e
    rintro (q | q | q)
    · exact q (.inr ⟨r1, r2⟩)
    · omega
    · omega
  obtain ⟨w4, hupd, m4, hg4⟩ := m3.store (c := (s.came : Int)) (by unfold KeyN; omega) (fun p hp => (q3.nums p hp).2) hv3 (by have := q3.hi; omega) (.inr (.inl rfl))
  have hT4 : Turn (fun b => b = mb) w3 w4 := Turn.of_grown hg4 (fun r e => by injection e with e; exact e.symm)
  have g3 := g2.below hb3' g2.lt
  have k3 := k2.below hb3' k2.lt
  have g4 := g3.keep hT4 (fun e => hgm e.symm)
  have k4 := k3.keep hT4 (by omega)
  go_simp
  refine hK.out _ _ (show _ ∧ _ from ⟨g4.cell 1, k4⟩) (fun hHeld => ?_)
  clear hK K
  try simp only [List.setIfInBounds_toArray, List.set_cons_zero, List.set_cons_succ]
  refine wpAnyH_done (by kernel_rfl) ?_ _
  go_wp2_with fail
  go_ret
  have hz4 := hT4.size
  refine ⟨rfl, ?_, fun b => S b ∨ (w2.heap.size ≤ b ∧ b < w3.heap.size), fun b e => .inl e, fun b e => e.elim .inl (fun e => .inr (by omega)), mb, ⟨⟨g4, m4, ok_put' q3 hl hb hp, .inl hgi, .inl hmi, hgm, ?_⟩, fun b e => .inl (HQ.out.1 b e), HQ.out.2.1, HQ.out.2.2.1, fun b e => ?_⟩⟩
  · exact (q6.trans (Turn.of_below hb3' S) (fun _ _ e => e)).trans hT4 (fun b _ e => by subst e; exact hmi)
  · rintro b (e | e)
    · have := q2 b e; omega
    · omega
  · have hbl := q2 b (HQ.out.1 b e)
    have hbg : b ≠ g := fun q => HQ.out.2.2.1 (q ▸ e)
    have hbm : b ≠ mb := fun q => HQ.out.2.1 (q ▸ e)
    exact ((((hT4.block b (by omega) hbm).trans (hb3'.block b (by omega))).trans (q4.block b (by omega) hbg)).trans (q1.block b hbl)).trans (HQ.out.2.2.2 b e)
/-- What a Put leaves and tells. -/
def PutC (w : World) (S : Nat → Prop) (g : Nat) (s : St) (m : Msg) (e : Ending) (w' : World) : Prop := e = .returned (.tuple #[.int .i64 (putN s m), .int .i64 (putC s m)]) ∧ Wrote w S g (s.putA m) w'
theorem PutC.no {w w' : World} {S : Nat → Prop} {g : Nat} {s : St} {m : Msg} {k : Int} (hk : putC s m = k) (h0 : k ≠ 0) (h : Nt w S g s) (hb : Below w.heap.size w w') : PutC w S g s m (.returned (.tuple #[.int .i64 0, .int .i64 k])) w' := by
  subst hk
  obtain ⟨e1, e2⟩ := putA_no h0
  exact ⟨by rw [e2], by rw [e1]; exact Wrote.low h hb⟩
set_option maxRecDepth 100000 in
set_option maxHeartbeats 4000000 in
theorem put_any {w : World} {S X : Nat → Prop} {g : Nat} {s : St} (h : Nt w S g s) {m : Msg} {v : Value} (hv : MsgV w X m v) (hX : X g) (hc : s.came ≤ 1000000000) :
    Calls Try.prog 15 #[.pointer (some ⟨g, 0, none⟩), v] w (PutC w S g s m) := by
  obtain ⟨mb, h⟩ := h
  obtain ⟨A, n, c, rfl, hB⟩ := hv
  have k0 : Blk (w.alloc (.cells #[.int .i64 m.fr, .int .i64 m.to, .slice A n c] 39)) w.heap.size 39 #[.int .i64 m.fr, .int .i64 m.to, .slice A n c] := Blk.new _ _ _
  have hb1 : Below w.heap.size w (w.alloc (.cells #[.int .i64 m.fr, .int .i64 m.to, .slice A n c] 39)) := (Below.refl _ _).alloc (Nat.le_refl _) _
  have h1 := h.below hb1
  have hv1 : MsgV (w.alloc (.cells #[.int .i64 m.fr, .int .i64 m.to, .slice A n c] 39)) X m (.agg #[.int .i64 m.fr, .int .i64 m.to, .slice A n c]) := ⟨A, n, c, rfl, hB.below hb1⟩
  have HN := Lib.hid (show Nt w S g s from ⟨mb, h⟩)
  have HL := Lib.hid hB.1
  have hn : (n : Int) = (m.b.length : Int) := by rw [hB.1]
  have HNI := Lib.hid hn
  clear h hB hn
  go_enter Try.func15, Try.ntmps15
  go_wp2_with fail
  generalize w.alloc (.cells #[.int .i64 m.fr, .int .i64 m.to, .slice A n c] 39) = w1 at *
  obtain ⟨c0, c1, c2⟩ := k0.three
  have hz1 := hb1.size
  refine (made_net h1.toNtAt).mono ?_
  rintro e w' ⟨rfl, rfl⟩
  go_wp2_with fail
  refine (isPlace_any _ _).mono ?_
  rintro e w' ⟨rfl, rfl⟩
  cases hp1 : isPl m.fr with
  | false =>
    have HP := Lib.hid (putC_two (s := s) (m := m) (.inl hp1))
    go_wp2_with fail
    go_ret2
    exact PutC.no HP.out (by omega) HN.out hb1
  | true =>
  go_wp2_with fail
  refine (isPlace_any _ _).mono ?_
  rintro e w' ⟨rfl, rfl⟩
  cases hp2 : isPl m.to with
  | false =>
    have HP := Lib.hid (putC_two (s := s) (m := m) (.inr hp2))
    go_wp2_with fail
    go_ret2
    exact PutC.no HP.out (by omega) HN.out hb1
  | true =>
  have HP1 := Lib.hid hp1
  have HP2 := Lib.hid hp2
  clear hp1 hp2
  by_cases hl : 4096 < m.b.length
  · have HP := Lib.hid (putC_three (s := s) HP1.out HP2.out hl)
    have hd : decide (4096 < (n : Int)) = true := by have := HNI.out; simp; omega
    go_wp2_with fail
    go_ret2
    exact PutC.no HP.out (by omega) HN.out hb1
  · have hl' : m.b.length ≤ 4096 := by omega
    have HLE := Lib.hid hl'
    have hd : decide (4096 < (n : Int)) = false := by have := HNI.out; simp; omega
    clear hl hl'
    go_wp2_with fail
    refine (full_any h1.toNtAt).mono ?_
    rintro e w2 ⟨rfl, hb2⟩
    have h2 := h1.below hb2
    have hv2 := hv1.below hb2
    have k2 := k0.below hb2 k0.lt
    obtain ⟨d0, d1, d2⟩ := k2.three
    have hbw := hb1.trans (hb2.mono hz1)
    by_cases hf : s.most ≤ s.l.length
    · have HP := Lib.hid (putC_crowd HP1.out HP2.out HLE.out hf)
      have hd2 : decide (s.most ≤ s.l.length) = true := by simpa using hf
      rw [hd2]
      go_wp2_with fail
      go_ret2
      exact PutC.no HP.out (by omega) HN.out hbw
    · have hf' : s.l.length < s.most := by omega
      have HP := Lib.hid (putC_ok HP1.out HP2.out HLE.out hf')
      have hd2 : decide (s.most ≤ s.l.length) = false := by simp; omega
      rw [hd2]
      have HF := Lib.hid hf'
      clear hf hf' hd2
      go_wp2_with fail
      have p1 := isPl_iff.1 HP1.out
      have p2 := isPl_iff.1 HP2.out
      refine (send_any h2 hv2 hX HF.out HLE.out ⟨p1.1, p1.2, p2.1, p2.2⟩ hc).mono ?_
      rintro e w3 ⟨rfl, hw3⟩
      go_wp2_with fail
      go_ret2
      obtain ⟨e1, e2⟩ := putA_yes HP.out
      exact ⟨by rw [HP.out, e2]; rfl, by rw [e1]; exact Wrote.after hbw hw3⟩
set_option maxRecDepth 100000 in
set_option maxHeartbeats 4000000 in
theorem leave_any {w : World} {S : Nat → Prop} {g mb : Nat} {s : St} (h : NtAt w S g s mb) {i : Nat} {k : Int} {m : Msg} (hi : s.l[i]? = some (k, m)) :
    Calls Try.prog 44 #[.pointer (some ⟨g, 0, none⟩), .int .i64 k] w fun e w' => Told w m k e w' ∧ Turn S w w' ∧ NtAt w' S g (s.cut i) mb := by
  have hf := find_nth h.ok.rises hi
  have HI := Lib.hid hi
  have HOK := Lib.hid h.ok
  have HQ := Lib.hid (And.intro h.qS (And.intro h.qm (And.intro h.qg h.qh)))
  have k0 : Blk (w.alloc (.cells #[.int .i64 0, .int .i64 0, .slice none 0 0] 39)) w.heap.size 39 #[.int .i64 0, .int .i64 0, .slice none 0 0] := Blk.new _ _ _
  have hb1 : Below w.heap.size w (w.alloc (.cells #[.int .i64 0, .int .i64 0, .slice none 0 0] 39)) := (Below.refl _ _).alloc (Nat.le_refl _) _
  have h1 := h.below hb1
  have hsh := find_short h.ok hf
  have HSL := Lib.hid h.lt
  have HGI := Lib.hid (And.intro h.g_in h.m_in)
  have HNE := Lib.hid h.ne
  clear h hi
  obtain ⟨c0, c1, c2⟩ := h1.blk.three
  obtain ⟨v, hlook, hmv⟩ := h1.map.look hf
  go_enter Try.func44, Try.ntmps44
  go_wp2_with fail
  generalize w.alloc (.cells #[.int .i64 0, .int .i64 0, .slice none 0 0] 39) = w1 at *
  have hz1 := hb1.size
  refine (another_any hmv (by omega)).mono ?_
  rintro e w2 ⟨v2, rfl, hn2, hb2⟩
  have k2 := (k0.below hb2 k0.lt).alloc (.cells #[.int .i64 0, .int .i64 0, .slice none 0 0] 39)
  have hlt := k0.lt
  obtain ⟨A, n, c, rfl⟩ := hn2.row
  go_wp2_with (with_reducible refine at_store 39 rfl ?_)
  have j2 : Blk (w2.alloc (.cells #[.int .i64 0, .int .i64 0, .slice none 0 0] 39)) w2.heap.size 39 #[.int .i64 0, .int .i64 0, .slice none 0 0] := Blk.new _ _ _
  have hbx : Below w2.heap.size w2 (w2.alloc (.cells #[.int .i64 0, .int .i64 0, .slice none 0 0] 39)) := (Below.refl _ _).alloc (Nat.le_refl _) _
  have hb3 := hb2.trans (hbx.mono hb2.size)
  have h3 := h1.below hb3
  have hz3 := hb3.size
  have hz2 := hb2.size
  generalize w2.alloc (.cells #[.int .i64 0, .int .i64 0, .slice none 0 0] 39) = w3 at *
  refine Stop.go (wpList_store_blk (by rfl) (by rfl) 39 _ _ (by rfl) w2.heap.size _ #[.int .i64 m.fr, .int .i64 m.to, .slice A n c] (by rfl) (by rfl) 39 j2 (by rfl) (info39 _ rfl) (by simp [Value.oneCell']) ?_)
  intro w4 f4 g4 s4
  have hT4 : Turn (fun b => b = w2.heap.size) w3 w4 := Turn.of_grown g4 (fun r e => by injection e with e; exact e.symm)
  have k4 := k2.keep hT4 (by omega)
  have h4 := h3.keep hT4 (fun b _ e e' => by have := HSL.out b e'; omega)
  have hb4 : Below w2.heap.size w2 w4 := below_grown hbx g4 (Nat.le_refl _) (Nat.le_refl _)
  have hn4 := hn2.keep hb4
  clear s4
  obtain ⟨w5, hdel, m5, g5⟩ := h4.map.drop' HI.out (.inr (.inl rfl)) 0
  have hT5 : Turn (fun b => b = mb) w4 w5 := Turn.of_grown g5 (fun r e => by injection e with e; exact e.symm)
  have b5 := h4.blk.keep hT5 (fun e => HNE.out e.symm)
  obtain ⟨hgi, hmi⟩ := HGI.out
  have hml := HSL.out mb hmi
  have f5 := f4.keep hT5 (by omega)
  have k5 := k4.keep hT5 (by omega)
  have hn5 := hn4.grown g5 (by omega)
  have hT : Turn S w w5 := ((Turn.of_below (hb1.trans (hb2.mono hz1)) S).trans (Turn.of_below hb4 S) (fun _ _ e => e)).trans hT5 (fun b _ e => by subst e; exact hmi)
  obtain ⟨d0, d1, d2⟩ := h4.blk.three
  obtain ⟨e0, e1, e2⟩ := f5.three
  go_wp2_with (with_reducible refine at_store 39 rfl ?_)
  refine Stop.go (wpList_store_blk (by rfl) (by rfl) 39 _ _ (by rfl) w.heap.size _ #[.int .i64 m.fr, .int .i64 m.to, .slice A n c] (by rfl) (by rfl) 39 k5 (by rfl) (info39 _ rfl) (by simp [Value.oneCell']) ?_)
  intro w6 f6 g6 s6
  clear s6
  have hT6 : Turn (fun b => b = w.heap.size) w5 w6 := Turn.of_grown g6 (fun r e => by injection e with e; exact e.symm)
  have hgl := HSL.out g hgi
  go_wp2_with fail
  refine bodyPost_ret (v := .tuple #[.agg #[.int .i64 m.fr, .int .i64 m.to, .slice A n c], .int .i64 k, .int .i64 0]) (results_ctt (by rfl) _ _ w.heap.size 39 _ (0, 0) _ (by rfl) f6 Try.underlying39 (by rfl) (info39 _ rfl) (by rfl) (by rfl)) rfl ?_
  refine ⟨⟨_, rfl, (hn5.grown g6 (by omega)).since hz1⟩, hT.trans hT6 (fun b hb e => by omega), ?_⟩
  have n5 : NtAt w5 S g (s.cut i) mb := ⟨⟨b5, m5, ok_cut HOK.out i, hgi, hmi, HNE.out, fun b e => by have := HSL.out b e; have := hT.size; omega⟩, HQ.out.1, HQ.out.2.1, HQ.out.2.2.1, fun b e => (((hT5.block b (by have := HSL.out b (HQ.out.1 b e); have := hb4.size; omega) (fun q => HQ.out.2.1 (q ▸ e))).trans (hb4.block b (by have := HSL.out b (HQ.out.1 b e); omega))).trans ((hb1.trans (hb2.mono hz1)).block b (HSL.out b (HQ.out.1 b e)))).trans (HQ.out.2.2.2 b e)⟩
  exact n5.keep hT6 (fun b _ e e' => by have := HSL.out b e'; omega)
set_option maxRecDepth 100000 in
set_option maxHeartbeats 4000000 in
theorem double_yes {w : World} {S : Nat → Prop} {g mb : Nat} {s : St} (h : NtAt w S g s mb) {k : Int} {m : Msg} (hf : find s.l k = some m) (hroom : s.l.length < s.most) (hc : s.came ≤ 1000000000) :
    Calls Try.prog 43 #[.pointer (some ⟨g, 0, none⟩), .int .i64 k] w fun e w' => e = .returned (.tuple #[zMsg, .int .i64 (s.came : Int), .int .i64 0]) ∧ Wrote w S g (s.put m) w' := by
  have k0 : Blk (w.alloc (.cells #[.int .i64 0, .int .i64 0, .slice none 0 0] 39)) w.heap.size 39 #[.int .i64 0, .int .i64 0, .slice none 0 0] := Blk.new _ _ _
  have hb1 : Below w.heap.size w (w.alloc (.cells #[.int .i64 0, .int .i64 0, .slice none 0 0] 39)) := (Below.refl _ _).alloc (Nat.le_refl _) _
  have h1 := h.below hb1
  have HSL := Lib.hid h.lt
  have hd2 : decide (s.most ≤ s.l.length) = false := by simp; omega
  have hsh := find_short h.ok hf
  have hpl := find_place h.ok hf
  clear h
  go_enter Try.func43, Try.ntmps43
  go_wp2_with fail
  generalize w.alloc (.cells #[.int .i64 0, .int .i64 0, .slice none 0 0] 39) = w1 at *
  have hz1 := hb1.size
  refine (full_any h1.toNtAt).mono ?_
  rw [hd2]
  rintro e w2 ⟨rfl, hb2⟩
  have k2 := k0.below hb2 k0.lt
  have h2 := h1.below hb2
  obtain ⟨c0, c1, c2⟩ := h2.blk.three
  obtain ⟨v, hlook, hmv⟩ := h2.map.look hf
  have hbw := hb1.trans (hb2.mono hz1)
  go_wp2_with fail
  refine (send_any h2 hmv (.inr (.inr rfl)) hroom hsh hpl hc).mono ?_
  rintro e w3 ⟨rfl, hw3⟩
  have hlt := k0.lt
  have hT3 := hw3.1
  have k3 := k2.keep hT3 (fun e => by have := HSL.out _ e; omega)
  go_wp2_with (with_reducible refine at_store 39 rfl ?_)
  refine Stop.go (wpList_store_blk (by rfl) (by rfl) 39 _ _ (by rfl) w.heap.size _ #[.int .i64 0, .int .i64 0, .slice none 0 0] (by rfl) (by rfl) 39 k3 (by rfl) (info39 _ rfl) (by simp [Value.oneCell']) ?_)
  intro w4 f4 g4 s4
  clear s4
  go_wp2_with fail
  refine bodyPost_ret (v := .tuple #[zMsg, .int .i64 (s.came : Int), .int .i64 0]) (results_ctt (by rfl) _ _ w.heap.size 39 _ (0, 0) _ (by rfl) f4 Try.underlying39 (by rfl) (info39 _ rfl) (by rfl) (by rfl)) rfl ?_
  exact ⟨rfl, Wrote.cellw hbw hw3 g4 (fun e => by have := HSL.out _ e; omega) (Nat.le_refl _) (by have := hb2.size; omega)⟩
theorem did_leave {w : World} {S : Nat → Prop} {g mb : Nat} {s : St} (h : NtAt w S g s mb) {i : Nat} {num : Int} {m : Msg} (hi : s.l[i]? = some (num, m)) :
    Calls Try.prog 44 #[.pointer (some ⟨g, 0, none⟩), .int .i64 num] w (Did w S fun v a b w1 w2 => a = num ∧ b = 0 ∧ NewMsg w1 m v w2 ∧ Turn S w1 w2 ∧ Nt w2 S g (s.cut i)) := by
  refine (leave_any h hi).mono ?_
  rintro e w' ⟨⟨v, rfl, hn⟩, hT, hN⟩
  obtain ⟨cs, rfl, h1, h2⟩ := hn.cs
  exact ⟨cs, num, 0, rfl, h1, h2, hT, rfl, rfl, hn, hT, mb, hN⟩
theorem did_double {w : World} {S : Nat → Prop} {g mb : Nat} {s : St} (h : NtAt w S g s mb) {i : Nat} {num : Int} {m : Msg} (hi : s.l[i]? = some (num, m)) (hroom : s.l.length < s.most) (hc : s.came ≤ 1000000000) :
    Calls Try.prog 43 #[.pointer (some ⟨g, 0, none⟩), .int .i64 num] w (Did w S fun _ a b w1 w2 => a = (s.came : Int) ∧ b = 0 ∧ Wrote w1 S g (s.put m) w2) := by
  refine (double_yes h (find_nth h.ok.rises hi) hroom hc).mono ?_
  rintro e w' ⟨rfl, hw⟩
  exact ⟨#[.int .i64 0, .int .i64 0, .slice none 0 0], _, _, rfl, rfl, by simp [Value.oneCell'], hw.1, rfl, rfl, hw⟩
set_option maxRecDepth 100000 in
set_option maxHeartbeats 4000000 in
theorem take_some {w : World} {S : Nat → Prop} {g : Nat} {s : St} (h : Nt w S g s) {k num : Int} {m : Msg} (hi : s.l[pick k s.l.length]? = some (num, m)) : Calls Try.prog 24 #[.pointer (some ⟨g, 0, none⟩), .int .i64 k] w fun e w' => Told w m num e w' ∧ Turn S w w' ∧ Nt w' S g (s.cut (pick k s.l.length)) := by
  obtain ⟨mb, h⟩ := h
  have hl : 1 ≤ s.l.length := by
    have := (List.getElem?_eq_some_iff.1 hi).1
    omega
  have HSL := Lib.hid h.lt
  have k0 : Blk (w.alloc (.cells #[.int .i64 0, .int .i64 0, .slice none 0 0] 39)) w.heap.size 39 #[.int .i64 0, .int .i64 0, .slice none 0 0] := Blk.new _ _ _
  have hb1 : Below w.heap.size w (w.alloc (.cells #[.int .i64 0, .int .i64 0, .slice none 0 0] 39)) := (Below.refl _ _).alloc (Nat.le_refl _) _
  have h1 := h.below hb1
  clear h
  go_enter Try.func24, Try.ntmps24
  go_wp2_with fail
  generalize w.alloc (.cells #[.int .i64 0, .int .i64 0, .slice none 0 0] 39) = w1 at *
  refine (doPicked_44 h1.toNtAt k num hl (nth_map hi) _ (fun wx hbx => did_leave (h1.below hbx) hi)).mono ?_
  rintro e w4 ⟨cs, a, b, w2, w3, rfl, hcs, hall, hb2, hlt2, hR, g4⟩
  have hz1 := hb1.size
  have hz2 := hb2.size
  have hlt := k0.lt
  obtain ⟨rfl, rfl, hn, hT3, hN3⟩ := hR
  have hz3 := hT3.size
  have hz4 := g4.size
  have k4 := ((k0.below hb2 k0.lt).keep hT3 (fun e => by have := HSL.out _ e; omega)).grown g4 (by omega)
  go_wp2_with (with_reducible refine at_store 39 rfl ?_)
  refine Stop.go (wpList_store_blk (by rfl) (by rfl) 39 _ _ (by rfl) w.heap.size _ cs (by rfl) (by rfl) 39 k4 (by rw [hcs]; rfl) (info39 _ hcs) hall ?_)
  intro w5 f5 g5 s5
  clear s5
  go_wp2_with fail
  refine bodyPost_ret (v := .tuple #[.agg cs, .int .i64 a, .int .i64 0]) (results_ctt (by rfl) _ _ w.heap.size 39 _ (0, 0) _ (by rfl) f5 Try.underlying39 (by rfl) (info39 _ hcs) (by rfl) (by rfl)) rfl ?_
  have hT4 : Turn (fun b => b = w1.heap.size) w3 w4 := Turn.of_grown g4 (fun r e => by injection e with e; exact e.symm)
  have hT5 : Turn (fun b => b = w.heap.size) w4 w5 := Turn.of_grown g5 (fun r e => by injection e with e; exact e.symm)
  have q1 : Turn S w w2 := Turn.of_below (hb1.trans (hb2.mono hz1)) S
  have q2 : Turn S w w3 := q1.trans hT3 (fun _ _ e => e)
  have q3 : Turn S w w4 := q2.trans hT4 (fun b hb e => by omega)
  have q4 : Turn S w w5 := q3.trans hT5 (fun b hb e => by omega)
  exact ⟨⟨_, rfl, ((hn.grown g4 (by omega)).grown g5 (by omega)).since (by omega)⟩, q4, (hN3.keep hT4 (fun b _ e e' => by have := HSL.out _ e'; omega)).keep hT5 (fun b _ e e' => by have := HSL.out _ e'; omega)⟩
set_option maxRecDepth 100000 in
set_option maxHeartbeats 4000000 in
theorem drop_some {w : World} {S : Nat → Prop} {g : Nat} {s : St} (h : Nt w S g s) {k num : Int} {m : Msg} (hi : s.l[pick k s.l.length]? = some (num, m)) : Calls Try.prog 27 #[.pointer (some ⟨g, 0, none⟩), .int .i64 k] w fun e w' => e = .returned (.tuple #[.int .i64 num, .int .i64 0]) ∧ Turn S w w' ∧ Nt w' S g (s.cut (pick k s.l.length)) := by
  obtain ⟨mb, h⟩ := h
  have hl : 1 ≤ s.l.length := by
    have := (List.getElem?_eq_some_iff.1 hi).1
    omega
  have HSL := Lib.hid h.lt
  go_enter Try.func27, Try.ntmps27
  go_wp2_with fail
  refine (doPicked_44 h.toNtAt k num hl (nth_map hi) _ (fun wx hbx => did_leave (h.below hbx) hi)).mono ?_
  rintro e w4 ⟨cs, a, b, w2, w3, rfl, hcs, hall, hb2, hlt2, hR, g4⟩
  have hz2 := hb2.size
  obtain ⟨rfl, rfl, hn, hT3, hN3⟩ := hR
  have hz3 := hT3.size
  have hz4 := g4.size
  go_wp2_with (with_reducible refine at_store 39 rfl ?_)
  refine Stop.go (wpList_store_blk (by rfl) (by rfl) 39 _ _ (by rfl) w4.heap.size _ cs (by rfl) (by rfl) 39 (Blk.new w4 39 #[.int .i64 0, .int .i64 0, .slice none 0 0]) (by rw [hcs]; rfl) (info39 _ hcs) hall ?_)
  intro w5 f5 g5 s5
  clear s5
  go_wp2_with fail
  go_ret2
  have hT4 : Turn (fun b => b = w.heap.size) w3 w4 := Turn.of_grown g4 (fun r e => by injection e with e; exact e.symm)
  have hT5 : Turn (fun b => b = w4.heap.size) (w4.alloc (.cells #[.int .i64 0, .int .i64 0, .slice none 0 0] 39)) w5 := Turn.of_grown g5 (fun r e => by injection e with e; exact e.symm)
  have q1 : Turn S w w2 := Turn.of_below hb2 S
  have q2 : Turn S w w3 := q1.trans hT3 (fun _ _ e => e)
  have q3 : Turn S w w4 := q2.trans hT4 (fun b hb e => by omega)
  have q4 : Turn S w w5 := (q3.alloc _).trans hT5 (fun b hb e => by omega)
  have hN4 := (hN3.keep hT4 (fun b _ e e' => by have := HSL.out _ e'; omega)).below ((Below.refl _ _).alloc (Nat.le_refl _) (.cells #[.int .i64 0, .int .i64 0, .slice none 0 0] 39))
  exact ⟨rfl, q4, hN4.keep hT5 (fun b _ e e' => by have := HSL.out _ e'; omega)⟩
set_option maxRecDepth 100000 in
set_option maxHeartbeats 4000000 in
theorem dup_some {w : World} {S : Nat → Prop} {g : Nat} {s : St} (h : Nt w S g s) {k num : Int} {m : Msg} (hi : s.l[pick k s.l.length]? = some (num, m)) (hroom : s.l.length < s.most) (hc : s.came ≤ 1000000000) : Calls Try.prog 23 #[.pointer (some ⟨g, 0, none⟩), .int .i64 k] w fun e w' => e = .returned (.tuple #[.int .i64 (s.came : Int), .int .i64 0]) ∧ Wrote w S g (s.put m) w' := by
  obtain ⟨mb, h⟩ := h
  have hl : 1 ≤ s.l.length := by
    have := (List.getElem?_eq_some_iff.1 hi).1
    omega
  have HSL := Lib.hid h.lt
  go_enter Try.func23, Try.ntmps23
  go_wp2_with fail
  refine (doPicked_43 h.toNtAt k num hl (nth_map hi) _ (fun wx hbx => did_double (h.below hbx) hi hroom hc)).mono ?_
  rintro e w4 ⟨cs, a, b, w2, w3, rfl, hcs, hall, hb2, hlt2, hR, g4⟩
  have hz2 := hb2.size
  obtain ⟨rfl, rfl, hw3⟩ := hR
  have hz4 := g4.size
  go_wp2_with (with_reducible refine at_store 39 rfl ?_)
  refine Stop.go (wpList_store_blk (by rfl) (by rfl) 39 _ _ (by rfl) w4.heap.size _ cs (by rfl) (by rfl) 39 (Blk.new w4 39 #[.int .i64 0, .int .i64 0, .slice none 0 0]) (by rw [hcs]; rfl) (info39 _ hcs) hall ?_)
  intro w5 f5 g5 s5
  clear s5
  go_wp2_with fail
  go_ret2
  have hw4 := Wrote.cellw hb2 hw3 g4 (fun e => by have := HSL.out _ e; omega) (Nat.le_refl _) (by omega)
  have hbz : Below w4.heap.size w4 w5 := below_grown ((Below.refl _ _).alloc (Nat.le_refl _) _) g5 (Nat.le_refl _) (Nat.le_refl _)
  exact ⟨rfl, hw4.then hbz⟩
end Go.Proofs.Yticabfmjdjcfnaa.K
