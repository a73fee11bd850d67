/-
  net.send: another message is on its way. Conditions: bounds.
-/
import Derived.Test.YticabfmjdjcfnaaKeys
namespace Go.Proofs.Yticabfmjdjcfnaa
open Go.RowKit
set_option maxRecDepth 100000 in
set_option maxHeartbeats 4000000 in
theorem send_any {w : World} {S X : Nat → Prop} {g mb : Nat} {s : St} (h : NtAt w S g s mb) {m : Msg} {v : Value} (hv : MsgV w X m v) (hX : X g) (hl : s.l.length < s.most) (hb : m.b.length ≤ 4096) (hp : 0 ≤ m.fr ∧ m.fr < 64 ∧ 0 ≤ m.to ∧ m.to < 64) (hc : s.came ≤ 1000000000) :
    Calls Try.prog 33 #[.pointer (some ⟨g, 0, none⟩), v] w fun e w' => e = .returned (.int .i64 (s.came : Int)) ∧ Wrote w S g (s.put m) w' := by
  obtain ⟨A, n, c, rfl, hB⟩ := hv
  have k0 : Blk (w.alloc (.cells #[.int .i64 m.fr, .int .i64 m.to, .slice A n c] 39)) w.heap.size 39 #[.int .i64 m.fr, .int .i64 m.to, .slice A n c] := Blk.new _ _ _
  have hb1 : Below w.heap.size w (w.alloc (.cells #[.int .i64 m.fr, .int .i64 m.to, .slice A n c] 39)) := (Below.refl _ _).alloc (Nat.le_refl _) _
  have h1 := h.below hb1
  have hB1 := hB.below hb1
  have hSlt := h.lt
  have hok := h.ok
  clear h hB
  go_enter Try.func33, Try.ntmps33
  go_wp2_with fail
  generalize w.alloc (.cells #[.int .i64 m.fr, .int .i64 m.to, .slice A n c] 39) = w1 at *
  have hz1 := hb1.size
  have hgl := hSlt g h1.g_in
  refine (give_any (h1.blk.cell 0) (h1.blk.frozen 0) hc).mono ?_
  rintro e w2 ⟨rfl, e2⟩
  have hT2 : Turn (fun b => b = g) w1 w2 := by rw [e2]; exact (Turn.refl (fun b => b = g) w1).setCell (p := ⟨g, 0, none⟩) (fun _ => rfl) _
  have g2 : Blk w2 g 73 #[.int .i64 ((s.came + 1 : Nat) : Int), .map (some mb), .int .i64 (s.most : Int)] := by rw [e2]; exact h1.blk.first _
  have m2 : NM w2 (fun b => ¬ S b ∨ b = mb ∨ b = g) mb s.l := h1.map.keep hT2 (fun b _ e => .inr (.inr e)) (fun e => h1.ne e)
  have k2 := k0.keep hT2 (by omega)
  have hv2 : MsgV w2 X m (.agg #[.int .i64 m.fr, .int .i64 m.to, .slice A n c]) := ⟨A, n, c, rfl, hB1.keep hT2 (fun b _ e => by subst e; exact hX)⟩
  have hgm := h1.ne
  have hgi := h1.g_in
  have hmi := h1.m_in
  have hTw : Turn S w w2 := (Turn.of_below hb1 S).trans hT2 (fun b _ e => by subst e; exact hgi)
  have HK := Lib.hid (And.intro hb1 (And.intro hSlt (And.intro hok (And.intro hT2 (And.intro m2 hTw)))))
  have hz2 := hT2.size
  have hml := hSlt mb hmi
  clear e2 h1 hB1 hb1 hT2 k0 hSlt hok m2 hTw
  go_wp2_with fail
  refine wp_region_np ?_
  refine wp_region_held_drew (S := fun W => W.cell? ⟨g, 1, none⟩ = some (.map (some mb)) ∧ Blk W w.heap.size 39 #[.int .i64 m.fr, .int .i64 m.to, .slice A n c]) (by kernel_rfl) (show _ ∧ _ from ⟨g2.cell 1, k2⟩) (fun hHeld => ?_)
  refine wpAnyH_takeAt (i := 0) (d := 10) (v := ?vq0x) rfl rfl (by kernel_rfl) (by kernel_rfl) (by kernel_rfl) (fun _ _ _ h => h) (Or.inl ⟨by rfl, ?hyq0x⟩) hHeld ?_
  case hyq0x =>
    intro W hSw
    clear hSw
    (go_simp; try with_reducible rfl)
  simp only [List.setIfInBounds_toArray, List.set_cons_zero, List.set_cons_succ]
  refine wpAnyH_takeAt (i := 1) (d := 11) (v := ?vq1x) rfl rfl (by kernel_rfl) (by kernel_rfl) (by kernel_rfl) (fun _ _ _ h => h) (Or.inl ⟨by rfl, ?hyq1x⟩) hHeld ?_
  case hyq1x =>
    intro W hSw
    clear hSw
    (go_simp; try with_reducible rfl)
  simp only [List.setIfInBounds_toArray, List.set_cons_zero, List.set_cons_succ]
  refine wpAnyH_takeAt (i := 2) (d := 12) (v := ?vq2x) rfl rfl (by kernel_rfl) (by kernel_rfl) (by kernel_rfl) (fun _ _ _ h => h) (Or.inl ⟨by rfl, ?hyq2x⟩) hHeld ?_
  case hyq2x =>
    intro W hSw
    clear hSw
    (go_simp; try with_reducible rfl)
  simp only [List.setIfInBounds_toArray, List.set_cons_zero, List.set_cons_succ]
  refine wpAnyH_takeAt (i := 3) (d := 13) (v := ?vq3x) rfl rfl (by kernel_rfl) (by kernel_rfl) (by kernel_rfl) (fun _ _ _ h => h) (Or.inl ⟨by rfl, ?hyq3x⟩) hHeld ?_
  case hyq3x =>
    intro W hSw
    obtain ⟨sc, sk⟩ : _ ∧ Blk W w.heap.size 39 #[.int .i64 m.fr, .int .i64 m.to, .slice A n c] := hSw; obtain ⟨s0, s1, s2⟩ := sk.three; clear sk
    (go_simp; try with_reducible rfl)
  simp only [List.setIfInBounds_toArray, List.set_cons_zero, List.set_cons_succ]
  refine wpAnyH_takeAt (i := 4) (d := 14) (v := ?vq4x) rfl rfl (by kernel_rfl) (by kernel_rfl) (by kernel_rfl) (fun _ _ _ h => h) (Or.inl ⟨by rfl, ?hyq4x⟩) hHeld ?_
  case hyq4x =>
    intro W hSw
    clear hSw
    (go_simp; try with_reducible rfl)
  simp only [List.setIfInBounds_toArray, List.set_cons_zero, List.set_cons_succ]
  refine wpAnyH_takeAt (i := 5) (d := 15) (v := ?vq5x) rfl rfl (by kernel_rfl) (by kernel_rfl) (by kernel_rfl) (fun _ _ _ h => h) (Or.inl ⟨by rfl, ?hyq5x⟩) hHeld ?_
  case hyq5x =>
    intro W hSw
    obtain ⟨sc, sk⟩ : _ ∧ Blk W w.heap.size 39 #[.int .i64 m.fr, .int .i64 m.to, .slice A n c] := hSw; obtain ⟨s0, s1, s2⟩ := sk.three; clear sk
    (go_simp; try with_reducible rfl)
  simp only [List.setIfInBounds_toArray, List.set_cons_zero, List.set_cons_succ]
  refine wpAnyH_ready (rs := [6]) (by kernel_rfl) (by simp) (AllReadyH.cons rfl (fun K hK => ?_) AllReadyH.nil)
  go_simp
  refine (another_any (w := w2.drew) (v := .agg #[.int .i64 m.fr, .int .i64 m.to, .slice A n c]) (m := m) (X := X) (hv2.below (Below.refl _ _).drew) (by omega)).mono ?_
  rintro e w3 ⟨v3, rfl, hn3, hb3⟩
  dsimp only
  have hb3' : Below w2.heap.size w2 w3 := ((Below.refl _ _).drew).trans hb3
  refine hK.out _ _ (show _ ∧ _ from ⟨(hb3'.cell (p := ⟨g, 1, none⟩) (show g < _ from by omega)).trans (g2.cell 1), k2.below hb3' k2.lt⟩) (fun hHeld => ?_)
  clear hK K
  try simp only [List.setIfInBounds_toArray, List.set_cons_zero, List.set_cons_succ]
  refine wpAnyH_ready (rs := [7]) (by kernel_rfl) (by simp) (AllReadyH.cons rfl (fun K hK => ?_) AllReadyH.nil)
  obtain ⟨q1, q2, q3, q4, q5, q6⟩ := HK.out
  have hz3 := hb3'.size
  have m3 : NM w3 (fun b => ¬ (S b ∨ (w2.heap.size ≤ b ∧ b < w3.heap.size)) ∨ b = mb ∨ b = g) mb s.l := (q5.below hb3').wide (fun b _ e => e.elim (fun e => .inl (fun q => e (.inl q))) .inr)
  have hv3 : MsgV w3 (fun b => ¬ (S b ∨ (w2.heap.size ≤ b ∧ b < w3.heap.size)) ∨ b = mb ∨ b = g) m v3 := by
    obtain ⟨A3, n3, c3, e3, ho3, hnw⟩ := hn3
    refine ⟨A3, n3, c3, e3, ho3.bys (fun r e => ?_)⟩
    have r1 : w2.heap.size ≤ r := hnw r e
    have r2 := ho3.lt e
    rintro (q | q | q)
    · exact q (.inr ⟨r1, r2⟩)
    · omega
    · omega
  obtain ⟨w4, hupd, m4, hg4⟩ := m3.store (c := (s.came : Int)) (by unfold KeyN; omega) (fun p hp => (q3.nums p hp).2) hv3 (by have := q3.hi; omega) (.inr (.inl rfl))
  have hT4 : Turn (fun b => b = mb) w3 w4 := Turn.of_grown hg4 (fun r e => by injection e with e; exact e.symm)
  have g3 := g2.below hb3' g2.lt
  have k3 := k2.below hb3' k2.lt
  have g4 := g3.keep hT4 (fun e => hgm e.symm)
  have k4 := k3.keep hT4 (by omega)
  go_simp
  refine hK.out _ _ (show _ ∧ _ from ⟨g4.cell 1, k4⟩) (fun hHeld => ?_)
  clear hK K
  try simp only [List.setIfInBounds_toArray, List.set_cons_zero, List.set_cons_succ]
  refine wpAnyH_done (by kernel_rfl) ?_ _
  go_wp2_with fail
  go_ret
  have hz4 := hT4.size
  refine ⟨rfl, ?_, fun b => S b ∨ (w2.heap.size ≤ b ∧ b < w3.heap.size), fun b e => .inl e, fun b e => e.elim .inl (fun e => .inr (by omega)), mb, ⟨g4, m4, ok_put' q3 hl hb hp, .inl hgi, .inl hmi, hgm, ?_⟩⟩
  · exact (q6.trans (Turn.of_below hb3' S) (fun _ _ e => e)).trans hT4 (fun b _ e => by subst e; exact hmi)
  · rintro b (e | e)
    · have := q2 b e; omega
    · omega
end Go.Proofs.Yticabfmjdjcfnaa
