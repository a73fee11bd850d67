/-
  net.Put, and what a pick does: stay, leave, double. Conditions: bounds.
-/
import Derived.Test.YticabfmjdjcfnaaSend2
namespace Go.Proofs.Yticabfmjdjcfnaa
open Go.RowKit
/-- A net behind a Put. -/
def St.putA (s : St) (m : Msg) : St := if putC s m = 0 then s.put m else s
/-- The number that a Put tells. -/
def putN (s : St) (m : Msg) : Int := if putC s m = 0 then (s.came : Int) else 0
theorem putC_two {s : St} {m : Msg} (h : isPl m.fr = false ∨ isPl m.to = false) : putC s m = 2 := by unfold putC; rw [if_pos h]
theorem putC_three {s : St} {m : Msg} (h : isPl m.fr = true) (h' : isPl m.to = true) (hl : 4096 < m.b.length) : putC s m = 3 := by unfold putC; rw [if_neg (by simp [h, h']), if_pos hl]
theorem putC_crowd {s : St} {m : Msg} (h : isPl m.fr = true) (h' : isPl m.to = true) (hl : m.b.length ≤ 4096) (hf : s.most ≤ s.l.length) : putC s m = 150 := by unfold putC; rw [if_neg (by simp [h, h']), if_neg (by omega), if_pos hf]
theorem putC_ok {s : St} {m : Msg} (h : isPl m.fr = true) (h' : isPl m.to = true) (hl : m.b.length ≤ 4096) (hf : s.l.length < s.most) : putC s m = 0 := by unfold putC; rw [if_neg (by simp [h, h']), if_neg (by omega), if_neg (by omega)]
theorem putA_no {s : St} {m : Msg} (h : putC s m ≠ 0) : s.putA m = s ∧ putN s m = 0 := by unfold St.putA putN; rw [if_neg h, if_neg h]; exact ⟨rfl, rfl⟩
theorem putA_yes {s : St} {m : Msg} (h : putC s m = 0) : s.putA m = s.put m ∧ putN s m = (s.came : Int) := by unfold St.putA putN; rw [if_pos h, if_pos h]; exact ⟨rfl, rfl⟩
/-- What a Put leaves and tells. -/
def PutC (w : World) (S : Nat → Prop) (g : Nat) (s : St) (m : Msg) (e : Ending) (w' : World) : Prop := e = .returned (.tuple #[.int .i64 (putN s m), .int .i64 (putC s m)]) ∧ Wrote w S g (s.putA m) w'
theorem PutC.no {w w' : World} {S : Nat → Prop} {g : Nat} {s : St} {m : Msg} {k : Int} (hk : putC s m = k) (h0 : k ≠ 0) (h : Nt w S g s) (hb : Below w.heap.size w w') : PutC w S g s m (.returned (.tuple #[.int .i64 0, .int .i64 k])) w' := by
  subst hk
  obtain ⟨e1, e2⟩ := putA_no h0
  exact ⟨by rw [e2], by rw [e1]; exact Wrote.low h hb⟩
set_option maxRecDepth 100000 in
set_option maxHeartbeats 4000000 in
theorem put_any {w : World} {S X : Nat → Prop} {g : Nat} {s : St} (h : Nt w S g s) {m : Msg} {v : Value} (hv : MsgV w X m v) (hX : X g) (hc : s.came ≤ 1000000000) :
    Calls Try.prog 15 #[.pointer (some ⟨g, 0, none⟩), v] w (PutC w S g s m) := by
  obtain ⟨mb, h⟩ := h
  obtain ⟨A, n, c, rfl, hB⟩ := hv
  have k0 : Blk (w.alloc (.cells #[.int .i64 m.fr, .int .i64 m.to, .slice A n c] 39)) w.heap.size 39 #[.int .i64 m.fr, .int .i64 m.to, .slice A n c] := Blk.new _ _ _
  have hb1 : Below w.heap.size w (w.alloc (.cells #[.int .i64 m.fr, .int .i64 m.to, .slice A n c] 39)) := (Below.refl _ _).alloc (Nat.le_refl _) _
  have h1 := h.below hb1
  have hv1 : MsgV (w.alloc (.cells #[.int .i64 m.fr, .int .i64 m.to, .slice A n c] 39)) X m (.agg #[.int .i64 m.fr, .int .i64 m.to, .slice A n c]) := ⟨A, n, c, rfl, hB.below hb1⟩
  have HN := Lib.hid (show Nt w S g s from ⟨mb, h⟩)
  have HL := Lib.hid hB.1
  have hn : (n : Int) = (m.b.length : Int) := by rw [hB.1]
  have HNI := Lib.hid hn
  clear h hB hn
  go_enter Try.func15, Try.ntmps15
  go_wp2_with fail
  generalize w.alloc (.cells #[.int .i64 m.fr, .int .i64 m.to, .slice A n c] 39) = w1 at *
  obtain ⟨c0, c1, c2⟩ := k0.three
  have hz1 := hb1.size
  refine (made_net h1).mono ?_
  rintro e w' ⟨rfl, rfl⟩
  go_wp2_with fail
  refine (isPlace_any _ _).mono ?_
  rintro e w' ⟨rfl, rfl⟩
  cases hp1 : isPl m.fr with
  | false =>
    have HP := Lib.hid (putC_two (s := s) (m := m) (.inl hp1))
    go_wp2_with fail
    go_ret2
    exact PutC.no HP.out (by omega) HN.out hb1
  | true =>
  go_wp2_with fail
  refine (isPlace_any _ _).mono ?_
  rintro e w' ⟨rfl, rfl⟩
  cases hp2 : isPl m.to with
  | false =>
    have HP := Lib.hid (putC_two (s := s) (m := m) (.inr hp2))
    go_wp2_with fail
    go_ret2
    exact PutC.no HP.out (by omega) HN.out hb1
  | true =>
  have HP1 := Lib.hid hp1
  have HP2 := Lib.hid hp2
  clear hp1 hp2
  by_cases hl : 4096 < m.b.length
  · have HP := Lib.hid (putC_three (s := s) HP1.out HP2.out hl)
    have hd : decide (4096 < (n : Int)) = true := by have := HNI.out; simp; omega
    go_wp2_with fail
    go_ret2
    exact PutC.no HP.out (by omega) HN.out hb1
  · have hl' : m.b.length ≤ 4096 := by omega
    have HLE := Lib.hid hl'
    have hd : decide (4096 < (n : Int)) = false := by have := HNI.out; simp; omega
    clear hl hl'
    go_wp2_with fail
    refine (full_any h1).mono ?_
    rintro e w2 ⟨rfl, hb2⟩
    have h2 := h1.below hb2
    have hv2 := hv1.below hb2
    have k2 := k0.below hb2 k0.lt
    obtain ⟨d0, d1, d2⟩ := k2.three
    have hbw := hb1.trans (hb2.mono hz1)
    by_cases hf : s.most ≤ s.l.length
    · have HP := Lib.hid (putC_crowd HP1.out HP2.out HLE.out hf)
      have hd2 : decide (s.most ≤ s.l.length) = true := by simpa using hf
      rw [hd2]
      go_wp2_with fail
      go_ret2
      exact PutC.no HP.out (by omega) HN.out hbw
    · have hf' : s.l.length < s.most := by omega
      have HP := Lib.hid (putC_ok HP1.out HP2.out HLE.out hf')
      have hd2 : decide (s.most ≤ s.l.length) = false := by simp; omega
      rw [hd2]
      have HF := Lib.hid hf'
      clear hf hf' hd2
      go_wp2_with fail
      have p1 := isPl_iff.1 HP1.out
      have p2 := isPl_iff.1 HP2.out
      refine (send_any h2 hv2 hX HF.out HLE.out ⟨p1.1, p1.2, p2.1, p2.2⟩ hc).mono ?_
      rintro e w3 ⟨rfl, hw3⟩
      go_wp2_with fail
      go_ret2
      obtain ⟨e1, e2⟩ := putA_yes HP.out
      exact ⟨by rw [HP.out, e2]; rfl, by rw [e1]; exact Wrote.after hbw hw3⟩
end Go.Proofs.Yticabfmjdjcfnaa
