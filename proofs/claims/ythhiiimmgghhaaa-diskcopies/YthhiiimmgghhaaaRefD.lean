/-
  The document's disk in memory, and its files as they stand.
-/
import Derived.Test.YthhiiimmgghhaaaFind
import Derived.Test.YthhiiimmgghhaaaLastsW
namespace Go.Proofs.Ythhiiimmgghhaaa
open Go.RowKit
/-- The document's disk. -/
structure RDk where
  room : Nat
  lasts : FL
  waits : List RT
def RDk.st (d : RDk) : St := ⟨d.room, d.lasts, d.waits.map RT.th⟩
/-- A thing that may wait. -/
def WOk (t : RT) : Prop := (t.what = 0 ∨ t.what = 1 ∨ t.what = 2) ∧ (t.what = 1 → 0 ≤ t.n) ∧ t.bytes.length ≤ 100000000
def RDk.ok (d : RDk) : Prop := d.st.ok ∧ (∀ t ∈ d.waits, WOk t) ∧ d.st.size ≤ 900000
def RDAt (w : World) (X : Nat → Prop) (d : RDk) (cs : Array Value) : Prop :=
  ∃ A n c B m k, cs = #[.int .i64 (d.room : Int), .slice A n c, .slice B m k] ∧ RFs w X A n d.lasts ∧ n ≤ c ∧ c ≤ maxLen ∧ RTs w X B m d.waits ∧ m ≤ k ∧ k ≤ maxLen
section
variable {w w' : World} {X X' S : Nat → Prop} {d : RDk} {cs : Array Value}
theorem RDAt.keep (h : RDAt w X d cs) (ht : Turn S w w') (hS : ∀ b, b < w.heap.size → S b → X b) : RDAt w' X d cs := by
  obtain ⟨A, n, c, B, m, k, e, h1, h2, h3, h4, h5⟩ := h
  exact ⟨A, n, c, B, m, k, e, h1.keep ht hS, h2, h3, h4.keep ht hS, h5⟩
theorem RDAt.wide (h : RDAt w X d cs) (hX : ∀ b, b < w.heap.size → X' b → X b) : RDAt w X' d cs := by
  obtain ⟨A, n, c, B, m, k, e, h1, h2, h3, h4, h5⟩ := h
  exact ⟨A, n, c, B, m, k, e, h1.wide hX, h2, h3, h4.wide hX, h5⟩
theorem RDAt.below (h : RDAt w X d cs) (hb : Below w.heap.size w w') : RDAt w' X d cs := h.keep (S := No) (Turn.of_below hb No) (fun _ _ h => h.elim)
end
theorem after_len : ∀ (ts : List Th) (l : FL), (after l ts).length ≤ l.length + ts.length
  | [], l => by simp [after]
  | t :: ts, l => by
    have h1 := after_len ts (t.on l)
    have h2 := length_on t l
    rw [after_cons]
    simp only [List.length_cons]
    omega
def RDk.upto (d : RDk) (k : Nat) : FL := after d.lasts ((d.waits.take k).map RT.th)
theorem RDk.upto_next (d : RDk) {k : Nat} (h : k < d.waits.length) : d.upto (k + 1) = d.waits[k].th.on (d.upto k) := by
  unfold RDk.upto
  rw [List.take_succ_eq_append_getElem h, List.map_append]
  exact after_snoc _ _ _
theorem RDk.upto_rises {d : RDk} (h : d.ok) (k : Nat) : Rises (d.upto k) := rises_after _ h.1.2.2.1
theorem RDk.upto_len {d : RDk} (h : d.ok) (k : Nat) : (d.upto k).length ≤ 900000 := by
  have h1 := after_len ((d.waits.take k).map RT.th) d.lasts
  have h2 := h.2.2
  unfold St.size RDk.st at h2
  simp only [List.length_map, List.length_take] at h1 h2
  unfold RDk.upto
  omega
theorem RDk.upto_can {d : RDk} (h : d.ok) {k : Nat} (hk : k < d.waits.length) : d.waits[k].th.can (d.upto k) ∧ total (d.upto k) ≤ 16777216 := by
  have h1 := h.1.2.2.2.next (k := k) (t := d.waits[k].th) (by unfold RDk.st; simp [hk])
  have h2 := h.1.2.1
  unfold RDk.upto
  unfold RDk.st at h1 h2
  simp only [← List.map_take] at h1
  exact ⟨h1.1, Nat.le_trans h1.2.1 h2⟩
theorem cut_ok {t : RT} {l : FL} (hr : Rises l) (hc : t.th.can l) (hn : t.what = 1 → 0 ≤ t.n) : t.what = 1 → 0 ≤ t.n ∧ ∀ p ∈ l, p.1 = t.name → t.n ≤ (p.2.length : Int) := by
  intro h1
  refine ⟨hn h1, fun p hp e => ?_⟩
  have h0 : t.what ≠ 0 := by omega
  unfold RT.th at hc
  rw [if_neg h0, if_pos h1] at hc
  obtain ⟨b, hb, hl⟩ := hc
  have := find_of_mem hr (n := p.1) (b := p.2) hp
  rw [e, hb] at this
  cases this
  have := hn h1
  omega
set_option maxRecDepth 100000 in
set_option maxHeartbeats 4000000 in
theorem refFiles_any {w : World} {X : Nat → Prop} {d : RDk} {cs : Array Value} (h : RDAt w X d cs) (hX : ∀ b, X b → b < w.heap.size) (hok : d.ok) :
    Calls Try.prog 31 #[.agg cs] w fun e w' => ∃ A' n' c', e = .returned (.slice A' n' c') ∧ RFs w' X A' n' d.st.files ∧ n' ≤ c' ∧ c' ≤ maxLen ∧ Below w.heap.size w w' := by
  obtain ⟨A, n, c, B, m, k0, rfl, hf, hnc, hcm, ht, hmk, hkm⟩ := h
  have hlen := ht.len
  have HF := Lib.hid hf
  have HT := Lib.hid ht
  have HX := Lib.hid hX
  have HO := Lib.hid hok
  have HM := Lib.hid hlen
  have HSZ : Hid (m ≤ 900000) := Lib.hid (by
    have h2 := hok.2.2
    unfold St.size RDk.st at h2
    simp only [List.length_map] at h2
    omega)
  clear hf ht hX hok hlen
  go_enter Try.func31, Try.ntmps31
  have hb0 : Below w.heap.size w (w.alloc (.cells #[.int .i64 (d.room : Int), .slice A n c, .slice B m k0] 29)) := (Below.refl _ _).alloc (Nat.le_refl _) _
  have hbx : Blk (w.alloc (.cells #[.int .i64 (d.room : Int), .slice A n c, .slice B m k0] 29)) w.heap.size 29 #[.int .i64 (d.room : Int), .slice A n c, .slice B m k0] := Blk.new _ _ _
  go_wp2_with fail
  generalize w.alloc (.cells #[.int .i64 (d.room : Int), .slice A n c, .slice B m k0] 29) = w1 at *
  go_loopw [3, 4] (fun o i wr => ∃ k : Nat, k ≤ m ∧ i = .int .i64 k ∧ (∃ Ao qo co, o = .slice Ao qo co ∧ RFs wr X Ao qo (d.upto k) ∧ qo ≤ co ∧ co ≤ maxLen) ∧ Below w.heap.size w wr ∧ Blk wr w.heap.size 29 #[.int .i64 (d.room : Int), .slice A n c, .slice B m k0]) (fun _ i _ => m - (intOf i).toNat)
  case atStart => exact ⟨0, by omega, rfl, ⟨A, n, c, rfl, HF.out.below hb0, hnc, hcm⟩, hb0, hbx⟩
  case round =>
    obtain ⟨k, hk, rfl, ⟨Ao, qo, co, rfl, hro, hqco, hcmo⟩, hb, hbk⟩ := hrel
    have HB := Lib.hid hb
    have HK := Lib.hid hbk
    have HR := Lib.hid hro
    have b1 := hbk.cell 1
    have b2 := hbk.cell 2
    simp at b1 b2
    have hm9 := HSZ.out
    clear hb hbk hro hb0 hbx
    by_cases hlt : k < m
    case neg =>
      have hd1 : decide (k < m) = false := by simpa using hlt
      have HE : Hid (d.upto k = d.st.files) := Lib.hid (by
        unfold RDk.upto RDk.st St.files
        rw [List.take_of_length_le (by have := HM.out; omega)])
      go_wp2_with fail
      go_ret
      exact ⟨Ao, qo, co, rfl, by rw [← HE.out]; exact HR.out, hqco, hcmo, HB.out⟩
    case pos =>
    have hk1 : k < d.waits.length := by have := HM.out; omega
    have hbw : Below w.heap.size w wr := HB.out
    obtain ⟨ad, B1, q1, c1, rfl, ha1, s0, s1, s2, s3, hy1, hq1, hc1⟩ := (HT.out.below hbw).at_ hk1
    have hcan := RDk.upto_can HO.out hk1
    have hris := RDk.upto_rises HO.out k
    have hwk := HO.out.2.1 d.waits[k] (List.getElem_mem hk1)
    have hlo := RDk.upto_len HO.out k
    have hqo := HR.out.len
    have HC := Lib.hid (done_any (c := co) HR.out (fun b hb => Nat.lt_of_lt_of_le (HX.out b hb) HB.out.size) (t := d.waits[k]) (Y := X) (cs := #[.int .i64 d.waits[k].what, .string (str d.waits[k].name), .slice B1 q1 c1, .int .i64 d.waits[k].n]) ⟨B1, q1, c1, rfl, hy1, hq1, hc1⟩ hwk.1 (cut_ok hris hcan.1 hwk.2.1) (by omega) hwk.2.2 (by have := hcan.2; omega))
    have HN : Hid (d.upto (k + 1) = doneR d.waits[k] (d.upto k)) := Lib.hid (by rw [d.upto_next hk1, doneR_on hris])
    clear hcan hris hwk hlo hqo hy1
    go_wp2_with fail
    refine HC.out.mono ?_
    rintro e w2 ⟨A2, q2, c2, rfl, hr2, hqc2, hcm2, hb2⟩
    have HR2 := Lib.hid hr2
    clear hr2
    go_wp2_with fail
    exact ⟨⟨k + 1, by omega, by go_num, ⟨A2, q2, c2, rfl, by rw [HN.out]; exact HR2.out, hqc2, hcm2⟩, HB.out.trans (hb2.mono HB.out.size), HK.out.below hb2 HK.out.lt⟩, by simp [intOf]; omega⟩
end Go.Proofs.Ythhiiimmgghhaaa
