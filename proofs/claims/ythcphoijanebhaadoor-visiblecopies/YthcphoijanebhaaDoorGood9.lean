/-
  Which logs are good. Conditions: at most 1000000 entries, of IDs and Nums of 64 bits.
-/
import Derived.Test.YthcphoijanebhaaDoorPush9
import Derived.Test.YthcphoijanebhaaDoorTof9
namespace Go.Proofs.YthcphoijanebhaaDoor
open Go.RowKit Go.Maps
set_option linter.unusedVariables false
/-- Each entry may be pushed behind those ahead of it. -/
def GoodL (l : List Ent) : Prop := ∀ j e, l[j]? = some e → pushE (l.take j) e = 0
theorem whyE_ne (l : List Ent) (e : Ent) : whyE l e ≠ 0 := by
  unfold whyE
  split
  · omega
  · decide
theorem push_zero {l : List Ent} {e : Ent} (h : pushE l e = 0) : endd l e = false ∧ appendE l e = 0 := by
  unfold pushE at h
  split at h
  · exact absurd h (whyE_ne l e)
  · next q => exact ⟨by simpa using q, h⟩
theorem push1_take {l : List Ent} {e : Ent} {k : Nat} (he : l[k]? = some e) (h : pushE (l.take k) e = 0) : push1 (l.take k) e = l.take (k + 1) := by
  obtain ⟨h1, h2⟩ := push_zero h
  unfold push1 keep1
  rw [if_neg (by rw [h1]; decide), if_pos h2, List.take_add_one, he]
  rfl
/-- Between two rounds. -/
def GdI (w : World) (r : Nat) (l : List Ent) (k : Nat) (W : World) : Prop :=
  ∃ S, Rr W S r (l.take k) 0 [] ∧ (∀ x, S x → w.heap.size ≤ x ∧ x < W.heap.size) ∧ Below w.heap.size w W ∧ ∀ j e, j < k → l[j]? = some e → pushE (l.take j) e = 0
section
variable {w : World} {l : List Ent}
set_option maxRecDepth 100000 in
set_option maxHeartbeats 4000000 in
theorem good_any {X : Nat → Prop} {A : Option Addr} {n c : Nat} (h : Rd w X 6 A n (cellsOf l)) (hn : n ≤ 1000000) (he : ∀ e ∈ l, In64P e.key) : Calls Tryd.prog 19 #[.slice A n c] w fun r w' => ∃ b, r = .returned (.bool b) ∧ (b = true ↔ GoodL l) ∧ Below w.heap.size w w' := by
  have HR := Lib.hid h
  have HLEN := Lib.hid h.lenE
  have HE64 := Lib.hid he
  clear h he
  go_enter Tryd.func19, Tryd.ntmps19
  go_wp2_with fail
  refine (vnew_any w).mono ?_
  rintro x w1 ⟨r, rfl, hR1, hb1⟩
  have HI0 : Hid (GdI w r l 0 w1) := Lib.hid ⟨_, by rw [List.take_zero]; exact hR1, fun x q => q, hb1, fun j e hj => by omega⟩
  clear hR1 hb1
  go_wp2_with fail
  go_loopw [9] (fun i wv => ∃ k : Nat, k ≤ n ∧ i = .int .i64 k ∧ GdI w r l k wv) (fun i _ => n - (iOf' i).toNat)
  case atStart => exact ⟨0, by omega, rfl, HI0.out⟩
  case round =>
    obtain ⟨k, hk, rfl, hI⟩ := hrel
    have HI := Lib.hid hI
    clear hI
    by_cases hlt : k < n
    case neg =>
      have hd1 : decide (k < n) = false := by simpa using hlt
      have hkn : k = n := by omega
      have HF : Hid (GoodL l ∧ Below w.heap.size w wr) := Lib.hid (by
        obtain ⟨S, h1, h2, h3, h4⟩ := HI.out
        exact ⟨fun j e hj => h4 j e (by have := (List.getElem?_eq_some_iff.1 hj).1; have := HLEN.out; omega) hj, h3⟩)
      clear hlt
      go_wp2_with fail
      go_ret
      exact ⟨true, rfl, ⟨fun _ => HF.out.1, fun _ => rfl⟩, HF.out.2⟩
    case pos =>
    have hd1 : decide (k < n) = true := by simpa using hlt
    obtain ⟨e, he⟩ : ∃ e, l[k]? = some e := ⟨_, List.getElem?_eq_getElem (by rw [HLEN.out]; exact hlt)⟩
    have HE := Lib.hid he
    obtain ⟨S, hV, hF, hb, hz⟩ := HI.out
    obtain ⟨ad, rfl, hadl, -, s0, s1, s2, s3, s4, s5⟩ := (HR.out.below hb).ent he
    have HV := Lib.hid hV
    have HF := Lib.hid hF
    have HZ := Lib.hid hz
    have HB := Lib.hid hb
    clear he hadl hV hF hz hb HI
    go_upto_region 5 with fail
    clear s0 s1 s2 s3 s4 s5
    have hbx := Blk.new wr 45 #[.int .i64 e.epoch, .int .i64 e.id, .int .i64 e.num, .int .i64 e.seq, .int .i64 e.kind, .int .i64 e.value]
    have hal := (Below.refl wr.heap.size wr).alloc (Nat.le_refl _) (.cells #[.int .i64 e.epoch, .int .i64 e.id, .int .i64 e.num, .int .i64 e.seq, .int .i64 e.kind, .int .i64 e.value] 45)
    have HV4 := Lib.hid (HV.out.below hal)
    have HB4 := Lib.hid (HB.out.trans (hal.mono HB.out.size))
    have HS4 := Lib.hid hal.size
    generalize wr.alloc (.cells #[.int .i64 e.epoch, .int .i64 e.id, .int .i64 e.num, .int .i64 e.seq, .int .i64 e.kind, .int .i64 e.value] 45) = w4 at *
    have HSX : Hid (wr.heap.size ≤ wr.heap.size) := Lib.hid (Nat.le_refl _)
    generalize hbxe : wr.heap.size = bx at *
    obtain ⟨s0, s1, s2, s3, s4, s5⟩ := hbx.six9
    have hap : Calls Tryd.prog 23 #[.pointer (some ⟨r, 0, none⟩), .agg #[.int .i64 e.epoch, .int .i64 e.id, .int .i64 e.num, .int .i64 e.seq, .int .i64 e.kind, .int .i64 e.value]] w4 (fun x w' => x = .returned (.int .i64 (pushE (l.take k) e)) ∧ Rr w' (More S w4 w') r (push1 (l.take k) e) 0 [] ∧ Turn S w4 w') := push_any HV4.out (HE64.out e (List.mem_of_getElem? HE.out)) (fun x hx => by have := (HF.out x hx).2; have := HS4.out; omega)
    clear hal hbx
    go_wp2_with fail
    refine hap.mono ?_
    rintro x w6 ⟨rfl, hV6, hU6⟩
    have HV6 := Lib.hid hV6
    have HU6 := Lib.hid hU6
    have HB6 := Lib.hid (HB4.out.trans (HU6.out.below HB4.out.size (fun x q => (HF.out x q).1)))
    clear hap hV6 hU6 s0 s1 s2 s3 s4 s5
    by_cases hz : pushE (l.take k) e = 0
    case pos =>
      have hz1 := eqn hz
      have HI6 : Hid (GdI w r l (k + 1) w6) := Lib.hid (by
        have h6 := HV6.out
        rw [push1_take HE.out hz] at h6
        refine ⟨_, h6, fun x hx => ?_, HB6.out, fun j f hj hf => ?_⟩
        · have hsz := HU6.out.size
          have hs4 := HS4.out
          have hw := HB.out.size
          rcases hx with q | q
          · have := HF.out x q; omega
          · have := q.1; have := q.2; omega
        · rcases Nat.lt_or_ge j k with q | q
          · exact HZ.out j f q hf
          · obtain rfl : j = k := by omega
            rw [HE.out] at hf
            injection hf with hf
            rw [← hf]; exact hz)
      clear hz
      go_wp2_with fail
      go_round
      case rel => exact ⟨k + 1, by omega, by go_num, HI6.out⟩
      case measure => simp [iOf']; omega
    case neg =>
      have hz1 := nen hz
      have HZN := Lib.hid hz
      clear hz
      go_wp2_with fail
      go_ret
      exact ⟨false, rfl, ⟨fun q => (by cases q), fun q => absurd (q k e HE.out) HZN.out⟩, HB6.out⟩
end
end Go.Proofs.YthcphoijanebhaaDoor
