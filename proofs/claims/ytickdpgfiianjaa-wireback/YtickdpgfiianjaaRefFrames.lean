/-
  What waystationref02.Frames answers of entries that may be; and a slice of entries: its first ones, one of none. Condition: fewer than 1000 entries.
-/
import Derived.Test.YtickdpgfiianjaaRefBody
import Derived.Test.YtickdpgfiianjaaRows6
namespace Go.Proofs.Ytickdpgfiianjaa
open Go.RowKit
theorem slice43_to (a : Option Addr) (n c k : Nat) (i : Int) (hi : i = (k : Int)) (hk : k ≤ c) (W : World) : (Instr.slice 43 (.slice a n c) none (some (.int .i64 i)) none).run Try.prog W = .ok (.slice a k c) W := by
  subst hi
  obtain ⟨j, hj, hz0, hz1, hz2⟩ := info_parts info38
  have ha : a.map (fun x : Addr => x.add 0) = a := by cases a <;> simp [Addr.add]
  simp [Instr.slice, run_underlying Try.underlying43, Instr.sliceBounds, Instr.sliceBound, asIntOf, hk, sizeOf, typeInfo, hj, ha]
theorem Ents.first {w : World} {B n k : Nat} {A : Option Addr} {es : List Ent} (h : Ents w B A n es) (hk : k ≤ n) : Ents w B A k (es.take k) :=
  ⟨by rw [List.length_take, h.1]; omega, fun h0 => by
    obtain ⟨ad, e, hb, hc⟩ := h.2 (by omega)
    refine ⟨ad, e, hb, fun i x hx => hc i x ?_⟩
    rw [List.getElem?_take] at hx
    split at hx
    · exact hx
    · cases hx⟩
theorem ownE_empty (w : World) (base : Nat) (hb : base ≤ w.heap.size) : OwnE (w.alloc (.cells #[] 38)) base (.slice (some ⟨w.heap.size, 0, none⟩) 0 0) [] :=
  World.ownsRow_made w #[] 0 hb (by unfold maxLen; omega) rfl
set_option maxRecDepth 100000 in
set_option maxHeartbeats 2000000 in
theorem refFrames_any (A : Option Addr) (n c : Nat) (es : List Ent) (w : World) (hr : Ents w w.heap.size A n es) (hR : AllRight es) (hn : n < 1000) :
    Calls Try.prog 30 #[.slice A n c] w (Rowed w w.heap.size w.heap.size (frames es)) := by
  go_enter Try.func30, Try.ntmps30
  go_wp2_with fail
  go_loopw [3, 4] (fun b i wr => ∃ k : Nat, k ≤ n ∧ i = .int .i64 k ∧ Own wr w.heap.size b (frames (es.take k)) ∧ Below w.heap.size w wr) (fun _ i _ => n - (intOf i).toNat)
  case atStart => exact ⟨0, by omega, rfl, Own.nil _ _, Below.refl _ _⟩
  case round =>
    obtain ⟨k, hk, rfl, ho, hb⟩ := hrel
    have hzr := hb.size
    by_cases hlt : k < n
    · obtain ⟨ad, e, rfl, hA, hek, c0, c1, c2, c3, c4, c5⟩ := (hr.below hb).at_ hlt
      have HB := Lib.hid hb
      have HEK := Lib.hid hek
      have HR : Hid (Right e) := Lib.hid (hR e (List.mem_of_getElem? hek))
      have HLN : Hid ((frames (es.take k)).length < 100000) := Lib.hid (by have := length_frames (es.take k) (fun x hx => hR x (List.mem_of_mem_take hx)); rw [List.length_take] at this; omega)
      have HO := Lib.hid ho
      have hE : Hid (.agg #[.int .i64 e.epoch, .int .i64 e.id, .int .i64 e.num, .int .i64 e.seq, .int .i64 e.kind, .int .i64 e.value] = e.val) := Lib.hid rfl
      clear hb hek ho
      go_wp2_with fail
      clear c0 c1 c2 c3 c4 c5
      rw [hE.out]
      refine (refFrame_any e HR.out wr).mono ?_
      rintro r w2 ⟨v2, rfl, ho2, hb2⟩
      have HO2 := Lib.hid (HO.out.below hb2 (Nat.le_refl _))
      have HB2 := Lib.hid (HB.out.trans (hb2.mono hzr))
      obtain ⟨A2, q2, c2, rfl, hq2⟩ := ho2.form2
      have HQ2 : Hid (q2 < 1000000) := Lib.hid (by have := length_frame HR.out; omega)
      have hy2 := ho2.bys
      clear hq2 ho2 hb2
      go_wp2_with (at_builtin; refine stop ?_)
      refine Stop.go (wpList_append_want _ (by rfl) _ _ (by rfl) w.heap.size _ _ (by rfl) HO2.out w2.heap.size A2 q2 c2 (frame e) (by rfl) hy2 (by have := HLN.out; omega) HQ2.out HB2.out.size ?_)
      intro v3 w3 ho3 hb3
      have HB3 := Lib.hid (HB2.out.trans hb3)
      clear hb3 hy2
      go_wp2_with fail
      go_roundw
      case rel =>
        refine ⟨k + 1, by omega, by go_num, ?_, HB3.out⟩
        rw [take_snoc_some HEK.out, frames_snoc]; exact ho3
      case measure => simp [intOf]; omega
    · have HT : Hid (es.take k = es) := Lib.hid (List.take_of_length_le (by have := hr.1; omega))
      rw [HT.out] at ho
      go_wp2_with fail
      go_ret
      exact ⟨_, rfl, ho, hb⟩
end Go.Proofs.Ytickdpgfiianjaa
