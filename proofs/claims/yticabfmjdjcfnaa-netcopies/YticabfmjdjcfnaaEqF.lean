/-
  maps.EqualFunc of messages, with net.alike. Conditions: bounds.
-/
import Derived.Test.YticabfmjdjcfnaaRows2
import Derived.Maps.RangeWalk
namespace Go.Proofs.Yticabfmjdjcfnaa
open Go.RowKit Go.Shelf Go.Maps
theorem same_int (a b : Int) : (Lit.int .i64 a).sameKey (.int .i64 b) = decide (a = b) := by
  rw [Bool.eq_iff_iff]; simp [Lit.sameKey]
set_option maxRecDepth 100000 in
theorem NM.look_ok {w : World} {X : Nat → Prop} {m : Nat} {l : Row} (h : NM w X m l) {k : Int} (hk : KeyN k) : ∃ v msg, (Instr.lookup 69 (.map (some m)) (.int .i64 k) true).run Try.prog w = .ok (.tuple #[v, .bool (find l k).isSome]) w ∧ MsgV w X msg v ∧ ∀ x, find l k = some x → msg = x := by
  obtain ⟨vs, ⟨D, hown, hag⟩, h2, h3, h4, h5⟩ := h
  have hag : ∀ k, Maps.has D (.int .i64 k) = (find l k).isSome ∧ ∀ v, (find l k).map (fun _ => vs k) = some v → ∀ z, D.atKey (.int .i64 k) z = .held v := fun k => ⟨by have := (hag k).1; simpa using this, (hag k).2⟩
  obtain ⟨v, ps, hrun, hv'⟩ := hown.look_ok keyed3 Try.underlying69 (zero39 w) (zd := .held zMsg) rfl (key_int hk)
  have e : DataW.held v = D.atKey (.int .i64 k) (.held zMsg) := by unfold hv at hv'; injection hv' with e; injection e
  have hh := (hag k).1
  rw [hrun, hh]
  cases hf : find l k with
  | none =>
    rw [hf] at hh
    rw [atKey_of_not_has (by rw [hh]; rfl)] at e
    injection e with e
    subst e
    exact ⟨zMsg, ⟨0, 0, []⟩, rfl, msgV_z w X, fun x h => by cases h⟩
  | some msg =>
    rw [(hag k).2 (vs k) (by rw [hf]; rfl)] at e
    injection e with e
    subst e
    exact ⟨vs k, msg, rfl, h5 k msg hf, fun x h => by injection h⟩
set_option maxRecDepth 100000 in
set_option maxHeartbeats 8000000 in
theorem eqF_any {w : World} {X X' : Nat → Prop} {m m' : Nat} {l l' : Row} (h : NM w X m l) (h' : NM w X' m' l') (hs : ∀ p ∈ l, p.2.b.length ≤ 1000000000) (hs' : ∀ p ∈ l', p.2.b.length ≤ 1000000000) :
    Calls Try.prog 40 #[.map (some m), .map (some m'), .func (.func 41) #[] #[]] w fun e w' => e = .returned (.bool (sameL l l')) ∧ Below w.heap.size w w' := by
  have hl1 := h.len_
  have hl2 := h'.len_
  have hle := h.len
  have hle' := h'.len
  have HH' := Lib.hid h'
  have HR := Lib.hid h.rises
  have HR' := Lib.hid h'.rises
  have HS := Lib.hid hs
  have HS' := Lib.hid hs'
  obtain ⟨vs, ⟨D, hown, hag⟩, -, -, hkn, hmv⟩ := h
  have hag : ∀ k, Maps.has D (.int .i64 k) = (find l k).isSome ∧ ∀ v, (find l k).map (fun _ => vs k) = some v → ∀ z, D.atKey (.int .i64 k) z = .held v := fun k => ⟨by have := (hag k).1; simpa using this, (hag k).2⟩
  have HAG := Lib.hid hag
  have HKN := Lib.hid hkn
  have HMV := Lib.hid hmv
  clear h' hs hs' hag hkn hmv
  by_cases hnn : l.length = l'.length
  case neg =>
    have HRES : Hid (sameL l l' = false) := Lib.hid (by
      cases e : sameL l l' with
      | false => rfl
      | true => exact absurd (congrArg List.length (sameL_iff.1 e)) hnn)
    have hm1 : (!((l.length : Int) == (l'.length : Int))) = true := by simp; omega
    have hm2 : ¬ (l.length : Int) = (l'.length : Int) := by omega
    clear hnn hown
    go_enter Try.func40, Try.ntmps40
    go_wp2_with fail
    go_ret
    exact ⟨ret_bool HRES.out.symm, Below.refl _ _⟩
  case pos =>
  have HNN := Lib.hid hnn
  rw [← hnn] at hl2
  clear hnn
  go_enter Try.func40, Try.ntmps40
  go_wp2_with (at_range; refine wpList_range_own _ rfl _ 69 rfl 3 39 keyed3 Try.underlying69 hv m (Maps.size D) D rfl hown ?_; intro w0 hrg0 hg0 hs0)
  try go_frame
  have hb0 : Below w.heap.size w w0 := ⟨hg0.os, hg0.tape, hg0.output, hg0.size, fun k hk => hg0.block k hk (by simp)⟩
  have hst0 : ∀ k msg, find l k = some msg → Maps.has D (.int .i64 k) = false → find l' k = some msg := fun k msg hf hno => by
    have := (HAG.out k).1
    rw [hno, hf] at this
    cases this
  clear hown hl1 hl2
  go_loopw [7, 8, 9, 10] (fun _ _ _ _ wr => ∃ left cnt, wr.ranges Try.prog 3 hv m w.heap.size (Maps.size D) D left cnt ∧ Below w.heap.size w wr ∧ ∀ k msg, find l k = some msg → left (.int .i64 k) = false → find l' k = some msg) (fun _ _ _ _ wr => wr.rangeLeft m w.heap.size)
  case atStart => exact ⟨_, _, hrg0, hb0, hst0⟩
  case round =>
    obtain ⟨left, cnt, hrg, hbr, hdone⟩ := hrel
    clear hrg0 hg0 hs0 hb0 hst0
    have HD := Lib.hid hdone
    clear hdone
    go_wp2_with (at_next; refine wpList_next_ranges _ rfl _ rfl 3 keyed3 hv (fun n : Int => .int .i64 n) (fun v : Value => v) (fun key kl h => by obtain ⟨x, hx, _⟩ := Maps.keyOf_i64 Try.underlying3 h; exact ⟨x, hx⟩) (fun v y _ => ⟨v, rfl⟩) m w.heap.size (Maps.size D) D left cnt rfl hrg ?_ ?_)
    · intro hc0 hl0
      have HE : Hid (sameL l l' = true) := Lib.hid (sameL_iff.2 (held_eq HR.out HR'.out HNN.out (fun k msg hf => HD.out k msg hf (hl0 _))))
      clear hl0 hrg
      go_wp2_with fail
      go_ret
      exact ⟨ret_bool HE.out.symm, hbr⟩
    · intro n c kl ya yb w4 cnt4 hkey hlk hRv hat hrg4 hlt4 hg4 hs4 hen
      obtain ⟨n', hn', hkl, _⟩ := Maps.keyOf_i64 Try.underlying3 hkey
      have en : n = n' := by injection hn'
      subst en
      subst hkl
      have ey : ya = .held c := by unfold hv at hRv; injection hRv with e; injection e with e _; exact e.symm
      subst ey
      have hhas : Maps.has D (.int .i64 n) = true := has_true_of_atKey hat
      obtain ⟨msg, hf⟩ : ∃ b, find l n = some b := Option.isSome_iff_exists.1 (by have := (HAG.out n).1; rw [hhas] at this; simpa using this.symm)
      have ec : c = vs n := by
        have h1 := (HAG.out n).2 (vs n) (by rw [hf]; rfl) (.held c)
        have h2 := hat (.held c)
        rw [h1] at h2
        injection h2 with h2
        exact h2.symm
      subst ec
      have hkN : KeyN n := HKN.out _ (find_mem hf)
      have hbl : msg.b.length ≤ 1000000000 := HS.out _ (find_mem hf)
      have hb4 : Below w.heap.size w w4 := hbr.trans ⟨hg4.os, hg4.tape, hg4.output, hg4.size, fun k hk => hg4.block k (by have := hbr.size; omega) (fun e => by injection e with e; omega)⟩
      have hmsg := HMV.out n msg hf
      obtain ⟨Am, qm, cm, evm, hby⟩ := hmsg
      have HBY := Lib.hid hby
      rw [evm] at hen ⊢
      have HM : Hid (wr.rangeLeft m w.heap.size = cnt) := Lib.hid hrg.left_eq
      have HRG := Lib.hid hrg4
      have HF := Lib.hid hf
      have HLK := Lib.hid hlk
      clear hby hRv hat hkey hhas hrg hg4 hs4 hn' hrg4 hf hlk evm
      go_wp2_with (with_reducible refine at_store 39 rfl ?_)
      refine Stop.go (wpList_store_blk (by rfl) (by rfl) 39 _ _ (by rfl) w4.heap.size _ #[.int .i64 msg.fr, .int .i64 msg.to, .slice Am qm cm] (by rfl) (by rfl) 39 (Blk.new w4 39 #[.int .i64 0, .int .i64 0, .slice none 0 0]) (by rfl) (info39 _ rfl) (by simp [Value.oneCell']) ?_)
      intro w5 f5 g5 s5
      clear s5
      have hb5 : Below w4.heap.size w4 w5 := below_grown ((Below.refl _ _).alloc (Nat.le_refl _) _) g5 (Nat.le_refl _) (Nat.le_refl _)
      have hb5' : Below w.heap.size w w5 := hb4.trans (hb5.mono hb4.size)
      obtain ⟨v', msg', hlook, hmv', hmm⟩ := (HH'.out.below hb5').look_ok hkN
      have HMV' := Lib.hid hmv'
      obtain ⟨Am', qm', cm', rfl, -⟩ := hmv'
      clear hen g5
      go_wp2_with (with_reducible refine at_store 39 rfl ?_)
      refine Stop.go (wpList_store_blk (by rfl) (by rfl) 39 _ _ (by rfl) w5.heap.size _ #[.int .i64 msg'.fr, .int .i64 msg'.to, .slice Am' qm' cm'] (by rfl) (by rfl) 39 (Blk.new w5 39 #[.int .i64 0, .int .i64 0, .slice none 0 0]) (by rfl) (info39 _ rfl) (by simp [Value.oneCell']) ?_)
      intro w6 f6 g6 s6
      clear s6
      have hb6 : Below w5.heap.size w5 w6 := below_grown ((Below.refl _ _).alloc (Nat.le_refl _) _) g6 (Nat.le_refl _) (Nat.le_refl _)
      have hb6' : Below w.heap.size w w6 := hb5'.trans (hb6.mono hb5'.size)
      have k5 := f5.below hb6 f5.lt
      obtain ⟨c0, c1, c2⟩ := k5.three
      obtain ⟨d0, d1, d2⟩ := f6.three
      have hma : MsgV w6 X msg (.agg #[.int .i64 msg.fr, .int .i64 msg.to, .slice Am qm cm]) := ⟨_, _, _, rfl, HBY.out.below hb6'⟩
      have hmb : MsgV w6 X' msg' (.agg #[.int .i64 msg'.fr, .int .i64 msg'.to, .slice Am' qm' cm']) := HMV'.out.below hb6
      clear hlook g6 f6 f5
      cases hf' : find l' n with
      | none =>
        have HRES : Hid (sameL l l' = false) := Lib.hid (by
          cases e : sameL l l' with
          | false => rfl
          | true =>
            have h1 := HF.out
            rw [sameL_iff.1 e, hf'] at h1
            cases h1)
        clear hf'
        go_wp2_with fail
        go_ret
        exact ⟨ret_bool HRES.out.symm, hb6'⟩
      | some x =>
      have hx := hmm x hf'
      subst hx
      have HAL := Lib.hid (alike_any hma hmb hbl (HS'.out _ (find_mem hf')))
      have HF' := Lib.hid hf'
      clear hmm hf' hma hmb
      go_wp2_with fail
      refine HAL.out.mono ?_
      rintro e w7 ⟨rfl, hb7⟩
      have hb7' : Below w.heap.size w w7 := hb6'.trans (hb7.mono hb6'.size)
      clear c0 c1 c2 d0 d1 d2
      cases hsm : sameM msg msg' with
      | false =>
        have HRES : Hid (sameL l l' = false) := Lib.hid (by
          cases e : sameL l l' with
          | false => rfl
          | true =>
            have h1 := HF.out
            rw [sameL_iff.1 e, HF'.out] at h1
            injection h1 with h1
            rw [h1, sameM_refl] at hsm
            cases hsm)
        go_wp2_with fail
        go_ret
        exact ⟨ret_bool HRES.out.symm, hb7'⟩
      | true =>
        have HEQ := Lib.hid (sameM_iff.1 hsm)
        have hb47 : Below w4.heap.size w4 w7 := (hb5.trans (hb6.mono hb5.size)).trans (hb7.mono (by have := hb5.size; have := hb6.size; omega))
        have hg47 : w4.grownBy w7 none := ⟨hb47.os, hb47.tape, hb47.output, hb47.size, fun i hi _ => hb47.block i hi⟩
        have HRG7 := Lib.hid (HRG.out.kept hg47 (by simp) (by simp))
        go_wp2_with fail
        refine ⟨⟨_, cnt4, HRG7.out, hb7', fun k x hk hleft => ?_⟩, by rw [HRG7.out.left_eq, HM.out]; omega⟩
        by_cases hkn : k = n
        · subst hkn
          rw [HF'.out, ← HEQ.out, ← HF.out, hk]
        · refine HD.out k x hk ?_
          rw [same_int, decide_eq_false hkn] at hleft
          simpa using hleft
end Go.Proofs.Yticabfmjdjcfnaa
