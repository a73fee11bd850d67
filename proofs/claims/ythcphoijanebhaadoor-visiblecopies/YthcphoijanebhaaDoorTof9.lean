/-
  The table of a log, or the first error of appending its entries. Conditions: at most 1000000 entries.
-/
import Derived.Test.YthcphoijanebhaaDoorVapp9
import Derived.Laws.ResultCell
namespace Go.Proofs.YthcphoijanebhaaDoor
open Go.RowKit Go.Maps
set_option linter.unusedVariables false
theorem results_ct {P : Program} {fn : Func} {p u : Tmp} {ty : TypeId} (h : fn.results = #[.cell p ty, .tmp u]) (tmps : Array Value) (w : World) (g : Nat) (t : TypeId) (cs : Array Value) (fr : Nat × Nat) (d : TypeDesc)
    (hp : tmps.getD p undef = .pointer (some ⟨g, 0, none⟩)) (hg : w.heap[g]? = some (.cells cs t fr))
    (hu : P.underlying ty = some d) (hd : (match d with | .struct _ | .array _ _ => true | _ => false) = true) (hi : (P.info? ty).map (·.size) = some cs.size) {x : Value} (hx : tmps.getD u undef = x) :
    (results fn tmps).run P w = .ok (.tuple #[.agg cs, x]) w := by
  subst hx
  have hp' : tmps[p]?.getD undef = .pointer (some ⟨g, 0, none⟩) := by simpa using hp
  simp [results, h, hp', asAddr, run_loadVar_row w g t ty cs fr d hg hu hd hi]
def iOf' : Value → Int | .int _ q => q | _ => 0
def zero62 : Array Value := #[.pointer none, .map none, .map none]
/-- The table lies in blocks made since, none of them one of two. -/
def FarT (B C : Nat) (w' : World) (b : Nat) (S : Nat → Prop) (m1 m2 : Nat) : Prop := ∀ x, OwnT S m1 m2 x → B ≤ x ∧ x < w'.heap.size ∧ x ≠ b ∧ x ≠ C
/-- What is known behind tableOf. -/
def ToP (w : World) (l : List Ent) (r : Ending) (w' : World) : Prop :=
  Below w.heap.size w w' ∧ ((allE [] l = 0 ∧ ∃ S g m1 m2, r = .returned (.tuple #[Tv g m1 m2, .int .i64 0]) ∧ TW w' S g m1 m2 l ∧ ∀ x, OwnT S m1 m2 x → w.heap.size ≤ x ∧ x < w'.heap.size) ∨ (allE [] l ≠ 0 ∧ r = .returned (.tuple #[.agg zero62, .int .i64 (allE [] l)])))
/-- Between two rounds. -/
def ToI (w : World) (br bt g m1 m2 : Nat) (l : List Ent) (k : Nat) (W : World) : Prop :=
  ∃ S, VT W bt g m1 m2 S (l.take k) ∧ FarT w.heap.size br W bt S m1 m2 ∧ allE [] (l.take k) = 0 ∧ Blk W br 62 zero62 ∧ Blk W bt 62 #[.pointer (some ⟨g, 0, none⟩), .map (some m1), .map (some m2)] ∧ Below w.heap.size w W
section
variable {w : World} {l : List Ent}
set_option maxRecDepth 100000 in
set_option maxHeartbeats 4000000 in
theorem vtableOf_any {X : Nat → Prop} {A : Option Addr} {n c : Nat} (h : Rd w X 6 A n (cellsOf l)) (hn : n ≤ 1000000) : Calls Tryd.prog 51 #[.slice A n c] w (ToP w l) := by
  have HR := Lib.hid h
  have HLEN := Lib.hid h.lenE
  clear h
  go_enter Tryd.func51, Tryd.ntmps51
  go_wp2_with fail
  have HR1 : Hid (Blk (w.alloc (.cells #[.pointer none, .map none, .map none] 62)) w.heap.size 62 zero62) := Lib.hid (Blk.new w 62 _)
  have HB1 : Hid (Below w.heap.size w (w.alloc (.cells #[.pointer none, .map none, .map none] 62))) := Lib.hid ((Below.refl _ _).alloc (Nat.le_refl _) _)
  generalize w.alloc (.cells #[.pointer none, .map none, .map none] 62) = w1 at *
  generalize hbr : w.heap.size = br at *
  refine (newTable_any w1).mono ?_
  rintro r w2 ⟨S0, g, m1, m2, rfl, hT, hS, hb2⟩
  have HT := Lib.hid hT
  have HS := Lib.hid hS
  have HB2 := Lib.hid hb2
  unfold Tv
  clear hT hS hb2
  go_upto_region 2 with fail
  have hbt := Blk.new w2 62 #[.pointer (some ⟨g, 0, none⟩), .map (some m1), .map (some m2)]
  have hal := (Below.refl w2.heap.size w2).alloc (Nat.le_refl _) (.cells #[.pointer (some ⟨g, 0, none⟩), .map (some m1), .map (some m2)] 62)
  have hI0 : ToI w br w2.heap.size g m1 m2 l 0 (w2.alloc (.cells #[.pointer (some ⟨g, 0, none⟩), .map (some m1), .map (some m2)] 62)) := by
    have hr1 := HR1.out.lt
    have hs1 := HB1.out.size
    have hs2 := HB2.out.size
    refine ⟨S0, ?_, fun x hx => ?_, by simp [allE], (HR1.out.below HB2.out HR1.out.lt).below hal (Nat.lt_of_lt_of_le hr1 hs2), hbt, ?_⟩
    · rw [List.take_zero]
      exact (HT.out.below hal).vt (hbt.cell 0) (hbt.cell 1) (hbt.cell 2)
    · have := HS.out x (by rcases hx with h | h | h; exact .inl h; exact .inr (.inl h); exact .inr (.inr h))
      have hsa := hal.size
      omega
    · have h12 := HB1.out.trans (HB2.out.mono (by omega))
      rw [hbr]
      exact h12.trans (hal.mono (by omega))
  generalize w2.alloc (.cells #[.pointer (some ⟨g, 0, none⟩), .map (some m1), .map (some m2)] 62) = w3 at *
  generalize w2.heap.size = bt at *
  have HI0 := Lib.hid hI0
  clear hbt hal hI0
  go_wp2_with fail
  go_loopw [11] (fun i wv => ∃ k : Nat, k ≤ n ∧ i = .int .i64 k ∧ ToI w br bt g m1 m2 l k wv) (fun i _ => n - (iOf' i).toNat)
  case atStart => exact ⟨0, by omega, rfl, HI0.out⟩
  case round =>
    obtain ⟨k, hk, rfl, hI⟩ := hrel
    have HI := Lib.hid hI
    clear hI
    by_cases hlt : k < n
    case neg =>
      have hd1 : decide (k < n) = false := by simpa using hlt
      have hkn : k = n := by omega
      obtain ⟨S, hV, hF, hz, hr, ht, hb⟩ := HI.out
      have hta : l.take k = l := List.take_of_length_le (by have := HLEN.out; omega)
      rw [hta] at hV hz
      have HF := Lib.hid hF
      have HZ := Lib.hid hz
      have HV := Lib.hid hV.tp
      have HB := Lib.hid hb
      have HNE : Hid (br ≠ bt) := Lib.hid (fun e => by
        subst e
        unfold Blk at hr ht
        rw [hr] at ht
        simp [zero62] at ht)
      have HT := Lib.hid ht
      clear hV hF hz hb hta hlt
      go_wp2_with (with_reducible refine at_load 62 rfl ?_)
      refine Stop.go (wpList_load_blk (by rfl) 62 _ (by rfl) bt (by rfl) 62 _ HT.out _ und62 (by rfl) (by kernel_rfl) ?_)
      go_wp2_with (with_reducible refine at_store 62 rfl ?_)
      refine Stop.go (wpList_store_blk (by rfl) (by rfl) 62 _ _ (by rfl) br _ #[.pointer (some ⟨g, 0, none⟩), .map (some m1), .map (some m2)] (by rfl) (by rfl) 62 hr (by rfl) (by kernel_rfl) (by simp [Value.oneCell']) ?_)
      intro w5 hB5 hg5 hs5
      have hT5 : Turn (fun x => x = br) wr w5 := Turn.of_grown hg5 (fun r e => by injection e with e; exact e.symm)
      have HFF : Hid (TW w5 S g m1 m2 l ∧ (∀ x, OwnT S m1 m2 x → w.heap.size ≤ x ∧ x < w5.heap.size) ∧ Below w.heap.size w w5 ∧ Blk w5 br 62 #[.pointer (some ⟨g, 0, none⟩), .map (some m1), .map (some m2)]) := Lib.hid ⟨HV.out.keep hT5 (fun x hx e => (HF.out x hx).2.2.2 e), fun x hx => ⟨(HF.out x hx).1, Nat.lt_of_lt_of_le (HF.out x hx).2.1 hT5.size⟩, HB.out.trans (hT5.below HB.out.size (fun x e => by omega)), hB5⟩
      clear hB5 hg5 hs5 hT5 hr ht
      go_wp2_with fail
      refine bodyPost_ret (v := .tuple #[Tv g m1 m2, .int .i64 0]) (results_ct (by rfl) _ _ br 62 _ (0, 0) _ (by rfl) HFF.out.2.2.2 und62 (by rfl) (by kernel_rfl) (by rfl)) rfl ?_
      exact ⟨HFF.out.2.2.1, .inl ⟨HZ.out, S, g, m1, m2, rfl, HFF.out.1, HFF.out.2.1⟩⟩
    case pos =>
    have hd1 : decide (k < n) = true := by simpa using hlt
    obtain ⟨e, he⟩ : ∃ e, l[k]? = some e := ⟨_, List.getElem?_eq_getElem (by rw [HLEN.out]; exact hlt)⟩
    have HE := Lib.hid he
    obtain ⟨S, hV, hF, hz, hr, ht, hb⟩ := HI.out
    obtain ⟨ad, rfl, hadl, -, s0, s1, s2, s3, s4, s5⟩ := (HR.out.below hb).ent he
    have HV := Lib.hid hV
    have HF := Lib.hid hF
    have HZ := Lib.hid hz
    have HRB := Lib.hid (And.intro hr ht)
    have HB := Lib.hid hb
    clear he hadl hV hF hz hr ht hb HI
    go_upto_region 5 with fail
    clear s0 s1 s2 s3 s4 s5
    have hbx := Blk.new wr 45 #[.int .i64 e.epoch, .int .i64 e.id, .int .i64 e.num, .int .i64 e.seq, .int .i64 e.kind, .int .i64 e.value]
    have hal := (Below.refl wr.heap.size wr).alloc (Nat.le_refl _) (.cells #[.int .i64 e.epoch, .int .i64 e.id, .int .i64 e.num, .int .i64 e.seq, .int .i64 e.kind, .int .i64 e.value] 45)
    have HV4 := Lib.hid (HV.out.below hal)
    have HR4 := Lib.hid (And.intro (HRB.out.1.below hal HRB.out.1.lt) (HRB.out.2.below hal HRB.out.2.lt))
    have HB4 := Lib.hid (HB.out.trans (hal.mono HB.out.size))
    have HS4 := Lib.hid hal.size
    generalize wr.alloc (.cells #[.int .i64 e.epoch, .int .i64 e.id, .int .i64 e.num, .int .i64 e.seq, .int .i64 e.kind, .int .i64 e.value] 45) = w4 at *
    have HSX : Hid (wr.heap.size ≤ wr.heap.size) := Lib.hid (Nat.le_refl _)
    generalize hbxe : wr.heap.size = bx at *
    obtain ⟨s0, s1, s2, s3, s4, s5⟩ := hbx.six9
    have hap : Calls Tryd.prog 46 #[.pointer (some ⟨bt, 0, none⟩), .agg #[.int .i64 e.epoch, .int .i64 e.id, .int .i64 e.num, .int .i64 e.seq, .int .i64 e.kind, .int .i64 e.value]] w4 (VApp w4 S bt g m1 m2 (l.take k) e) := vapp_any HV4.out (fun q => (HF.out bt q).2.2.1 rfl) (fun x hx => by have := (HF.out x (.inl hx)).2.1; have := HS4.out; omega) e
    clear hal hbx
    go_wp2_with fail
    refine hap.mono ?_
    rintro r w6 ⟨rfl, hV6, hU6⟩
    have HV6 := Lib.hid hV6
    have HU6 := Lib.hid hU6
    have HR6 := Lib.hid (And.intro (HR4.out.1.keep HU6.out (fun q => (HF.out br q).2.2.2 rfl)) (HR4.out.2.keep HU6.out (fun q => (HF.out bt q).2.2.1 rfl)))
    have HB6 := Lib.hid (HB4.out.trans (HU6.out.below HB4.out.size (fun x q => (HF.out x q).1)))
    have HST := Lib.hid (allE_stop HE.out HZ.out)
    have HTK := Lib.hid (allE_take HE.out HZ.out)
    clear hap hV6 hU6 s0 s1 s2 s3 s4 s5
    by_cases hz : appendE (l.take k) e = 0
    case pos =>
      have hz1 := eqn hz
      have hkk : keep1 (l.take k) e = l.take (k + 1) := by unfold keep1; rw [if_pos hz, List.take_add_one, HE.out]; rfl
      have HI6 : Hid (ToI w br bt g m1 m2 l (k + 1) w6) := Lib.hid (by
        have h6 := HV6.out
        rw [hkk] at h6
        refine ⟨_, h6, fun x hx => ?_, by rw [HTK.out]; exact hz, HR6.out.1, HR6.out.2, HB6.out⟩
        have hsz := HU6.out.size
        have hs4 := HS4.out
        have hw := HB.out.size
        have hbr4 := HRB.out.1.lt
        have hbt4 := HRB.out.2.lt
        rcases hx with (q | q) | q | q
        · have := HF.out x (.inl q); omega
        · have := q.1; have := q.2; omega
        · have := HF.out x (.inr (.inl q)); omega
        · have := HF.out x (.inr (.inr q)); omega)
      clear hz hkk
      go_wp2_with fail
      go_round
      case rel => exact ⟨k + 1, by omega, by go_num, HI6.out⟩
      case measure => simp [iOf']; omega
    case neg =>
      have hz1 := nen hz
      have HZE := Lib.hid (HST.out hz)
      have HZN := Lib.hid hz
      clear hz
      go_wp2_with (with_reducible refine at_store 62 rfl ?_)
      refine Stop.go (wpList_store_blk (by rfl) (by rfl) 62 _ _ (by rfl) br _ zero62 (by rfl) (by rfl) 62 HR6.out.1 (by rfl) (by kernel_rfl) (by simp [zero62, Value.oneCell']) ?_)
      intro w7 hB7 hg7 hs7
      have HFF : Hid (Below w.heap.size w w7 ∧ Blk w7 br 62 zero62) := Lib.hid ⟨HB6.out.trans ((Turn.of_grown (S := fun x => x = br) hg7 (fun r e => by injection e with e; exact e.symm)).below HB6.out.size (fun x e => by omega)), hB7⟩
      clear hB7 hg7 hs7
      go_wp2_with fail
      refine bodyPost_ret (v := .tuple #[.agg zero62, .int .i64 (appendE (l.take k) e)]) (results_ct (by rfl) _ _ br 62 _ (0, 0) _ (by rfl) HFF.out.2 und62 (by rfl) (by kernel_rfl) (by rfl)) rfl ?_
      exact ⟨HFF.out.1, .inr ⟨by rw [HZE.out]; exact HZN.out, by rw [HZE.out]⟩⟩
end
end Go.Proofs.YthcphoijanebhaaDoor
