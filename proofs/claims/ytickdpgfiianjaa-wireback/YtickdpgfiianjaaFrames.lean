/-
  What wire.appendFrame, wire.Frames and wire.Frame answer. Conditions: fewer than 1000 entries.
-/
import Derived.Test.YtickdpgfiianjaaBody
namespace Go.Proofs.Ytickdpgfiianjaa
open Go.RowKit
theorem Bys.grew {v v' : Value} {w w' : World} {A : Option Addr} {n : Nat} {k : List UInt8} (hr : Bys w w.heap.size A n k) (hne : ∀ ad, A = some ad → v.ownBlock ≠ some ad.block) (hg : Grew v w v' w') : Bys w' w'.heap.size A n k :=
  ⟨hr.1, fun h0 => by
    obtain ⟨ad, e, hb, hc⟩ := hr.2 h0
    exact ⟨ad, e, Nat.lt_of_lt_of_le hb hg.1.size, fun j u hu => (World.cell?_of_block (a := ad.add j) (by rw [block_of_add]; exact hg.1.block _ hb (fun e' => hne ad e e'.symm))).trans (hc j u hu)⟩⟩
theorem grew_not {v v' : Value} {w w' : World} {A : Option Addr} {n : Nat} {k : List UInt8} (hr : Bys w w.heap.size A n k) (h0 : 0 < n) (hne : ∀ ad, A = some ad → v.ownBlock ≠ some ad.block) (hg : Grew v w v' w') : ∀ ad, A = some ad → v'.ownBlock ≠ some ad.block := fun ad e => by
  obtain ⟨ad', e', hb, _⟩ := hr.2 h0
  rw [e] at e'
  injection e' with e'
  subst e'
  exact hg.not (hne _ e) hb
set_option maxRecDepth 100000 in
set_option maxHeartbeats 1000000 in
theorem appendFrame_any (base : Nat) (v : Value) (l : List UInt8) (A : Option Addr) (n c : Nat) (k : List UInt8) (w : World) (hown : Own w base v l) (hbase : base ≤ w.heap.size) (hr : Bys w w.heap.size A n k) (h0 : 0 < n)
    (hne : ∀ ad, A = some ad → v.ownBlock ≠ some ad.block) (hl : l.length < 100000) (hn : n < 1000) :
    Calls Try.prog 47 #[v, .slice A n c] w (RowedG w base v (l ++ framed k)) := by
  have hs : Crc.sum k < 4294967296 := by have := Crc.sum_lt k; omega
  have HF : Hid (framed k = les 4 (Crc.sum k) ++ [UInt8.ofNat n] ++ k) := Lib.hid (by unfold framed; rw [hr.1])
  have HNE := Lib.hid hne
  have HR := Lib.hid hr
  clear hne
  go_enter Try.func47, Try.ntmps47
  go_wp2_with fail
  refine (sum_any A n c k w hr (by omega)).mono ?_
  rintro e w1 ⟨rfl, hb1⟩
  have HO1 := Lib.hid (hown.below hb1 (Nat.le_refl _))
  have HG1 : Hid (Grew v w v w1) := Lib.hid (Grew.of_low hb1)
  have hz1 := hb1.size
  clear hown hr hb1
  generalize Crc.sum k = s at *
  go_wp2_with fail
  go_loopw [0, 5, 8] (fun b q i wr => ∃ j : Nat, j ≤ 4 ∧ i = .int .i64 j ∧ q = .int .u32 ((s / 256 ^ j : Nat) : Int) ∧ Own wr base b (l ++ les j s) ∧ Grew v w b wr ∧ base ≤ wr.heap.size) (fun _ _ i _ => 4 - (intOf i).toNat)
  case atStart => exact ⟨0, by omega, rfl, by simp, by simpa [les] using HO1.out, HG1.out, by omega⟩
  case round =>
    obtain ⟨j, hj, rfl, rfl, ho, hb, hbs⟩ := hrel
    have hq : s / 256 ^ j < 4294967296 := Nat.lt_of_le_of_lt (Nat.div_le_self _ _) hs
    have hsn := Lib.hid (les_snoc j s)
    have hdv : Hid (s / 256 ^ (j + 1) = s / 256 ^ j / 256) := Lib.hid (by rw [Nat.div_div_eq_div_mul, Nat.pow_succ])
    have hlen : (l ++ les j s).length < 1000000 := by rw [List.length_append, length_les]; omega
    by_cases hlt : j < 4
    · generalize s / 256 ^ j = q at *
      go_wp2_with (at_builtin; refine stop ?_)
      refine Stop.go (wpList_append_grew _ (by rfl) _ _ (by rfl) base _ _ (by rfl) (ho.alloc _) _ _ 1 _ _ (by rfl) (bys_one _ q 5 _ (Nat.lt_succ_self _)) hlen (by omega) (le_alloc hbs _) ?_)
      intro v' w' ho' hb'
      go_wp2_with fail
      go_roundw
      case rel =>
        refine ⟨j + 1, by omega, by go_num, ?_, ?_, (hb.trans (Grew.alloc _)).trans hb', ?_⟩
        · rw [hdv.out]; exact u32_eq (by omega)
        · rw [hsn.out, ← List.append_assoc]; exact ho'
        · have := hb'.1.size; simp at this; omega
      case measure => simp [intOf]; omega
    · obtain rfl : j = 4 := by omega
      clear hq
      go_wp2_with (at_builtin; refine stop ?_)
      refine Stop.go (wpList_append_grew _ (by rfl) _ _ (by rfl) base _ _ (by rfl) (ho.alloc _) _ _ 1 _ _ (by rfl) (bys_one _ n 5 _ (Nat.lt_succ_self _)) hlen (by omega) (le_alloc hbs _) ?_)
      intro v2 w2 ho2 hb2
      have hg2 := (hb.trans (Grew.alloc _)).trans hb2
      have hz2 : base ≤ w2.heap.size := by have := hb2.1.size; simp at this; omega
      have hr2 := HR.out.grew HNE.out hg2
      have hlen2 : (l ++ les 4 s ++ [UInt8.ofNat n]).length < 1000000 := by rw [List.length_append, List.length_append, length_les]; simp; omega
      clear ho hb hb2
      go_wp2_with (at_builtin; refine stop ?_)
      refine Stop.go (wpList_append_grew _ (by rfl) _ _ (by rfl) base _ _ (by rfl) ho2 _ _ n _ _ (by rfl) hr2 hlen2 (by omega) hz2 ?_)
      intro v3 w3 ho3 hb3
      have hg3 := hg2.trans hb3
      clear hb3 hr2
      go_wp2_with fail
      go_ret
      refine ⟨v3, rfl, ?_, hg3⟩
      rw [HF.out]
      simpa only [List.append_assoc] using ho3
/-- At the place p lies the entry e. -/
def At (w : World) (p : Addr) (e : Ent) : Prop :=
  w.cell? p = some (.int .i64 e.epoch) ∧ w.cell? ⟨p.block, p.off + 1, none⟩ = some (.int .i64 e.id) ∧ w.cell? ⟨p.block, p.off + 2, none⟩ = some (.int .i64 e.num) ∧ w.cell? ⟨p.block, p.off + 3, none⟩ = some (.int .i64 e.seq) ∧ w.cell? ⟨p.block, p.off + 4, none⟩ = some (.int .i64 e.kind) ∧ w.cell? ⟨p.block, p.off + 5, none⟩ = some (.int .i64 e.value)
/-- The slice value '.slice A n c' holds the entries es and lies below block B. -/
def Ents (w : World) (B : Nat) (A : Option Addr) (n : Nat) (es : List Ent) : Prop :=
  es.length = n ∧ (0 < n → ∃ ad, A = some ad ∧ ad.block < B ∧ ∀ (i : Nat) (e : Ent), es[i]? = some e → At w (ad.add (i * 6)) e)
theorem At.keep {w w' : World} {p : Addr} {e : Ent} (h : At w p e) (hk : ∀ q : Addr, q.block = p.block → w'.cell? q = w.cell? q) : At w' p e :=
  ⟨(hk p rfl).trans h.1, (hk ⟨p.block, p.off + 1, none⟩ rfl).trans h.2.1, (hk ⟨p.block, p.off + 2, none⟩ rfl).trans h.2.2.1, (hk ⟨p.block, p.off + 3, none⟩ rfl).trans h.2.2.2.1, (hk ⟨p.block, p.off + 4, none⟩ rfl).trans h.2.2.2.2.1, (hk ⟨p.block, p.off + 5, none⟩ rfl).trans h.2.2.2.2.2⟩
theorem Ents.keep {w w' : World} {B n : Nat} {A : Option Addr} {es : List Ent} (h : Ents w B A n es) (hk : ∀ q : Addr, q.block < B → w'.cell? q = w.cell? q) : Ents w' B A n es :=
  ⟨h.1, fun hn => by
    obtain ⟨ad, e, hb, hc⟩ := h.2 hn
    exact ⟨ad, e, hb, fun i x hx => (hc i x hx).keep fun q hq => hk q (by rw [hq, block_of_add]; exact hb)⟩⟩
theorem Ents.below {w w' : World} {B n : Nat} {A : Option Addr} {es : List Ent} (h : Ents w B A n es) (hb : Below B w w') : Ents w' B A n es := h.keep fun _ hp => hb.cell hp
theorem Ents.more {w : World} {B B' n : Nat} {A : Option Addr} {es : List Ent} (h : Ents w B A n es) (hB : B ≤ B') : Ents w B' A n es :=
  ⟨h.1, fun hn => by
    obtain ⟨ad, e, hb, hc⟩ := h.2 hn
    exact ⟨ad, e, by omega, hc⟩⟩
theorem Ents.at_ {w : World} {B n k : Nat} {A : Option Addr} {es : List Ent} (h : Ents w B A n es) (hk : k < n) : ∃ ad e, A = some ad ∧ ad.block < B ∧ es[k]? = some e ∧ At w (ad.add (k * 6)) e := by
  obtain ⟨ad, e, hb, hc⟩ := h.2 (by omega)
  have hl : k < es.length := by have := h.1; omega
  exact ⟨ad, es[k], e, hb, List.getElem?_eq_getElem hl, hc k _ (List.getElem?_eq_getElem hl)⟩
def AllRight (es : List Ent) : Prop := ∀ e, e ∈ es → Right e
theorem length_frame {e : Ent} (h : Right e) : 6 ≤ (frame e).length ∧ (frame e).length ≤ 40 := by
  have := length_body e h
  unfold frame
  rw [length_framed]
  omega
theorem length_frames : ∀ (es : List Ent), AllRight es → (frames es).length ≤ 40 * es.length
  | [], _ => by simp [frames]
  | e :: es, h => by
    have h1 := length_frame (h e (by simp))
    have h2 := length_frames es (fun x hx => h x (by simp [hx]))
    show (frame e ++ frames es).length ≤ _
    rw [List.length_append, List.length_cons]; omega
theorem frames_snoc (es : List Ent) (e : Ent) : frames (es ++ [e]) = frames es ++ frame e := by rw [frames_append]; show _ ++ (frame e ++ []) = _; rw [List.append_nil]
/-- What is known behind wire.Frames. -/
def Framed (w : World) (es : List Ent) (r : Ending) (w' : World) : Prop :=
  Below w.heap.size w w' ∧ ((AllRight es ∧ ∃ v, r = .returned (.tuple #[v, .int .i64 0]) ∧ Own w' w.heap.size v (frames es)) ∨ (¬ AllRight es ∧ r = .returned (.tuple #[.slice none 0 0, .int .i64 2])))
set_option maxRecDepth 100000 in
set_option maxHeartbeats 2000000 in
theorem frames_any (A : Option Addr) (n c : Nat) (es : List Ent) (w : World) (hr : Ents w w.heap.size A n es) (hn : n < 1000) :
    Calls Try.prog 29 #[.slice A n c] w (Framed w es) := by
  go_enter Try.func29, Try.ntmps29
  go_wp2_with fail
  go_loopw [4, 10] (fun b i wr => ∃ k : Nat, k ≤ n ∧ i = .int .i64 k ∧ Own wr w.heap.size b (frames (es.take k)) ∧ AllRight (es.take k) ∧ Below w.heap.size w wr) (fun _ i _ => n - (intOf i).toNat)
  case atStart => exact ⟨0, by omega, rfl, Own.nil _ _, fun e h => by simp at h, Below.refl _ _⟩
  case round =>
    obtain ⟨k, hk, rfl, ho, hrt, hb⟩ := hrel
    have hzr := hb.size
    by_cases hlt : k < n
    · obtain ⟨ad, e, rfl, hA, hek, c0, c1, c2, c3, c4, c5⟩ := (hr.below hb).at_ hlt
      have HB := Lib.hid hb
      have HEK := Lib.hid hek
      have HRT := Lib.hid hrt
      have HLN : Hid ((frames (es.take k)).length < 100000) := Lib.hid (by have := length_frames _ hrt; rw [List.length_take] at this; omega)
      have HO := Lib.hid ho
      have hE : Hid (.agg #[.int .i64 e.epoch, .int .i64 e.id, .int .i64 e.num, .int .i64 e.seq, .int .i64 e.kind, .int .i64 e.value] = e.val) := Lib.hid rfl
      clear hb hek hrt ho
      go_wp2_with fail
      clear c0 c1 c2 c3 c4 c5
      rw [hE.out]
      have HX := Lib.hid (box_blk wr e)
      have HO1 := Lib.hid (HO.out.alloc (.cells #[.int .i64 e.epoch, .int .i64 e.id, .int .i64 e.num, .int .i64 e.seq, .int .i64 e.kind, .int .i64 e.value] 38))
      have HB1 := Lib.hid (HB.out.alloc hzr (.cells #[.int .i64 e.epoch, .int .i64 e.id, .int .i64 e.num, .int .i64 e.seq, .int .i64 e.kind, .int .i64 e.value] 38))
      clear HO HB
      generalize wr.alloc (.cells #[.int .i64 e.epoch, .int .i64 e.id, .int .i64 e.num, .int .i64 e.seq, .int .i64 e.kind, .int .i64 e.value] 38) = w1 at *
      have hz1 := HB1.out.size
      refine (check_any e w1).mono ?_
      rintro r w2 ⟨rfl, hb2⟩
      have hx2 := HX.out.below hb2 HX.out.lt
      have HO2 := Lib.hid (HO1.out.below hb2 (Nat.le_refl _))
      have HB2 := Lib.hid (HB1.out.trans (hb2.mono hz1))
      have hz2 := HB2.out.size
      obtain ⟨c0, c1, c2, c3, c4, c5⟩ := hx2.six
      clear hb2 HX HO1 HB1
      by_cases hR : Right e
      · rw [errOf_yes hR]
        have HR := Lib.hid hR
        clear hR
        go_wp2_with fail
        clear c0 c1 c2 c3 c4 c5
        rw [hE.out]
        refine (body_any e HR.out w2).mono ?_
        rintro r w3 ⟨v3, rfl, ho3, hb3⟩
        have hLB := length_body e HR.out
        obtain ⟨A3, q3, c3, rfl, hq3⟩ := ho3.form2
        have HQ3 : Hid (0 < q3 ∧ q3 < 1000) := Lib.hid (by omega)
        clear hq3 hLB
        have hy3 := ho3.bys
        have HO3 := Lib.hid (HO2.out.below hb3 (Nat.le_refl _))
        have hz3 := hb3.size
        have HNE : Hid (∀ a3, A3 = some a3 → Value.ownBlock u4 ≠ some a3.block) := Lib.hid (fun a3 e3 h4 => by
          have h5 := (HO2.out.lt h4).2
          subst e3
          have h6 := (ho3.lt (g := a3.block) rfl).1
          omega)
        go_wp2_with fail
        refine (appendFrame_any w.heap.size u4 _ A3 q3 c3 (body e) w3 HO3.out (by omega) hy3 HQ3.out.1 HNE.out HLN.out HQ3.out.2).mono ?_
        rintro r w4 ⟨v4, rfl, ho4, hg4⟩
        have hb4 := (HB2.out.trans (hb3.mono hz2)).trans (hg4.low HO3.out (by omega))
        clear hb3 hg4 hy3 ho3
        go_wp2_with fail
        go_roundw
        case rel =>
          refine ⟨k + 1, by omega, by go_num, ?_, ?_, hb4⟩
          · rw [take_snoc_some HEK.out, frames_snoc]; exact ho4
          · rw [take_snoc_some HEK.out]
            intro x hx
            rcases List.mem_append.1 hx with hx | hx
            · exact HRT.out x hx
            · simp at hx; subst hx; exact HR.out
        case measure => simp [intOf]; omega
      · rw [errOf_no hR]
        have HR := Lib.hid hR
        clear hR
        go_wp2_with fail
        go_ret2
        refine ⟨HB2.out, .inr ⟨fun h => HR.out (h e (List.mem_of_getElem? HEK.out)), rfl⟩⟩
    · have HT : Hid (es.take k = es) := Lib.hid (List.take_of_length_le (by have := hr.1; omega))
      rw [HT.out] at ho hrt
      go_wp2_with fail
      go_ret2
      exact ⟨hb, .inl ⟨hrt, _, rfl, ho⟩⟩
end Go.Proofs.Ytickdpgfiianjaa
