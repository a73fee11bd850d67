/-
  A thing by both, the disk and the document's (act). Conditions: bounds.
-/
import Derived.Test.YthhiiimmgghhaaaRefDo
import Derived.Deep.DeepCutAuto
namespace Go.Proofs.Ythhiiimmgghhaaa
open Go.RowKit
/-- The document's disk behind a thing, or a Flush. -/
def RDk.next (d : RDk) (t : RT) : RDk := if t.what = 0 ∨ t.what = 1 ∨ t.what = 2 then d.then t else d.flush
/-- What act leaves. -/
def ActsC (w : World) (S X : Nat → Prop) (g : Nat) (d' : RDk) (cs' : Array Value) (w' : World) : Prop := ∃ S', Moved w S w' S' ∧ Dk w' S' (fun b => X b ∨ S' b) g d'.st ∧ RDAt w' (fun b => X b ∨ S' b) d' cs'
def Acts (w : World) (S X : Nat → Prop) (g : Nat) (d : RDk) (t : RT) (e : Ending) (w' : World) : Prop := ∃ cs', e = .returned (.tuple #[.agg cs', .bool true]) ∧ ActsC w S X g (d.next t) cs' w'
/-- What lies there when the bytes are laid out: the row of bytes, and the three blocks. -/
def Laid (w : World) (cd ct z : Array Value) (l : Bs) (q : Nat) (v : Value) (W : World) : Prop :=
  ∃ gb c, v = .slice (some ⟨gb, 0, none⟩) q c ∧ q + 1 ≤ c ∧ c ≤ maxLen ∧ Own W (.slice (some ⟨gb, 0, none⟩) (q + 1) c) (l ++ [77]) ∧ w.heap.size + 3 ≤ gb ∧ Below w.heap.size w W ∧ Blk W w.heap.size 29 cd ∧ Blk W (w.heap.size + 1) 65 ct ∧ Blk W (w.heap.size + 2) 29 z
theorem own_at {w : World} {v : Value} {l : Bs} (h : Own w v l) (hl : 0 < l.length) : ∃ g q c, v = .slice (some ⟨g, 0, none⟩) q c ∧ q = l.length ∧ q ≤ c ∧ c ≤ maxLen := by
  rcases h.2 with ⟨rfl, h0⟩ | ⟨g, cap, cur, rfl, _, _, h1, h2, _⟩
  · omega
  · exact ⟨g, _, cap, rfl, rfl, h1, h2⟩
theorem own_blk {w : World} {g q c : Nat} {l : Bs} (h : Own w (.slice (some ⟨g, 0, none⟩) q c) l) : ∃ cur, Blk w g 5 cur ∧ ∀ j, j < l.length → ∃ n : Int, cur[j]? = some (.int .u8 n) := by
  rcases h.2 with ⟨e, h0⟩ | ⟨g', cap, cur, e, _, hh, _, _, _, ht⟩
  · cases e
  · cases e
    refine ⟨cur, hh, fun j hj => ?_⟩
    have h5 := congrArg (fun z => z[j]?) ht
    simp only [List.getElem?_map, List.getElem?_eq_getElem hj, Option.map_some] at h5
    rw [List.getElem?_take] at h5
    split at h5
    · rw [Array.getElem?_toList] at h5; exact ⟨_, h5⟩
    · cases h5
theorem acts_end {w w4 w5 w9 : World} {S S' X Y T : Nat → Prop} {g : Nat} {s' : St} {d' : RDk} {cs : Array Value} (hb4 : Below w.heap.size w w4) (hT5 : Turn S w4 w5) (hS : (∀ b, S b → S' b) ∧ ∀ b, S' b → S b ∨ w4.heap.size ≤ b) (hSX : ∀ b, S b → X b) (hlt : ∀ b, S b → b < w.heap.size)
    (hdk : Dk w5 S' (fun b => (X b ∨ (w.heap.size ≤ b ∧ b < w4.heap.size)) ∨ S' b) g s') (hrd : RDAt w4 Y d' cs) (hY : ∀ b, b < w4.heap.size → (X b ∨ T b) → Y b) (hT9 : Turn T w5 w9) (hT : ∀ b, T b → w.heap.size ≤ b ∧ b < w4.heap.size) (hs : d'.st = s') : ActsC w S X g d' cs w9 := by
  subst hs
  have hold : ∀ b, b < w4.heap.size → S' b → S b := fun b hb e => (hS.2 b e).elim id (fun e => by omega)
  refine ⟨S', ⟨((Turn.of_below hb4 S).trans hT5 (fun _ _ e => e)).trans hT9 (fun b hb e => by have := (hT b e).1; omega), hS.1, fun b e => (hS.2 b e).elim .inl (fun e => .inr (Nat.le_trans hb4.size e))⟩, ?_, ?_⟩
  · refine (hdk.keep hT9 (fun b _ e => ⟨.inl (.inr (hT b e)), fun e' => ?_⟩)).wide (fun b _ e => e.elim (fun e => .inl (.inl e)) .inr) (fun b e => .inr e)
    have h1 := hold b (hT b e).2 e'
    have h2 := hlt b h1
    have h3 := (hT b e).1
    omega
  · have h1 : RDAt w4 (fun b => (X b ∨ S' b) ∨ T b) d' cs := hrd.wide (fun b hb e => by
      rcases e with (e | e) | e
      · exact hY b hb (.inl e)
      · exact hY b hb (.inl (hSX b (hold b hb e)))
      · exact hY b hb (.inr e))
    exact ((h1.keep hT5 (fun b _ e => .inl (.inl (hSX b e)))).keep hT9 (fun b _ e => .inr e)).wide (fun b _ e => .inl e)
theorem next_put {d : RDk} {t : RT} (h : t.what = 0) : d.next t = d.then t := by unfold RDk.next; rw [if_pos (.inl h)]
theorem next_cut {d : RDk} {t : RT} (h : t.what = 1) : d.next t = d.then t := by unfold RDk.next; rw [if_pos (.inr (.inl h))]
theorem next_rem {d : RDk} {t : RT} (h : t.what = 2) : d.next t = d.then t := by unfold RDk.next; rw [if_pos (.inr (.inr h))]
theorem then_st {d : RDk} {t : RT} {κ : Int} {u : Th} (hκ : doC d.st t = κ) (hu : t.th = u) : (d.then t).st = if κ = 0 then d.st.done u else d.st := by
  subst hκ hu
  unfold RDk.then
  by_cases h : doC d.st t = 0
  · rw [if_pos h, if_pos h, RDk.did_st]
  · rw [if_neg h, if_neg h]
theorem bys_new (w : World) : Bys (w.alloc (.cells #[.int .u8 77] 5)) No (some ⟨w.heap.size, 0, none⟩) 1 [77] := by
  refine ⟨rfl, fun _ => ⟨_, rfl, by simp, fun h => h, fun j u hu => ?_⟩⟩
  have hadd : (⟨w.heap.size, 0, none⟩ : Addr).add j = ⟨w.heap.size, j, none⟩ := by unfold Addr.add; split <;> simp_all
  rw [hadd, (Blk.new w 5 _).cell j]
  match j, hu with
  | 0, hu => simp at hu; subst hu; rfl
theorem bys_keep1 {W N : World} {z0 z5 n : Nat} {l : Bs} (h : Bys W No (some ⟨z5, 0, none⟩) n l) (ht : Turn (fun b => b = z0) W N) (hne : z5 ≠ z0) : Bys N No (some ⟨z5, 0, none⟩) n l :=
  ⟨h.1, fun hn => by
    obtain ⟨ad, e, hb, hx, hc⟩ := h.2 hn
    cases e
    exact ⟨_, rfl, Nat.lt_of_lt_of_le hb ht.size, hx, fun j u hu => (ht.cell (p := Addr.add ⟨z5, 0, none⟩ j) (by rw [block_of_add]; exact hb) (by rw [block_of_add]; exact hne)).trans (hc j u hu)⟩⟩
set_option maxRecDepth 100000 in
set_option maxHeartbeats 16000000 in
theorem act_any {w : World} {S X : Nat → Prop} {g : Nat} {d : RDk} {cs ct : Array Value} {t : RT} (h : Dk w S X g d.st) (hX : ∀ b, X b → b < w.heap.size) (hd : RDAt w X d cs) (hok : d.ok) (ht : RTAt w X t ct)
    (hn : t.name.length ≤ 1000000000) (hb : t.bytes.length ≤ 100000000) (hsz : d.st.size < 900000) : Calls Try.prog 35 #[.pointer (some ⟨g, 0, none⟩), .agg cs, .agg ct] w (Acts w S X g d t) := by
  have HO := Lib.hid hok
  have HX := Lib.hid hX
  have HDK := Lib.hid h
  have HD := Lib.hid hd
  have HTA := Lib.hid ht
  have HSZ := Lib.hid hsz
  have HN := Lib.hid hn
  have HBY := Lib.hid hb
  obtain ⟨A, n, c, B, m, k0, rfl, -, -, -, -, -, -⟩ := hd
  obtain ⟨Ab, qb, cb, rfl, hyb, hqb, hcb⟩ := ht
  have HQ := Lib.hid hyb.1
  have HYB := Lib.hid hyb
  have hqbl : qb ≤ 100000000 := by have := hyb.1; omega
  clear hok hX h hyb hb hn hsz
  go_enter Try.func35, Try.ntmps35
  have b1 : Blk (((w.alloc (.cells #[.int .i64 (d.room : Int), .slice A n c, .slice B m k0] 29)).alloc (.cells #[.int .i64 t.what, .string (str t.name), .slice Ab qb cb, .int .i64 t.n] 65)).alloc (.cells #[.int .i64 0, .slice none 0 0, .slice none 0 0] 29)) w.heap.size 29 #[.int .i64 (d.room : Int), .slice A n c, .slice B m k0] := ((Blk.new _ _ _).alloc _).alloc _
  have t1 : Blk (((w.alloc (.cells #[.int .i64 (d.room : Int), .slice A n c, .slice B m k0] 29)).alloc (.cells #[.int .i64 t.what, .string (str t.name), .slice Ab qb cb, .int .i64 t.n] 65)).alloc (.cells #[.int .i64 0, .slice none 0 0, .slice none 0 0] 29)) (w.heap.size + 1) 65 #[.int .i64 t.what, .string (str t.name), .slice Ab qb cb, .int .i64 t.n] := by
    have := Blk.new (w.alloc (.cells #[.int .i64 (d.room : Int), .slice A n c, .slice B m k0] 29)) 65 #[.int .i64 t.what, .string (str t.name), .slice Ab qb cb, .int .i64 t.n]
    rw [World.size_alloc] at this
    exact this.alloc _
  have r1 : Blk (((w.alloc (.cells #[.int .i64 (d.room : Int), .slice A n c, .slice B m k0] 29)).alloc (.cells #[.int .i64 t.what, .string (str t.name), .slice Ab qb cb, .int .i64 t.n] 65)).alloc (.cells #[.int .i64 0, .slice none 0 0, .slice none 0 0] 29)) (w.heap.size + 2) 29 #[.int .i64 0, .slice none 0 0, .slice none 0 0] := by
    have := Blk.new ((w.alloc (.cells #[.int .i64 (d.room : Int), .slice A n c, .slice B m k0] 29)).alloc (.cells #[.int .i64 t.what, .string (str t.name), .slice Ab qb cb, .int .i64 t.n] 65)) 29 #[.int .i64 0, .slice none 0 0, .slice none 0 0]
    rwa [World.size_alloc, World.size_alloc] at this
  have hb1 : Below w.heap.size w (((w.alloc (.cells #[.int .i64 (d.room : Int), .slice A n c, .slice B m k0] 29)).alloc (.cells #[.int .i64 t.what, .string (str t.name), .slice Ab qb cb, .int .i64 t.n] 65)).alloc (.cells #[.int .i64 0, .slice none 0 0, .slice none 0 0] 29)) := (((Below.refl _ _).alloc (Nat.le_refl _) _).alloc (by simp) _).alloc (by simp; omega) _
  rcases (show t.what = 0 ∨ t.what = 1 ∨ t.what = 2 ∨ (t.what ≠ 0 ∧ t.what ≠ 1 ∧ t.what ≠ 2) by omega) with hw | hw | hw | ⟨hwa, hwb, hwc⟩
  · have hq0 : (t.what == 0) = true := by simpa using hw
    have HW := Lib.hid hw
    clear hw
    go_upto_region 3 with fail
    go_cut [8] (fun s8 wx => Laid w #[.int .i64 (d.room : Int), .slice A n c, .slice B m k0] #[.int .i64 t.what, .string (str t.name), .slice Ab qb cb, .int .i64 t.n] #[.int .i64 0, .slice none 0 0, .slice none 0 0] t.bytes qb s8 wx)
    case first =>
      have HDq := Lib.hid b1.drew
      have HRq := Lib.hid r1.drew
      have HBLq := Lib.hid hb1.drew
      refine wp_region_np ?_
      refine wp_region_held_drew (S := fun W => Blk W (w.heap.size + 1) 65 #[.int .i64 t.what, .string (str t.name), .slice Ab qb cb, .int .i64 t.n]) (by kernel_rfl) t1.drew (fun hHeld => ?_)
      generalize (World.drew (((w.alloc (.cells #[.int .i64 (d.room : Int), .slice A n c, .slice B m k0] 29)).alloc (.cells #[.int .i64 t.what, .string (str t.name), .slice Ab qb cb, .int .i64 t.n] 65)).alloc (.cells #[.int .i64 0, .slice none 0 0, .slice none 0 0] 29))) = wa0 at *
      clear b1 t1 r1 hb1
      refine wpAnyH_takeAt (i := 1) (d := 23) (v := ?vq24x) rfl rfl (by kernel_rfl) (by kernel_rfl) (by kernel_rfl) (fun _ _ _ h => h) (Or.inl ⟨by rfl, ?hyq24x⟩) hHeld ?_
      case hyq24x =>
        intro W hSw
        clear hSw
        (go_simp; try with_reducible rfl)
      simp only [List.setIfInBounds_toArray, List.set_cons_zero, List.set_cons_succ]
      refine wpAnyH_takeAt (i := 2) (d := 24) (v := ?vq25x) rfl rfl (by kernel_rfl) (by kernel_rfl) (by kernel_rfl) (fun _ _ _ h => h) (Or.inl ⟨by rfl, ?hyq25x⟩) hHeld ?_
      case hyq25x =>
        intro W hSw
        obtain ⟨c0, c1, c2, c3⟩ := Blk.four (show Blk W (w.heap.size + 1) 65 #[.int .i64 t.what, .string (str t.name), .slice Ab qb cb, .int .i64 t.n] from hSw)
        (go_simp; try with_reducible rfl)
      simp only [List.setIfInBounds_toArray, List.set_cons_zero, List.set_cons_succ]
      refine wpAnyH_takeAt (i := 6) (d := 28) (v := ?vq26x) rfl rfl (by kernel_rfl) (by kernel_rfl) (by kernel_rfl) (fun _ _ _ h => h) (Or.inl ⟨by rfl, ?hyq26x⟩) hHeld ?_
      case hyq26x =>
        intro W hSw
        clear hSw
        (go_simp; try with_reducible rfl)
      simp only [List.setIfInBounds_toArray, List.set_cons_zero, List.set_cons_succ]
      refine wpAnyH_takeAt (i := 7) (d := 29) (v := ?vq27x) rfl rfl (by kernel_rfl) (by kernel_rfl) (by kernel_rfl) (fun _ _ _ h => h) (Or.inl ⟨by rfl, ?hyq27x⟩) hHeld ?_
      case hyq27x =>
        intro W hSw
        obtain ⟨c0, c1, c2, c3⟩ := Blk.four (show Blk W (w.heap.size + 1) 65 #[.int .i64 t.what, .string (str t.name), .slice Ab qb cb, .int .i64 t.n] from hSw)
        (go_simp; try with_reducible rfl)
      simp only [List.setIfInBounds_toArray, List.set_cons_zero, List.set_cons_succ]
      refine wpAnyH_takeAt (i := 8) (d := 30) (v := ?vq28x) rfl rfl (by kernel_rfl) (by kernel_rfl) (by kernel_rfl) (fun _ _ _ h => h) (Or.inl ⟨by rfl, ?hyq28x⟩) hHeld ?_
      case hyq28x =>
        intro W hSw
        clear hSw
        (go_simp; try with_reducible rfl)
      simp only [List.setIfInBounds_toArray, List.set_cons_zero, List.set_cons_succ]
      refine wpAnyH_ready (rs := [0, 4]) (by kernel_rfl) (by simp) (AllReadyH.cons rfl (fun K hK => ?_) (AllReadyH.cons rfl (fun K hK => ?_) AllReadyH.nil))
      · go_simp
        refine hK.out _ _ (hHeld.alloc _) (fun hHeld => ?_)
        clear hK K
        try simp only [List.setIfInBounds_toArray, List.set_cons_zero, List.set_cons_succ]
        have hal : Below wa0.heap.size wa0 (wa0.alloc (.cells #[] 5)) := (Below.refl _ _).alloc (Nat.le_refl _) _
        have HO0 := Lib.hid (own_empty wa0)
        have HZ0 : Hid (w.heap.size + 3 ≤ wa0.heap.size) := Lib.hid (by have := HRq.out.lt; omega)
        have HDq := Lib.hid (HDq.out.below hal HDq.out.lt)
        have HRq := Lib.hid (HRq.out.below hal HRq.out.lt)
        have HBLq := Lib.hid (HBLq.out.trans (hal.mono HBLq.out.size))
        clear hal
        generalize wa0.alloc (.cells #[] 5) = wa0a at *
        generalize wa0.heap.size = z0 at *
        refine wpAnyH_ready (rs := [3, 4]) (by kernel_rfl) (by simp) (AllReadyH.cons rfl (fun K hK => ?_) (AllReadyH.cons rfl (fun K hK => ?_) AllReadyH.nil))
        · refine step_append_bytes (d := 25) (by rfl) rfl _ _ (by rfl) _ [] (by rfl) HO0.out X Ab qb cb t.bytes (by rfl) (HYB.out.below HBLq.out) (by simp) (by omega) ?_
          intro v3 wa0ac ho3 hg3
          rw [List.nil_append] at ho3
          have hT3 : Turn (fun b => b = z0) wa0a wa0ac := hg3.turn (fun g e => by cases e; rfl)
          have hz := HZ0.out
          refine hK.out _ _ (Blk.keep hHeld hT3 (by omega)) (fun hHeld => ?_)
          clear hK K
          try simp only [List.setIfInBounds_toArray, List.set_cons_zero, List.set_cons_succ]
          have HV3 : Hid (∀ g, v3.ownBlock = some g → w.heap.size + 3 ≤ g) := Lib.hid (fun g e => by
            rcases hg3.2 g e with q | q
            · cases q; exact hz
            · have := HRq.out.lt; omega)
          have HDq := Lib.hid (HDq.out.keep hT3 (by omega))
          have HRq := Lib.hid (HRq.out.keep hT3 (by omega))
          have HBLq := Lib.hid (HBLq.out.trans (hT3.below HBLq.out.size (fun b e => by omega)))
          have HO3 := Lib.hid ho3
          clear ho3 hg3 hT3 hz
          refine wpAnyH_ready (rs := [4]) (by kernel_rfl) (by simp) (AllReadyH.cons rfl (fun K hK => ?_) AllReadyH.nil)
          go_simp
          refine hK.out _ _ (hHeld.alloc _) (fun hHeld => ?_)
          clear hK K
          try simp only [List.setIfInBounds_toArray, List.set_cons_zero, List.set_cons_succ]
          have hal : Below wa0ac.heap.size wa0ac (wa0ac.alloc (.cells #[.int .u8 77] 5)) := (Below.refl _ _).alloc (Nat.le_refl _) _
          have HR4 := Lib.hid (bys_new wa0ac)
          have HL4 : Hid (wa0ac.heap.size < (wa0ac.alloc (.cells #[.int .u8 77] 5)).heap.size) := Lib.hid (by simp)
          have HO3 := Lib.hid (HO3.out.below hal)
          have HDq := Lib.hid (HDq.out.below hal HDq.out.lt)
          have HRq := Lib.hid (HRq.out.below hal HRq.out.lt)
          have HBLq := Lib.hid (HBLq.out.trans (hal.mono HBLq.out.size))
          clear hal
          generalize wa0ac.alloc (.cells #[.int .u8 77] 5) = wa0acb at *
          generalize wa0ac.heap.size = z4 at *
          refine wpAnyH_ready (rs := [5]) (by kernel_rfl) (by simp) (AllReadyH.cons rfl (fun K hK => ?_) AllReadyH.nil)
          refine step_append_bytes (d := 27) (by rfl) rfl _ _ (by rfl) _ t.bytes (by rfl) HO3.out No _ 1 1 [77] (by rfl) HR4.out (by have := HQ.out; omega) (by omega) ?_
          intro v6 wa0acbd ho6 hg6
          have hT6 : Turn (fun b => w.heap.size + 3 ≤ b) wa0acb wa0acbd := hg6.turn (fun g e => HV3.out g e)
          have HV6 : Hid (∀ g, v6.ownBlock = some g → w.heap.size + 3 ≤ g) := Lib.hid (fun g e => by
            rcases hg6.2 g e with q | q
            · exact HV3.out g q
            · have := HRq.out.lt; omega)
          refine hK.out _ _ (Blk.keep hHeld hT6 (by omega)) (fun hHeld => ?_)
          clear hK K
          try simp only [List.setIfInBounds_toArray, List.set_cons_zero, List.set_cons_succ]
          have HDq := Lib.hid (HDq.out.keep hT6 (by omega))
          have HRq := Lib.hid (HRq.out.keep hT6 (by omega))
          have HBLq := Lib.hid (HBLq.out.trans (hT6.below HBLq.out.size (fun b e => by omega)))
          have hlen : (t.bytes ++ [77]).length = qb + 1 := by rw [List.length_append, HQ.out]; rfl
          obtain ⟨gb, q6, c6, rfl, hq6, hqc6, hcm6⟩ := own_at ho6 (by omega)
          obtain rfl : q6 = qb + 1 := by omega
          have HO6 := Lib.hid ho6
          have hsl := fun W => slice_to (some ⟨gb, 0, none⟩) (qb + 1) c6 qb (qb : Int) rfl (by omega) W
          clear ho6 hg6 hT6 hlen hq6
          refine wpAnyH_takeAt (i := 9) (d := 31) (v := ?vq29x) rfl rfl (by kernel_rfl) (by kernel_rfl) (by kernel_rfl) (fun _ _ _ h => h) (Or.inl ⟨by rfl, ?hyq29x⟩) hHeld ?_
          case hyq29x =>
            intro W hSw
            clear hSw
            (go_simp; try with_reducible rfl)
          simp only [List.setIfInBounds_toArray, List.set_cons_zero, List.set_cons_succ]
          refine wpAnyH_takeAt (i := 10) (d := 8) (v := ?vq30x) rfl rfl (by kernel_rfl) (by kernel_rfl) (by kernel_rfl) (fun _ _ _ h => h) (Or.inl ⟨by rfl, ?hyq30x⟩) hHeld ?_
          case hyq30x =>
            intro W hSw
            clear hSw
            (go_simp; try with_reducible rfl)
          simp only [List.setIfInBounds_toArray, List.set_cons_zero, List.set_cons_succ]
          refine wpAnyH_done (by kernel_rfl) ?_ _
          go_wp2_with fail
          go_meet
          case rel => exact ⟨gb, c6, rfl, hqc6, hcm6, HO6.out, HV6.out gb rfl, HBLq.out, HDq.out, hHeld, HRq.out⟩
        · go_simp
          refine hK.out _ _ (hHeld.alloc _) (fun hHeld => ?_)
          clear hK K
          try simp only [List.setIfInBounds_toArray, List.set_cons_zero, List.set_cons_succ]
          have hal : Below wa0a.heap.size wa0a (wa0a.alloc (.cells #[.int .u8 77] 5)) := (Below.refl _ _).alloc (Nat.le_refl _) _
          have HR4 := Lib.hid (bys_new wa0a)
          have HL4 : Hid (wa0a.heap.size < (wa0a.alloc (.cells #[.int .u8 77] 5)).heap.size) := Lib.hid (by simp)
          have HNE : Hid (wa0a.heap.size ≠ z0) := Lib.hid (by have := HO0.out.lt (g := z0) rfl; omega)
          have HO0 := Lib.hid (HO0.out.below hal)
          have HDq := Lib.hid (HDq.out.below hal HDq.out.lt)
          have HRq := Lib.hid (HRq.out.below hal HRq.out.lt)
          have HBLq := Lib.hid (HBLq.out.trans (hal.mono HBLq.out.size))
          clear hal
          generalize wa0a.alloc (.cells #[.int .u8 77] 5) = wa0ab at *
          generalize wa0a.heap.size = z4 at *
          refine wpAnyH_ready (rs := [3]) (by kernel_rfl) (by simp) (AllReadyH.cons rfl (fun K hK => ?_) AllReadyH.nil)
          refine step_append_bytes (d := 25) (by rfl) rfl _ _ (by rfl) _ [] (by rfl) HO0.out X Ab qb cb t.bytes (by rfl) (HYB.out.below HBLq.out) (by simp) (by omega) ?_
          intro v3 wa0abc ho3 hg3
          rw [List.nil_append] at ho3
          have hT3 : Turn (fun b => b = z0) wa0ab wa0abc := hg3.turn (fun g e => by cases e; rfl)
          have hz := HZ0.out
          refine hK.out _ _ (Blk.keep hHeld hT3 (by omega)) (fun hHeld => ?_)
          clear hK K
          try simp only [List.setIfInBounds_toArray, List.set_cons_zero, List.set_cons_succ]
          have HV3 : Hid (∀ g, v3.ownBlock = some g → w.heap.size + 3 ≤ g) := Lib.hid (fun g e => by
            rcases hg3.2 g e with q | q
            · cases q; exact hz
            · have := HRq.out.lt; omega)
          have HR4 := Lib.hid (bys_keep1 HR4.out hT3 (fun e => HNE.out e))
          have HDq := Lib.hid (HDq.out.keep hT3 (by omega))
          have HRq := Lib.hid (HRq.out.keep hT3 (by omega))
          have HBLq := Lib.hid (HBLq.out.trans (hT3.below HBLq.out.size (fun b e => by omega)))
          have HO3 := Lib.hid ho3
          clear ho3 hg3 hT3 hz
          refine wpAnyH_ready (rs := [5]) (by kernel_rfl) (by simp) (AllReadyH.cons rfl (fun K hK => ?_) AllReadyH.nil)
          refine step_append_bytes (d := 27) (by rfl) rfl _ _ (by rfl) _ t.bytes (by rfl) HO3.out No _ 1 1 [77] (by rfl) HR4.out (by have := HQ.out; omega) (by omega) ?_
          intro v6 wa0abcd ho6 hg6
          have hT6 : Turn (fun b => w.heap.size + 3 ≤ b) wa0abc wa0abcd := hg6.turn (fun g e => HV3.out g e)
          have HV6 : Hid (∀ g, v6.ownBlock = some g → w.heap.size + 3 ≤ g) := Lib.hid (fun g e => by
            rcases hg6.2 g e with q | q
            · exact HV3.out g q
            · have := HRq.out.lt; omega)
          refine hK.out _ _ (Blk.keep hHeld hT6 (by omega)) (fun hHeld => ?_)
          clear hK K
          try simp only [List.setIfInBounds_toArray, List.set_cons_zero, List.set_cons_succ]
          have HDq := Lib.hid (HDq.out.keep hT6 (by omega))
          have HRq := Lib.hid (HRq.out.keep hT6 (by omega))
          have HBLq := Lib.hid (HBLq.out.trans (hT6.below HBLq.out.size (fun b e => by omega)))
          have hlen : (t.bytes ++ [77]).length = qb + 1 := by rw [List.length_append, HQ.out]; rfl
          obtain ⟨gb, q6, c6, rfl, hq6, hqc6, hcm6⟩ := own_at ho6 (by omega)
          obtain rfl : q6 = qb + 1 := by omega
          have HO6 := Lib.hid ho6
          have hsl := fun W => slice_to (some ⟨gb, 0, none⟩) (qb + 1) c6 qb (qb : Int) rfl (by omega) W
          clear ho6 hg6 hT6 hlen hq6
          refine wpAnyH_takeAt (i := 9) (d := 31) (v := ?vq31x) rfl rfl (by kernel_rfl) (by kernel_rfl) (by kernel_rfl) (fun _ _ _ h => h) (Or.inl ⟨by rfl, ?hyq31x⟩) hHeld ?_
          case hyq31x =>
            intro W hSw
            clear hSw
            (go_simp; try with_reducible rfl)
          simp only [List.setIfInBounds_toArray, List.set_cons_zero, List.set_cons_succ]
          refine wpAnyH_takeAt (i := 10) (d := 8) (v := ?vq32x) rfl rfl (by kernel_rfl) (by kernel_rfl) (by kernel_rfl) (fun _ _ _ h => h) (Or.inl ⟨by rfl, ?hyq32x⟩) hHeld ?_
          case hyq32x =>
            intro W hSw
            clear hSw
            (go_simp; try with_reducible rfl)
          simp only [List.setIfInBounds_toArray, List.set_cons_zero, List.set_cons_succ]
          refine wpAnyH_done (by kernel_rfl) ?_ _
          go_wp2_with fail
          go_meet
          case rel => exact ⟨gb, c6, rfl, hqc6, hcm6, HO6.out, HV6.out gb rfl, HBLq.out, HDq.out, hHeld, HRq.out⟩
      · go_simp
        refine hK.out _ _ (hHeld.alloc _) (fun hHeld => ?_)
        clear hK K
        try simp only [List.setIfInBounds_toArray, List.set_cons_zero, List.set_cons_succ]
        have hal : Below wa0.heap.size wa0 (wa0.alloc (.cells #[.int .u8 77] 5)) := (Below.refl _ _).alloc (Nat.le_refl _) _
        have HR4 := Lib.hid (bys_new wa0)
        have HL4 : Hid (wa0.heap.size < (wa0.alloc (.cells #[.int .u8 77] 5)).heap.size) := Lib.hid (by simp)
        have HDq := Lib.hid (HDq.out.below hal HDq.out.lt)
        have HRq := Lib.hid (HRq.out.below hal HRq.out.lt)
        have HBLq := Lib.hid (HBLq.out.trans (hal.mono HBLq.out.size))
        clear hal
        generalize wa0.alloc (.cells #[.int .u8 77] 5) = wa0b at *
        generalize wa0.heap.size = z4 at *
        refine wpAnyH_ready (rs := [0]) (by kernel_rfl) (by simp) (AllReadyH.cons rfl (fun K hK => ?_) AllReadyH.nil)
        go_simp
        refine hK.out _ _ (hHeld.alloc _) (fun hHeld => ?_)
        clear hK K
        try simp only [List.setIfInBounds_toArray, List.set_cons_zero, List.set_cons_succ]
        have hal : Below wa0b.heap.size wa0b (wa0b.alloc (.cells #[] 5)) := (Below.refl _ _).alloc (Nat.le_refl _) _
        have HO0 := Lib.hid (own_empty wa0b)
        have HZ0 : Hid (w.heap.size + 3 ≤ wa0b.heap.size) := Lib.hid (by have := HRq.out.lt; omega)
        have HDq := Lib.hid (HDq.out.below hal HDq.out.lt)
        have HRq := Lib.hid (HRq.out.below hal HRq.out.lt)
        have HBLq := Lib.hid (HBLq.out.trans (hal.mono HBLq.out.size))
        have HR4 := Lib.hid (HR4.out.below hal)
        have HNE : Hid (z4 ≠ wa0b.heap.size) := Lib.hid (by have := HL4.out; omega)
        clear hal
        generalize wa0b.alloc (.cells #[] 5) = wa0ba at *
        generalize wa0b.heap.size = z0 at *
        refine wpAnyH_ready (rs := [3]) (by kernel_rfl) (by simp) (AllReadyH.cons rfl (fun K hK => ?_) AllReadyH.nil)
        refine step_append_bytes (d := 25) (by rfl) rfl _ _ (by rfl) _ [] (by rfl) HO0.out X Ab qb cb t.bytes (by rfl) (HYB.out.below HBLq.out) (by simp) (by omega) ?_
        intro v3 wa0bac ho3 hg3
        rw [List.nil_append] at ho3
        have hT3 : Turn (fun b => b = z0) wa0ba wa0bac := hg3.turn (fun g e => by cases e; rfl)
        have hz := HZ0.out
        refine hK.out _ _ (Blk.keep hHeld hT3 (by omega)) (fun hHeld => ?_)
        clear hK K
        try simp only [List.setIfInBounds_toArray, List.set_cons_zero, List.set_cons_succ]
        have HV3 : Hid (∀ g, v3.ownBlock = some g → w.heap.size + 3 ≤ g) := Lib.hid (fun g e => by
          rcases hg3.2 g e with q | q
          · cases q; exact hz
          · have := HRq.out.lt; omega)
        have HR4 := Lib.hid (bys_keep1 HR4.out hT3 (fun e => HNE.out e))
        have HDq := Lib.hid (HDq.out.keep hT3 (by omega))
        have HRq := Lib.hid (HRq.out.keep hT3 (by omega))
        have HBLq := Lib.hid (HBLq.out.trans (hT3.below HBLq.out.size (fun b e => by omega)))
        have HO3 := Lib.hid ho3
        clear ho3 hg3 hT3 hz
        refine wpAnyH_ready (rs := [5]) (by kernel_rfl) (by simp) (AllReadyH.cons rfl (fun K hK => ?_) AllReadyH.nil)
        refine step_append_bytes (d := 27) (by rfl) rfl _ _ (by rfl) _ t.bytes (by rfl) HO3.out No _ 1 1 [77] (by rfl) HR4.out (by have := HQ.out; omega) (by omega) ?_
        intro v6 wa0bacd ho6 hg6
        have hT6 : Turn (fun b => w.heap.size + 3 ≤ b) wa0bac wa0bacd := hg6.turn (fun g e => HV3.out g e)
        have HV6 : Hid (∀ g, v6.ownBlock = some g → w.heap.size + 3 ≤ g) := Lib.hid (fun g e => by
          rcases hg6.2 g e with q | q
          · exact HV3.out g q
          · have := HRq.out.lt; omega)
        refine hK.out _ _ (Blk.keep hHeld hT6 (by omega)) (fun hHeld => ?_)
        clear hK K
        try simp only [List.setIfInBounds_toArray, List.set_cons_zero, List.set_cons_succ]
        have HDq := Lib.hid (HDq.out.keep hT6 (by omega))
        have HRq := Lib.hid (HRq.out.keep hT6 (by omega))
        have HBLq := Lib.hid (HBLq.out.trans (hT6.below HBLq.out.size (fun b e => by omega)))
        have hlen : (t.bytes ++ [77]).length = qb + 1 := by rw [List.length_append, HQ.out]; rfl
        obtain ⟨gb, q6, c6, rfl, hq6, hqc6, hcm6⟩ := own_at ho6 (by omega)
        obtain rfl : q6 = qb + 1 := by omega
        have HO6 := Lib.hid ho6
        have hsl := fun W => slice_to (some ⟨gb, 0, none⟩) (qb + 1) c6 qb (qb : Int) rfl (by omega) W
        clear ho6 hg6 hT6 hlen hq6
        refine wpAnyH_takeAt (i := 9) (d := 31) (v := ?vq33x) rfl rfl (by kernel_rfl) (by kernel_rfl) (by kernel_rfl) (fun _ _ _ h => h) (Or.inl ⟨by rfl, ?hyq33x⟩) hHeld ?_
        case hyq33x =>
          intro W hSw
          clear hSw
          (go_simp; try with_reducible rfl)
        simp only [List.setIfInBounds_toArray, List.set_cons_zero, List.set_cons_succ]
        refine wpAnyH_takeAt (i := 10) (d := 8) (v := ?vq34x) rfl rfl (by kernel_rfl) (by kernel_rfl) (by kernel_rfl) (fun _ _ _ h => h) (Or.inl ⟨by rfl, ?hyq34x⟩) hHeld ?_
        case hyq34x =>
          intro W hSw
          clear hSw
          (go_simp; try with_reducible rfl)
        simp only [List.setIfInBounds_toArray, List.set_cons_zero, List.set_cons_succ]
        refine wpAnyH_done (by kernel_rfl) ?_ _
        go_wp2_with fail
        go_meet
        case rel => exact ⟨gb, c6, rfl, hqc6, hcm6, HO6.out, HV6.out gb rfl, HBLq.out, HDq.out, hHeld, HRq.out⟩
    case rest =>
      clear b1 t1 r1 hb1
      obtain ⟨gb, c6, rfl, hqc6, hcm6, ho6, hgb, hbl, bD, bT, bR⟩ := hcut
      obtain ⟨x0, x1, x2⟩ := bD.three
      obtain ⟨y0, y1, y2, y3⟩ := bT.four
      go_wp2_with fail
      refine (refDo_any (X := fun b => X b ∨ (w.heap.size ≤ b ∧ b < wc.heap.size)) ((HD.out.wide (fun b hb e => e.elim id (fun e => by omega))).below hbl) (fun b e => e.elim (fun e => Nat.lt_of_lt_of_le (HX.out b e) hbl.size) (fun e => e.2)) HO.out ((HTA.out.wide (fun b hb e => e.elim id (fun e => by omega))).below hbl) (.inl HW.out) HN.out HBY.out HSZ.out).mono ?_
      rintro e w3 ⟨cs3, rfl, hrd3, hb3⟩
      have HRD3 := Lib.hid hrd3
      obtain ⟨A3, n3, c3, B3, m3, k3, rfl, -, -, -, -, -, -⟩ := hrd3
      rw [show doC d.st t = putC d.st t.name t.bytes from by unfold doC; rw [if_pos HW.out]]
      have HC3 : Hid (putC d.st t.name t.bytes = doC d.st t) := Lib.hid (by unfold doC; rw [if_pos HW.out])
      generalize hκ : putC d.st t.name t.bytes = κ at *
      have HKA := Lib.hid hκ
      clear hκ
      have bT4 := (bT.below hb3 bT.lt).alloc (.cells #[.int .i64 ((d.then t).room : Int), .slice A3 n3 c3, .slice B3 m3 k3] 29)
      have bR4 := (bR.below hb3 bR.lt).alloc (.cells #[.int .i64 ((d.then t).room : Int), .slice A3 n3 c3, .slice B3 m3 k3] 29)
      have bV4 : Blk (w3.alloc (.cells #[.int .i64 ((d.then t).room : Int), .slice A3 n3 c3, .slice B3 m3 k3] 29)) w3.heap.size 29 #[.int .i64 ((d.then t).room : Int), .slice A3 n3 c3, .slice B3 m3 k3] := Blk.new _ _ _
      have hal : Below w3.heap.size w3 (w3.alloc (.cells #[.int .i64 ((d.then t).room : Int), .slice A3 n3 c3, .slice B3 m3 k3] 29)) := (Below.refl _ _).alloc (Nat.le_refl _) _
      have hbc4 := hb3.trans (hal.mono hb3.size)
      have hbl4 := hbl.trans (hbc4.mono hbl.size)
      have HRD4 : Hid (RDAt (w3.alloc (.cells #[.int .i64 ((d.then t).room : Int), .slice A3 n3 c3, .slice B3 m3 k3] 29)) (fun b => (X b ∨ (w.heap.size ≤ b ∧ b < wc.heap.size)) ∨ b = w3.heap.size) (d.then t) #[.int .i64 ((d.then t).room : Int), .slice A3 n3 c3, .slice B3 m3 k3]) := Lib.hid ((HRD3.out.wide (fun b hb e => e.elim id (fun e => by omega))).below hal)
      have ho4 := ho6.below hbc4
      have hzv : wc.heap.size ≤ w3.heap.size := hb3.size
      have HRDB := Lib.hid bR.lt
      have HGBL := Lib.hid (ho6.lt (g := gb) rfl)
      clear x0 x1 x2 y0 y1 y2 y3
      obtain ⟨y0, y1, y2, y3⟩ := bT4.four
      go_wp2_with fail
      have HZ4 : Hid (wc.heap.size ≤ (w3.alloc (.cells #[.int .i64 ((d.then t).room : Int), .slice A3 n3 c3, .slice B3 m3 k3] 29)).heap.size) := Lib.hid (by rw [World.size_alloc]; omega)
      generalize w3.alloc (.cells #[.int .i64 ((d.then t).room : Int), .slice A3 n3 c3, .slice B3 m3 k3] 29) = w4 at *
      generalize w3.heap.size = zv at *
      have hdk4 : Dk w4 S (fun b => X b ∨ (w.heap.size ≤ b ∧ b < w4.heap.size)) g d.st := (HDK.out.wide (fun b hb e => e.elim id (fun e => by omega)) (fun b e => .inl (HDK.out.inX e))).below hbl4
      have hby4 : Bys w4 No (some ⟨gb, 0, none⟩) qb t.bytes := by
        have := (ho4.bys (X := No) (fun _ _ h => h)).first (k := qb) (by omega)
        rwa [List.take_left' HQ.out] at this
      refine (diskPut_any hdk4 (fun b e => e.elim (fun e => Nat.lt_of_lt_of_le (HX.out b e) hbl4.size) (fun e => e.2)) t.name (some ⟨gb, 0, none⟩) qb c6 t.bytes hby4 HN.out (by omega) HSZ.out).mono ?_
      rintro e w5 ⟨rfl, hT5, S', hS1, hS2, hdk5⟩
      rw [HKA.out] at hdk5 ⊢
      have hSw : ∀ b, S b → b < w.heap.size := fun b e => HDK.out.lt e
      have bT5 := bT4.keep hT5 (fun e => by have := hSw _ e; omega)
      have bR5 := bR4.keep hT5 (fun e => by have := hSw _ e; omega)
      have bV5 := bV4.keep hT5 (fun e => by have := hSw _ e; have := HRDB.out; omega)
      have ho5 := ho4.keep hT5 (fun r e e' => by cases e; have h9 : gb < w.heap.size := hSw _ e'; omega)
      have hyb5 : Bys w5 No Ab qb t.bytes := by
        have h1 := (HYB.out.wide (X' := X) (fun _ _ e => e)).below hbl4
        exact (h1.keep hT5 (fun b _ e => HDK.out.inX e)).no
      have hby5 : Bys w5 No (some ⟨gb, 0, none⟩) qb t.bytes := by
        have := (ho5.bys (X := No) (fun _ _ h => h)).first (k := qb) (by omega)
        rwa [List.take_left' HQ.out] at this
      have cv1 := conv_str w5 No (some ⟨gb, 0, none⟩) qb c6 t.bytes hby5
      have cv2 := conv_str w5 No Ab qb cb t.bytes hyb5
      have hbe : ((str t.bytes).toList == (str t.bytes).toList) = true := by simp
      have hsl := fun W => slice_to (some ⟨gb, 0, none⟩) qb c6 (qb + 1) ((qb : Int) + 1) (by omega) (by omega) W
      have hwr : IntKind.i64.wrap ((qb : Int) + 1) = (qb : Int) + 1 := by apply IntWalk.i64_in; omega
      have hli : (qb : Int) < (qb : Int) + 1 := by omega
      have HO5 := Lib.hid ho5
      have HRD4' := HRD4
      have HDK5 := Lib.hid hdk5
      have HT5 := Lib.hid hT5
      have HB5 := Lib.hid (And.intro bT5 (And.intro bR5 bV5))
      have HS := Lib.hid (And.intro hS1 hS2)
      have HBL4 := Lib.hid hbl4
      have f77 : w5.cell? ⟨gb, qb, none⟩ = some (.int .u8 77) := by
        obtain ⟨ad, e, _, _, hc⟩ := (ho5.bys (X := No) (fun _ _ h => h)).2 (by omega)
        cases e
        have := hc qb 77 (by rw [List.getElem?_append_right (by have := HQ.out; omega), HQ.out]; simp)
        have hadd : (⟨gb, 0, none⟩ : Addr).add qb = ⟨gb, qb, none⟩ := by unfold Addr.add; split <;> simp_all
        rwa [hadd] at this
      obtain ⟨v0, v1, v2, v3⟩ := bT5.four
      clear y0 y1 y2 y3 bT4 bR4 bV4 bT5 bR5 bV5 ho4 ho5 ho6 hdk4 hdk5 hT5 hS1 hS2 hyb5 hby5 hby4 hbl4 hal hbc4 hb3 bD bT bR hbl
      go_wp2_with fail
      obtain ⟨cur5, hcur5, hcb5⟩ := own_blk HO5.out
      have hq1l : (t.bytes ++ [77]).length = qb + 1 := by rw [List.length_append, HQ.out]; rfl
      have HCU : Hid (∃ cur, Blk w5 gb 5 cur ∧ ∀ j, j < qb → ∃ n : Int, cur[j]? = some (.int .u8 n)) := Lib.hid ⟨cur5, hcur5, fun j hj => hcb5 j (by omega)⟩
      clear cv1 cv2 hbe hsl hwr hli f77 v0 v1 v2 v3 hcur5 hcb5 hq1l
      go_loopw [13] (fun i wr => ∃ k : Nat, k ≤ qb ∧ i = .int .i64 k ∧ (∃ cur, Blk wr gb 5 cur ∧ ∀ j, j < qb → ∃ n : Int, cur[j]? = some (.int .u8 n)) ∧ Turn (fun b => b = gb) w5 wr) (fun i _ => qb - (intOf i).toNat)
      case atStart => exact ⟨0, by omega, rfl, HCU.out, Turn.refl _ _⟩
      case round =>
        obtain ⟨k, hk, rfl, ⟨cur, hcu, hcb⟩, hTr⟩ := hrel
        by_cases hlt : k < qb
        case pos =>
          obtain ⟨n1, hn1⟩ := hcb k hlt
          have f1 : wr.cell? ⟨gb, k, none⟩ = some (.int .u8 n1) := (hcu.cell k).trans hn1
          have f2 := hcu.frozen k
          have HCUR := Lib.hid hcu
          have HCB := Lib.hid hcb
          have HTR := Lib.hid hTr
          clear hcu hcb hTr hn1
          go_wp2_with fail
          refine ⟨⟨k + 1, by omega, by go_num, ⟨_, HCUR.out.set_ k _, fun j hj => ?_⟩, HTR.out.setCell (p := ⟨gb, k, none⟩) (fun _ => rfl) _⟩, by simp [intOf]; omega⟩
          obtain ⟨n2, hn2⟩ := HCB.out j hj
          by_cases hjk : k = j
          · subst hjk
            rw [Array.getElem?_setIfInBounds_self_of_lt (Array.getElem?_eq_some_iff.1 hn2).1]
            exact ⟨_, rfl⟩
          · rw [Array.getElem?_setIfInBounds_ne hjk]
            exact ⟨n2, hn2⟩
        case neg =>
        have hd1 : decide (k < qb) = false := by simpa using hlt
        have HTR := Lib.hid hTr
        have bVr := HB5.out.2.2.keep hTr (by have := HGBL.out; omega)
        have bRr := HB5.out.2.1.keep hTr (by omega)
        clear hcu hcb hTr
        go_wp2_with fail
        refine wp_region_np ?_
        refine wp_region_held_drew (S := fun W => Blk W zv 29 #[.int .i64 ((d.then t).room : Int), .slice A3 n3 c3, .slice B3 m3 k3]) (by kernel_rfl) bVr.drew (fun hHeld => ?_)
        refine wpAnyH_takeAt (i := 0) (d := 75) (v := ?vq0x) rfl rfl (by kernel_rfl) (by kernel_rfl) (by kernel_rfl) (fun _ _ _ h => h) (Or.inl ⟨by rfl, ?hyq0x⟩) hHeld ?_
        case hyq0x =>
          intro W hSw
          obtain ⟨e0, e1, e2⟩ := Blk.three (show Blk W zv 29 #[.int .i64 ((d.then t).room : Int), .slice A3 n3 c3, .slice B3 m3 k3] from hSw)
          (go_simp; try with_reducible rfl)
        simp only [List.setIfInBounds_toArray, List.set_cons_zero, List.set_cons_succ]
        refine wpAnyH_takeAt (i := 1) (d := 76) (v := ?vq1x) rfl rfl (by kernel_rfl) (by kernel_rfl) (by kernel_rfl) (fun _ _ _ h => h) (Or.inl ⟨by rfl, ?hyq1x⟩) hHeld ?_
        case hyq1x =>
          intro W hSw
          clear hSw
          (go_simp; try with_reducible rfl)
        simp only [List.setIfInBounds_toArray, List.set_cons_zero, List.set_cons_succ]
        refine wpAnyH_takeAt (i := 3) (d := 78) (v := ?vq2x) rfl rfl (by kernel_rfl) (by kernel_rfl) (by kernel_rfl) (fun _ _ _ h => h) (Or.inl ⟨by rfl, ?hyq2x⟩) hHeld ?_
        case hyq2x =>
          intro W hSw
          clear hSw
          (go_simp; try with_reducible rfl)
        simp only [List.setIfInBounds_toArray, List.set_cons_zero, List.set_cons_succ]
        refine wpAnyH_ready (rs := [2]) (by kernel_rfl) (by simp) (AllReadyH.cons rfl (fun K hK => ?_) AllReadyH.nil)
        go_simp
        refine (num_any κ _).mono ?_
        rintro e w' ⟨rfl, rfl⟩
        refine hK.out _ _ bVr.drew (fun hHeld => ?_)
        clear hK K
        try simp only [List.setIfInBounds_toArray, List.set_cons_zero, List.set_cons_succ]
        refine wpAnyH_takeAt (i := 4) (d := 79) (v := ?vq3x) rfl rfl (by kernel_rfl) (by kernel_rfl) (by kernel_rfl) (fun _ _ _ h => h) (Or.inl ⟨by rfl, ?hyq3x⟩) hHeld ?_
        case hyq3x =>
          intro W hSw
          clear hSw
          (go_simp; try with_reducible rfl)
        simp only [List.setIfInBounds_toArray, List.set_cons_zero, List.set_cons_succ]
        refine wpAnyH_takeAt (i := 5) (d := 80) (v := ?vq4x) rfl rfl (by kernel_rfl) (by kernel_rfl) (by kernel_rfl) (fun _ _ _ h => h) (Or.inl ⟨by rfl, ?hyq4x⟩) hHeld ?_
        case hyq4x =>
          intro W hSw
          clear hSw
          (go_simp; try with_reducible rfl)
        simp only [List.setIfInBounds_toArray, List.set_cons_zero, List.set_cons_succ]
        refine wpAnyH_takeAt (i := 6) (d := 81) (v := ?vq5x) rfl rfl (by kernel_rfl) (by kernel_rfl) (by kernel_rfl) (fun _ _ _ h => h) (Or.inl ⟨by rfl, ?hyq5x⟩) hHeld ?_
        case hyq5x =>
          intro W hSw
          clear hSw
          (go_simp; try with_reducible rfl)
        simp only [List.setIfInBounds_toArray, List.set_cons_zero, List.set_cons_succ]
        refine wpAnyH_takeAt (i := 7) (d := 82) (v := ?vq6x) rfl rfl (by kernel_rfl) (by kernel_rfl) (by kernel_rfl) (fun _ _ _ h => h) (Or.inl ⟨by rfl, ?hyq6x⟩) hHeld ?_
        case hyq6x =>
          intro W hSw
          clear hSw
          (go_simp; try with_reducible rfl)
        simp only [List.setIfInBounds_toArray, List.set_cons_zero, List.set_cons_succ]
        refine wpAnyH_ready (rs := [8]) (by kernel_rfl) (by simp) (AllReadyH.cons rfl (fun K hK => ?_) AllReadyH.nil)
        refine step_store_blk (by rfl) (by rfl) 29 _ _ (by rfl) (w.heap.size + 2) _ #[.int .i64 ((d.then t).room : Int), .slice A3 n3 c3, .slice B3 m3 k3] (by rfl) (by rfl) 29 bRr.drew (by rfl) (info29 _ rfl) (by simp [Value.oneCell']) ?_
        intro w9 f9 g9 s9
        have hT9 : Turn (fun b => b = w.heap.size + 2) _ w9 := Turn.of_grown g9 (fun r e => by cases e; rfl)
        refine hK.out _ _ (bVr.drew.keep hT9 (by have := HRDB.out; omega)) (fun hHeld => ?_)
        clear hK K
        refine wpAnyH_takeAt (i := 9) (d := 7) (v := ?vq7x) rfl rfl (by kernel_rfl) (by kernel_rfl) (by kernel_rfl) (fun _ _ _ h => h) (Or.inl ⟨by rfl, ?hyq7x⟩) hHeld ?_
        case hyq7x =>
          intro W hSw
          clear hSw
          (go_simp; try with_reducible rfl)
        simp only [List.setIfInBounds_toArray, List.set_cons_zero, List.set_cons_succ]
        refine wpAnyH_done (by kernel_rfl) ?_ _
        go_wp2_with fail
        refine bodyPost_ret (v := .tuple #[.agg #[.int .i64 ((d.then t).room : Int), .slice A3 n3 c3, .slice B3 m3 k3], .bool true]) (results_ct (by rfl) _ _ (w.heap.size + 2) 29 _ (0, 0) _ (by rfl) f9 Try.underlying29 (by rfl) (info29 _ rfl) (by rfl)) rfl ?_
        exact ⟨_, rfl, by
          rw [next_put HW.out]
          exact acts_end (T := fun b => b = gb ∨ b = w.heap.size + 2) HBL4.out HT5.out HS.out (fun b e => HDK.out.inX e) hSw HDK5.out HRD4.out (fun b _ e => by
            rcases e with e | e | e
            · exact .inl (.inl e)
            · exact .inl (.inr ⟨by omega, by have := HGBL.out; omega⟩)
            · exact .inl (.inr ⟨by omega, by have := HRDB.out; omega⟩)) ((HTR.out.mono (fun b _ e => .inl e)).trans (S' := fun b => b = w.heap.size + 2) ⟨hT9.os, hT9.tape, hT9.output, hT9.size, hT9.block⟩ (fun b _ e => .inr e)) (fun b e => by
            have h1 := HGBL.out
            have h2 := HRDB.out
            have h3 := HZ4.out
            rcases e with e | e <;> omega) (then_st (HC3.out.symm.trans rfl) (by unfold RT.th; rw [if_pos HW.out]))⟩
  · have hq0 : (t.what == 0) = false := by rw [hw]; rfl
    have hq1 : (t.what == 1) = true := by rw [hw]; rfl
    have HW := Lib.hid hw
    have HDC : Hid (doC d.st t = cutC d.st t.name t.n) := Lib.hid (by unfold doC; rw [hw]; simp)
    clear hw
    go_wp2_with fail
    generalize (((w.alloc (.cells #[.int .i64 (d.room : Int), .slice A n c, .slice B m k0] 29)).alloc (.cells #[.int .i64 t.what, .string (str t.name), .slice Ab qb cb, .int .i64 t.n] 65)).alloc (.cells #[.int .i64 0, .slice none 0 0, .slice none 0 0] 29)) = wc at *
    refine (refDo_any (X := fun b => X b ∨ (w.heap.size ≤ b ∧ b < wc.heap.size)) ((HD.out.wide (fun b hb e => e.elim id (fun e => by omega))).below hb1) (fun b e => e.elim (fun e => Nat.lt_of_lt_of_le (HX.out b e) hb1.size) (fun e => e.2)) HO.out ((HTA.out.wide (fun b hb e => e.elim id (fun e => by omega))).below hb1) (.inr (.inl HW.out)) HN.out HBY.out HSZ.out).mono ?_
    rintro e w3 ⟨cs3, rfl, hrd3, hb3⟩
    have HRD3 := Lib.hid hrd3
    obtain ⟨A3, n3, c3, B3, m3, k3, rfl, -, -, -, -, -, -⟩ := hrd3
    rw [HDC.out]
    generalize hκ : cutC d.st t.name t.n = κ at *
    have HKA := Lib.hid hκ
    clear hκ
    have bT4 := (t1.below hb3 t1.lt).alloc (.cells #[.int .i64 ((d.then t).room : Int), .slice A3 n3 c3, .slice B3 m3 k3] 29)
    have bR4 := (r1.below hb3 r1.lt).alloc (.cells #[.int .i64 ((d.then t).room : Int), .slice A3 n3 c3, .slice B3 m3 k3] 29)
    have bV4 : Blk (w3.alloc (.cells #[.int .i64 ((d.then t).room : Int), .slice A3 n3 c3, .slice B3 m3 k3] 29)) w3.heap.size 29 #[.int .i64 ((d.then t).room : Int), .slice A3 n3 c3, .slice B3 m3 k3] := Blk.new _ _ _
    have hal : Below w3.heap.size w3 (w3.alloc (.cells #[.int .i64 ((d.then t).room : Int), .slice A3 n3 c3, .slice B3 m3 k3] 29)) := (Below.refl _ _).alloc (Nat.le_refl _) _
    have hbc4 := hb3.trans (hal.mono hb3.size)
    have hbl4 := hb1.trans (hbc4.mono hb1.size)
    have HRD4 : Hid (RDAt (w3.alloc (.cells #[.int .i64 ((d.then t).room : Int), .slice A3 n3 c3, .slice B3 m3 k3] 29)) (fun b => (X b ∨ (w.heap.size ≤ b ∧ b < wc.heap.size)) ∨ b = w3.heap.size) (d.then t) #[.int .i64 ((d.then t).room : Int), .slice A3 n3 c3, .slice B3 m3 k3]) := Lib.hid ((HRD3.out.wide (fun b hb e => e.elim id (fun e => by omega))).below hal)
    have hzv : wc.heap.size ≤ w3.heap.size := hb3.size
    have HRDB := Lib.hid r1.lt
    obtain ⟨y0, y1, y2, y3⟩ := bT4.four
    go_wp2_with fail
    have HZ4 : Hid (wc.heap.size ≤ (w3.alloc (.cells #[.int .i64 ((d.then t).room : Int), .slice A3 n3 c3, .slice B3 m3 k3] 29)).heap.size) := Lib.hid (by rw [World.size_alloc]; omega)
    generalize w3.alloc (.cells #[.int .i64 ((d.then t).room : Int), .slice A3 n3 c3, .slice B3 m3 k3] 29) = w4 at *
    generalize w3.heap.size = zv at *
    have hdk4 : Dk w4 S (fun b => X b ∨ (w.heap.size ≤ b ∧ b < w4.heap.size)) g d.st := (HDK.out.wide (fun b hb e => e.elim id (fun e => by omega)) (fun b e => .inl (HDK.out.inX e))).below hbl4
    have hSw : ∀ b, S b → b < w.heap.size := fun b e => HDK.out.lt e
    have hdk4' : Dk w4.drew S (fun b => X b ∨ (w.heap.size ≤ b ∧ b < w4.heap.size)) g d.st := hdk4.below ((Below.refl _ _).drew)
    have HBL4 := Lib.hid hbl4
    clear y0 y1 y2 y3 hal hbc4 hb3 b1 t1 r1 hb1 hdk4
    refine wp_region_np ?_
    refine wp_region_held_drew (S := fun W => Blk W zv 29 #[.int .i64 ((d.then t).room : Int), .slice A3 n3 c3, .slice B3 m3 k3] ∧ Blk W (w.heap.size + 1) 65 #[.int .i64 t.what, .string (str t.name), .slice Ab qb cb, .int .i64 t.n]) (by kernel_rfl) ⟨bV4.drew, bT4.drew⟩ (fun hHeld => ?_)
    refine wpAnyH_takeAt (i := 0) (d := 91) (v := ?vq8x) rfl rfl (by kernel_rfl) (by kernel_rfl) (by kernel_rfl) (fun _ _ _ h => h) (Or.inl ⟨by rfl, ?hyq8x⟩) hHeld ?_
    case hyq8x =>
      intro W hSw
      obtain ⟨e0, e1, e2⟩ := Blk.three (show Blk W zv 29 #[.int .i64 ((d.then t).room : Int), .slice A3 n3 c3, .slice B3 m3 k3] from hSw.1)
      (go_simp; try with_reducible rfl)
    simp only [List.setIfInBounds_toArray, List.set_cons_zero, List.set_cons_succ]
    refine wpAnyH_takeAt (i := 1) (d := 92) (v := ?vq9x) rfl rfl (by kernel_rfl) (by kernel_rfl) (by kernel_rfl) (fun _ _ _ h => h) (Or.inl ⟨by rfl, ?hyq9x⟩) hHeld ?_
    case hyq9x =>
      intro W hSw
      clear hSw
      (go_simp; try with_reducible rfl)
    simp only [List.setIfInBounds_toArray, List.set_cons_zero, List.set_cons_succ]
    refine wpAnyH_takeAt (i := 2) (d := 93) (v := ?vq10x) rfl rfl (by kernel_rfl) (by kernel_rfl) (by kernel_rfl) (fun _ _ _ h => h) (Or.inl ⟨by rfl, ?hyq10x⟩) hHeld ?_
    case hyq10x =>
      intro W hSw
      clear hSw
      (go_simp; try with_reducible rfl)
    simp only [List.setIfInBounds_toArray, List.set_cons_zero, List.set_cons_succ]
    refine wpAnyH_takeAt (i := 3) (d := 94) (v := ?vq11x) rfl rfl (by kernel_rfl) (by kernel_rfl) (by kernel_rfl) (fun _ _ _ h => h) (Or.inl ⟨by rfl, ?hyq11x⟩) hHeld ?_
    case hyq11x =>
      intro W hSw
      obtain ⟨e0, e1, e2, e3⟩ := Blk.four (show Blk W (w.heap.size + 1) 65 #[.int .i64 t.what, .string (str t.name), .slice Ab qb cb, .int .i64 t.n] from hSw.2)
      (go_simp; try with_reducible rfl)
    simp only [List.setIfInBounds_toArray, List.set_cons_zero, List.set_cons_succ]
    refine wpAnyH_takeAt (i := 4) (d := 95) (v := ?vq12x) rfl rfl (by kernel_rfl) (by kernel_rfl) (by kernel_rfl) (fun _ _ _ h => h) (Or.inl ⟨by rfl, ?hyq12x⟩) hHeld ?_
    case hyq12x =>
      intro W hSw
      clear hSw
      (go_simp; try with_reducible rfl)
    simp only [List.setIfInBounds_toArray, List.set_cons_zero, List.set_cons_succ]
    refine wpAnyH_takeAt (i := 5) (d := 96) (v := ?vq13x) rfl rfl (by kernel_rfl) (by kernel_rfl) (by kernel_rfl) (fun _ _ _ h => h) (Or.inl ⟨by rfl, ?hyq13x⟩) hHeld ?_
    case hyq13x =>
      intro W hSw
      obtain ⟨e0, e1, e2, e3⟩ := Blk.four (show Blk W (w.heap.size + 1) 65 #[.int .i64 t.what, .string (str t.name), .slice Ab qb cb, .int .i64 t.n] from hSw.2)
      (go_simp; try with_reducible rfl)
    simp only [List.setIfInBounds_toArray, List.set_cons_zero, List.set_cons_succ]
    refine wpAnyH_takeAt (i := 8) (d := 99) (v := ?vq14x) rfl rfl (by kernel_rfl) (by kernel_rfl) (by kernel_rfl) (fun _ _ _ h => h) (Or.inl ⟨by rfl, ?hyq14x⟩) hHeld ?_
    case hyq14x =>
      intro W hSw
      clear hSw
      (go_simp; try with_reducible rfl)
    simp only [List.setIfInBounds_toArray, List.set_cons_zero, List.set_cons_succ]
    refine wpAnyH_ready (rs := [6]) (by kernel_rfl) (by simp) (AllReadyH.cons rfl (fun K hK => ?_) AllReadyH.nil)
    go_simp
    refine (diskCut_any hdk4' (fun b e => e.elim (fun e => Nat.lt_of_lt_of_le (HX.out b e) HBL4.out.size) (fun e => e.2)) t.name t.n HN.out HSZ.out).mono ?_
    rintro e w5 ⟨rfl, hT5, S', hS1, hS2, hdk5⟩
    have hT5' : Turn S w4 w5 := ⟨hT5.os, hT5.tape, hT5.output, hT5.size, hT5.block⟩
    rw [HKA.out] at hdk5 ⊢
    have bT5 := bT4.keep hT5' (fun e => by have := hSw _ e; omega)
    have bR5 := bR4.keep hT5' (fun e => by have := hSw _ e; omega)
    have bV5 := bV4.keep hT5' (fun e => by have := hSw _ e; have := HRDB.out; omega)
    have HDK5 := Lib.hid hdk5
    have HS := Lib.hid (And.intro hS1 hS2)
    clear hdk5 hS1 hS2 hT5
    refine hK.out _ _ ⟨bV5, bT5⟩ (fun hHeld => ?_)
    clear hK K
    try simp only [List.setIfInBounds_toArray, List.set_cons_zero, List.set_cons_succ]
    refine wpAnyH_ready (rs := [7]) (by kernel_rfl) (by simp) (AllReadyH.cons rfl (fun K hK => ?_) AllReadyH.nil)
    go_simp
    refine (num_any κ _).mono ?_
    rintro e w' ⟨rfl, rfl⟩
    refine hK.out _ _ ⟨bV5, bT5⟩ (fun hHeld => ?_)
    clear hK K
    try simp only [List.setIfInBounds_toArray, List.set_cons_zero, List.set_cons_succ]
    refine wpAnyH_takeAt (i := 9) (d := 100) (v := ?vq15x) rfl rfl (by kernel_rfl) (by kernel_rfl) (by kernel_rfl) (fun _ _ _ h => h) (Or.inl ⟨by rfl, ?hyq15x⟩) hHeld ?_
    case hyq15x =>
      intro W hSw
      clear hSw
      (go_simp; try with_reducible rfl)
    simp only [List.setIfInBounds_toArray, List.set_cons_zero, List.set_cons_succ]
    refine wpAnyH_ready (rs := [10]) (by kernel_rfl) (by simp) (AllReadyH.cons rfl (fun K hK => ?_) AllReadyH.nil)
    refine step_store_blk (by rfl) (by rfl) 29 _ _ (by rfl) (w.heap.size + 2) _ #[.int .i64 ((d.then t).room : Int), .slice A3 n3 c3, .slice B3 m3 k3] (by rfl) (by rfl) 29 bR5 (by rfl) (info29 _ rfl) (by simp [Value.oneCell']) ?_
    intro w9 f9 g9 s9
    have hT9 : Turn (fun b => b = w.heap.size + 2) _ w9 := Turn.of_grown g9 (fun r e => by cases e; rfl)
    refine hK.out _ _ ⟨bV5.keep hT9 (by have := HRDB.out; omega), bT5.keep hT9 (by omega)⟩ (fun hHeld => ?_)
    clear hK K
    refine wpAnyH_takeAt (i := 11) (d := 7) (v := ?vq16x) rfl rfl (by kernel_rfl) (by kernel_rfl) (by kernel_rfl) (fun _ _ _ h => h) (Or.inl ⟨by rfl, ?hyq16x⟩) hHeld ?_
    case hyq16x =>
      intro W hSw
      clear hSw
      (go_simp; try with_reducible rfl)
    simp only [List.setIfInBounds_toArray, List.set_cons_zero, List.set_cons_succ]
    refine wpAnyH_done (by kernel_rfl) ?_ _
    go_wp2_with fail
    refine bodyPost_ret (v := .tuple #[.agg #[.int .i64 ((d.then t).room : Int), .slice A3 n3 c3, .slice B3 m3 k3], .bool true]) (results_ct (by rfl) _ _ (w.heap.size + 2) 29 _ (0, 0) _ (by rfl) f9 Try.underlying29 (by rfl) (info29 _ rfl) (by rfl)) rfl ?_
    exact ⟨_, rfl, by
      rw [next_cut HW.out]
      exact acts_end (T := fun b => b = w.heap.size + 2) HBL4.out hT5' HS.out (fun b e => HDK.out.inX e) hSw HDK5.out HRD4.out (fun b _ e => by
        rcases e with e | e
        · exact .inl (.inl e)
        · exact .inl (.inr ⟨by omega, by have := HRDB.out; omega⟩)) hT9 (fun b e => by
        have h2 := HRDB.out
        have h3 := HZ4.out
        omega) (then_st HDC.out (by unfold RT.th; rw [if_neg (by have := HW.out; omega), if_pos HW.out]))⟩
  · have hq0 : (t.what == 0) = false := by rw [hw]; rfl
    have hq1 : (t.what == 1) = false := by rw [hw]; rfl
    have hq2 : (t.what == 2) = true := by rw [hw]; rfl
    have HW := Lib.hid hw
    have HDC : Hid (doC d.st t = missC d.st.files t.name) := Lib.hid (by unfold doC; rw [hw]; simp)
    clear hw
    go_wp2_with fail
    generalize (((w.alloc (.cells #[.int .i64 (d.room : Int), .slice A n c, .slice B m k0] 29)).alloc (.cells #[.int .i64 t.what, .string (str t.name), .slice Ab qb cb, .int .i64 t.n] 65)).alloc (.cells #[.int .i64 0, .slice none 0 0, .slice none 0 0] 29)) = wc at *
    refine (refDo_any (X := fun b => X b ∨ (w.heap.size ≤ b ∧ b < wc.heap.size)) ((HD.out.wide (fun b hb e => e.elim id (fun e => by omega))).below hb1) (fun b e => e.elim (fun e => Nat.lt_of_lt_of_le (HX.out b e) hb1.size) (fun e => e.2)) HO.out ((HTA.out.wide (fun b hb e => e.elim id (fun e => by omega))).below hb1) (.inr (.inr HW.out)) HN.out HBY.out HSZ.out).mono ?_
    rintro e w3 ⟨cs3, rfl, hrd3, hb3⟩
    have HRD3 := Lib.hid hrd3
    obtain ⟨A3, n3, c3, B3, m3, k3, rfl, -, -, -, -, -, -⟩ := hrd3
    rw [HDC.out]
    generalize hκ : missC d.st.files t.name = κ at *
    have HKA := Lib.hid hκ
    clear hκ
    have bT4 := (t1.below hb3 t1.lt).alloc (.cells #[.int .i64 ((d.then t).room : Int), .slice A3 n3 c3, .slice B3 m3 k3] 29)
    have bR4 := (r1.below hb3 r1.lt).alloc (.cells #[.int .i64 ((d.then t).room : Int), .slice A3 n3 c3, .slice B3 m3 k3] 29)
    have bV4 : Blk (w3.alloc (.cells #[.int .i64 ((d.then t).room : Int), .slice A3 n3 c3, .slice B3 m3 k3] 29)) w3.heap.size 29 #[.int .i64 ((d.then t).room : Int), .slice A3 n3 c3, .slice B3 m3 k3] := Blk.new _ _ _
    have hal : Below w3.heap.size w3 (w3.alloc (.cells #[.int .i64 ((d.then t).room : Int), .slice A3 n3 c3, .slice B3 m3 k3] 29)) := (Below.refl _ _).alloc (Nat.le_refl _) _
    have hbc4 := hb3.trans (hal.mono hb3.size)
    have hbl4 := hb1.trans (hbc4.mono hb1.size)
    have HRD4 : Hid (RDAt (w3.alloc (.cells #[.int .i64 ((d.then t).room : Int), .slice A3 n3 c3, .slice B3 m3 k3] 29)) (fun b => (X b ∨ (w.heap.size ≤ b ∧ b < wc.heap.size)) ∨ b = w3.heap.size) (d.then t) #[.int .i64 ((d.then t).room : Int), .slice A3 n3 c3, .slice B3 m3 k3]) := Lib.hid ((HRD3.out.wide (fun b hb e => e.elim id (fun e => by omega))).below hal)
    have hzv : wc.heap.size ≤ w3.heap.size := hb3.size
    have HRDB := Lib.hid r1.lt
    obtain ⟨y0, y1, y2, y3⟩ := bT4.four
    go_wp2_with fail
    have HZ4 : Hid (wc.heap.size ≤ (w3.alloc (.cells #[.int .i64 ((d.then t).room : Int), .slice A3 n3 c3, .slice B3 m3 k3] 29)).heap.size) := Lib.hid (by rw [World.size_alloc]; omega)
    generalize w3.alloc (.cells #[.int .i64 ((d.then t).room : Int), .slice A3 n3 c3, .slice B3 m3 k3] 29) = w4 at *
    generalize w3.heap.size = zv at *
    have hdk4 : Dk w4 S (fun b => X b ∨ (w.heap.size ≤ b ∧ b < w4.heap.size)) g d.st := (HDK.out.wide (fun b hb e => e.elim id (fun e => by omega)) (fun b e => .inl (HDK.out.inX e))).below hbl4
    have hSw : ∀ b, S b → b < w.heap.size := fun b e => HDK.out.lt e
    have hdk4' : Dk w4.drew S (fun b => X b ∨ (w.heap.size ≤ b ∧ b < w4.heap.size)) g d.st := hdk4.below ((Below.refl _ _).drew)
    have HBL4 := Lib.hid hbl4
    clear y0 y1 y2 y3 hal hbc4 hb3 b1 t1 r1 hb1 hdk4
    refine wp_region_np ?_
    refine wp_region_held_drew (S := fun W => Blk W zv 29 #[.int .i64 ((d.then t).room : Int), .slice A3 n3 c3, .slice B3 m3 k3] ∧ Blk W (w.heap.size + 1) 65 #[.int .i64 t.what, .string (str t.name), .slice Ab qb cb, .int .i64 t.n]) (by kernel_rfl) ⟨bV4.drew, bT4.drew⟩ (fun hHeld => ?_)
    refine wpAnyH_takeAt (i := 0) (d := 109) (v := ?vq17x) rfl rfl (by kernel_rfl) (by kernel_rfl) (by kernel_rfl) (fun _ _ _ h => h) (Or.inl ⟨by rfl, ?hyq17x⟩) hHeld ?_
    case hyq17x =>
      intro W hSw
      obtain ⟨e0, e1, e2⟩ := Blk.three (show Blk W zv 29 #[.int .i64 ((d.then t).room : Int), .slice A3 n3 c3, .slice B3 m3 k3] from hSw.1)
      (go_simp; try with_reducible rfl)
    simp only [List.setIfInBounds_toArray, List.set_cons_zero, List.set_cons_succ]
    refine wpAnyH_takeAt (i := 1) (d := 110) (v := ?vq18x) rfl rfl (by kernel_rfl) (by kernel_rfl) (by kernel_rfl) (fun _ _ _ h => h) (Or.inl ⟨by rfl, ?hyq18x⟩) hHeld ?_
    case hyq18x =>
      intro W hSw
      clear hSw
      (go_simp; try with_reducible rfl)
    simp only [List.setIfInBounds_toArray, List.set_cons_zero, List.set_cons_succ]
    refine wpAnyH_takeAt (i := 2) (d := 111) (v := ?vq19x) rfl rfl (by kernel_rfl) (by kernel_rfl) (by kernel_rfl) (fun _ _ _ h => h) (Or.inl ⟨by rfl, ?hyq19x⟩) hHeld ?_
    case hyq19x =>
      intro W hSw
      clear hSw
      (go_simp; try with_reducible rfl)
    simp only [List.setIfInBounds_toArray, List.set_cons_zero, List.set_cons_succ]
    refine wpAnyH_takeAt (i := 3) (d := 112) (v := ?vq20x) rfl rfl (by kernel_rfl) (by kernel_rfl) (by kernel_rfl) (fun _ _ _ h => h) (Or.inl ⟨by rfl, ?hyq20x⟩) hHeld ?_
    case hyq20x =>
      intro W hSw
      obtain ⟨e0, e1, e2, e3⟩ := Blk.four (show Blk W (w.heap.size + 1) 65 #[.int .i64 t.what, .string (str t.name), .slice Ab qb cb, .int .i64 t.n] from hSw.2)
      (go_simp; try with_reducible rfl)
    simp only [List.setIfInBounds_toArray, List.set_cons_zero, List.set_cons_succ]
    refine wpAnyH_takeAt (i := 6) (d := 115) (v := ?vq21x) rfl rfl (by kernel_rfl) (by kernel_rfl) (by kernel_rfl) (fun _ _ _ h => h) (Or.inl ⟨by rfl, ?hyq21x⟩) hHeld ?_
    case hyq21x =>
      intro W hSw
      clear hSw
      (go_simp; try with_reducible rfl)
    simp only [List.setIfInBounds_toArray, List.set_cons_zero, List.set_cons_succ]
    refine wpAnyH_ready (rs := [4]) (by kernel_rfl) (by simp) (AllReadyH.cons rfl (fun K hK => ?_) AllReadyH.nil)
    go_simp
    refine (diskRemove_any hdk4' (fun b e => e.elim (fun e => Nat.lt_of_lt_of_le (HX.out b e) HBL4.out.size) (fun e => e.2)) t.name HN.out HSZ.out).mono ?_
    rintro e w5 ⟨rfl, hT5, S', hS1, hS2, hdk5⟩
    have hT5' : Turn S w4 w5 := ⟨hT5.os, hT5.tape, hT5.output, hT5.size, hT5.block⟩
    rw [HKA.out] at hdk5 ⊢
    have bT5 := bT4.keep hT5' (fun e => by have := hSw _ e; omega)
    have bR5 := bR4.keep hT5' (fun e => by have := hSw _ e; omega)
    have bV5 := bV4.keep hT5' (fun e => by have := hSw _ e; have := HRDB.out; omega)
    have HDK5 := Lib.hid hdk5
    have HS := Lib.hid (And.intro hS1 hS2)
    clear hdk5 hS1 hS2 hT5
    refine hK.out _ _ ⟨bV5, bT5⟩ (fun hHeld => ?_)
    clear hK K
    try simp only [List.setIfInBounds_toArray, List.set_cons_zero, List.set_cons_succ]
    refine wpAnyH_ready (rs := [5]) (by kernel_rfl) (by simp) (AllReadyH.cons rfl (fun K hK => ?_) AllReadyH.nil)
    go_simp
    refine (num_any κ _).mono ?_
    rintro e w' ⟨rfl, rfl⟩
    refine hK.out _ _ ⟨bV5, bT5⟩ (fun hHeld => ?_)
    clear hK K
    try simp only [List.setIfInBounds_toArray, List.set_cons_zero, List.set_cons_succ]
    refine wpAnyH_takeAt (i := 7) (d := 116) (v := ?vq22x) rfl rfl (by kernel_rfl) (by kernel_rfl) (by kernel_rfl) (fun _ _ _ h => h) (Or.inl ⟨by rfl, ?hyq22x⟩) hHeld ?_
    case hyq22x =>
      intro W hSw
      clear hSw
      (go_simp; try with_reducible rfl)
    simp only [List.setIfInBounds_toArray, List.set_cons_zero, List.set_cons_succ]
    refine wpAnyH_ready (rs := [8]) (by kernel_rfl) (by simp) (AllReadyH.cons rfl (fun K hK => ?_) AllReadyH.nil)
    refine step_store_blk (by rfl) (by rfl) 29 _ _ (by rfl) (w.heap.size + 2) _ #[.int .i64 ((d.then t).room : Int), .slice A3 n3 c3, .slice B3 m3 k3] (by rfl) (by rfl) 29 bR5 (by rfl) (info29 _ rfl) (by simp [Value.oneCell']) ?_
    intro w9 f9 g9 s9
    have hT9 : Turn (fun b => b = w.heap.size + 2) _ w9 := Turn.of_grown g9 (fun r e => by cases e; rfl)
    refine hK.out _ _ ⟨bV5.keep hT9 (by have := HRDB.out; omega), bT5.keep hT9 (by omega)⟩ (fun hHeld => ?_)
    clear hK K
    refine wpAnyH_takeAt (i := 9) (d := 7) (v := ?vq23x) rfl rfl (by kernel_rfl) (by kernel_rfl) (by kernel_rfl) (fun _ _ _ h => h) (Or.inl ⟨by rfl, ?hyq23x⟩) hHeld ?_
    case hyq23x =>
      intro W hSw
      clear hSw
      (go_simp; try with_reducible rfl)
    simp only [List.setIfInBounds_toArray, List.set_cons_zero, List.set_cons_succ]
    refine wpAnyH_done (by kernel_rfl) ?_ _
    go_wp2_with fail
    refine bodyPost_ret (v := .tuple #[.agg #[.int .i64 ((d.then t).room : Int), .slice A3 n3 c3, .slice B3 m3 k3], .bool true]) (results_ct (by rfl) _ _ (w.heap.size + 2) 29 _ (0, 0) _ (by rfl) f9 Try.underlying29 (by rfl) (info29 _ rfl) (by rfl)) rfl ?_
    exact ⟨_, rfl, by
      rw [next_rem HW.out]
      exact acts_end (T := fun b => b = w.heap.size + 2) HBL4.out hT5' HS.out (fun b e => HDK.out.inX e) hSw HDK5.out HRD4.out (fun b _ e => by
        rcases e with e | e
        · exact .inl (.inl e)
        · exact .inl (.inr ⟨by omega, by have := HRDB.out; omega⟩)) hT9 (fun b e => by
        have h2 := HRDB.out
        have h3 := HZ4.out
        omega) (then_st HDC.out (by unfold RT.th; rw [if_neg (by have := HW.out; omega), if_neg (by have := HW.out; omega)]))⟩
  · have hq0 : (t.what == 0) = false := by simpa using hwa
    have hq1 : (t.what == 1) = false := by simpa using hwb
    have hq2 : (t.what == 2) = false := by simpa using hwc
    have HNX : Hid (d.next t = d.flush) := Lib.hid (by unfold RDk.next; rw [if_neg (by omega)])
    clear hwa hwb hwc
    go_wp2_with fail
    generalize (((w.alloc (.cells #[.int .i64 (d.room : Int), .slice A n c, .slice B m k0] 29)).alloc (.cells #[.int .i64 t.what, .string (str t.name), .slice Ab qb cb, .int .i64 t.n] 65)).alloc (.cells #[.int .i64 0, .slice none 0 0, .slice none 0 0] 29)) = wc at *
    refine (refFlush_any (X := fun b => X b ∨ (w.heap.size ≤ b ∧ b < wc.heap.size)) ((HD.out.wide (fun b hb e => e.elim id (fun e => by omega))).below hb1) (fun b e => e.elim (fun e => Nat.lt_of_lt_of_le (HX.out b e) hb1.size) (fun e => e.2)) HO.out).mono ?_
    rintro e w3 ⟨cs3, rfl, hrd3, hb3⟩
    have HRD3 := Lib.hid hrd3
    obtain ⟨A3, n3, c3, B3, m3, k3, rfl, -, -, -, -, -, -⟩ := hrd3
    have hbl4 := hb1.trans (hb3.mono hb1.size)
    have hdk4 : Dk w3 S (fun b => X b ∨ (w.heap.size ≤ b ∧ b < w3.heap.size)) g d.st := (HDK.out.wide (fun b hb e => e.elim id (fun e => by omega)) (fun b e => .inl (HDK.out.inX e))).below hbl4
    have hSw : ∀ b, S b → b < w.heap.size := fun b e => HDK.out.lt e
    have bR3 := r1.below hb3 r1.lt
    have HRDB := Lib.hid r1.lt
    have HZ3 := Lib.hid hb3.size
    clear b1 t1 r1 hb1 hb3
    go_wp2_with fail
    refine (diskFlush_any hdk4 HSZ.out).mono ?_
    rintro e w5 ⟨rfl, hT5, S', hS1, hS2, hdk5⟩
    have bR5 := bR3.keep hT5 (fun e => by have := hSw _ e; omega)
    have HDK5 := Lib.hid hdk5
    have HS := Lib.hid (And.intro hS1 hS2)
    have HBL4 := Lib.hid hbl4
    have HT5 := Lib.hid hT5
    clear hdk5 hS1 hS2 hT5 bR3 hdk4 hbl4
    go_wp2_with fail
    refine (num_any 0 _).mono ?_
    rintro e w' ⟨rfl, rfl⟩
    go_wp2_with (with_reducible refine at_store 29 rfl ?_)
    refine Stop.go (wpList_store_blk (by rfl) (by rfl) 29 _ _ (by rfl) (w.heap.size + 2) _ #[.int .i64 (d.flush.room : Int), .slice A3 n3 c3, .slice B3 m3 k3] (by rfl) (by rfl) 29 bR5 (by rfl) (info29 _ rfl) (by simp [Value.oneCell']) ?_)
    intro w9 f9 g9 s9
    have hT9 : Turn (fun b => b = w.heap.size + 2) _ w9 := Turn.of_grown g9 (fun r e => by cases e; rfl)
    go_wp2_with fail
    refine bodyPost_ret (v := .tuple #[.agg #[.int .i64 (d.flush.room : Int), .slice A3 n3 c3, .slice B3 m3 k3], .bool true]) (results_ct (by rfl) _ _ (w.heap.size + 2) 29 _ (0, 0) _ (by rfl) f9 Try.underlying29 (by rfl) (info29 _ rfl) (by rfl)) rfl ?_
    exact ⟨_, rfl, by
      rw [HNX.out]
      exact acts_end (T := fun b => b = w.heap.size + 2) HBL4.out HT5.out HS.out (fun b e => HDK.out.inX e) hSw HDK5.out HRD3.out (fun b _ e => by
        rcases e with e | e
        · exact .inl e
        · exact .inr ⟨by omega, by have := HRDB.out; omega⟩) hT9 (fun b e => by
        have h2 := HRDB.out
        have h3 := HZ3.out
        omega) rfl⟩
end Go.Proofs.Ythhiiimmgghhaaa
