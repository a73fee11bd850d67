/-
  The walk of waystationlaw03.DiskLasts. Nothing is assumed.
-/
import Derived.Test.YthhiiimmgghhaaaLastS
import Derived.Test.YthhiiimmgghhaaaFilesOf
import Derived.Test.YthhiiimmgghhaaaFew
import Derived.Test.YthhiiimmgghhaaaSameF
import Derived.Test.YthhiiimmgghhaaaWorks
namespace Go.Proofs.Ythhiiimmgghhaaa
open Go.RowKit
/-- What Put, Cut, Remove leave, where others' blocks are in X. -/
def WentX (w : World) (S X : Nat → Prop) (g : Nat) (s : St) (nm : Bs) (w' : World) : Prop := ∃ S' s', Moved w S w' S' ∧ Dk w' S' (fun b => X b ∨ S' b) g s' ∧ Next s s' nm
theorem wentX_of {w w' : World} {S X : Nat → Prop} {g : Nat} {s : St} {c : Int} {t : Th} {e : Ending} (hn : c = 0 → isNm t.name = true) (h : Acted w S X g s c t e w') : e = .returned (.int .i64 c) ∧ WentX w S X g s t.name w' := by
  obtain ⟨e1, hT, S', h1, h2, h3⟩ := h
  exact ⟨e1, S', _, ⟨hT, h1, h2⟩, h3, next_of hn⟩
def nmCells (T : List Bs) : List (Array Value) := T.map fun n => #[.string (str n)]
/-- What holds between two things of DiskLasts: the disk, what was touched, what was kept. -/
structure Lasting (W0 : World) (g : Nat) (k : Nat) (S : Nat → Prop) (s : St) (T : List Bs) (tv : Value) (Ak : Option Addr) (nk : Nat) (wr : World) : Prop where
  dk : Dk wr S (fun b => S b ∨ tv.ownBlock = some b) g s
  low : ∀ b, S b → W0.heap.size ≤ b
  tv_own : OwnK wr 9 1 tv (nmCells T)
  tv_new : ∀ r, tv.ownBlock = some r → W0.heap.size ≤ r ∧ ¬ S r
  kept : RFs wr (fun b => S b ∨ tv.ownBlock = some b) Ak nk s.lasts
  below : Below W0.heap.size W0 wr
  room : s.room = 1000
  size : s.size ≤ k
  tlen : T.length ≤ k
  nmd : Nmd s
  names : ∀ t ∈ s.waits, t.name ∈ T
section
variable {W0 wr w' : World} {g k : Nat} {S : Nat → Prop} {s : St} {T : List Bs} {tv : Value} {Ak : Option Addr} {nk : Nat}
theorem Lasting.grown (h : Lasting W0 g k S s T tv Ak nk wr) (hb : Below wr.heap.size wr w') : Lasting W0 g k S s T tv Ak nk w' :=
  ⟨h.dk.below hb, h.low, h.tv_own.below hb, h.tv_new, h.kept.below hb, h.below.trans (hb.mono h.below.size), h.room, h.size, h.tlen, h.nmd, h.names⟩
/-- A thing was done, or refused, and its name is touched. -/
theorem Lasting.went (h : Lasting W0 g k S s T tv Ak nk wr) {nm : Bs} (hw : WentX wr S (fun b => S b ∨ tv.ownBlock = some b) g s nm w') : ∃ S' s', OwnK w' 9 1 tv (nmCells T) ∧ ∀ w3 v3 , OwnK w3 9 1 v3 (nmCells T ++ [#[.string (str nm)]]) → ∀ w2, Below w'.heap.size w' w2 → Grew tv w2 v3 w3 → Lasting W0 g (k + 1) S' s' (T ++ [nm]) v3 Ak nk w3 := by
  obtain ⟨S', s', hm, hd, hn⟩ := hw
  have ho' : OwnK w' 9 1 tv (nmCells T) := h.tv_own.keep hm.turn (fun r e => (h.tv_new r e).2)
  refine ⟨S', s', ho', fun w3 v3 ho3 w2 hb2 hg => ?_⟩
  have htn : ∀ r, tv.ownBlock = some r → W0.heap.size ≤ r ∧ ¬ S' r := fun r e => ⟨(h.tv_new r e).1, fun e' => (h.tv_new r e).2 (hm.old (h.tv_own.lt e) e')⟩
  have hlow' : ∀ b, S' b → W0.heap.size ≤ b := fun b e => by
    rcases hm.new b e with e | e
    · exact h.low b e
    · have := h.below.size; omega
  have hk1 : RFs w' (fun b => S' b ∨ tv.ownBlock = some b) Ak nk s.lasts :=
    (h.kept.wide (X' := fun b => S' b ∨ tv.ownBlock = some b) (fun b hb e => e.elim (fun e => .inl (hm.old hb e)) .inr)).keep hm.turn (fun b _ e => .inl (hm.more b e))
  have hk2 := hk1.below hb2
  have hT3 : Turn (fun r => tv.ownBlock = some r) w2 w3 := hg.turn (fun _ e => e)
  have hz2 := hb2.size
  have hz1 := hm.turn.size
  have hz0 := h.below.size
  have hbl' : Below W0.heap.size W0 w' := h.below.trans (hm.turn.below hz0 h.low)
  have hk3 : RFs w3 (fun b => S' b ∨ v3.ownBlock = some b) Ak nk s.lasts :=
    ((hk2.wide (X' := fun b => (S' b ∨ v3.ownBlock = some b) ∨ tv.ownBlock = some b) (fun b hb e => by
      rcases e with (e | e) | e
      · exact .inl e
      · rcases hg.2 b e with e | e
        · exact .inr e
        · omega
      · exact .inr e)).keep hT3 (fun b _ e => .inr e)).wide (fun b _ e => .inl e)
  have hd2 : Dk w2 S' (fun b => (S' b ∨ v3.ownBlock = some b) ∨ tv.ownBlock = some b) g s' := (hd.below hb2).wide (fun b hb e => by
    rcases e with (e | e) | e
    · exact .inr e
    · rcases hg.2 b e with e | e
      · exact .inl (.inr e)
      · omega
    · exact .inl (.inr e)) (fun b e => .inl (.inl e))
  refine { dk := (hd2.keep hT3 (fun b _ e => ⟨.inr e, (htn b e).2⟩)).wide (fun b _ e => .inl e) (fun b e => .inl e), low := hlow', tv_own := by unfold nmCells at ho3 ⊢; rw [List.map_append]; exact ho3, tv_new := fun r e => ?_, kept := by rw [hn.lasts]; exact hk3, below := (hbl'.trans (hb2.mono hbl'.size)).trans (hT3.below (by omega) (fun b e => (htn b e).1)), room := hn.room.trans h.room, size := by have := hn.size; have := h.size; omega, tlen := by have := h.tlen; simp; omega, nmd := hn.nmd h.nmd, names := fun t ht => ?_ }
  · rcases hg.2 r e with e | e
    · exact htn r e
    · exact ⟨by omega, fun e' => by have := hd.lt e'; omega⟩
  · rcases hn.names t ht with e | e
    · simp [h.names t e]
    · simp [e]
/-- All was flushed, and the files were read. -/
theorem Lasting.flushed (h : Lasting W0 g k S s T tv Ak nk wr) (hw : Wrote wr S (fun b => S b ∨ tv.ownBlock = some b) g s.flush w') : ∃ S', Dk w' S' S' g s.flush ∧ ∀ w2 A2 n2, Below w'.heap.size w' w2 → RFs w2 (fun b => b < w'.heap.size) A2 n2 s.files → Lasting W0 g (k + 1) S' s.flush [] (.slice none 0 0) A2 n2 w2 := by
  obtain ⟨hT, S', h1, h2, h3⟩ := hw
  have hm : Moved wr S w' S' := ⟨hT, h1, h2⟩
  have hd : Dk w' S' S' g s.flush := h3.wide (fun b _ e => .inr e) (fun b e => e)
  refine ⟨S', hd, fun w2 A2 n2 hb2 hF => ?_⟩
  have hz1 := hm.turn.size
  have hz0 := h.below.size
  have hbl' : Below W0.heap.size W0 w' := h.below.trans (hm.turn.below hz0 h.low)
  refine { dk := (hd.below hb2).wide (fun b _ e => e.elim id (fun e => by cases e)) (fun b e => .inl e), low := fun b e => ?_, tv_own := OwnK.nil _ _ _, tv_new := fun r e => (by cases e), kept := hF.wide (fun b _ e => e.elim (fun e => hd.lt e) (fun e => by cases e)), below := hbl'.trans (hb2.mono hbl'.size), room := h.room, size := (by have := s.size_flush; have := h.size; omega), tlen := (by simp), nmd := h.nmd.flush, names := fun t ht => (by cases ht) }
  rcases hm.new b e with e | e
  · exact h.low b e
  · omega
end
theorem RTs.at_ {w : World} {X : Nat → Prop} {A : Option Addr} {n : Nat} {ts : List RT} (h : RTs w X A n ts) {k : Nat} (hk : k < ts.length) : ∃ ad B q c, A = some ad ∧ ad.block < w.heap.size ∧ w.cell? (ad.add (k * 4)) = some (.int .i64 ts[k].what) ∧ w.cell? ⟨(ad.add (k * 4)).block, (ad.add (k * 4)).off + 1, none⟩ = some (.string (str ts[k].name)) ∧ w.cell? ⟨(ad.add (k * 4)).block, (ad.add (k * 4)).off + 2, none⟩ = some (.slice B q c) ∧ w.cell? ⟨(ad.add (k * 4)).block, (ad.add (k * 4)).off + 3, none⟩ = some (.int .i64 ts[k].n) ∧ Bys w X B q ts[k].bytes ∧ q ≤ c ∧ c ≤ maxLen := by
  obtain ⟨css, hrd, hcl, hcs⟩ := h
  have hck := List.getElem?_eq_getElem (show k < css.length by omega)
  obtain ⟨ad, e, h1, h2, h3, h4⟩ := hrd.load hck
  obtain ⟨B, q, c, he, hb, h5⟩ := hcs k ts[k] _ (List.getElem?_eq_getElem hk) hck
  rw [he] at h3 h4
  exact ⟨ad, B, q, c, e, h1, h3 _ rfl, h4 0 _ rfl, h4 1 _ rfl, h4 2 _ rfl, hb, h5⟩
theorem own_name {w : World} {A : Option Addr} {q c : Nat} {T : List Bs} (h : OwnK w 9 1 (.slice A q c) (nmCells T)) {m : Nat} (hm : m < T.length) : ∃ gt, A = some ⟨gt, 0, none⟩ ∧ gt < w.heap.size ∧ w.cell? ⟨gt, m, none⟩ = some (.string (str T[m])) := by
  have hr := h.rd (X := No) (fun _ _ h => h)
  have hc : (nmCells T)[m]? = some #[.string (str T[m])] := by unfold nmCells; rw [List.getElem?_map, List.getElem?_eq_getElem hm]; rfl
  obtain ⟨ad, e, h1, _, h2⟩ := hr.at_ hc
  rcases h.1.2 with ⟨ev, hz⟩ | ⟨gt, cap, cur, ev, _⟩
  · injection ev with ev
    rw [ev] at e
    cases e
  · injection ev with ev _ _
    subst ev
    injection e with e
    subst e
    refine ⟨gt, rfl, h1, ?_⟩
    have h3 := h2 0 _ rfl
    have hadd : (⟨gt, 0, none⟩ : Addr).add (m * 1 + 0) = ⟨gt, m, none⟩ := by unfold Addr.add; split <;> simp_all
    rw [hadd] at h3
    exact h3
theorem num_quiet (n : Int) (w : World) : Calls Try.prog 17 #[.int .i64 n] w fun e w' => e = .returned (.int .i64 n) ∧ w' = w := (num_any n w).mono fun _ _ h => ⟨h.1, h.2.symm⟩
/-- None of these texts is nm. -/
def noneB (T : List Bs) (nm : Bs) : Bool := T.all fun x => !decide (x = nm)
theorem same_next (T : List Bs) (nm : Bs) {m : Nat} (h : m < T.length) : noneB (T.take (m + 1)) nm = (noneB (T.take m) nm && !(decide (T[m] = nm))) := by
  unfold noneB
  rw [List.take_succ_eq_append_getElem h, List.all_append]
  simp
theorem noneB_mem {T : List Bs} {nm x : Bs} (h : noneB T nm = true) (hx : x ∈ T) : x ≠ nm := by
  unfold noneB at h
  have := List.all_eq_true.1 h x hx
  simpa using this
set_option maxRecDepth 100000 in
set_option maxHeartbeats 16000000 in
theorem lasts_walk (a0 : Option Addr) (len0 cap0 : Nat) (ts0 : List RT) (kp1 tn1 : Int) (w : World) (b0 : RTs w No a0 len0 ts0) (ok0 : ∀ t ∈ ts0, RTok t) (hc0 : len0 ≤ cap0) (hm0 : cap0 ≤ maxLen) :
    Calls Try.prog 11 #[.slice a0 len0 cap0, .agg #[.int .i64 kp1, .int .i64 tn1]] w fun e w' => e = .returned (.bool true) ∧ Below w.heap.size w w' := by
  have hlen0 := b0.len
  go_enter Try.func11, Try.ntmps11
  go_wp2_with fail
  have hb1 : Below w.heap.size w (w.alloc (.cells #[.int .i64 kp1, .int .i64 tn1] 37)) := (Below.refl _ _).alloc (Nat.le_refl _) _
  have hx1 : Blk (w.alloc (.cells #[.int .i64 kp1, .int .i64 tn1] 37)) w.heap.size 37 #[.int .i64 kp1, .int .i64 tn1] := Blk.new w 37 _
  have hs1 := b0.below hb1
  generalize w.alloc (.cells #[.int .i64 kp1, .int .i64 tn1] 37) = w1 at *
  refine (few_any hs1 ok0 hm0 hc0).mono ?_
  rintro e w2 ⟨rfl, hb2⟩
  have hbw2 := hb1.trans (hb2.mono hb1.size)
  by_cases hfew : fewN ts0 ≤ 4000
  case neg =>
    have hdf : decide (fewN ts0 ≤ 4000) = false := by simpa using hfew
    rw [hdf]
    go_wp2_with (go_at_call 27; refine (works_any w2).mono ?_; rintro e w' ⟨rfl, hb⟩)
    go_ret
    exact ⟨rfl, hbw2.trans (hb.mono hbw2.size)⟩
  case pos =>
  have hdf : decide (fewN ts0 ≤ 4000) = true := by simpa using hfew
  rw [hdf]
  obtain ⟨hl66, hbd⟩ := few_ok hfew
  have hs2 := hs1.below hb2
  have hx2 := hx1.below hb2 hx1.lt
  clear hs1 hx1 hb2 hb1 hdf
  go_wp2_with fail
  refine (new_yes 1000 w2 (by omega) (by omega)).mono ?_
  rintro e w3 ⟨g, S0, rfl, hD0, hS0, hb3⟩
  have HS2 := Lib.hid hs2
  have HX2 := Lib.hid hx2
  have HBW2 := Lib.hid hbw2
  have HOK := Lib.hid ok0
  have HBD := Lib.hid hbd
  have HLEN := Lib.hid hlen0
  clear hs2 hx2 hbw2 ok0 hbd hlen0 b0
  go_wp2_with fail
  have hstart : Lasting w2 g 0 S0 ⟨1000, [], []⟩ [] (.slice none 0 0) none 0 w3 := ⟨hD0.wide (fun b _ e => e.elim id (fun e => by cases e)) (fun b e => .inl e), hS0, OwnK.nil _ _ _, fun r e => (by cases e), RFs.nil, hb3, rfl, by simp [St.size], by simp, nmd_new 1000, fun t ht => (by cases ht)⟩
  go_loopw [7, 8, 9] (fun tv kv i wr => ∃ (k : Nat) (S : Nat → Prop) (s : St) (T : List Bs) (Ak : Option Addr) (nk ck : Nat), k ≤ len0 ∧ i = .int .i64 k ∧ kv = .slice Ak nk ck ∧ Lasting w2 g k S s T tv Ak nk wr) (fun _ _ i _ => len0 - (intOf i).toNat)
  case atStart => exact ⟨0, S0, _, [], none, 0, 0, by omega, rfl, rfl, hstart⟩
  case round =>
    obtain ⟨k, S, s, T, Ak, nk, ck, hk, rfl, rfl, hL⟩ := hrel
    clear hstart hD0 hS0 hb3
    obtain ⟨At, qt, ct, rfl, hqt, hqct, -⟩ := hL.tv_own.form
    have HL := Lib.hid hL
    have HQT := Lib.hid hqt
    have hsz := hL.size
    clear hL hqt
    by_cases hlt : k < len0
    case pos =>
      have hkl : k < ts0.length := by have := HLEN.out; omega
      obtain ⟨ad, B1, q1, c1, rfl, ha1, x0, x1, x2, x3, hy1, hq1, hc1⟩ := HS2.out.at_ hkl
      have hblk := HL.out.below
      have z0 : wr.cell? (ad.add (k * 4)) = some (.int .i64 ts0[k].what) := (hblk.cell (p := ad.add (k * 4)) (by rw [block_of_add]; exact ha1)).trans x0
      have z1 : wr.cell? ⟨(ad.add (k * 4)).block, (ad.add (k * 4)).off + 1, none⟩ = some (.string (str ts0[k].name)) := (hblk.cell (p := ⟨(ad.add (k * 4)).block, (ad.add (k * 4)).off + 1, none⟩) (by show (ad.add (k * 4)).block < _; rw [block_of_add]; exact ha1)).trans x1
      have z2 : wr.cell? ⟨(ad.add (k * 4)).block, (ad.add (k * 4)).off + 2, none⟩ = some (.slice B1 q1 c1) := (hblk.cell (p := ⟨(ad.add (k * 4)).block, (ad.add (k * 4)).off + 2, none⟩) (by show (ad.add (k * 4)).block < _; rw [block_of_add]; exact ha1)).trans x2
      have z3 : wr.cell? ⟨(ad.add (k * 4)).block, (ad.add (k * 4)).off + 3, none⟩ = some (.int .i64 ts0[k].n) := (hblk.cell (p := ⟨(ad.add (k * 4)).block, (ad.add (k * 4)).off + 3, none⟩) (by show (ad.add (k * 4)).block < _; rw [block_of_add]; exact ha1)).trans x3
      have hy2 := hy1.below hblk
      have hbd1 := HBD.out ts0[k] (List.getElem_mem hkl)
      have HY := Lib.hid hy2
      clear x0 x1 x2 x3 hy1 hy2 hblk
      generalize ts0[k] = tt at *
      rcases (show tt.what = 0 ∨ tt.what = 1 ∨ tt.what = 2 ∨ (tt.what ≠ 0 ∧ tt.what ≠ 1 ∧ tt.what ≠ 2) by omega) with hw | hw | hw | ⟨hwa, hwb, hwc⟩
      · have hq0 : (tt.what == 0) = true := by simpa using hw
        clear hw
        go_wp2_with fail
        have hA : Below wr.heap.size wr (wr.alloc (.cells #[.int .i64 tt.what, .string (str tt.name), .slice B1 q1 c1, .int .i64 tt.n] 65)) := (Below.refl _ _).alloc (Nat.le_refl _) _
        have hF1 : Blk (wr.alloc (.cells #[.int .i64 tt.what, .string (str tt.name), .slice B1 q1 c1, .int .i64 tt.n] 65)) wr.heap.size 65 #[.int .i64 tt.what, .string (str tt.name), .slice B1 q1 c1, .int .i64 tt.n] := Blk.new _ _ _
        have hL1 := HL.out.grown hA
        have hy := HY.out.alloc (.cells #[.int .i64 tt.what, .string (str tt.name), .slice B1 q1 c1, .int .i64 tt.n] 65)
        have hXb : ∀ b, (S b ∨ Value.ownBlock (.slice At qt ct) = some b) → b < (wr.alloc (.cells #[.int .i64 tt.what, .string (str tt.name), .slice B1 q1 c1, .int .i64 tt.n] 65)).heap.size := fun b e => by
          rw [World.size_alloc]
          rcases e with e | e
          · have := HL.out.dk.lt e; omega
          · have := HL.out.tv_own.lt e; omega
        have hSn : ¬ S wr.heap.size := fun e => by have := HL.out.dk.lt e; omega
        generalize wr.alloc (.cells #[.int .i64 tt.what, .string (str tt.name), .slice B1 q1 c1, .int .i64 tt.n] 65) = w4 at *
        refine (diskPut_any hL1.dk hXb tt.name B1 q1 c1 tt.bytes hy (by omega) (by have := HY.out.1; omega) (by omega)).mono ?_
        rintro e w5 hAct
        have hF2 := hF1.keep hAct.2.1 hSn
        obtain ⟨rfl, hW0⟩ := wentX_of (c := putC s tt.name tt.bytes) (t := .put tt.name tt.bytes) (fun h => putC_nm (n := tt.name) h) hAct
        have hW : WentX w4 S (fun b => S b ∨ Value.ownBlock (.slice At qt ct) = some b) g s tt.name w5 := hW0
        obtain ⟨S', s', ho', hfin⟩ := hL1.went hW
        have n1 : w5.cell? ⟨wr.heap.size, 1, none⟩ = some (.string (str tt.name)) := hF2.cell 1
        have hb5 : Below w5.heap.size w5 (w5.alloc (.cells #[.string (str tt.name)] 9)) := (Below.refl _ _).alloc (Nat.le_refl _) _
        have hT66 := HL.out.tlen
        clear hF1 hF2 hL1 hy hXb hAct hW hW0 hA
        go_wp2_with (at_builtin; refine stop ?_)
        refine Stop.go (wpList_append_k el44 _ (by rfl) _ _ (by rfl) _ (nmCells T) (by rfl) (ho'.below hb5) No _ 1 1 [#[.string (str tt.name)]] (by rfl) (rd_one w5 9 _ rfl (fun u hu => by simp at hu; subst hu; rfl) (fun h => h)) (by unfold nmCells; rw [List.length_map]; omega) (by omega) ?_)
        intro v6 w6 ho6 hg6
        have HN := Lib.hid (hfin w6 v6 ho6 _ hb5 hg6)
        clear hfin ho' ho6 hg6 n1 hb5
        go_wp2_with fail
        go_roundw
        case rel => exact ⟨k + 1, S', s', T ++ [tt.name], Ak, nk, ck, by omega, by go_num, rfl, HN.out⟩
        case measure => simp [intOf]; omega
      · have hq0 : (tt.what == 0) = false := by simp; omega
        have hq1' : (tt.what == 1) = true := by simpa using hw
        clear hw
        go_wp2_with fail
        have hA : Below wr.heap.size wr (wr.alloc (.cells #[.int .i64 tt.what, .string (str tt.name), .slice B1 q1 c1, .int .i64 tt.n] 65)) := (Below.refl _ _).alloc (Nat.le_refl _) _
        have hF1 : Blk (wr.alloc (.cells #[.int .i64 tt.what, .string (str tt.name), .slice B1 q1 c1, .int .i64 tt.n] 65)) wr.heap.size 65 #[.int .i64 tt.what, .string (str tt.name), .slice B1 q1 c1, .int .i64 tt.n] := Blk.new _ _ _
        have hL1 := HL.out.grown hA
        have hy := HY.out.alloc (.cells #[.int .i64 tt.what, .string (str tt.name), .slice B1 q1 c1, .int .i64 tt.n] 65)
        have hXb : ∀ b, (S b ∨ Value.ownBlock (.slice At qt ct) = some b) → b < (wr.alloc (.cells #[.int .i64 tt.what, .string (str tt.name), .slice B1 q1 c1, .int .i64 tt.n] 65)).heap.size := fun b e => by
          rw [World.size_alloc]
          rcases e with e | e
          · have := HL.out.dk.lt e; omega
          · have := HL.out.tv_own.lt e; omega
        have hSn : ¬ S wr.heap.size := fun e => by have := HL.out.dk.lt e; omega
        generalize wr.alloc (.cells #[.int .i64 tt.what, .string (str tt.name), .slice B1 q1 c1, .int .i64 tt.n] 65) = w4 at *
        refine (diskCut_any hL1.dk hXb tt.name tt.n (by omega) (by omega)).mono ?_
        rintro e w5 hAct
        have hF2 := hF1.keep hAct.2.1 hSn
        obtain ⟨rfl, hW0⟩ := wentX_of (c := cutC s tt.name tt.n) (t := .cut tt.name tt.n.toNat) (fun h => cutC_nm (n := tt.name) h) hAct
        have hW : WentX w4 S (fun b => S b ∨ Value.ownBlock (.slice At qt ct) = some b) g s tt.name w5 := hW0
        obtain ⟨S', s', ho', hfin⟩ := hL1.went hW
        have n1 : w5.cell? ⟨wr.heap.size, 1, none⟩ = some (.string (str tt.name)) := hF2.cell 1
        have hb5 : Below w5.heap.size w5 (w5.alloc (.cells #[.string (str tt.name)] 9)) := (Below.refl _ _).alloc (Nat.le_refl _) _
        have hT66 := HL.out.tlen
        clear hF1 hF2 hL1 hy hXb hAct hW hW0 hA
        go_wp2_with (at_builtin; refine stop ?_)
        refine Stop.go (wpList_append_k el44 _ (by rfl) _ _ (by rfl) _ (nmCells T) (by rfl) (ho'.below hb5) No _ 1 1 [#[.string (str tt.name)]] (by rfl) (rd_one w5 9 _ rfl (fun u hu => by simp at hu; subst hu; rfl) (fun h => h)) (by unfold nmCells; rw [List.length_map]; omega) (by omega) ?_)
        intro v6 w6 ho6 hg6
        have HN := Lib.hid (hfin w6 v6 ho6 _ hb5 hg6)
        clear hfin ho' ho6 hg6 n1 hb5
        go_wp2_with fail
        go_roundw
        case rel => exact ⟨k + 1, S', s', T ++ [tt.name], Ak, nk, ck, by omega, by go_num, rfl, HN.out⟩
        case measure => simp [intOf]; omega
      · have hq0 : (tt.what == 0) = false := by simp; omega
        have hq1' : (tt.what == 1) = false := by simp; omega
        have hq2' : (tt.what == 2) = true := by simpa using hw
        clear hw
        go_wp2_with fail
        have hA : Below wr.heap.size wr (wr.alloc (.cells #[.int .i64 tt.what, .string (str tt.name), .slice B1 q1 c1, .int .i64 tt.n] 65)) := (Below.refl _ _).alloc (Nat.le_refl _) _
        have hF1 : Blk (wr.alloc (.cells #[.int .i64 tt.what, .string (str tt.name), .slice B1 q1 c1, .int .i64 tt.n] 65)) wr.heap.size 65 #[.int .i64 tt.what, .string (str tt.name), .slice B1 q1 c1, .int .i64 tt.n] := Blk.new _ _ _
        have hL1 := HL.out.grown hA
        have hy := HY.out.alloc (.cells #[.int .i64 tt.what, .string (str tt.name), .slice B1 q1 c1, .int .i64 tt.n] 65)
        have hXb : ∀ b, (S b ∨ Value.ownBlock (.slice At qt ct) = some b) → b < (wr.alloc (.cells #[.int .i64 tt.what, .string (str tt.name), .slice B1 q1 c1, .int .i64 tt.n] 65)).heap.size := fun b e => by
          rw [World.size_alloc]
          rcases e with e | e
          · have := HL.out.dk.lt e; omega
          · have := HL.out.tv_own.lt e; omega
        have hSn : ¬ S wr.heap.size := fun e => by have := HL.out.dk.lt e; omega
        generalize wr.alloc (.cells #[.int .i64 tt.what, .string (str tt.name), .slice B1 q1 c1, .int .i64 tt.n] 65) = w4 at *
        refine (diskRemove_any hL1.dk hXb tt.name (by omega) (by omega)).mono ?_
        rintro e w5 hAct
        have hF2 := hF1.keep hAct.2.1 hSn
        obtain ⟨rfl, hW0⟩ := wentX_of (c := missC s.files tt.name) (t := .rem tt.name) (fun h => (missC_zero (n := tt.name) h).1) hAct
        have hW : WentX w4 S (fun b => S b ∨ Value.ownBlock (.slice At qt ct) = some b) g s tt.name w5 := hW0
        obtain ⟨S', s', ho', hfin⟩ := hL1.went hW
        have n1 : w5.cell? ⟨wr.heap.size, 1, none⟩ = some (.string (str tt.name)) := hF2.cell 1
        have hb5 : Below w5.heap.size w5 (w5.alloc (.cells #[.string (str tt.name)] 9)) := (Below.refl _ _).alloc (Nat.le_refl _) _
        have hT66 := HL.out.tlen
        clear hF1 hF2 hL1 hy hXb hAct hW hW0 hA
        go_wp2_with (at_builtin; refine stop ?_)
        refine Stop.go (wpList_append_k el44 _ (by rfl) _ _ (by rfl) _ (nmCells T) (by rfl) (ho'.below hb5) No _ 1 1 [#[.string (str tt.name)]] (by rfl) (rd_one w5 9 _ rfl (fun u hu => by simp at hu; subst hu; rfl) (fun h => h)) (by unfold nmCells; rw [List.length_map]; omega) (by omega) ?_)
        intro v6 w6 ho6 hg6
        have HN := Lib.hid (hfin w6 v6 ho6 _ hb5 hg6)
        clear hfin ho' ho6 hg6 n1 hb5
        go_wp2_with fail
        go_roundw
        case rel => exact ⟨k + 1, S', s', T ++ [tt.name], Ak, nk, ck, by omega, by go_num, rfl, HN.out⟩
        case measure => simp [intOf]; omega
      · have hq0 : (tt.what == 0) = false := by simpa using hwa
        have hq1' : (tt.what == 1) = false := by simpa using hwb
        have hq2' : (tt.what == 2) = false := by simpa using hwc
        go_wp2_with fail
        have hA : Below wr.heap.size wr (wr.alloc (.cells #[.int .i64 tt.what, .string (str tt.name), .slice B1 q1 c1, .int .i64 tt.n] 65)) := (Below.refl _ _).alloc (Nat.le_refl _) _
        have hL1 := HL.out.grown hA
        generalize wr.alloc (.cells #[.int .i64 tt.what, .string (str tt.name), .slice B1 q1 c1, .int .i64 tt.n] 65) = w4 at *
        refine (diskFlush_any hL1.dk (by omega)).mono ?_
        rintro e w5 ⟨rfl, hW⟩
        obtain ⟨S', hd5, hfin⟩ := hL1.flushed hW
        have hnm := hL1.nmd.flush.files
        have hfl := s.size_flush
        clear hL1 hW hA
        go_wp2_with fail
        refine (files_any hd5 hnm (by omega)).mono ?_
        rintro e w6 ⟨A6, n6, c6, rfl, hF6, hn6, hc6, hb6⟩
        have HN := Lib.hid (hfin w6 A6 n6 hb6 hF6)
        clear hfin hF6 hd5 hnm hb6
        go_wp2_with fail
        go_roundw
        case rel => exact ⟨k + 1, S', s.flush, [], A6, n6, c6, by omega, by go_num, rfl, HN.out⟩
        case measure => simp [intOf]; omega
    case neg =>
    have hd1 : decide (k < len0) = false := by simpa using hlt
    have hnm := HL.out.nmd
    have hk66 : k ≤ 66 := by have := HLEN.out; omega
    have hqt66 : qt ≤ 66 := by have h1 := HQT.out; have h2 := HL.out.tlen; unfold nmCells at h1; rw [List.length_map] at h1; omega
    go_wp2_with fail
    refine (files_any HL.out.dk hnm.files (by omega)).mono ?_
    rintro e w4 ⟨A4, n4, c4, rfl, hF4, hn4, hc4, hb4⟩
    have hL4 := HL.out.grown hb4
    have hS4 : ∀ b, S b → b < wr.heap.size := fun b hb => HL.out.dk.lt hb
    clear hd1
    go_wp2_with fail
    refine (diskCrash_any hL4.dk 0 0 (by omega)).mono ?_
    rintro e w5 ⟨p5, rfl, gx, Sx, rfl, hDx, hSx, hb5⟩
    have hL5 := hL4.grown hb5
    have hF5 := hF4.below hb5
    clear hL4 hF4
    go_wp2_with fail
    refine (waits_any hL5.dk).mono ?_
    rintro e w' ⟨rfl, rfl⟩
    go_wp2_with fail
    refine (diskCrash_any hL5.dk (s.waits.length : Int) 0 (by omega)).mono ?_
    rintro e w6 ⟨p6, rfl, gy, Sy, rfl, hDy, hSy, hb6⟩
    have hL6 := hL5.grown hb6
    have hF6 := hF5.below hb6
    have hDx6 := hDx.below hb6
    have hcx := HX2.out.below hL6.below HX2.out.lt
    have c0 : w6.cell? ⟨w.heap.size, 0, none⟩ = some (.int .i64 kp1) := hcx.cell 0
    have c1 : w6.cell? ⟨w.heap.size, 1, none⟩ = some (.int .i64 tn1) := hcx.cell 1
    clear hL5 hF5 hDx hcx
    go_wp2_with fail
    refine (diskCrash_any hL6.dk kp1 tn1 (by omega)).mono ?_
    rintro e w7 ⟨p7, rfl, gz, Sz, rfl, hDz, hSz, hb7⟩
    have hL7 := hL6.grown hb7
    have hF7 := hF6.below hb7
    have hDx7 := hDx6.below hb7
    have hDy7 := hDy.below hb7
    have hlx := left_len s 0 0
    have hly := left_len s (s.waits.length : Int) 0
    have hlz := left_len s kp1 tn1
    have hfl := s.files_len
    have hlen4 := hF7.len
    have hlenk := hL7.kept.len
    have hll : s.lasts.length ≤ s.size := by unfold St.size; omega
    clear hL6 hF6 hDx6 hDy c0 c1
    go_wp2_with (go_at_call 17; refine (num_any _ _).mono ?_; rintro e w' ⟨rfl, rfl⟩)
    refine (files_any hDx7 (hnm.crash 0 0).files (by show (left s 0 0).length + 0 < _; omega)).mono ?_
    rintro e w8 ⟨A8, n8, c8, rfl, hF8, hn8, hc8, hb8⟩
    rw [crash_files, left_zero] at hF8
    have hL8 := hL7.grown hb8
    have hF8' := hF7.below hb8
    have hDy8 := hDy7.below hb8
    have hDz8 := hDz.below hb8
    have hlen8 := hF8.len
    clear hL7 hF7 hDy7 hDz hDx7
    go_wp2_with fail
    refine (sameFiles_any hF8 hL8.kept (by omega) (by omega)).mono ?_
    rintro e w9 ⟨rfl, hb9⟩
    have hL9 := hL8.grown hb9
    have hF9 := hF8'.below hb9
    have hDy9 := hDy8.below hb9
    have hDz9 := hDz8.below hb9
    rw [show decide (s.lasts = s.lasts) = true from by simp]
    clear hL8 hF8' hDy8 hDz8 hF8
    go_wp2_with fail
    refine (files_any hDy9 (hnm.crash _ 0).files (by show (left s _ 0).length + 0 < _; omega)).mono ?_
    rintro e w10 ⟨A10, n10, c10, rfl, hF10, hn10, hc10, hb10⟩
    rw [crash_files, left_all] at hF10
    have hL10 := hL9.grown hb10
    have hF10' := hF9.below hb10
    have hDz10 := hDz9.below hb10
    have hlen10 := hF10.len
    clear hL9 hF9 hDz9 hDy9
    go_wp2_with fail
    refine (sameFiles_any hF10 hF10' (by omega) (by omega)).mono ?_
    rintro e w11 ⟨rfl, hb11⟩
    have hL11 := hL10.grown hb11
    have hDz11 := hDz10.below hb11
    rw [show decide (s.files = s.files) = true from by simp]
    have hbf := HBW2.out.trans (hL11.below.mono HBW2.out.size)
    have HLL := Lib.hid hL11
    have HDZ := Lib.hid hDz11
    have HBF := Lib.hid hbf
    have HNK := Lib.hid hlenk
    have HSZ := Lib.hid hll
    have hnk66 : nk ≤ 66 := by omega
    clear hL10 hF10 hF10' hDz10 hL11 hDz11 hbf hlen4 hlen8 hlen10 hlenk hlx hly hfl hll
    go_wp2_with fail
    go_loopw [18] (fun i wq => ∃ j : Nat, j ≤ nk ∧ i = .int .i64 j ∧ Below w11.heap.size w11 wq) (fun i _ => nk - (intOf i).toNat)
    case atStart => exact ⟨0, by omega, rfl, Below.refl _ _⟩
    case round =>
      obtain ⟨j, hj, rfl, hbq⟩ := hrel
      have HBQ := Lib.hid hbq
      have hzq := hbq.size
      by_cases hjl : j < nk
      case neg =>
        have hd2 : decide (j < nk) = false := by simpa using hjl
        go_wp2_with (go_at_call 27; refine (works_any _).mono ?_; rintro e w12 ⟨rfl, hb12⟩)
        go_ret
        have hfb := HBF.out.trans (HBQ.out.mono HBF.out.size)
        exact ⟨rfl, hfb.trans (hb12.mono hfb.size)⟩
      case pos =>
      have hjk : j < s.lasts.length := by have := HNK.out; omega
      have hLq := HLL.out.grown HBQ.out
      obtain ⟨ak, B1, q1, c1, rfl, hak, -, s0, s1, hy1, hq1, hc1⟩ := hLq.kept.at_ hjk
      have HOW := Lib.hid hLq.tv_own
      have HY1 := Lib.hid hy1
      have hqT : qt = T.length := by have := HQT.out; unfold nmCells at this; rwa [List.length_map] at this
      have HQ := Lib.hid hqT
      clear hLq hbq hy1 hqT
      go_wp2_with fail
      go_loopw [19, 20] (fun sm i wi => ∃ m : Nat, m ≤ qt ∧ i = .int .i64 m ∧ sm = .bool (noneB (T.take m) s.lasts[j].1) ∧ Below wr.heap.size wr wi) (fun _ i _ => qt - (intOf i).toNat)
      case atStart => exact ⟨0, by omega, rfl, by simp [noneB], Below.refl _ _⟩
      case round =>
        obtain ⟨m, hm, rfl, rfl, hbi⟩ := hrel
        have HBI := Lib.hid hbi
        by_cases hml : m < qt
        case pos =>
          have hmT : m < T.length := by have := HQ.out; omega
          have HNX := Lib.hid (same_next T s.lasts[j].1 hmT)
          obtain ⟨gt, hgt, hgl, hct⟩ := own_name HOW.out hmT
          subst hgt
          have t0 := (hbi.cell (p := ⟨gt, m, none⟩) hgl).trans hct
          have u0 := (hbi.cell (p := ak.add (j * 2)) (by rw [block_of_add]; exact hak)).trans s0
          clear hbi hct
          have HM := Lib.hid hml
          by_cases hsm : noneB (T.take m) s.lasts[j].1 = true
          · rw [hsm] at HNX
            rw [hsm]
            clear hsm
            go_wp2_with fail
            go_quiet (fail)
            go_wp2_with fail
            refine ⟨⟨m + 1, by have := HM.out; omega, by go_num, ?_, below_drewN HBI.out nq⟩, by have := HM.out; simp [intOf]; omega⟩
            rw [HNX.out, str_beq]
            simp
          · rw [Bool.not_eq_true] at hsm
            rw [hsm] at HNX
            rw [hsm]
            clear hsm
            go_wp2_with fail
            go_quiet (fail)
            go_wp2_with fail
            refine ⟨⟨m + 1, by have := HM.out; omega, by go_num, ?_, below_drewN HBI.out nq⟩, by have := HM.out; simp [intOf]; omega⟩
            rw [HNX.out]
            simp
        case neg =>
        have hd3 : decide (m < qt) = false := by simpa using hml
        have htk : T.take m = T := List.take_of_length_le (by have := HQ.out; omega)
        rw [htk]
        have u0 := (hbi.cell (p := ak.add (j * 2)) (by rw [block_of_add]; exact hak)).trans s0
        have u1 := (hbi.cell (p := ⟨(ak.add (j * 2)).block, (ak.add (j * 2)).off + 1, none⟩) (by show (ak.add (j * 2)).block < _; rw [block_of_add]; exact hak)).trans s1
        have hnmj : isNm s.lasts[j].1 = true := hnm.1 _ (List.getElem_mem hjk)
        have hln := isNm_len hnmj
        have hrd := diskRead_any ((HDZ.out.below HBQ.out).below HBI.out) s.lasts[j].1 (by omega)
        have HSM : Hid (noneB T s.lasts[j].1 = true → missC (s.crash kp1 tn1).files s.lasts[j].1 = 0 ∧ (find (s.crash kp1 tn1).files s.lasts[j].1).getD [] = s.lasts[j].2) := Lib.hid (fun hT => by
          have hf : find (s.crash kp1 tn1).files s.lasts[j].1 = some s.lasts[j].2 := by
            rw [crash_files, left_find (fun t ht e => noneB_mem hT (HLL.out.names t ht) e)]
            exact find_of_mem HLL.out.dk.ok.2.2.1 (List.getElem_mem hjk)
          exact ⟨by unfold missC; rw [hnmj, hf]; rfl, by rw [hf]; rfl⟩)
        clear htk
        go_wp2_with fail
        refine hrd.mono ?_
        rintro e wz ⟨vz, rfl, hoz, hvz, hbz⟩
        obtain ⟨Az, qz, cz, rfl, -, -, -⟩ := hoz.form
        have v0 := (hbz.cell (p := ak.add (j * 2)) (block_lt_of_cell u0)).trans u0
        have v1 := (hbz.cell (p := ⟨(ak.add (j * 2)).block, (ak.add (j * 2)).off + 1, none⟩) (block_lt_of_cell u1)).trans u1
        have hyz := (HY1.out.below HBI.out).below hbz
        have cv1 : ∀ m, (convert 32 9 (.slice Az qz cz)).run Try.prog (wz.drewN m) = .ok (.string (str (if missC (s.crash kp1 tn1).files s.lasts[j].1 = 0 then (find (s.crash kp1 tn1).files s.lasts[j].1).getD [] else []))) (wz.drewN m) := fun m => conv_str (wz.drewN m) No Az qz cz _ ((hoz.bys (fun _ _ h => h)).drewN m)
        have cv2 : ∀ m, (convert 32 9 (.slice B1 q1 c1)).run Try.prog (wz.drewN m) = .ok (.string (str s.lasts[j].2)) (wz.drewN m) := fun m => conv_str (wz.drewN m) _ B1 q1 c1 _ (hyz.drewN m)
        have hzi := HBI.out.size
        have HBZ := Lib.hid ((HBQ.out.trans (HBI.out.mono hzq)).trans (hbz.mono (Nat.le_trans hzq hzi)))
        have HJL := Lib.hid hjl
        clear hrd hoz hvz u0 u1 hyz hbz hd3
        by_cases hsm : noneB T s.lasts[j].1 = true
        · obtain ⟨e1, e2⟩ := HSM.out hsm
          rw [hsm]
          rw [e1, if_pos rfl, e2] at cv1
          rw [e1]
          have hbe : (!(str s.lasts[j].2).toList == (str s.lasts[j].2).toList) = false := by simp
          clear hsm
          go_wp2_with fail
          go_quiet ((go_at_call 17; exact Calls.quiet_of_same (num_quiet _ _)))
          go_wp2_with fail
          refine ⟨⟨j + 1, by have := HJL.out; omega, by go_num, below_drewN HBZ.out nq⟩, by have := HJL.out; simp [intOf]; omega⟩
        · rw [Bool.not_eq_true] at hsm
          rw [hsm]
          clear hsm cv1 cv2
          go_wp2_with fail
          go_quiet ((go_at_call 17; exact Calls.quiet_of_same (num_quiet _ _)))
          go_wp2_with fail
          refine ⟨⟨j + 1, by have := HJL.out; omega, by go_num, below_drewN HBZ.out nq⟩, by have := HJL.out; simp [intOf]; omega⟩
end Go.Proofs.Ythhiiimmgghhaaa
