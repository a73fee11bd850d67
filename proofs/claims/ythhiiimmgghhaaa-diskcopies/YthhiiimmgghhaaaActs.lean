/-
  disk.Put, Cut, Remove: what they answer, and how the disk stands. Conditions: at most 900000 files and things, a name and bytes within bounds.
-/
import Derived.Test.YthhiiimmgghhaaaCarry
namespace Go.Proofs.Ythhiiimmgghhaaa
open Go.RowKit
/-- A call that was refused by c, or done. -/
def Acted (w : World) (S X : Nat → Prop) (g : Nat) (s : St) (c : Int) (t : Th) (e : Ending) (w' : World) : Prop :=
  e = .returned (.int .i64 c) ∧ Wrote w S X g (if c = 0 then s.done t else s) w'
/-- Why bytes are not put, or 0. -/
def putC (s : St) (n b : Bs) : Int := if isNm n = true then (if (b.length : Int) ≤ (s.room : Int) - (total s.files : Int) then 0 else 131) else 130
def cutC (s : St) (n : Bs) (k : Int) : Int := if missC s.files n = 0 then (if 0 ≤ k ∧ k ≤ (sizeF s.files n : Int) then 0 else 4) else missC s.files n
theorem Wrote.of_new {w w1 w' : World} {S X : Nat → Prop} {g : Nat} {s : St} (hb : Below w.heap.size w w1) (h : Wrote w1 S X g s w') : Wrote w S X g s w' := by
  obtain ⟨hT, S', h1, h2, h3⟩ := h
  refine ⟨(Turn.of_below hb S).trans hT (fun _ _ e => e), S', h1, fun b hb' => ?_, h3⟩
  rcases h2 b hb' with e | e
  · exact .inl e
  · have := hb.size; exact .inr (by omega)
theorem ThAt.fit {w : World} {X X' : Nat → Prop} {t : Th} {p q : Nat} (h : ThAt w X t (t.cells p q)) {B : Nat} (hp : B ≤ p) (hq : B ≤ q) (hX : ∀ b, X' b → b < B) : ThAt w X' t (t.cells p q) := by
  obtain ⟨p', q', e, h1, h2, h3, h4⟩ := h
  cases t with
  | put n b =>
    obtain ⟨rfl, rfl⟩ : p = p' ∧ q = q' := by simpa [Th.cells] using e
    exact ⟨p, q, rfl, h1, fun e => by have := hX _ e; omega, h3, fun v hv => ⟨(h4 v hv).1, fun e => by have := hX _ e; omega, (h4 v hv).2.2⟩⟩
  | cut n b =>
    obtain ⟨rfl, rfl⟩ : p = p' ∧ q = q' := by simpa [Th.cells] using e
    exact ⟨p, q, rfl, h1, fun e => by have := hX _ e; omega, h3, fun v hv => ⟨(h4 v hv).1, fun e => by have := hX _ e; omega, (h4 v hv).2.2⟩⟩
  | rem n =>
    obtain rfl : p = p' := by simpa [Th.cells] using e
    exact ⟨p, q, rfl, h1, fun e => by have := hX _ e; omega, h3, fun v hv => by cases hv⟩
theorem Dk.drew {w : World} {S X : Nat → Prop} {g : Nat} {s : St} (h : Dk w S X g s) : Dk w.drew S X g s := h.keep (T := No) ((Turn.refl No _).drew) (fun _ _ h => h.elim)
theorem below_of_drew {w w' : World} (h : Below w.drew.heap.size w.drew w') : Below w.heap.size w w' := ⟨h.os, h.tape, h.output, h.size, h.block⟩
/-- A thing that was just made is carried out. -/
theorem carry_new {w w1 : World} {S X : Nat → Prop} {g : Nat} {s : St} (h : Dk w S X g s) (hX : ∀ b, X b → b < w.heap.size) (hb : Below w.heap.size w w1) (t : Th) (p q : Nat) (hp : w.heap.size ≤ p) (hq : w.heap.size ≤ q) (ht : ThAt w1 No t (t.cells p q))
    (hcan : t.can s.files) (hroom : total (t.on s.files) ≤ s.room) (hn : t.name.length ≤ 24) (hsz : s.size < 900000) :
    Calls Try.prog 49 #[.pointer (some ⟨g, 0, none⟩), .agg (t.cells p q)] w1 fun e w' => e = .returned (.tuple #[]) ∧ Wrote w S X g (s.done t) w' :=
  (carry_any (h.below hb) t p q (ht.fit hp hq hX) hcan hroom hn hsz).mono fun _ _ ⟨e, hw⟩ => ⟨e, hw.of_new hb⟩
theorem Acted.yes {w w' : World} {S X : Nat → Prop} {g : Nat} {s : St} {c : Int} {t : Th} (hc : c = 0) (h : Wrote w S X g (s.done t) w') : Acted w S X g s c t (.returned (.int .i64 0)) w' := by
  subst hc; exact ⟨rfl, by rw [if_pos rfl]; exact h⟩
theorem Acted.no {w : World} {S X : Nat → Prop} {g : Nat} {s : St} {c d : Int} {t : Th} (hc : c = d) (h0 : d ≠ 0) (h : Dk w S X g s) : Acted w S X g s c t (.returned (.int .i64 d)) w := by
  subst hc; exact ⟨rfl, by rw [if_neg h0]; exact Wrote.same h⟩
theorem Wrote.of_drew {w w' : World} {S X : Nat → Prop} {g : Nat} {s : St} (h : Wrote w.drew S X g s w') : Wrote w S X g s w' := by
  obtain ⟨hT, S', h1, h2, h3⟩ := h
  exact ⟨⟨hT.os, hT.tape, hT.output, hT.size, hT.block⟩, S', h1, h2, h3⟩
theorem Acted.no_drew {w : World} {S X : Nat → Prop} {g : Nat} {s : St} {c d : Int} {t : Th} (hc : c = d) (h0 : d ≠ 0) (h : Dk w S X g s) : Acted w S X g s c t (.returned (.int .i64 d)) w.drew := by
  subst hc; exact ⟨rfl, by rw [if_neg h0]; exact Wrote.of_drew (Wrote.same h.drew)⟩
set_option maxRecDepth 100000 in
set_option maxHeartbeats 4000000 in
theorem diskPut_any {w : World} {S X Y : Nat → Prop} {g : Nat} {s : St} (h : Dk w S X g s) (hX : ∀ b, X b → b < w.heap.size) (n : Bs) (A : Option Addr) (q c : Nat) (b : Bs) (hb : Bys w Y A q b) (hn : n.length ≤ 1000000000) (hq : q ≤ 1000000000) (hsz : s.size < 900000) :
    Calls Try.prog 18 #[.pointer (some ⟨g, 0, none⟩), .string (str n), .slice A q c] w (Acted w S X g s (putC s n b) (.put n b)) := by
  have HD := Lib.hid h
  obtain ⟨m1, m2, S1, S2, wv, h⟩ := h
  have hM := made_yes g s.room w (h.blk.cell 5) h.ok.1
  have hr : w.cell? ⟨g, 5, none⟩ = some (.int .i64 (s.room : Int)) := h.blk.cell 5
  have hu : w.cell? ⟨g, 1, none⟩ = some (.int .i64 (total s.files : Int)) := h.blk.cell 1
  have hs := conv_str w.drew Y A q c b hb.drew
  have hbl := hb.1
  have h1 := h.ok.total_le
  have h2 := h.ok.2.1
  have HI := isName_any n w hn
  by_cases hnm : isNm n = true
  · rw [hnm] at HI
    have hl24 := (isNm_len hnm).2
    by_cases hfit : (b.length : Int) ≤ (s.room : Int) - (total s.files : Int)
    · have HC : Hid (putC s n b = 0) := Lib.hid (by unfold putC; rw [if_pos hnm, if_pos hfit])
      have hroom : total (Th.on (.put n b) s.files) ≤ s.room := by show total (putF n b s.files) ≤ _; rw [total_put]; omega
      rw [hbl] at hfit
      clear hbl h
      go_enter Try.func18, Try.ntmps18
      go_wp2_with (first
        | (go_at_call 41; refine hM.mono ?_; rintro e w' ⟨rfl, rfl⟩)
        | (go_at_call 48; refine HI.mono ?_; rintro e w' ⟨rfl, rfl⟩)
        | go_region
        | (go_at_call 50; refine (putting_any n b w.drew hn).mono ?_; rintro e w1 ⟨p1, q1, rfl, hp1, hq1, ht1, hb1⟩)
        | (go_at_call 49; refine (carry_new HD.out hX (below_of_drew hb1) (.put n b) p1 q1 hp1 hq1 ht1 hl24 hroom hl24 hsz).mono ?_; rintro e w2 ⟨rfl, hw2⟩))
      go_ret
      exact Acted.yes HC.out hw2
    · have HC : Hid (putC s n b = 131) := Lib.hid (by unfold putC; rw [if_pos hnm, if_neg hfit])
      rw [hbl] at hfit
      clear hbl h hs
      go_enter Try.func18, Try.ntmps18
      go_wp2_with (first
        | (go_at_call 41; refine hM.mono ?_; rintro e w' ⟨rfl, rfl⟩)
        | (go_at_call 48; refine HI.mono ?_; rintro e w' ⟨rfl, rfl⟩)
        | go_region)
      go_ret
      exact Acted.no_drew HC.out (by omega) HD.out
  · have HC : Hid (putC s n b = 130) := Lib.hid (by unfold putC; rw [if_neg hnm])
    rw [Bool.not_eq_true] at hnm
    rw [hnm] at HI
    clear hs h
    go_enter Try.func18, Try.ntmps18
    go_wp2_with (first
      | (go_at_call 41; refine hM.mono ?_; rintro e w' ⟨rfl, rfl⟩)
      | (go_at_call 48; refine HI.mono ?_; rintro e w' ⟨rfl, rfl⟩))
    go_ret
    exact Acted.no HC.out (by omega) HD.out
set_option maxRecDepth 100000 in
set_option maxHeartbeats 4000000 in
theorem diskRemove_any {w : World} {S X : Nat → Prop} {g : Nat} {s : St} (h : Dk w S X g s) (hX : ∀ b, X b → b < w.heap.size) (n : Bs) (hn : n.length ≤ 1000000000) (hsz : s.size < 900000) :
    Calls Try.prog 20 #[.pointer (some ⟨g, 0, none⟩), .string (str n)] w (Acted w S X g s (missC s.files n) (.rem n)) := by
  have HR := refused_any h n hn
  have HD := Lib.hid h
  by_cases h0 : missC s.files n = 0
  · obtain ⟨hnm, b, hfd⟩ := missC_zero h0
    have hl24 := (isNm_len hnm).2
    have hroom : total (Th.on (.rem n) s.files) ≤ s.room := by
      have := total_rem s.files n b h.ok.rises hfd
      have := h.ok.total_le
      show total (remF n s.files) ≤ _; omega
    have HC := Lib.hid h0
    rw [h0] at HR
    clear h0 h
    go_enter Try.func20, Try.ntmps20
    go_wp2_with (first
      | (go_at_call 51; refine HR.mono ?_; rintro e w' ⟨rfl, rfl⟩)
      | (go_at_call 54; refine (removing_any n w hn).mono ?_; rintro e w1 ⟨p1, q1, rfl, hp1, hq1, ht1, hb1⟩)
      | (go_at_call 49; refine (carry_new HD.out hX hb1 (.rem n) p1 q1 hp1 hq1 ht1 ⟨b, hfd⟩ hroom hl24 hsz).mono ?_; rintro e w2 ⟨rfl, hw2⟩))
    go_ret
    exact Acted.yes HC.out hw2
  · have hne : (missC s.files n != 0) = true := by simpa using h0
    have HC := Lib.hid h0
    clear h0 h
    go_enter Try.func20, Try.ntmps20
    go_wp2_with (first
      | (go_at_call 51; refine HR.mono ?_; rintro e w' ⟨rfl, rfl⟩))
    go_ret
    exact Acted.no rfl HC.out HD.out
set_option maxRecDepth 100000 in
set_option maxHeartbeats 4000000 in
theorem diskCut_any {w : World} {S X : Nat → Prop} {g : Nat} {s : St} (h : Dk w S X g s) (hX : ∀ b, X b → b < w.heap.size) (n : Bs) (k : Int) (hn : n.length ≤ 1000000000) (hsz : s.size < 900000) :
    Calls Try.prog 19 #[.pointer (some ⟨g, 0, none⟩), .string (str n), .int .i64 k] w (Acted w S X g s (cutC s n k) (.cut n k.toNat)) := by
  have HR := refused_any h n hn
  have HD := Lib.hid h
  have HS : Calls Try.prog 52 #[.pointer (some ⟨g, 0, none⟩), .string (str n)] w fun e w' => e = .returned (.int .i64 (sizeF s.files n : Int)) ∧ w = w' := by
    obtain ⟨m1, m2, S1, S2, wv, h⟩ := h
    exact size_any h.f1 g 0 (h.blk.cell 0) n hn
  by_cases h0 : missC s.files n = 0
  · obtain ⟨hnm, b, hfd⟩ := missC_zero h0
    have hl24 := (isNm_len hnm).2
    have hsf : sizeF s.files n = b.length := by unfold sizeF; rw [hfd]; rfl
    rw [h0] at HR
    by_cases hk : 0 ≤ k ∧ k ≤ (sizeF s.files n : Int)
    · obtain ⟨hk1, hk2⟩ := hk
      have HC : Hid (cutC s n k = 0) := Lib.hid (by unfold cutC; rw [if_pos h0, if_pos ⟨hk1, hk2⟩])
      obtain ⟨j, rfl⟩ : ∃ j : Nat, k = (j : Int) := ⟨k.toNat, by omega⟩
      have hroom : total (Th.on (.cut n j) s.files) ≤ s.room := by
        have := total_cut s.files n j b h.ok.rises hfd (by omega)
        have := h.ok.total_le
        show total (cutF n j s.files) ≤ _; omega
      have hcan : Th.can (.cut n j) s.files := ⟨b, hfd, by omega⟩
      have ej : ((j : Int)).toNat = j := by omega
      rw [ej]
      clear h0 h hsf
      go_enter Try.func19, Try.ntmps19
      go_wp2_with (first
        | (go_at_call 51; refine HR.mono ?_; rintro e w' ⟨rfl, rfl⟩)
        | (go_at_call 52; refine HS.mono ?_; rintro e w' ⟨rfl, rfl⟩)
        | (go_at_call 53; refine (cutting_any n j w hn).mono ?_; rintro e w1 ⟨p1, q1, rfl, hp1, hq1, ht1, hb1⟩)
        | (go_at_call 49; refine (carry_new HD.out hX hb1 (.cut n j) p1 q1 hp1 hq1 ht1 hcan hroom hl24 hsz).mono ?_; rintro e w2 ⟨rfl, hw2⟩))
      go_ret
      exact Acted.yes HC.out hw2
    · have HC : Hid (cutC s n k = 4) := Lib.hid (by unfold cutC; rw [if_pos h0, if_neg hk])
      clear h0 h hsf
      by_cases hneg : k < 0
      · go_enter Try.func19, Try.ntmps19
        go_wp2_with (first
          | (go_at_call 51; refine HR.mono ?_; rintro e w' ⟨rfl, rfl⟩)
          | (go_at_call 52; refine HS.mono ?_; rintro e w' ⟨rfl, rfl⟩))
        go_ret
        exact Acted.no HC.out (by omega) HD.out
      · have hbig : (sizeF s.files n : Int) < k := by omega
        go_enter Try.func19, Try.ntmps19
        go_wp2_with (first
          | (go_at_call 51; refine HR.mono ?_; rintro e w' ⟨rfl, rfl⟩)
          | (go_at_call 52; refine HS.mono ?_; rintro e w' ⟨rfl, rfl⟩))
        go_ret
        exact Acted.no HC.out (by omega) HD.out
  · have hne : (missC s.files n != 0) = true := by simpa using h0
    have HC : Hid (cutC s n k = missC s.files n) := Lib.hid (by unfold cutC; rw [if_neg h0])
    have HN := Lib.hid h0
    clear h0 h HS
    go_enter Try.func19, Try.ntmps19
    go_wp2_with (first
      | (go_at_call 51; refine HR.mono ?_; rintro e w' ⟨rfl, rfl⟩))
    go_ret
    exact Acted.no HC.out HN.out HD.out
end Go.Proofs.Ythhiiimmgghhaaa
