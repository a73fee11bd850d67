/-
  An entry is appended to a table. Nothing is assumed.
-/
import Derived.Test.YthcphoijanebhaaDoorRefusal
namespace Go.Proofs.YthcphoijanebhaaDoor
open Go.RowKit Go.Maps
set_option linter.unusedVariables false
/-- What Append answers. -/
def appendE (l : List Ent) (e : Ent) : Int := if Right e then (if 4096 ≤ l.length then 3 else fallsE l e) else 2
/-- What each of the reasons answers. -/
def why (l : List Ent) (e : Ent) (f : Nat) : Int :=
  if f = 80 then errOf e else if f = 81 then fullE l.length else if f = 82 then fallsE l e else
  if f = 83 then elderD (wr e.id l) e.num else if f = 84 then besideO (wr e.id l) e.num else if f = 85 then doubleD (wr e.id l) e.num e.seq else if f = 86 then notNext (wr e.id l) e.num e.seq else
  if f = 87 then doubleM (wr e.id l) e.num else if f = 88 then elderM (wr e.id l) e.num else 0
theorem why_log (l : List Ent) (e : Ent) : first (why l e) [79, 80, 81, 82] = appendE l e := by
  unfold first first first first first appendE
  simp only [why, if_true, if_false, Nat.reduceEqDiff]
  unfold errOf fullE
  by_cases h : Right e
  · by_cases h2 : 4096 ≤ l.length
    · simp [h, h2]
    · simp [h, h2]; exact fun q => q.symm
  · simp [h]
section
variable {w w' : World} {g : Nat} {l : List Ent} {S : Nat → Prop} {e : Ent}
theorem refuser_log (h : Tb w S g l) {f : Nat} (hf : f ∈ [79, 80, 81, 82]) : Refuser w (.pointer (some ⟨g, 0, none⟩)) e (why l e) f := by
  obtain ⟨⟨v, mp, h1, h2, h4, h3⟩, hr, hl⟩ := h
  obtain ⟨A, q, c, rfl, hq, hc, hm⟩ := h2.form
  have hq' : q = l.length := by rw [hq]; simp [cellsOf]
  subst hq'
  have hlow : ∀ W, Below w.heap.size w W → TX W g (.slice A l.length c) (fun i => wr (i : Int) l) mp := fun W hb => h1.keepB fun b hb' => hb.block b (h1.lt hb')
  have hrd : Rd w No 6 A l.length (cellsOf l) := h2.rd (fun _ _ h => h)
  simp only [List.mem_cons, List.not_mem_nil, or_false] at hf
  rcases hf with rfl | rfl | rfl | rfl
  · exact ⟨enters_of Tryd.func79 (by kernel_rfl) rfl, fun W hb => noTable_yes (hlow W hb).cellv.2 e⟩
  · exact ⟨enters_of Tryd.func80 (by kernel_rfl) rfl, fun W hb => noEntry_any _ e⟩
  · exact ⟨enters_of Tryd.func81 (by kernel_rfl) rfl, fun W hb => full_any (hlow W hb).cellv.1 e⟩
  · exact ⟨enters_of Tryd.func82 (by kernel_rfl) rfl, fun W hb => falls_any (hlow W hb).cellv.1 (hrd.below hb) (by omega) e⟩
theorem lists_one {B : Option Addr} {c : Nat} {fs : List Nat} {b t : Nat} (h1 : Blk w b t #[.slice B fs.length c]) (h2 : Rd w No 1 B fs.length (fcells fs)) : Lists w (some ⟨b, 0, none⟩) [fs] := by
  refine ⟨[.slice B fs.length c], ?_, fun i xs hi => ?_⟩
  · exact rd_blk (css := [#[.slice B fs.length c]]) h1 (fun x hx => by simp at hx; subst hx; exact ⟨rfl, by simp [Value.oneCell']⟩) rfl (fun h => h)
  · rcases i with _ | i
    · simp at hi; subst hi; exact ⟨B, c, rfl, h2⟩
    · simp at hi
theorem lists_two {B B' : Option Addr} {c c' : Nat} {fs fs' : List Nat} {b t : Nat} (h1 : Blk w b t #[.slice B fs.length c, .slice B' fs'.length c']) (h2 : Rd w No 1 B fs.length (fcells fs)) (h3 : Rd w No 1 B' fs'.length (fcells fs')) : Lists w (some ⟨b, 0, none⟩) [fs, fs'] := by
  refine ⟨[.slice B fs.length c, .slice B' fs'.length c'], ?_, fun i xs hi => ?_⟩
  · exact rd_blk (css := [#[.slice B fs.length c], #[.slice B' fs'.length c']]) h1 (fun x hx => by simp at hx; rcases hx with rfl | rfl <;> exact ⟨rfl, by simp [Value.oneCell']⟩) rfl (fun h => h)
  · rcases i with _ | _ | i
    · simp at hi; subst hi; exact ⟨B, c, rfl, h2⟩
    · simp at hi; subst hi; exact ⟨B', c', rfl, h3⟩
    · simp at hi
theorem TX.setv {v v' : Value} {x : Nat → Wr} {mp : Nat → Nat} (h : TX w g v x mp) : TX (w.setCell ⟨g, 0, none⟩ v') g v' x mp := by
  have hb := h.blk.set_ 0 v'
  have hk : ∀ b, b ≠ g → (w.setCell ⟨g, 0, none⟩ v').heap[b]? = w.heap[b]? := fun b hb => Below.heap_setCell _ _ _ _ hb
  exact ⟨hb, fun k hk' => (h.om k hk').keepB (hk _ (h.notMap (by omega))), fun k hk' => (h.em k hk').keepB (hk _ (h.notMap (by omega))), h.rise⟩
theorem append_zero (h : appendE l e = 0) : Right e ∧ l.length < 4096 := by
  unfold appendE at h
  by_cases h1 : Right e
  · rw [if_pos h1] at h
    by_cases h2 : 4096 ≤ l.length
    · rw [if_pos h2] at h; omega
    · exact ⟨h1, by omega⟩
  · rw [if_neg h1] at h; omega
/-- What is known behind Append. -/
def AppP (w : World) (S : Nat → Prop) (g : Nat) (l : List Ent) (e : Ent) (r : Ending) (w' : World) : Prop :=
  r = .returned (.int .i64 (appendE l e)) ∧ Tb w' (More S w w') g (if appendE l e = 0 then l ++ [e] else l) ∧ Turn S w w'
theorem Blk.grown_o {t : TypeId} {b : Nat} {cs : Array Value} {row : Option Nat} (h : Blk w b t cs) (hg : w.grownBy w' row) (hne : ∀ r, row = some r → b ≠ r) : Blk w' b t cs := (hg.block b h.lt (fun e => hne b e.symm rfl)).trans h
theorem app_done {A : Option Addr} {c : Nat} {mp : Nat → Nat} {w7 w8 w9 : World} {v9 : Value} {o : Obj} (h1 : TX w g (.slice A l.length c) (fun i => wr (i : Int) l) mp) (h2 : OwnK w 45 6 (.slice A l.length c) (cellsOf l)) (h4 : ∀ b, own g mp b → (Value.slice A l.length c).ownBlock ≠ some b)
    (h3 : (∀ b, (own g mp b ∨ (Value.slice A l.length c).ownBlock = some b) → S b) ∧ AllR l ∧ l.length ≤ 4096) (hz : appendE l e = 0) (hr : Right e ∧ l.length < 4096) (hb : Below w.heap.size w w7) (ht : Turn (own g mp) w7 w8)
    (hX8 : TX w8 g (.slice A l.length c) (fun i => wr (i : Int) (l ++ [e])) mp) (hO8 : OwnK w8 45 6 (.slice A l.length c) (cellsOf l)) (hX9 : TX w9 g (.slice A l.length c) (fun i => wr (i : Int) (l ++ [e])) mp) (ho9 : OwnK w9 45 6 v9 (cellsOf l ++ [e.cells])) (hg9 : Grew (.slice A l.length c) (w8.alloc o) v9 w9) :
    AppP w S g l e (.returned (.int .i64 0)) (w9.setCell ⟨g, 0, none⟩ v9) := by
  have hsz : w.heap.size ≤ w8.heap.size := Nat.le_trans hb.size ht.size
  have hT9 : Turn S w (w9.setCell ⟨g, 0, none⟩ v9) := by
    have a1 : Turn S w w7 := Turn.of_below hb S
    have a2 : Turn S w w8 := a1.trans ht (fun b _ h => h3.1 b (.inl h))
    have a3 : Turn S w w9 := (a2.alloc o).trans (hg9.turn (S := S) (fun b eb => h3.1 b (.inr eb))) (fun b _ h => h)
    exact a3.setCell (fun _ => h3.1 g (.inl (.inl rfl))) v9
  have hgl := hX8.blk.lt
  have hnew : ∀ b, v9.ownBlock = some b → (Value.slice A l.length c).ownBlock = some b ∨ w8.heap.size < b := fun b eb => by
    rcases hg9.2 b eb with h | h
    · exact .inl h
    · right; simp at h; omega
  have hne : ∀ b, own g mp b → v9.ownBlock ≠ some b := fun b hb eb => by
    rcases hnew b eb with h | h
    · exact h4 b hb h
    · have := hX8.lt hb; omega
  have ho : OwnK (w9.setCell ⟨g, 0, none⟩ v9) 45 6 v9 (cellsOf l ++ [e.cells]) := ho9.keepB fun b eb => Below.heap_setCell w9 _ _ b (fun q => hne b (.inl q) eb)
  refine ⟨by rw [hz], ?_, hT9⟩
  rw [if_pos hz]
  refine ⟨⟨v9, mp, hX9.setv, by unfold cellsOf at ho ⊢; rw [List.map_append]; exact ho, hne, fun b hb => ?_⟩, h3.2.1.snoc hr.1, by simp; omega⟩
  rcases hb with hb | hb
  · exact .inl (h3.1 b (.inl hb))
  · rcases hnew b hb with h | h
    · exact .inl (h3.1 b (.inr h))
    · exact .inr ⟨by omega, by have := ho9.lt hb; simpa [World.setCell] using this⟩
set_option maxRecDepth 100000 in
set_option maxHeartbeats 4000000 in
theorem append_any (h : Tb w S g l) (e : Ent) : Calls Tryd.prog 63 #[.pointer (some ⟨g, 0, none⟩), e.val] w (AppP w S g l e) := by
  have HTB := Lib.hid h
  obtain ⟨⟨v, mp, h1, h2, h4, h3⟩, hr, hl⟩ := h
  obtain ⟨A, q, c, rfl, hq, hc, hm⟩ := h2.form
  have hq' : q = l.length := by rw [hq]; simp [cellsOf]
  subst hq'
  have HTX := Lib.hid h1
  have HOWN := Lib.hid h2
  have HNE := Lib.hid h4
  have HSS := Lib.hid (And.intro h3 (And.intro hr hl))
  have HB := Lib.hid ((Below.refl w.heap.size w).alloc (Nat.le_refl _) (.cells e.cells 45))
  have HBX : Hid (Blk (w.alloc (.cells e.cells 45)) w.heap.size 45 e.cells) := Lib.hid (Blk.new w 45 _)
  clear h1 h2 h4 h3 hr hl hq hc hm
  unfold Ent.val
  unfold Ent.cells at HB HBX ⊢
  go_enter Tryd.func63, Tryd.ntmps63
  go_wp2_with fail
  generalize hw1 : w.alloc (.cells #[.int .i64 e.epoch, .int .i64 e.id, .int .i64 e.num, .int .i64 e.seq, .int .i64 e.kind, .int .i64 e.value] 45) = W1 at *
  generalize hbx : w.heap.size = bx at *
  have HBW : Hid (bx = w.heap.size) := Lib.hid hbx.symm
  clear hw1 hbx
  refine wp_region_np ?_
  refine wp_region_held_drew (S := fun W => Blk W bx 45 #[.int .i64 e.epoch, .int .i64 e.id, .int .i64 e.num, .int .i64 e.seq, .int .i64 e.kind, .int .i64 e.value]) (by kernel_rfl) HBX.out.drew (fun hHeld => ?_)
  refine wpAnyH_takeAt (i := 0) (d := 6) (v := ?vq0x) rfl rfl (by kernel_rfl) (by kernel_rfl) (by kernel_rfl) (fun _ _ _ h => h) (Or.inl ⟨by rfl, ?hyq0x⟩) hHeld ?_
  case hyq0x =>
    intro W hSw
    clear hSw
    (go_simp; try with_reducible rfl)
  simp only [List.setIfInBounds_toArray, List.set_cons_zero, List.set_cons_succ]
  refine wpAnyH_takeAt (i := 1) (d := 7) (v := ?vq1x) rfl rfl (by kernel_rfl) (by kernel_rfl) (by kernel_rfl) (fun _ _ _ h => h) (Or.inl ⟨by rfl, ?hyq1x⟩) hHeld ?_
  case hyq1x =>
    intro W hSw
    obtain ⟨b0, b1, b2, b3, b4, b5⟩ := Blk.six' (show Blk W bx 45 #[.int .i64 e.epoch, .int .i64 e.id, .int .i64 e.num, .int .i64 e.seq, .int .i64 e.kind, .int .i64 e.value] from hSw); clear hSw
    (go_simp; try with_reducible rfl)
  simp only [List.setIfInBounds_toArray, List.set_cons_zero, List.set_cons_succ]
  refine wpAnyH_ready (rs := [2]) (by kernel_rfl) (by simp) (AllReadyH.cons rfl (fun K hK => ?_) AllReadyH.nil)
  go_simp
  refine byLog_any.mono ?_
  rintro r w5 ⟨A5, c5, rfl, hR5, hb5⟩
  dsimp only
  have hc5 : Below W1.heap.size W1 w5 := ((Below.refl _ _).drew).trans hb5
  refine hK.out _ _ (show Blk w5 bx 45 #[.int .i64 e.epoch, .int .i64 e.id, .int .i64 e.num, .int .i64 e.seq, .int .i64 e.kind, .int .i64 e.value] from HBX.out.below hc5 HBX.out.lt) (fun hHeld => ?_)
  clear hK K
  try simp only [List.setIfInBounds_toArray, List.set_cons_zero, List.set_cons_succ]
  refine wpAnyH_ready (rs := [3]) (by kernel_rfl) (by simp) (AllReadyH.cons rfl (fun K hK => ?_) AllReadyH.nil)
  go_simp
  have hL6 : Lists (w5.alloc (.cells #[.slice A5 4 c5] 112)) (some ⟨w5.heap.size, 0, none⟩) [[79, 80, 81, 82]] := lists_one (fs := [79, 80, 81, 82]) (Blk.new w5 112 _) (hR5.alloc _)
  have hc6 : Below W1.heap.size W1 (w5.alloc (.cells #[.slice A5 4 c5] 112)) := hc5.alloc hc5.size _
  refine hK.out _ _ (show Blk _ bx 45 #[.int .i64 e.epoch, .int .i64 e.id, .int .i64 e.num, .int .i64 e.seq, .int .i64 e.kind, .int .i64 e.value] from HBX.out.below hc6 HBX.out.lt) (fun hHeld => ?_)
  clear hK K
  generalize w5.alloc (.cells #[.slice A5 4 c5] 112) = w6 at *
  refine wpAnyH_ready (rs := [4]) (by kernel_rfl) (by simp) (AllReadyH.cons rfl (fun K hK => ?_) AllReadyH.nil)
  have hc06 : Below w.heap.size w w6 := HBW.out ▸ (HB.out.trans (hc6.mono (by have := HB.out.size; have := HBW.out; omega)))
  have hcall := refusal_any (c := 1) (p := .pointer (some ⟨g, 0, none⟩)) (e := e) hL6 (why l e) (fun pre f hpf _ => refuser_log (HTB.out.below hc06) (by have := hpf.subset (a := f) (by simp); simpa using this)) (by simp) (by simp)
  rw [show [[79, 80, 81, 82]].flatten = [79, 80, 81, 82] from rfl, why_log] at hcall
  unfold Ent.val Ent.cells at hcall
  go_simp
  refine hcall.mono ?_
  rintro r w7 ⟨rfl, hb7⟩
  dsimp only
  have hc7 : Below W1.heap.size W1 w7 := hc6.trans (hb7.mono hc6.size)
  refine hK.out _ _ (show Blk w7 bx 45 #[.int .i64 e.epoch, .int .i64 e.id, .int .i64 e.num, .int .i64 e.seq, .int .i64 e.kind, .int .i64 e.value] from HBX.out.below hc7 HBX.out.lt) (fun hHeld => ?_)
  clear hK K
  try simp only [List.setIfInBounds_toArray, List.set_cons_zero, List.set_cons_succ]
  refine wpAnyH_takeAt (i := 5) (d := 5) (v := ?vq2x) rfl rfl (by kernel_rfl) (by kernel_rfl) (by kernel_rfl) (fun _ _ _ h => h) (Or.inl ⟨by rfl, ?hyq2x⟩) hHeld ?_
  case hyq2x =>
    intro W hSw
    clear hSw
    (go_simp; try with_reducible rfl)
  simp only [List.setIfInBounds_toArray, List.set_cons_zero, List.set_cons_succ]
  refine wpAnyH_done (by kernel_rfl) ?_ _
  clear hHeld hcall hL6 hR5 hb5 hc5
  have HC07 : Hid (Below w.heap.size w w7) := Lib.hid (HBW.out ▸ (HB.out.trans (hc7.mono (by have := HB.out.size; have := HBW.out; omega))))
  have HBX7 := Lib.hid (HBX.out.below hc7 HBX.out.lt)
  clear hc6 hc7 hb7 hc06
  by_cases hz : appendE l e = 0
  case neg =>
    have hzb := nen hz
    have HF : Hid (AppP w S g l e (.returned (.int .i64 (appendE l e))) w7) := Lib.hid ⟨rfl, by rw [if_neg hz]; exact (HTB.out.below HC07.out).wide (fun b _ h => .inl h), Turn.of_below HC07.out S⟩
    generalize appendE l e = z at *
    clear hz
    go_wp2_with fail
    go_ret
    exact HF.out
  case pos =>
  rw [hz]
  have HZ := Lib.hid hz
  have HRR := Lib.hid (append_zero hz)
  have hlen := (append_zero hz).2
  have hX7 := HTX.out.keepB (fun b hb => HC07.out.block b (HTX.out.lt hb))
  have HX7 := Lib.hid hX7
  have hv0 := hX7.cellv.1
  obtain ⟨b0, b1, b2, b3, b4, b5⟩ := HBX7.out.six'
  clear hX7 hz
  go_wp2_with fail
  go_still_tail 7, (by kernel_rfl)
  change wpList _ _ _ _ _ w7.drew
  have hnote := note_any (w := w7.drew) HX7.out.drew (fun b hb => HX7.out.lt hb) HRR.out.1 (p := l.length) (lens5 (by omega))
  unfold Ent.val Ent.cells at hnote
  go_wp2_with fail
  refine hnote.mono ?_
  rintro r w8 ⟨rfl, hX8, hT8⟩
  have HT8 : Hid (Turn (own g mp) w7 w8) := Lib.hid (((Turn.refl _ w7).drew).trans hT8 (fun _ _ h => h))
  have HX8 : Hid (TX w8 g (.slice A l.length c) (fun i => wr (i : Int) (l ++ [e])) mp) := Lib.hid (hX8.congr fun i hi => noted_wr l HRR.out.1 hi)
  have HO8 : Hid (OwnK w8 45 6 (.slice A l.length c) (cellsOf l)) := Lib.hid ((HOWN.out.below HC07.out).keep HT8.out (fun b eb hb => HNE.out b hb eb))
  have HBX8 : Hid (Blk w8 bx 45 #[.int .i64 e.epoch, .int .i64 e.id, .int .i64 e.num, .int .i64 e.seq, .int .i64 e.kind, .int .i64 e.value]) := Lib.hid (HBX7.out.keep HT8.out (fun hb => by have := HTX.out.lt hb; have := HBW.out; omega))
  have HW8 := HC07
  have hv8 := HX8.out.cellv.1
  have hv8' : (w8.alloc (.cells #[.int .i64 e.epoch, .int .i64 e.id, .int .i64 e.num, .int .i64 e.seq, .int .i64 e.kind, .int .i64 e.value] 45)).drew.cell? ⟨g, 0, none⟩ = some (.slice A l.length c) := (World.cell?_alloc_lt w8 _ ⟨g, 0, none⟩ HX8.out.blk.lt).trans hv8
  have hgb : g < bx := by have := HTX.out.blk.lt; have := HBW.out; omega
  have HV : Hid (∀ b, Value.ownBlock (.slice A l.length c) = some b → b < bx ∧ ¬ own g mp b) := Lib.hid (fun b eb => ⟨by have := HOWN.out.lt eb; have := HBW.out; omega, fun hb => HNE.out b hb eb⟩)
  clear hX8 hT8 hnote hv0 b0 b1 b2 b3 b4 b5
  go_wp2_with fail
  refine wp_region_np ?_
  refine wp_region_held_drew (S := fun W => Blk W bx 45 #[.int .i64 e.epoch, .int .i64 e.id, .int .i64 e.num, .int .i64 e.seq, .int .i64 e.kind, .int .i64 e.value]) (by kernel_rfl) HBX8.out.drew (fun hHeld => ?_)
  refine wpAnyH_takeAt (i := 0) (d := 22) (v := ?vq3x) rfl rfl (by kernel_rfl) (by kernel_rfl) (by kernel_rfl) (fun _ _ _ h => h) (Or.inl ⟨by rfl, ?hyq3x⟩) hHeld ?_
  case hyq3x =>
    intro W hSw
    clear hSw
    (go_simp; try with_reducible rfl)
  simp only [List.setIfInBounds_toArray, List.set_cons_zero, List.set_cons_succ]
  refine wpAnyH_takeAt (i := 1) (d := 23) (v := ?vq4x) rfl rfl (by kernel_rfl) (by kernel_rfl) (by kernel_rfl) (fun _ _ _ h => h) (Or.inl ⟨by rfl, ?hyq4x⟩) hHeld ?_
  case hyq4x =>
    intro W hSw
    clear hSw
    (go_simp; try with_reducible rfl)
  simp only [List.setIfInBounds_toArray, List.set_cons_zero, List.set_cons_succ]
  refine wpAnyH_takeAt (i := 2) (d := 24) (v := ?vq5x) rfl rfl (by kernel_rfl) (by kernel_rfl) (by kernel_rfl) (fun _ _ _ h => h) (Or.inl ⟨by rfl, ?hyq5x⟩) hHeld ?_
  case hyq5x =>
    intro W hSw
    clear hSw
    (go_simp; try with_reducible rfl)
  simp only [List.setIfInBounds_toArray, List.set_cons_zero, List.set_cons_succ]
  refine wpAnyH_takeAt (i := 3) (d := 25) (v := ?vq6x) rfl rfl (by kernel_rfl) (by kernel_rfl) (by kernel_rfl) (fun _ _ _ h => h) (Or.inl ⟨by rfl, ?hyq6x⟩) hHeld ?_
  case hyq6x =>
    intro W hSw
    clear hSw
    (go_simp; try with_reducible rfl)
  simp only [List.setIfInBounds_toArray, List.set_cons_zero, List.set_cons_succ]
  refine wpAnyH_takeAt (i := 5) (d := 27) (v := ?vq7x) rfl rfl (by kernel_rfl) (by kernel_rfl) (by kernel_rfl) (fun _ _ _ h => h) (Or.inl ⟨by rfl, ?hyq7x⟩) hHeld ?_
  case hyq7x =>
    intro W hSw
    obtain ⟨b0, b1, b2, b3, b4, b5⟩ := Blk.six' (show Blk W bx 45 #[.int .i64 e.epoch, .int .i64 e.id, .int .i64 e.num, .int .i64 e.seq, .int .i64 e.kind, .int .i64 e.value] from hSw); clear hSw
    (go_simp; try with_reducible rfl)
  simp only [List.setIfInBounds_toArray, List.set_cons_zero, List.set_cons_succ]
  refine wpAnyH_ready (rs := [4, 6]) (by kernel_rfl) (by simp) (AllReadyH.cons rfl (fun K hK => ?_) (AllReadyH.cons rfl (fun K hK => ?_) AllReadyH.nil))
  · go_simp
    refine hK.out _ _ (show Blk _ bx 45 #[.int .i64 e.epoch, .int .i64 e.id, .int .i64 e.num, .int .i64 e.seq, .int .i64 e.kind, .int .i64 e.value] from hHeld) (fun hHeld => ?_)
    clear hK K
    refine wpAnyH_ready (rs := [6]) (by kernel_rfl) (by simp) (AllReadyH.cons rfl (fun K hK => ?_) AllReadyH.nil)
    go_simp
    refine hK.out _ _ (show Blk _ bx 45 #[.int .i64 e.epoch, .int .i64 e.id, .int .i64 e.num, .int .i64 e.seq, .int .i64 e.kind, .int .i64 e.value] from Blk.alloc hHeld _) (fun hHeld => ?_)
    clear hK K
    refine wpAnyH_ready (rs := [7]) (by kernel_rfl) (by simp) (AllReadyH.cons rfl (fun K hK => ?_) AllReadyH.nil)
    refine step_append_k el66 (by rfl) (by rfl) _ _ (by rfl) (.slice A l.length c) (cellsOf l) (by rfl) (OwnK.alloc HO8.out _) No _ 1 _ [e.cells] (by rfl) (rd_one _ 45 e.cells rfl (by simp [Ent.cells, Value.oneCell']) (fun h => h)) (by simp [cellsOf]; omega) (by omega) ?_
    intro v9 w9 ho9 hg9
    obtain ⟨A9, q9, c9, rfl, -, -, -⟩ := ho9.form
    refine hK.out _ _ (show Blk w9 bx 45 #[.int .i64 e.epoch, .int .i64 e.id, .int .i64 e.num, .int .i64 e.seq, .int .i64 e.kind, .int .i64 e.value] from Blk.grown_o hHeld hg9.1 (fun b eb => by have := HV.out b eb; omega)) (fun hHeld => ?_)
    clear hK K
    try simp only [List.setIfInBounds_toArray, List.set_cons_zero, List.set_cons_succ]
    refine wpAnyH_takeAt (i := 8) (d := 30) (v := ?vq8x) rfl rfl (by kernel_rfl) (by kernel_rfl) (by kernel_rfl) (fun _ _ _ h => h) (Or.inl ⟨by rfl, ?hyq8x⟩) hHeld ?_
    case hyq8x =>
      intro W hSw
      clear hSw
      (go_simp; try with_reducible rfl)
    simp only [List.setIfInBounds_toArray, List.set_cons_zero, List.set_cons_succ]
    refine wpAnyH_takeAt (i := 9) (d := 31) (v := ?vq9x) rfl rfl (by kernel_rfl) (by kernel_rfl) (by kernel_rfl) (fun _ _ _ h => h) (Or.inl ⟨by rfl, ?hyq9x⟩) hHeld ?_
    case hyq9x =>
      intro W hSw
      clear hSw
      (go_simp; try with_reducible rfl)
    simp only [List.setIfInBounds_toArray, List.set_cons_zero, List.set_cons_succ]
    refine wpAnyH_ready (rs := [10]) (by kernel_rfl) (by simp) (AllReadyH.cons rfl (fun K hK => ?_) AllReadyH.nil)
    have hX9 : TX w9 g (.slice A l.length c) (fun i => wr (i : Int) (l ++ [e])) mp := TX.keepB (w := w8) HX8.out fun b hb => (hg9.1.block b (by have := HX8.out.lt hb; simp; omega) (fun eb => (HV.out b eb.symm).2 hb)).trans (Below.heap_alloc _ _ b (HX8.out.lt hb))
    have t0 := hX9.cellv.1
    have z0 := hX9.blk.frozen 0
    go_simp
    refine hK.out _ _ (show Blk _ bx 45 #[.int .i64 e.epoch, .int .i64 e.id, .int .i64 e.num, .int .i64 e.seq, .int .i64 e.kind, .int .i64 e.value] from Blk.far hHeld (p := ⟨g, 0, none⟩) (by show bx ≠ g; omega) _) (fun hHeld => ?_)
    clear hK K
    refine wpAnyH_done (by kernel_rfl) ?_ _
    have HF : Hid (AppP w S g l e (.returned (.int .i64 0)) (w9.setCell ⟨g, 0, none⟩ (.slice A9 q9 c9))) := Lib.hid (app_done HTX.out HOWN.out HNE.out HSS.out HZ.out HRR.out HW8.out HT8.out HX8.out HO8.out hX9 ho9 (Grew.of_drew hg9))
    clear hX9 ho9 hg9 t0 z0
    go_wp2_with fail
    go_ret
    exact HF.out
  · go_simp
    refine hK.out _ _ (show Blk _ bx 45 #[.int .i64 e.epoch, .int .i64 e.id, .int .i64 e.num, .int .i64 e.seq, .int .i64 e.kind, .int .i64 e.value] from Blk.alloc hHeld _) (fun hHeld => ?_)
    clear hK K
    refine wpAnyH_ready (rs := [4]) (by kernel_rfl) (by simp) (AllReadyH.cons rfl (fun K hK => ?_) AllReadyH.nil)
    go_simp
    refine hK.out _ _ (show Blk _ bx 45 #[.int .i64 e.epoch, .int .i64 e.id, .int .i64 e.num, .int .i64 e.seq, .int .i64 e.kind, .int .i64 e.value] from hHeld) (fun hHeld => ?_)
    clear hK K
    refine wpAnyH_ready (rs := [7]) (by kernel_rfl) (by simp) (AllReadyH.cons rfl (fun K hK => ?_) AllReadyH.nil)
    refine step_append_k el66 (by rfl) (by rfl) _ _ (by rfl) (.slice A l.length c) (cellsOf l) (by rfl) (OwnK.alloc HO8.out _) No _ 1 _ [e.cells] (by rfl) (rd_one _ 45 e.cells rfl (by simp [Ent.cells, Value.oneCell']) (fun h => h)) (by simp [cellsOf]; omega) (by omega) ?_
    intro v9 w9 ho9 hg9
    obtain ⟨A9, q9, c9, rfl, -, -, -⟩ := ho9.form
    refine hK.out _ _ (show Blk w9 bx 45 #[.int .i64 e.epoch, .int .i64 e.id, .int .i64 e.num, .int .i64 e.seq, .int .i64 e.kind, .int .i64 e.value] from Blk.grown_o hHeld hg9.1 (fun b eb => by have := HV.out b eb; omega)) (fun hHeld => ?_)
    clear hK K
    try simp only [List.setIfInBounds_toArray, List.set_cons_zero, List.set_cons_succ]
    refine wpAnyH_takeAt (i := 8) (d := 30) (v := ?vq10x) rfl rfl (by kernel_rfl) (by kernel_rfl) (by kernel_rfl) (fun _ _ _ h => h) (Or.inl ⟨by rfl, ?hyq10x⟩) hHeld ?_
    case hyq10x =>
      intro W hSw
      clear hSw
      (go_simp; try with_reducible rfl)
    simp only [List.setIfInBounds_toArray, List.set_cons_zero, List.set_cons_succ]
    refine wpAnyH_takeAt (i := 9) (d := 31) (v := ?vq11x) rfl rfl (by kernel_rfl) (by kernel_rfl) (by kernel_rfl) (fun _ _ _ h => h) (Or.inl ⟨by rfl, ?hyq11x⟩) hHeld ?_
    case hyq11x =>
      intro W hSw
      clear hSw
      (go_simp; try with_reducible rfl)
    simp only [List.setIfInBounds_toArray, List.set_cons_zero, List.set_cons_succ]
    refine wpAnyH_ready (rs := [10]) (by kernel_rfl) (by simp) (AllReadyH.cons rfl (fun K hK => ?_) AllReadyH.nil)
    have hX9 : TX w9 g (.slice A l.length c) (fun i => wr (i : Int) (l ++ [e])) mp := TX.keepB (w := w8) HX8.out fun b hb => (hg9.1.block b (by have := HX8.out.lt hb; simp; omega) (fun eb => (HV.out b eb.symm).2 hb)).trans (Below.heap_alloc _ _ b (HX8.out.lt hb))
    have t0 := hX9.cellv.1
    have z0 := hX9.blk.frozen 0
    go_simp
    refine hK.out _ _ (show Blk _ bx 45 #[.int .i64 e.epoch, .int .i64 e.id, .int .i64 e.num, .int .i64 e.seq, .int .i64 e.kind, .int .i64 e.value] from Blk.far hHeld (p := ⟨g, 0, none⟩) (by show bx ≠ g; omega) _) (fun hHeld => ?_)
    clear hK K
    refine wpAnyH_done (by kernel_rfl) ?_ _
    have HF : Hid (AppP w S g l e (.returned (.int .i64 0)) (w9.setCell ⟨g, 0, none⟩ (.slice A9 q9 c9))) := Lib.hid (app_done HTX.out HOWN.out HNE.out HSS.out HZ.out HRR.out HW8.out HT8.out HX8.out HO8.out hX9 ho9 (Grew.of_drew hg9))
    clear hX9 ho9 hg9 t0 z0
    go_wp2_with fail
    go_ret
    exact HF.out
end
end Go.Proofs.YthcphoijanebhaaDoor
