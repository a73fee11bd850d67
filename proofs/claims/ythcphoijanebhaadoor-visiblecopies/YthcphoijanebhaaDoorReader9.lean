/-
  Joined: RPush9, RTo9, Is9, Wipe9, Rs9. Conditions: as each says.
-/
import Derived.Test.YthcphoijanebhaaDoorDoc9
import Derived.Test.YthcphoijanebhaaDoorDocs9
import Derived.Test.YthcphoijanebhaaDoorTof9
import Derived.Test.YthcphoijanebhaaDoorWhole9
import Derived.Test.YthcphoijanebhaaDoorAmong9
import Derived.Test.YthcphoijanebhaaDoorApp9
import Derived.Deep.MidRow
namespace Go.Proofs.YthcphoijanebhaaDoor
open Go.RowKit Go.Maps
set_option linter.unusedVariables false
theorem und40 : Tryd.prog.underlying 40 = some (.struct (Tryd.prog.fieldsOf 40)) := by kernel_rfl
/-- The log behind an entry, by the document. -/
def rpush1 (l : List Ent) (e : Ent) : List Ent := if rpushE l e = 0 then l ++ [e] else l
section
variable {w : World} {X : Nat → Prop} {A B : Option Addr} {n c m d : Nat} {l : List Ent}
def zero40 : Array Value := #[.slice none 0 0, .int .i64 0, .slice none 0 0]
set_option maxRecDepth 100000 in
set_option maxHeartbeats 4000000 in
theorem refPush_any (h : Rd w X 6 A n (cellsOf l)) (hn : n ≤ 1000000) (hnc : n ≤ c) (hX : ∀ x, X x → x < w.heap.size) (k : Int) (e : Ent) :
    Calls Tryd.prog 22 #[.agg #[.slice A n c, .int .i64 k, .slice B m d], e.val] w fun r w' => ∃ A' n' c', r = .returned (.tuple #[.agg #[.slice A' n' c', .int .i64 k, .slice B m d], .int .i64 (rpushE l e)]) ∧ Rd w' X 6 A' n' (cellsOf (rpush1 l e)) ∧ n' ≤ c' ∧ n' ≤ n + 1 ∧ Below w.heap.size w w' := by
  have hsz : ∀ (w : World) (a b c : Obj), (((w.alloc a).alloc b).alloc c).heap.size = w.heap.size + 3 := fun w a b c => by simp
  have hal := (((Below.refl w.heap.size w).alloc (Nat.le_refl _) (.cells #[.slice A n c, .int .i64 k, .slice B m d] 40)).alloc (by simp) (.cells e.cells 45)).alloc (by simp; omega) (.cells #[.slice none 0 0, .int .i64 0, .slice none 0 0] 40)
  have hR0 : Blk (((w.alloc (.cells #[.slice A n c, .int .i64 k, .slice B m d] 40)).alloc (.cells e.cells 45)).alloc (.cells #[.slice none 0 0, .int .i64 0, .slice none 0 0] 40)) w.heap.size 40 #[.slice A n c, .int .i64 k, .slice B m d] := ((Blk.new w 40 _).alloc _).alloc _
  have hE0 : Blk (((w.alloc (.cells #[.slice A n c, .int .i64 k, .slice B m d] 40)).alloc (.cells e.cells 45)).alloc (.cells #[.slice none 0 0, .int .i64 0, .slice none 0 0] 40)) (w.heap.size + 1) 45 e.cells := by
    have := (Blk.new (w.alloc (.cells #[.slice A n c, .int .i64 k, .slice B m d] 40)) 45 e.cells).alloc (.cells #[.slice none 0 0, .int .i64 0, .slice none 0 0] 40)
    rwa [show (w.alloc (.cells #[.slice A n c, .int .i64 k, .slice B m d] 40)).heap.size = w.heap.size + 1 by simp] at this
  have hZ0 : Blk (((w.alloc (.cells #[.slice A n c, .int .i64 k, .slice B m d] 40)).alloc (.cells e.cells 45)).alloc (.cells #[.slice none 0 0, .int .i64 0, .slice none 0 0] 40)) (w.heap.size + 1 + 1) 40 zero40 := by
    have := Blk.new ((w.alloc (.cells #[.slice A n c, .int .i64 k, .slice B m d] 40)).alloc (.cells e.cells 45)) 40 zero40
    rwa [show ((w.alloc (.cells #[.slice A n c, .int .i64 k, .slice B m d] 40)).alloc (.cells e.cells 45)).heap.size = w.heap.size + 1 + 1 by simp] at this
  have HB0 := Lib.hid hal
  have HR0 := Lib.hid hR0
  have HE0 := Lib.hid hE0
  have HZ0 := Lib.hid hZ0
  have HH := Lib.hid (h.below hal)
  have HX := Lib.hid hX
  have HW0 := Lib.hid h
  clear hal hR0 hE0 hZ0 hsz h hX
  unfold Ent.val
  unfold Ent.cells at HB0 HR0 HE0 HZ0 HH ⊢
  go_enter Tryd.func22, Tryd.ntmps22
  go_upto_region 1 with fail
  generalize hw3 : ((w.alloc (.cells #[.slice A n c, .int .i64 k, .slice B m d] 40)).alloc (.cells #[.int .i64 e.epoch, .int .i64 e.id, .int .i64 e.num, .int .i64 e.seq, .int .i64 e.kind, .int .i64 e.value] 45)).alloc (.cells #[.slice none 0 0, .int .i64 0, .slice none 0 0] 40) = w3 at *
  clear hw3
  have r0 := HR0.out.cell 0
  obtain ⟨s0, s1, s2, s3, s4, s5⟩ := HE0.out.six9
  have HS3 : Hid (w.heap.size + 2 < w3.heap.size) := Lib.hid HZ0.out.lt
  by_cases hz : appendE l e = 0
  case neg =>
    have hap := refAppend_err (c := c) HH.out hn hz
    have HNZ := Lib.hid hz
    have HZE : Hid (rpushE l e = appendE l e) := Lib.hid (if_neg hz)
    unfold Ent.val Ent.cells at hap
    have hz1 := nen hz
    clear hz
    go_wp2_with fail
    refine hap.mono ?_
    rintro r w4 ⟨hb4, hq⟩
    obtain rfl : r = .returned (.tuple #[.slice A n c, .int .i64 (appendE l e)]) := by
      rcases hq with ⟨-, h⟩ | ⟨h, -⟩
      · exact h
      · exact absurd h HNZ.out
    have HB4 := Lib.hid (HB0.out.trans (hb4.mono (by have := HS3.out; omega)))
    have HR4 := Lib.hid (HR0.out.below hb4 HR0.out.lt)
    have HZ4 := Lib.hid (HZ0.out.below hb4 HZ0.out.lt)
    clear hap hb4 hq r0 s0 s1 s2 s3 s4 s5
    generalize appendE l e = er at *
    go_wp2_with (with_reducible refine at_load 40 rfl ?_)
    refine Stop.go (wpList_load_blk (by rfl) 40 _ (by rfl) w.heap.size (by rfl) 40 _ HR4.out _ und40 (by rfl) (by kernel_rfl) ?_)
    go_wp2_with (with_reducible refine at_store 40 rfl ?_)
    refine Stop.go (wpList_store_blk (by rfl) (by rfl) 40 _ _ (by rfl) (w.heap.size + 1 + 1) _ #[.slice A n c, .int .i64 k, .slice B m d] (by rfl) (by rfl) 40 HZ4.out (by rfl) (by kernel_rfl) (by simp [Value.oneCell']) ?_)
    intro w7 hB7 hg7 hs7
    have hT7 : Turn (fun x => x = w.heap.size + 1 + 1) w4 w7 := Turn.of_grown hg7 (fun r e => by injection e with e; exact e.symm)
    have HF7 : Hid (Below w.heap.size w w7 ∧ Blk w7 (w.heap.size + 1 + 1) 40 #[.slice A n c, .int .i64 k, .slice B m d]) := Lib.hid ⟨HB4.out.trans (hT7.below HB4.out.size (fun x e => by omega)), hB7⟩
    clear hB7 hg7 hs7 hT7
    go_wp2_with fail
    refine bodyPost_ret (v := .tuple #[.agg #[.slice A n c, .int .i64 k, .slice B m d], .int .i64 er]) (results_ct (by rfl) _ _ (w.heap.size + 1 + 1) 40 _ (0, 0) _ (by rfl) HF7.out.2 und40 (by rfl) (by kernel_rfl) (by rfl)) rfl ?_
    exact ⟨A, n, c, by rw [HZE.out], by
      have h1 : rpush1 l e = l := by unfold rpush1; rw [HZE.out, if_neg HNZ.out]
      rw [h1]
      exact HW0.out.below HF7.out.1, hnc, by omega, HF7.out.1⟩
  case pos =>
  have hap := refAppend_ok (c := c) HH.out hz
  have HNZ := Lib.hid hz
  unfold Ent.val Ent.cells at hap
  have h00 : ((0 : Int) != 0) = false := by simp
  clear hz
  go_wp2_with fail
  refine hap.mono ?_
  rintro r w4 ⟨hb4, hq⟩
  obtain ⟨A4, c4, rfl, hO4, hv4⟩ : ∃ A' c', r = .returned (.tuple #[.slice A' (n + 1) c', .int .i64 0]) ∧ OwnK w4 45 6 (.slice A' (n + 1) c') (cellsOf (l ++ [e])) ∧ ∀ b, Value.ownBlock (.slice A' (n + 1) c') = some b → w3.heap.size ≤ b := by
    rcases hq with ⟨h, -⟩ | ⟨-, h⟩
    · exact absurd HNZ.out h
    · exact h
  have HB4 := Lib.hid (HB0.out.trans (hb4.mono (by have := HS3.out; omega)))
  have HR4 := Lib.hid (HR0.out.below hb4 HR0.out.lt)
  have HE4 := Lib.hid (HE0.out.below hb4 HE0.out.lt)
  have HZ4 := Lib.hid (HZ0.out.below hb4 HZ0.out.lt)
  have HH4 := Lib.hid (HH.out.below hb4)
  have HO4 := Lib.hid (And.intro hO4 hv4)
  clear hap hb4 hq r0 s0 s1 s2 s3 s4 s5 hO4 hv4
  have hbe := behind_any (c := c) HH4.out hn e
  unfold Ent.val Ent.cells at hbe
  have r0 := HR4.out.cell 0
  obtain ⟨s0, s1, s2, s3, s4, s5⟩ := HE4.out.six9
  have hsz4 : w.heap.size + 2 < w4.heap.size := HZ4.out.lt
  go_wp2_with fail
  refine hbe.mono ?_
  rintro r w5 ⟨rfl, hb5⟩
  have HB5 := Lib.hid (HB4.out.trans (hb5.mono HB4.out.size))
  have HR5 := Lib.hid (HR4.out.below hb5 HR4.out.lt)
  have HZ5 := Lib.hid (HZ4.out.below hb5 HZ4.out.lt)
  have HO5 := Lib.hid (And.intro (HO4.out.1.below hb5) HO4.out.2)
  clear hbe hb5 r0 s0 s1 s2 s3 s4 s5 hsz4
  cases hbh : behE l e with
  | true =>
    have HZE : Hid (rpushE l e = 190) := Lib.hid (by unfold rpushE; rw [if_pos HNZ.out, if_pos hbh])
    clear hbh
    go_wp2_with (with_reducible refine at_load 40 rfl ?_)
    refine Stop.go (wpList_load_blk (by rfl) 40 _ (by rfl) w.heap.size (by rfl) 40 _ HR5.out _ und40 (by rfl) (by kernel_rfl) ?_)
    go_wp2_with (with_reducible refine at_store 40 rfl ?_)
    refine Stop.go (wpList_store_blk (by rfl) (by rfl) 40 _ _ (by rfl) (w.heap.size + 1 + 1) _ #[.slice A n c, .int .i64 k, .slice B m d] (by rfl) (by rfl) 40 HZ5.out (by rfl) (by kernel_rfl) (by simp [Value.oneCell']) ?_)
    intro w7 hB7 hg7 hs7
    have hT7 : Turn (fun x => x = w.heap.size + 1 + 1) w5 w7 := Turn.of_grown hg7 (fun r e => by injection e with e; exact e.symm)
    have HF7 : Hid (Below w.heap.size w w7 ∧ Blk w7 (w.heap.size + 1 + 1) 40 #[.slice A n c, .int .i64 k, .slice B m d]) := Lib.hid ⟨HB5.out.trans (hT7.below HB5.out.size (fun x e => by omega)), hB7⟩
    clear hB7 hg7 hs7 hT7
    go_wp2_with fail
    refine bodyPost_ret (v := .tuple #[.agg #[.slice A n c, .int .i64 k, .slice B m d], .int .i64 190]) (results_ct (by rfl) _ _ (w.heap.size + 1 + 1) 40 _ (0, 0) _ (by rfl) HF7.out.2 und40 (by rfl) (by kernel_rfl) (by rfl)) rfl ?_
    exact ⟨A, n, c, by rw [HZE.out], by
      have h1 : rpush1 l e = l := by unfold rpush1; rw [HZE.out, if_neg (by decide)]
      rw [h1]
      exact HW0.out.below HF7.out.1, hnc, by omega, HF7.out.1⟩
  | false =>
    have HZE : Hid (rpushE l e = 0) := Lib.hid (by unfold rpushE; rw [if_pos HNZ.out, if_neg (by rw [hbh]; decide)])
    clear hbh
    have r0 := HR5.out.cell 0
    have f0 := HR5.out.frozen 0
    go_upto_region 7 with fail
    have hT6 : Turn (fun x => x = w.heap.size) w5 (w5.setCell ⟨w.heap.size, 0, none⟩ (.slice A4 (n + 1) c4)) := (Turn.refl (fun x => x = w.heap.size) w5).setCell (p := ⟨w.heap.size, 0, none⟩) (fun _ => rfl) _
    have HR6 : Hid (Blk (w5.setCell ⟨w.heap.size, 0, none⟩ (.slice A4 (n + 1) c4)) w.heap.size 40 #[.slice A4 (n + 1) c4, .int .i64 k, .slice B m d]) := Lib.hid (HR5.out.set_ 0 _)
    have HB6 := Lib.hid (HB5.out.trans (hT6.below HB5.out.size (fun x e => by omega)))
    have HZ6 := Lib.hid (HZ5.out.keep hT6 (by omega))
    have HO6 := Lib.hid (And.intro (HO5.out.1.keep hT6 (fun b hb e => by have := HO5.out.2 b hb; have := HS3.out; omega)) HO5.out.2)
    clear hT6 r0 f0
    generalize w5.setCell ⟨w.heap.size, 0, none⟩ (.slice A4 (n + 1) c4) = w6 at *
    go_wp2_with (with_reducible refine at_load 40 rfl ?_)
    refine Stop.go (wpList_load_blk (by rfl) 40 _ (by rfl) w.heap.size (by rfl) 40 _ HR6.out _ und40 (by rfl) (by kernel_rfl) ?_)
    go_wp2_with (with_reducible refine at_store 40 rfl ?_)
    refine Stop.go (wpList_store_blk (by rfl) (by rfl) 40 _ _ (by rfl) (w.heap.size + 1 + 1) _ #[.slice A4 (n + 1) c4, .int .i64 k, .slice B m d] (by rfl) (by rfl) 40 HZ6.out (by rfl) (by kernel_rfl) (by simp [Value.oneCell']) ?_)
    intro w7 hB7 hg7 hs7
    have hT7 : Turn (fun x => x = w.heap.size + 1 + 1) w6 w7 := Turn.of_grown hg7 (fun r e => by injection e with e; exact e.symm)
    have HF7 : Hid (Below w.heap.size w w7 ∧ Blk w7 (w.heap.size + 1 + 1) 40 #[.slice A4 (n + 1) c4, .int .i64 k, .slice B m d]) := Lib.hid ⟨HB6.out.trans (hT7.below HB6.out.size (fun x e => by omega)), hB7⟩
    have HO7 := Lib.hid (And.intro (HO6.out.1.keep hT7 (fun b hb e => by have := HO6.out.2 b hb; have := HS3.out; omega)) HO6.out.2)
    clear hB7 hg7 hs7 hT7
    go_wp2_with fail
    refine bodyPost_ret (v := .tuple #[.agg #[.slice A4 (n + 1) c4, .int .i64 k, .slice B m d], .int .i64 0]) (results_ct (by rfl) _ _ (w.heap.size + 1 + 1) 40 _ (0, 0) _ (by rfl) HF7.out.2 und40 (by rfl) (by kernel_rfl) (by rfl)) rfl ?_
    exact ⟨A4, n + 1, c4, by rw [HZE.out], by
      have h1 : rpush1 l e = l ++ [e] := by unfold rpush1; rw [if_pos HZE.out]
      rw [h1]
      exact HO7.out.1.rd (fun g hg hx => by have := HO7.out.2 g hg; have := HX.out g hx; have := HS3.out; omega), by
      obtain ⟨A', q', c', e', -, h', -⟩ := HO7.out.1.form
      injection e' with e1 e2 e3
      omega, Nat.le_refl _, HF7.out.1⟩
end
end Go.Proofs.YthcphoijanebhaaDoor
namespace Go.Proofs.YthcphoijanebhaaDoor
open Go.RowKit Go.Maps
set_option linter.unusedVariables false
theorem results_ctt {P : Program} {fn : Func} {p u s : Tmp} {ty : TypeId} (h : fn.results = #[.cell p ty, .tmp u, .tmp s]) (tmps : Array Value) (w : World) (g : Nat) (t : TypeId) (cs : Array Value) (fr : Nat × Nat) (d : TypeDesc)
    (hp : tmps.getD p undef = .pointer (some ⟨g, 0, none⟩)) (hg : w.heap[g]? = some (.cells cs t fr))
    (hu : P.underlying ty = some d) (hd : (match d with | .struct _ | .array _ _ => true | _ => false) = true) (hi : (P.info? ty).map (·.size) = some cs.size) {x y : Value} (hx : tmps.getD u undef = x) (hy : tmps.getD s undef = y) :
    (results fn tmps).run P w = .ok (.tuple #[.agg cs, x, y]) w := by
  subst hx
  subst hy
  have hp' : tmps[p]?.getD undef = .pointer (some ⟨g, 0, none⟩) := by simpa using hp
  simp [results, h, hp', asAddr, run_loadVar_row w g t ty cs fr d hg hu hd hi]
/-- What is visible and was not told. -/
def fresh (V L : List Nat) : List Nat := L.filter (fun x => !V.contains x)
theorem fresh_take {V L : List Nat} {i x : Nat} (h : L[i]? = some x) : fresh V (L.take (i + 1)) = if V.contains x = true then fresh V (L.take i) else fresh V (L.take i) ++ [x] := by
  unfold fresh
  rw [List.take_add_one, h, List.filter_append]
  cases hc : V.contains x with
  | true =>
    have h1 : ([x] : List Nat).filter (fun x => !V.contains x) = [] := by rw [List.filter_eq_nil_iff]; intro y hy; rw [List.mem_singleton] at hy; subst hy; rw [hc]; decide
    simp only [Option.toList_some, h1, List.append_nil, if_pos]
  | false =>
    have h1 : ([x] : List Nat).filter (fun x => !V.contains x) = [x] := by rw [List.filter_eq_self]; intro y hy; rw [List.mem_singleton] at hy; subst hy; rw [hc]; rfl
    simp only [Option.toList_some, h1]
    rfl
theorem fresh_len (V L : List Nat) : (fresh V L).length ≤ L.length := List.length_filter_le _ _
section
variable {w : World} {X : Nat → Prop} {A B : Option Addr} {n c k d : Nat} {l : List Ent} {V : List Nat}
/-- What the document's To answers. -/
def RToP (w : World) (X : Nat → Prop) (A B : Option Addr) (n c k d : Nat) (l : List Ent) (V : List Nat) (z : Int) (r : Ending) (w' : World) : Prop :=
  Below w.heap.size w w' ∧ (((z < 0 ∨ (n : Int) < z) ∧ r = .returned (.tuple #[.agg #[.slice A n c, .int .i64 (k : Int), .slice B V.length d], .slice none 0 0, .int .i64 4])) ∨
    (0 ≤ z ∧ z ≤ (n : Int) ∧ z < (k : Int) ∧ r = .returned (.tuple #[.agg #[.slice A n c, .int .i64 (k : Int), .slice B V.length d], .slice none 0 0, .int .i64 2])) ∨
    (∃ m N : Nat, z = (m : Int) ∧ k ≤ m ∧ m ≤ n ∧ StN l m 0 N ∧ ∃ v B' d', r = .returned (.tuple #[.agg #[.slice A n c, .int .i64 (m : Int), .slice B' (V ++ fresh V (vl l m 0 N)).length d'], v, .int .i64 0]) ∧
      OwnK w' 3 1 v (intsOf (fresh V (vl l m 0 N))) ∧ (∀ b, v.ownBlock = some b → w.heap.size ≤ b) ∧ Rd w' X 1 B' (V ++ fresh V (vl l m 0 N)).length (intsOf (V ++ fresh V (vl l m 0 N)))))
def zero40t : Array Value := #[.slice none 0 0, .int .i64 0, .slice none 0 0]
set_option maxRecDepth 100000 in
set_option maxHeartbeats 8000000 in
theorem refTo_any (h : Rd w X 6 A n (cellsOf l)) (hn : n ≤ 4096) (hnc : n ≤ c) (hE : allE [] l = 0) (hV : Rd w X 1 B V.length (intsOf V)) (hVl : V.length ≤ 4096) (hX : ∀ x, X x → x < w.heap.size) (z : Int) :
    Calls Tryd.prog 24 #[.agg #[.slice A n c, .int .i64 (k : Int), .slice B V.length d], .int .i64 z] w (RToP w X A B n c k d l V z) := by
  have hal := ((Below.refl w.heap.size w).alloc (Nat.le_refl _) (.cells #[.slice A n c, .int .i64 (k : Int), .slice B V.length d] 40)).alloc (by simp) (.cells #[.slice none 0 0, .int .i64 0, .slice none 0 0] 40)
  have hR0 : Blk ((w.alloc (.cells #[.slice A n c, .int .i64 (k : Int), .slice B V.length d] 40)).alloc (.cells #[.slice none 0 0, .int .i64 0, .slice none 0 0] 40)) w.heap.size 40 #[.slice A n c, .int .i64 (k : Int), .slice B V.length d] := (Blk.new w 40 _).alloc _
  have hZ0 : Blk ((w.alloc (.cells #[.slice A n c, .int .i64 (k : Int), .slice B V.length d] 40)).alloc (.cells #[.slice none 0 0, .int .i64 0, .slice none 0 0] 40)) (w.heap.size + 1) 40 zero40 := by
    have := Blk.new (w.alloc (.cells #[.slice A n c, .int .i64 (k : Int), .slice B V.length d] 40)) 40 zero40
    rwa [show (w.alloc (.cells #[.slice A n c, .int .i64 (k : Int), .slice B V.length d] 40)).heap.size = w.heap.size + 1 by simp] at this
  have HB0 := Lib.hid hal
  have HR0 := Lib.hid hR0
  have HZ0 := Lib.hid hZ0
  have HX := Lib.hid hX
  have HW0 := Lib.hid h
  have HV0 := Lib.hid hV
  have HE := Lib.hid hE
  have HLEN := Lib.hid h.lenE
  clear hal hR0 hZ0 h hX hV hE
  go_enter Tryd.func24, Tryd.ntmps24
  go_upto_region 1 with fail
  generalize hw3 : (w.alloc (.cells #[.slice A n c, .int .i64 (k : Int), .slice B V.length d] 40)).alloc (.cells #[.slice none 0 0, .int .i64 0, .slice none 0 0] 40) = w3 at *
  clear hw3
  have r0 := HR0.out.cell 0
  have r1 := HR0.out.cell 1
  by_cases hz0 : z < 0
  · have d1 : decide (z < 0) = true := decide_eq_true hz0
    have HBAD : Hid (z < 0 ∨ (n : Int) < z) := Lib.hid (.inl hz0)
    clear hz0
    go_wp2_with (with_reducible refine at_load 40 rfl ?_)
    refine Stop.go (wpList_load_blk (by rfl) 40 _ (by rfl) w.heap.size (by rfl) 40 _ HR0.out _ und40 (by rfl) (by kernel_rfl) ?_)
    go_wp2_with (with_reducible refine at_store 40 rfl ?_)
    refine Stop.go (wpList_store_blk (by rfl) (by rfl) 40 _ _ (by rfl) (w.heap.size + 1) _ #[.slice A n c, .int .i64 (k : Int), .slice B V.length d] (by rfl) (by rfl) 40 HZ0.out (by rfl) (by kernel_rfl) (by simp [Value.oneCell']) ?_)
    intro w7 hB7 hg7 hs7
    have hT7 : Turn (fun x => x = w.heap.size + 1) w3 w7 := Turn.of_grown hg7 (fun r e => by injection e with e; exact e.symm)
    have HF7 : Hid (Below w.heap.size w w7 ∧ Blk w7 (w.heap.size + 1) 40 #[.slice A n c, .int .i64 (k : Int), .slice B V.length d]) := Lib.hid ⟨HB0.out.trans (hT7.below HB0.out.size (fun x e => by omega)), hB7⟩
    clear hB7 hg7 hs7 hT7
    go_wp2_with fail
    refine bodyPost_ret (v := .tuple #[.agg #[.slice A n c, .int .i64 (k : Int), .slice B V.length d], .slice none 0 0, .int .i64 4]) (results_ctt (by rfl) _ _ (w.heap.size + 1) 40 _ (0, 0) _ (by rfl) HF7.out.2 und40 (by rfl) (by kernel_rfl) (by rfl) (by rfl)) rfl ?_
    exact ⟨HF7.out.1, .inl ⟨HBAD.out, rfl⟩⟩
  have d1 : decide (z < 0) = false := decide_eq_false hz0
  by_cases hzn : (n : Int) < z
  · have d2 : decide ((n : Int) < z) = true := decide_eq_true hzn
    have HBAD : Hid (z < 0 ∨ (n : Int) < z) := Lib.hid (.inr hzn)
    clear hz0 hzn
    go_wp2_with (with_reducible refine at_load 40 rfl ?_)
    refine Stop.go (wpList_load_blk (by rfl) 40 _ (by rfl) w.heap.size (by rfl) 40 _ HR0.out _ und40 (by rfl) (by kernel_rfl) ?_)
    go_wp2_with (with_reducible refine at_store 40 rfl ?_)
    refine Stop.go (wpList_store_blk (by rfl) (by rfl) 40 _ _ (by rfl) (w.heap.size + 1) _ #[.slice A n c, .int .i64 (k : Int), .slice B V.length d] (by rfl) (by rfl) 40 HZ0.out (by rfl) (by kernel_rfl) (by simp [Value.oneCell']) ?_)
    intro w7 hB7 hg7 hs7
    have hT7 : Turn (fun x => x = w.heap.size + 1) w3 w7 := Turn.of_grown hg7 (fun r e => by injection e with e; exact e.symm)
    have HF7 : Hid (Below w.heap.size w w7 ∧ Blk w7 (w.heap.size + 1) 40 #[.slice A n c, .int .i64 (k : Int), .slice B V.length d]) := Lib.hid ⟨HB0.out.trans (hT7.below HB0.out.size (fun x e => by omega)), hB7⟩
    clear hB7 hg7 hs7 hT7
    go_wp2_with fail
    refine bodyPost_ret (v := .tuple #[.agg #[.slice A n c, .int .i64 (k : Int), .slice B V.length d], .slice none 0 0, .int .i64 4]) (results_ctt (by rfl) _ _ (w.heap.size + 1) 40 _ (0, 0) _ (by rfl) HF7.out.2 und40 (by rfl) (by kernel_rfl) (by rfl) (by rfl)) rfl ?_
    exact ⟨HF7.out.1, .inl ⟨HBAD.out, rfl⟩⟩
  have d2 : decide ((n : Int) < z) = false := decide_eq_false hzn
  by_cases hzk : z < (k : Int)
  · have d3 : decide (z < (k : Int)) = true := decide_eq_true hzk
    have HBAD : Hid (0 ≤ z ∧ z ≤ (n : Int) ∧ z < (k : Int)) := Lib.hid (by omega)
    clear hz0 hzn hzk
    go_wp2_with (with_reducible refine at_load 40 rfl ?_)
    refine Stop.go (wpList_load_blk (by rfl) 40 _ (by rfl) w.heap.size (by rfl) 40 _ HR0.out _ und40 (by rfl) (by kernel_rfl) ?_)
    go_wp2_with (with_reducible refine at_store 40 rfl ?_)
    refine Stop.go (wpList_store_blk (by rfl) (by rfl) 40 _ _ (by rfl) (w.heap.size + 1) _ #[.slice A n c, .int .i64 (k : Int), .slice B V.length d] (by rfl) (by rfl) 40 HZ0.out (by rfl) (by kernel_rfl) (by simp [Value.oneCell']) ?_)
    intro w7 hB7 hg7 hs7
    have hT7 : Turn (fun x => x = w.heap.size + 1) w3 w7 := Turn.of_grown hg7 (fun r e => by injection e with e; exact e.symm)
    have HF7 : Hid (Below w.heap.size w w7 ∧ Blk w7 (w.heap.size + 1) 40 #[.slice A n c, .int .i64 (k : Int), .slice B V.length d]) := Lib.hid ⟨HB0.out.trans (hT7.below HB0.out.size (fun x e => by omega)), hB7⟩
    clear hB7 hg7 hs7 hT7
    go_wp2_with fail
    refine bodyPost_ret (v := .tuple #[.agg #[.slice A n c, .int .i64 (k : Int), .slice B V.length d], .slice none 0 0, .int .i64 2]) (results_ctt (by rfl) _ _ (w.heap.size + 1) 40 _ (0, 0) _ (by rfl) HF7.out.2 und40 (by rfl) (by kernel_rfl) (by rfl) (by rfl)) rfl ?_
    exact ⟨HF7.out.1, .inr (.inl ⟨HBAD.out.1, HBAD.out.2.1, HBAD.out.2.2, rfl⟩)⟩
  have d3 : decide (z < (k : Int)) = false := decide_eq_false hzk
  obtain ⟨m, rfl⟩ : ∃ m : Nat, z = (m : Int) := ⟨z.toNat, by omega⟩
  have hmn : m ≤ n := by omega
  have hkm : k ≤ m := by omega
  obtain ⟨N, hSN⟩ := stN_ex l m (by have := HLEN.out; omega) m 0 (by omega)
  have HSN := Lib.hid hSN
  have hst2 := stab_take (allR_of HE.out) (by have := HLEN.out; omega) hSN
  have hrv := rv_vl (n := m) (allR_of HE.out) (by have := HLEN.out; omega) N (by have := hSN.le; omega)
  have hvw := refView_any (m := m) (c := c) (HW0.out.below HB0.out) (by omega) (fun x hx => allR_of HE.out x (List.mem_of_mem_take hx)) hmn hnc (by have := stab_le (l.take m) 4; rw [List.length_take] at this; omega)
  rw [hst2, hrv] at hvw
  have hUl : (vl l m 0 N).length ≤ 4096 := by have := vl_len l m 0 N; have := hSN.le; omega
  clear hz0 hzn hzk hst2 hrv hSN
  obtain ⟨U, hU⟩ : ∃ U, vl l m 0 N = U := ⟨_, rfl⟩
  have HU := Lib.hid hU
  rw [hU] at hvw hUl
  clear hU
  have hS3 : w.heap.size + 1 < w3.heap.size := HZ0.out.lt
  have HS3 := Lib.hid hS3
  clear hS3
  go_wp2_with fail
  refine hvw.mono ?_
  rintro r w4 ⟨v, rfl, hov, hvo, hb4⟩
  obtain ⟨Av, cv, rfl, hcv⟩ := ints_form hov
  obtain ⟨nv, hnv⟩ : ∃ nv, U.length = nv := ⟨_, rfl⟩
  rw [hnv] at hov hcv hUl ⊢
  have HB4 := Lib.hid (HB0.out.trans (hb4.mono (by have := HS3.out; omega)))
  have HR4 := Lib.hid (HR0.out.below hb4 HR0.out.lt)
  have HZ4 := Lib.hid (HZ0.out.below hb4 HZ0.out.lt)
  have HVV := Lib.hid (hov.rd (X := No) (fun _ _ h => h))
  have HNV := Lib.hid hnv
  have HVK4 := Lib.hid (HV0.out.below HB4.out)
  clear hvw hb4 r0 r1 hov hvo hnv d1 d2 d3
  go_wp2_with fail
  go_loopw [8, 9] (fun o i wv => ∃ j : Nat, j ≤ nv ∧ i = .int .i64 j ∧ RvI w4 (fresh V (U.take j)) o wv) (fun o i _ => nv - (iOf' i).toNat)
  case atStart => exact ⟨0, by omega, rfl, by rw [List.take_zero]; exact OwnK.nil _ _ _, fun b e => (nomatch e), Below.refl _ _⟩
  case round =>
    obtain ⟨j, hj, rfl, hI⟩ := hrel
    have HI := Lib.hid hI
    obtain ⟨Ao, no, co, rfl, -, -, -⟩ := hI.1.form
    clear hI
    have HRr := Lib.hid (HR4.out.below HI.out.2.2 HR4.out.lt)
    by_cases hlt : j < nv
    case neg =>
      have hd1 : decide (j < nv) = false := by simpa using hlt
      obtain rfl : j = nv := by omega
      have htk : U.take j = U := List.take_of_length_le (by have := HNV.out; omega)
      rw [htk] at HI
      obtain ⟨q6, hq6⟩ : ∃ q6, (fresh V U).length = q6 := ⟨_, rfl⟩
      have hno : no = q6 := by
        obtain ⟨A', q', c', e', h', -, -⟩ := HI.out.1.form
        injection e' with e1 e2 e3
        rw [e2, h', ← hq6]; simp [intsOf]
      subst hno
      have hq6' : no ≤ 4096 := by have := fresh_len V U; have := HNV.out; omega
      have HBr := Lib.hid (HB4.out.trans (HI.out.2.2.mono HB4.out.size))
      have HVr := Lib.hid (HV0.out.below HBr.out)
      have HZr := Lib.hid (HZ4.out.below HI.out.2.2 HZ4.out.lt)
      have HSr : Hid (w.heap.size + 1 < w4.heap.size ∧ w4.heap.size ≤ wr.heap.size) := Lib.hid ⟨HZ4.out.lt, HI.out.2.2.size⟩
      have HQ6 := Lib.hid hq6
      have hsz1 := HSr.out.1
      have hsz2 := HSr.out.2
      have r2 : (wr.alloc (.cells #[] 3)).cell? ⟨w.heap.size, 2, none⟩ = some (.slice B V.length d) := (HRr.out.alloc (.cells #[] 3)).cell 2
      clear hlt hq6
      go_wp2_with (at_builtin; refine stop ?_)
      have hba := (Below.refl wr.heap.size wr).alloc (Nat.le_refl _) (.cells #[] 3)
      refine Stop.go (wpList_append_k el24 _ (by rfl) _ _ (by rfl) (.slice (some ⟨wr.heap.size, 0, none⟩) 0 0) [] (by rfl) (ownK_empty wr 3 1) X B V.length d (intsOf V) (by rfl) (HVr.out.below hba) (by simp) (by omega) ?_)
      intro v5 w5 ho5 hg5
      rw [List.nil_append] at ho5
      have HB5 : Hid (Below wr.heap.size wr w5) := Lib.hid (hba.trans (made_below hg5))
      have hv5 : ∀ b, v5.ownBlock = some b → wr.heap.size ≤ b := fun b eb => by
        rcases hg5.2 b eb with q | q
        · have : b = wr.heap.size := by simpa [Value.ownBlock] using q.symm
          omega
        · simp at q; omega
      have HO5 := Lib.hid (And.intro ho5 hv5)
      obtain ⟨A5, q5, c5, rfl, hq5, -, -⟩ := ho5.form
      have hq5' : q5 = V.length := by rw [hq5]; simp [intsOf]
      subst hq5'
      have HRo := Lib.hid ((HI.out.1.below HB5.out).rd (X := fun b => (Value.slice A5 V.length c5).ownBlock = some b) (fun g hg hx => by have h1 := hv5 g hx; have h2 := HI.out.1.lt hg; omega))
      clear ho5 hg5 hv5 hba hq5 r2
      go_wp2_with (at_builtin; refine stop ?_)
      refine Stop.go (wpList_append_k el24 _ (by rfl) _ _ (by rfl) (.slice A5 V.length c5) (intsOf V) (by rfl) HO5.out.1 _ Ao no co (intsOf (fresh V U)) (by rfl) HRo.out (by simp [intsOf]; omega) (by omega) ?_)
      intro v6 w6 ho6 hg6
      have hT6 : Turn (fun b => (Value.slice A5 V.length c5).ownBlock = some b) w5 w6 := hg6.turn (fun _ q => q)
      have HB6 : Hid (Below wr.heap.size wr w6) := Lib.hid (HB5.out.trans (hT6.below HB5.out.size (fun b q => HO5.out.2 b q)))
      have hv6 : ∀ b, v6.ownBlock = some b → wr.heap.size ≤ b := fun b eb => by
        rcases hg6.2 b eb with q | q
        · exact HO5.out.2 b q
        · have := HB5.out.size; omega
      have hoo : OwnK w6 3 1 v6 (intsOf (V ++ fresh V U)) := by unfold intsOf at ho6 ⊢; rw [List.map_append]; exact ho6
      have HO6 := Lib.hid (And.intro hoo hv6)
      have HR6 := Lib.hid (HRr.out.below HB6.out HRr.out.lt)
      have HZ6 := Lib.hid (HZr.out.below HB6.out HZr.out.lt)
      have HI6 := Lib.hid (HI.out.1.below HB6.out)
      obtain ⟨A6, n6, c6, rfl, hn6, -, -⟩ := hoo.form
      have hn6' : n6 = (V ++ fresh V U).length := by rw [hn6]; simp [intsOf]
      have HN6 := Lib.hid hn6'
      clear ho6 hg6 hT6 hv6 hoo hn6 hn6' HRo HO5
      have f1 := HR6.out.frozen 1
      have g1 := HR6.out.cell 1
      have h7 : Blk (w6.setCell ⟨w.heap.size, 1, none⟩ (.int .i64 (m : Int))) w.heap.size 40 #[.slice A n c, .int .i64 (m : Int), .slice B V.length d] := HR6.out.set_ 1 _
      have f2 := h7.frozen 2
      have g2 := h7.cell 2
      have h8 : Blk ((w6.setCell ⟨w.heap.size, 1, none⟩ (.int .i64 (m : Int))).setCell ⟨w.heap.size, 2, none⟩ (.slice A6 n6 c6)) w.heap.size 40 #[.slice A n c, .int .i64 (m : Int), .slice A6 n6 c6] := h7.set_ 2 _
      have hT8 : Turn (fun x => x = w.heap.size) w6 ((w6.setCell ⟨w.heap.size, 1, none⟩ (.int .i64 (m : Int))).setCell ⟨w.heap.size, 2, none⟩ (.slice A6 n6 c6)) := ((Turn.refl (fun x => x = w.heap.size) w6).setCell (p := ⟨w.heap.size, 1, none⟩) (fun _ => rfl) _).setCell (p := ⟨w.heap.size, 2, none⟩) (fun _ => rfl) _
      go_upto_region 18 with fail
      have HR8 := Lib.hid h8
      have hbw6 : Below w.heap.size w w6 := HBr.out.trans (HB6.out.mono HBr.out.size)
      have HB8 := Lib.hid (hbw6.trans (hT8.below hbw6.size (fun x e => by omega)))
      have HZ8 := Lib.hid (HZ6.out.keep hT8 (by omega))
      have HO8 := Lib.hid (And.intro (HO6.out.1.keep hT8 (fun b hb e => by have := HO6.out.2 b hb; omega)) HO6.out.2)
      have HI8 := Lib.hid (HI6.out.keep hT8 (fun b hb e => by have := HI.out.2.1 b hb; omega))
      clear h7 h8 hT8 f1 g1 f2 g2 hbw6 HR6 HZ6 HO6 HI6
      generalize (w6.setCell ⟨w.heap.size, 1, none⟩ (.int .i64 (m : Int))).setCell ⟨w.heap.size, 2, none⟩ (.slice A6 n6 c6) = w8 at *
      go_wp2_with (with_reducible refine at_load 40 rfl ?_)
      refine Stop.go (wpList_load_blk (by rfl) 40 _ (by rfl) w.heap.size (by rfl) 40 _ HR8.out _ und40 (by rfl) (by kernel_rfl) ?_)
      go_wp2_with (with_reducible refine at_store 40 rfl ?_)
      refine Stop.go (wpList_store_blk (by rfl) (by rfl) 40 _ _ (by rfl) (w.heap.size + 1) _ #[.slice A n c, .int .i64 (m : Int), .slice A6 n6 c6] (by rfl) (by rfl) 40 HZ8.out (by rfl) (by kernel_rfl) (by simp [Value.oneCell']) ?_)
      intro w7 hB7 hg7 hs7
      have hT7 : Turn (fun x => x = w.heap.size + 1) w8 w7 := Turn.of_grown hg7 (fun r e => by injection e with e; exact e.symm)
      have HF7 : Hid (Below w.heap.size w w7 ∧ Blk w7 (w.heap.size + 1) 40 #[.slice A n c, .int .i64 (m : Int), .slice A6 n6 c6]) := Lib.hid ⟨HB8.out.trans (hT7.below HB8.out.size (fun x e => by omega)), hB7⟩
      have HO9 := Lib.hid (And.intro (HO8.out.1.keep hT7 (fun b hb e => by have := HO8.out.2 b hb; omega)) HO8.out.2)
      have HI9 := Lib.hid (HI8.out.keep hT7 (fun b hb e => by have := HI.out.2.1 b hb; omega))
      clear hB7 hg7 hs7 hT7
      go_wp2_with fail
      refine bodyPost_ret (v := .tuple #[.agg #[.slice A n c, .int .i64 (m : Int), .slice A6 n6 c6], .slice Ao no co, .int .i64 0]) (results_ctt (by rfl) _ _ (w.heap.size + 1) 40 _ (0, 0) _ (by rfl) HF7.out.2 und40 (by rfl) (by kernel_rfl) (by rfl) (by rfl)) rfl ?_
      refine ⟨HF7.out.1, .inr (.inr ⟨m, N, rfl, hkm, hmn, HSN.out, .slice Ao no co, A6, c6, ?_, ?_, ?_, ?_⟩)⟩
      · rw [HU.out, ← HN6.out]
      · rw [HU.out]; exact HI9.out
      · intro b hb
        have := HI.out.2.1 b hb
        omega
      · rw [HU.out, ← HN6.out]
        exact HO9.out.1.rd (fun g hg hx => by have := HO9.out.2 g hg; have := HX.out g hx; omega)
    case pos =>
      have hd1 : decide (j < nv) = true := by simpa using hlt
      obtain ⟨x, hx⟩ : ∃ x, U[j]? = some x := ⟨_, List.getElem?_eq_getElem (by have := HNV.out; omega)⟩
      have HXJ := Lib.hid hx
      have HFT := Lib.hid (fresh_take (V := V) hx)
      obtain ⟨adv, rfl, hcx⟩ := (HVV.out.below HI.out.2.2).intAt hx
      have r2 := HRr.out.cell 2
      have hjn : j < nv := hlt
      clear hlt hx
      go_wp2_with fail
      go_loopw [10, 11] (fun s i wv => ∃ (p : Nat) (sb : Bool), p ≤ V.length ∧ i = .int .i64 p ∧ s = .bool sb ∧ Hid (sb = (V.take p).contains x) ∧ ∃ q, wv = wr.drewN q) (fun s i _ => V.length - (iOf' i).toNat)
      case atStart => exact ⟨0, _, by omega, rfl, rfl, Lib.hid (by rw [List.take_zero]; rfl), 0, rfl⟩
      case round =>
        obtain ⟨p, sb, hp, rfl, rfl, HSB, q, rfl⟩ := hrel
        by_cases hpm : p < V.length
        case neg =>
          have hd2 : decide (p < V.length) = false := by simpa using hpm
          have HSE : Hid (sb = V.contains x) := Lib.hid (by
            have := HSB.out
            rwa [List.take_of_length_le (by omega)] at this)
          have HI5 := Lib.hid (HI.out.low (below_drewN (Below.refl wr.heap.size wr) q))
          clear hpm
          cases sb with
          | true =>
            have HNX : Hid (fresh V (U.take (j + 1)) = fresh V (U.take j)) := Lib.hid (by rw [HFT.out, if_pos HSE.out.symm])
            go_wp2_with fail
            go_round
            case rel => exact ⟨j + 1, by omega, by go_num, by rw [HNX.out]; exact HI5.out⟩
            case measure => simp [iOf']; omega
          | false =>
            have HNX : Hid (fresh V (U.take (j + 1)) = fresh V (U.take j) ++ [x]) := Lib.hid (by rw [HFT.out, if_neg (by rw [← HSE.out]; decide)])
            go_wp2_with (at_builtin; refine stop ?_)
            refine Stop.go (wpList_append_k el24 _ (by rfl) _ _ (by rfl) (.slice Ao no co) (intsOf (fresh V (U.take j))) (by rfl) (OwnK.alloc HI5.out.1 _) No _ 1 _ [#[.int .i64 (x : Int)]] (by rfl) (rd_one (wr.drewN q) 3 #[.int .i64 (x : Int)] rfl (by simp [Value.oneCell']) (fun h => h)) (by have h1 := fresh_len V (U.take j); have h2 := List.length_take_le j U; simp [intsOf]; omega) (by omega) ?_)
            intro v9 w9 ho9 hg9
            have HI9 : Hid (RvI w4 (fresh V (U.take (j + 1))) v9 w9) := Lib.hid (by
              have hi := HI5.out
              have hb := hi.2.2.alloc hi.2.2.size (.cells #[.int .i64 (x : Int)] 3)
              rw [HNX.out]
              refine ⟨by unfold intsOf at ho9 ⊢; rw [List.map_append]; exact ho9, fun b e => ?_, below_grew hb hg9 hi.2.1 hb.size⟩
              rcases hg9.2 b e with z | z
              · exact hi.2.1 b z
              · exact Nat.le_trans hb.size z)
            clear ho9 hg9 hcx
            go_wp2_with fail
            go_round
            case rel => exact ⟨j + 1, by omega, by go_num, HI9.out⟩
            case measure => simp [iOf']; omega
        case pos =>
        obtain ⟨y, hy⟩ : ∃ y, V[p]? = some y := ⟨_, List.getElem?_eq_getElem hpm⟩
        obtain ⟨adk, rfl, hcy⟩ := (HVK4.out.below HI.out.2.2).intAt hy
        have hd2 : decide (p < V.length) = true := by simpa using hpm
        have HTP : Hid ((V.take (p + 1)).contains x = ((V.take p).contains x || decide (y = x))) := Lib.hid (by
          rw [List.take_add_one, hy, Option.toList_some, Bool.eq_iff_iff]
          simp only [List.contains_eq_mem, Bool.or_eq_true, decide_eq_true_eq, List.mem_append, List.mem_singleton]
          exact ⟨fun h => h.imp id Eq.symm, fun h => h.imp id Eq.symm⟩)
        clear hy
        cases sb with
        | true =>
          have HNX : Hid (true = (V.take (p + 1)).contains x) := Lib.hid (by rw [HTP.out, ← HSB.out]; rfl)
          clear hcx hcy
          go_wp2_with fail
          go_quiet (fail)
          go_wp2_with fail
          go_round
          case rel => exact ⟨p + 1, true, by omega, by go_num, rfl, HNX, _, (by first | rfl | rw [World.drewN_drewN])⟩
          case measure => simp [iOf']; omega
        | false =>
          by_cases hyx : y = x
          · subst hyx
            have hq1 : ((y : Int) == (y : Int)) = true := by simp
            have HNX : Hid (true = (V.take (p + 1)).contains y) := Lib.hid (by rw [HTP.out, decide_eq_true rfl, Bool.or_true])
            go_wp2_with fail
            go_quiet (fail)
            go_wp2_with fail
            go_round
            case rel => exact ⟨p + 1, true, by omega, by go_num, rfl, HNX, _, (by first | rfl | rw [World.drewN_drewN])⟩
            case measure => simp [iOf']; omega
          · have hq1 : ((y : Int) == (x : Int)) = false := by simp; omega
            have HNX : Hid (false = (V.take (p + 1)).contains x) := Lib.hid (by rw [HTP.out, ← HSB.out, decide_eq_false hyx]; rfl)
            clear hyx
            go_wp2_with fail
            go_quiet (fail)
            go_wp2_with fail
            go_round
            case rel => exact ⟨p + 1, false, by omega, by go_num, rfl, HNX, _, (by first | rfl | rw [World.drewN_drewN])⟩
            case measure => simp [iOf']; omega
end
end Go.Proofs.YthcphoijanebhaaDoor
namespace Go.Proofs.YthcphoijanebhaaDoor
open Go.RowKit Go.Maps
set_option linter.unusedVariables false
section
variable {w : World} {r k : Nat} {S X : Nat → Prop} {l : List Ent} {V : List Nat} {A B : Option Addr} {n c d : Nat}
theorem rlen_any (h : Rr w S r l k V) : Calls Tryd.prog 27 #[.pointer (some ⟨r, 0, none⟩)] w fun x w' => x = .returned (.int .i64 (l.length : Int)) ∧ w = w' := by
  obtain ⟨g, m1, m2, S0, v, hX, hS⟩ := h
  have HX := Lib.hid hX
  have c0 : w.cell? ⟨r, 0, none⟩ = some (.pointer (some ⟨g, 0, none⟩)) := hX.blk.cell 0
  clear hX hS
  go_enter Tryd.func27, Tryd.ntmps27
  go_wp2_with fail
  refine (vthere_yes c0).mono ?_
  rintro x w9 ⟨rfl, rfl⟩
  go_wp2_with fail
  refine (vlen_any c0 HX.out.tw.tb).mono ?_
  rintro x w9 ⟨rfl, rfl⟩
  go_wp2_with fail
  go_ret
  exact ⟨rfl, rfl⟩
theorem rlen_nil (w : World) : Calls Tryd.prog 27 #[.pointer none] w fun x w' => x = .returned (.int .i64 0) ∧ w = w' := by
  go_enter Tryd.func27, Tryd.ntmps27
  go_wp2_with fail
  refine (vthere_no w).mono ?_
  rintro x w9 ⟨rfl, rfl⟩
  go_wp2_with fail
  go_ret
  exact ⟨rfl, rfl⟩
theorem rat_any (h : Rr w S r l k V) : Calls Tryd.prog 28 #[.pointer (some ⟨r, 0, none⟩)] w fun x w' => x = .returned (.int .i64 (k : Int)) ∧ w = w' := by
  obtain ⟨g, m1, m2, S0, v, hX, hS⟩ := h
  have c0 : w.cell? ⟨r, 0, none⟩ = some (.pointer (some ⟨g, 0, none⟩)) := hX.blk.cell 0
  have c3 : w.cell? ⟨r, 3, none⟩ = some (.int .i64 (k : Int)) := hX.blk.cell 3
  clear hX hS
  go_enter Tryd.func28, Tryd.ntmps28
  go_wp2_with fail
  refine (vthere_yes c0).mono ?_
  rintro x w9 ⟨rfl, rfl⟩
  go_wp2_with fail
  go_ret
  exact ⟨rfl, rfl⟩
theorem rat_nil (w : World) : Calls Tryd.prog 28 #[.pointer none] w fun x w' => x = .returned (.int .i64 0) ∧ w = w' := by
  go_enter Tryd.func28, Tryd.ntmps28
  go_wp2_with fail
  refine (vthere_no w).mono ?_
  rintro x w9 ⟨rfl, rfl⟩
  go_wp2_with fail
  go_ret
  exact ⟨rfl, rfl⟩
theorem q24 (w : World) (a : Option Addr) (n c n' c' : Nat) : (binOp .eql 24 (.slice a n c) (.slice none n' c')).run Tryd.prog w = .ok (.bool a.isNone) w :=
  Lib.run_eql_slice_nil w 24 3 a n c n' c' Tryd.underlying24
set_option maxHeartbeats 1000000 in
set_option maxRecDepth 100000 in
theorem cloneI_any {v : Value} (h : OwnK w 3 1 v (intsOf V)) (hl : V.length ≤ 1000000) : Calls Tryd.prog 49 #[v] w (NewI w V) := by
  obtain ⟨A, q, c, rfl, hq, hc, hm⟩ := h.form
  have hq' : q = V.length := by rw [hq]; simp [intsOf]
  subst hq'
  rcases A with _ | ad
  · have h0 : V = [] ∧ c = 0 := by
      rcases h.1.2 with ⟨e, h0⟩ | ⟨g, cap, cur, e, _⟩
      · injection e with _ _ e
        exact ⟨List.eq_nil_of_length_eq_zero (by simpa [intsOf] using h0), e⟩
      · cases e
    obtain ⟨rfl, rfl⟩ := h0
    clear h hq hc hm
    have hq := q24
    show Calls Tryd.prog 49 #[.slice none 0 0] w _
    go_enter Tryd.func49, Tryd.ntmps49
    go_wp2_with fail
    go_ret
    exact ⟨_, rfl, OwnK.nil _ _ _, fun b e => (by cases e), Below.refl _ _⟩
  · have HR := Lib.hid (h.rd (X := No) (fun _ _ h => h))
    clear h
    have hq66 := q24
    go_enter Tryd.func49, Tryd.ntmps49
    go_wp2_with (at_builtin; refine stop ?_)
    refine Stop.go (wpList_append_k el24 _ (by rfl) _ _ (by rfl) _ [] (by rfl) (ownK_empty w 3 1) No (some ad) V.length c (intsOf V) (by rfl) (HR.out.alloc _) (by simp) (by omega) ?_)
    intro v9 w9 ho9 hg9
    rw [List.nil_append] at ho9
    have HO := Lib.hid ho9
    have HV : Hid (∀ b, v9.ownBlock = some b → w.heap.size ≤ b) := Lib.hid (fun b eb => by
      rcases hg9.2 b eb with h | h
      · have h' : w.heap.size = b := by simpa [Value.ownBlock] using h
        omega
      · simp at h; omega)
    have HB : Hid (Below w.heap.size w w9) := Lib.hid (((Below.refl _ _).alloc (Nat.le_refl _) (.cells #[] 3)).trans (made_below hg9))
    clear ho9 hg9
    go_wp2_with fail
    go_ret
    exact ⟨_, rfl, HO.out, HV.out, HB.out⟩
theorem rtold_any (h : Rr w S r l k V) (hV : V.length ≤ 1000000) : Calls Tryd.prog 29 #[.pointer (some ⟨r, 0, none⟩)] w (NewI w V) := by
  obtain ⟨g, m1, m2, S0, v, hX, hS⟩ := h
  have c0 : w.cell? ⟨r, 0, none⟩ = some (.pointer (some ⟨g, 0, none⟩)) := hX.blk.cell 0
  have c4 : w.cell? ⟨r, 4, none⟩ = some v := hX.blk.cell 4
  have hcl := cloneI_any hX.row hV
  obtain ⟨Av, cv, rfl, -⟩ := ints_form hX.row
  clear hX hS
  go_enter Tryd.func29, Tryd.ntmps29
  go_wp2_with fail
  refine (vthere_yes c0).mono ?_
  rintro x w9 ⟨rfl, rfl⟩
  go_wp2_with fail
  refine hcl.mono ?_
  rintro x w9 ⟨v, rfl, ho, hv, hb⟩
  have HF := Lib.hid (And.intro ho (And.intro hv hb))
  clear ho hv hb c0 c4 hcl
  go_wp2_with fail
  go_ret
  exact ⟨_, rfl, HF.out.1, HF.out.2.1, HF.out.2.2⟩
theorem rtold_nil (w : World) : Calls Tryd.prog 29 #[.pointer none] w fun x w' => x = .returned (.slice none 0 0) ∧ w = w' := by
  go_enter Tryd.func29, Tryd.ntmps29
  go_wp2_with fail
  refine (vthere_no w).mono ?_
  rintro x w9 ⟨rfl, rfl⟩
  go_wp2_with fail
  go_ret
  exact ⟨rfl, rfl⟩
theorem rcopy_nil (w : World) : Calls Tryd.prog 30 #[.pointer none] w fun x w' => x = .returned (.pointer none) ∧ w = w' := by
  go_enter Tryd.func30, Tryd.ntmps30
  go_wp2_with fail
  refine (vthere_no w).mono ?_
  rintro x w9 ⟨rfl, rfl⟩
  go_wp2_with fail
  go_ret
  exact ⟨rfl, rfl⟩
theorem rpush_nil (w : World) (e : Ent) : Calls Tryd.prog 23 #[.pointer none, e.val] w fun x w' => x = .returned (.int .i64 1) ∧ Below w.heap.size w w' := by
  have HB := Lib.hid ((Below.refl w.heap.size w).alloc (Nat.le_refl _) (.cells e.cells 45))
  unfold Ent.val
  unfold Ent.cells at HB ⊢
  go_enter Tryd.func23, Tryd.ntmps23
  go_wp2_with fail
  refine (vthere_no _).mono ?_
  rintro x w9 ⟨rfl, rfl⟩
  go_wp2_with fail
  go_ret
  exact ⟨rfl, HB.out⟩
theorem rto_nil (w : World) (z : Int) : Calls Tryd.prog 25 #[.pointer none, .int .i64 z] w fun x w' => x = .returned (.tuple #[.slice none 0 0, .int .i64 1]) ∧ w = w' := by
  go_enter Tryd.func25, Tryd.ntmps25
  go_wp2_with fail
  refine (vthere_no w).mono ?_
  rintro x w9 ⟨rfl, rfl⟩
  go_wp2_with fail
  refine bodyPost_ret (results_tmp2 (by rfl) _ _ _) rfl ?_
  exact ⟨rfl, rfl⟩
set_option maxRecDepth 100000 in
set_option maxHeartbeats 4000000 in
/-- It stands as the document's. -/
theorem is_any (h : Rr w S r l k V) (hA : Rd w X 6 A n (cellsOf l)) (hB : Rd w X 1 B V.length (intsOf V)) (hn : n ≤ 1000000) (hV : V.length ≤ 1000000) :
    Calls Tryd.prog 26 #[.pointer (some ⟨r, 0, none⟩), .agg #[.slice A n c, .int .i64 (k : Int), .slice B V.length d]] w fun x w' => x = .returned (.bool true) ∧ Below w.heap.size w w' := by
  have hlen := hA.lenE
  have hal := (Below.refl w.heap.size w).alloc (Nat.le_refl _) (.cells #[.slice A n c, .int .i64 (k : Int), .slice B V.length d] 40)
  have HR0 : Hid (Blk (w.alloc (.cells #[.slice A n c, .int .i64 (k : Int), .slice B V.length d] 40)) w.heap.size 40 #[.slice A n c, .int .i64 (k : Int), .slice B V.length d]) := Lib.hid (Blk.new w 40 _)
  have HB0 := Lib.hid hal
  have HRr := Lib.hid (h.below hal)
  have HVB := Lib.hid (hB.below hal)
  clear hal h hA hB
  subst hlen
  go_enter Tryd.func26, Tryd.ntmps26
  go_upto_region 1 with fail
  generalize hw1 : w.alloc (.cells #[.slice A l.length c, .int .i64 (k : Int), .slice B V.length d] 40) = w1 at *
  clear hw1
  have hlen : ∀ W, Below w1.heap.size w1 W → Calls Tryd.prog 27 #[.pointer (some ⟨r, 0, none⟩)] W fun x w' => x = .returned (.int .i64 (l.length : Int)) ∧ W = w' := fun W hW => rlen_any (HRr.out.below hW)
  have hat : ∀ W, Below w1.heap.size w1 W → Calls Tryd.prog 28 #[.pointer (some ⟨r, 0, none⟩)] W fun x w' => x = .returned (.int .i64 (k : Int)) ∧ W = w' := fun W hW => rat_any (HRr.out.below hW)
  have hto : ∀ W, Below w1.heap.size w1 W → Calls Tryd.prog 29 #[.pointer (some ⟨r, 0, none⟩)] W (NewI W V) := fun W hW => rtold_any (HRr.out.below hW) hV
  have hq1 : ((l.length : Int) == (l.length : Int)) = true := by simp
  have hq2 : ((k : Int) == (k : Int)) = true := by simp
  refine wp_region_np ?_
  refine wp_region_held_drew (S := fun W => Below w1.heap.size w1 W) (by kernel_rfl) (show Below w1.heap.size w1 w1.drew from (Below.refl _ _).drew) (fun hHeld => ?_)
  generalize hv0 : w1.drew = V0 at *
  clear hv0
  refine wpAnyH_takeAt (i := 0) (d := 5) (v := ?vq0x) rfl rfl (by kernel_rfl) (by kernel_rfl) (by kernel_rfl) (fun _ _ _ h => h) (Or.inl ⟨by rfl, ?hyq0x⟩) hHeld ?_
  case hyq0x =>
    intro W hSw
    clear hSw
    (go_simp; try with_reducible rfl)
  simp only [List.setIfInBounds_toArray, List.set_cons_zero, List.set_cons_succ]
  refine wpAnyH_takeAt (i := 2) (d := 7) (v := ?vq1x) rfl rfl (by kernel_rfl) (by kernel_rfl) (by kernel_rfl) (fun _ _ _ h => h) (Or.inl ⟨by rfl, ?hyq1x⟩) hHeld ?_
  case hyq1x =>
    intro W hSw
    clear hSw
    (go_simp; try with_reducible rfl)
  simp only [List.setIfInBounds_toArray, List.set_cons_zero, List.set_cons_succ]
  refine wpAnyH_takeAt (i := 3) (d := 8) (v := ?vq2x) rfl rfl (by kernel_rfl) (by kernel_rfl) (by kernel_rfl) (fun _ _ _ h => h) (Or.inl ⟨by rfl, ?hyq2x⟩) hHeld ?_
  case hyq2x =>
    intro W hSw
    have r0 := (HR0.out.below hSw HR0.out.lt).cell 0; clear hSw
    (go_simp; try with_reducible rfl)
  simp only [List.setIfInBounds_toArray, List.set_cons_zero, List.set_cons_succ]
  refine wpAnyH_takeAt (i := 4) (d := 9) (v := ?vq3x) rfl rfl (by kernel_rfl) (by kernel_rfl) (by kernel_rfl) (fun _ _ _ h => h) (Or.inl ⟨by rfl, ?hyq3x⟩) hHeld ?_
  case hyq3x =>
    intro W hSw
    clear hSw
    (go_simp; try with_reducible rfl)
  simp only [List.setIfInBounds_toArray, List.set_cons_zero, List.set_cons_succ]
  refine wpAnyH_ready (rs := [1]) (by kernel_rfl) (by simp) (AllReadyH.cons rfl (fun K hK => ?_) AllReadyH.nil)
  go_simp
  refine (hlen V0 hHeld).mono ?_
  rintro x wz ⟨rfl, rfl⟩
  dsimp only
  refine hK.out _ _ hHeld (fun hHeld => ?_)
  clear hK K
  try simp only [List.setIfInBounds_toArray, List.set_cons_zero, List.set_cons_succ]
  refine wpAnyH_takeAt (i := 5) (d := 10) (v := ?vq4x) rfl rfl (by kernel_rfl) (by kernel_rfl) (by kernel_rfl) (fun _ _ _ h => h) (Or.inl ⟨by rfl, ?hyq4x⟩) hHeld ?_
  case hyq4x =>
    intro W hSw
    clear hSw
    (go_simp; try with_reducible rfl)
  simp only [List.setIfInBounds_toArray, List.set_cons_zero, List.set_cons_succ]
  refine wpAnyH_takeAt (i := 6) (d := 11) (v := ?vq5x) rfl rfl (by kernel_rfl) (by kernel_rfl) (by kernel_rfl) (fun _ _ _ h => h) (Or.inl ⟨by rfl, ?hyq5x⟩) hHeld ?_
  case hyq5x =>
    intro W hSw
    clear hSw
    (go_simp; try with_reducible rfl)
  simp only [List.setIfInBounds_toArray, List.set_cons_zero, List.set_cons_succ]
  refine wpAnyH_takeAt (i := 7) (d := 12) (v := ?vq6x) rfl rfl (by kernel_rfl) (by kernel_rfl) (by kernel_rfl) (fun _ _ _ h => h) (Or.inl ⟨by rfl, ?hyq6x⟩) hHeld ?_
  case hyq6x =>
    intro W hSw
    clear hSw
    (go_simp; try with_reducible rfl)
  simp only [List.setIfInBounds_toArray, List.set_cons_zero, List.set_cons_succ]
  refine wpAnyH_takeAt (i := 9) (d := 14) (v := ?vq7x) rfl rfl (by kernel_rfl) (by kernel_rfl) (by kernel_rfl) (fun _ _ _ h => h) (Or.inl ⟨by rfl, ?hyq7x⟩) hHeld ?_
  case hyq7x =>
    intro W hSw
    clear hSw
    (go_simp; try with_reducible rfl)
  simp only [List.setIfInBounds_toArray, List.set_cons_zero, List.set_cons_succ]
  refine wpAnyH_takeAt (i := 10) (d := 15) (v := ?vq8x) rfl rfl (by kernel_rfl) (by kernel_rfl) (by kernel_rfl) (fun _ _ _ h => h) (Or.inl ⟨by rfl, ?hyq8x⟩) hHeld ?_
  case hyq8x =>
    intro W hSw
    have r1 := (HR0.out.below hSw HR0.out.lt).cell 1; clear hSw
    (go_simp; try with_reducible rfl)
  simp only [List.setIfInBounds_toArray, List.set_cons_zero, List.set_cons_succ]
  refine wpAnyH_ready (rs := [8]) (by kernel_rfl) (by simp) (AllReadyH.cons rfl (fun K hK => ?_) AllReadyH.nil)
  go_simp
  refine (hat V0 hHeld).mono ?_
  rintro x wz ⟨rfl, rfl⟩
  dsimp only
  refine hK.out _ _ hHeld (fun hHeld => ?_)
  clear hK K
  try simp only [List.setIfInBounds_toArray, List.set_cons_zero, List.set_cons_succ]
  refine wpAnyH_takeAt (i := 11) (d := 16) (v := ?vq9x) rfl rfl (by kernel_rfl) (by kernel_rfl) (by kernel_rfl) (fun _ _ _ h => h) (Or.inl ⟨by rfl, ?hyq9x⟩) hHeld ?_
  case hyq9x =>
    intro W hSw
    clear hSw
    (go_simp; try with_reducible rfl)
  simp only [List.setIfInBounds_toArray, List.set_cons_zero, List.set_cons_succ]
  refine wpAnyH_takeAt (i := 12) (d := 17) (v := ?vq10x) rfl rfl (by kernel_rfl) (by kernel_rfl) (by kernel_rfl) (fun _ _ _ h => h) (Or.inl ⟨by rfl, ?hyq10x⟩) hHeld ?_
  case hyq10x =>
    intro W hSw
    clear hSw
    (go_simp; try with_reducible rfl)
  simp only [List.setIfInBounds_toArray, List.set_cons_zero, List.set_cons_succ]
  refine wpAnyH_takeAt (i := 13) (d := 18) (v := ?vq11x) rfl rfl (by kernel_rfl) (by kernel_rfl) (by kernel_rfl) (fun _ _ _ h => h) (Or.inl ⟨by rfl, ?hyq11x⟩) hHeld ?_
  case hyq11x =>
    intro W hSw
    clear hSw
    (go_simp; try with_reducible rfl)
  simp only [List.setIfInBounds_toArray, List.set_cons_zero, List.set_cons_succ]
  refine wpAnyH_takeAt (i := 14) (d := 19) (v := ?vq12x) rfl rfl (by kernel_rfl) (by kernel_rfl) (by kernel_rfl) (fun _ _ _ h => h) (Or.inl ⟨by rfl, ?hyq12x⟩) hHeld ?_
  case hyq12x =>
    intro W hSw
    clear hSw
    (go_simp; try with_reducible rfl)
  simp only [List.setIfInBounds_toArray, List.set_cons_zero, List.set_cons_succ]
  refine wpAnyH_takeAt (i := 16) (d := 21) (v := ?vq13x) rfl rfl (by kernel_rfl) (by kernel_rfl) (by kernel_rfl) (fun _ _ _ h => h) (Or.inl ⟨by rfl, ?hyq13x⟩) hHeld ?_
  case hyq13x =>
    intro W hSw
    clear hSw
    (go_simp; try with_reducible rfl)
  simp only [List.setIfInBounds_toArray, List.set_cons_zero, List.set_cons_succ]
  refine wpAnyH_takeAt (i := 17) (d := 22) (v := ?vq14x) rfl rfl (by kernel_rfl) (by kernel_rfl) (by kernel_rfl) (fun _ _ _ h => h) (Or.inl ⟨by rfl, ?hyq14x⟩) hHeld ?_
  case hyq14x =>
    intro W hSw
    have r2 := (HR0.out.below hSw HR0.out.lt).cell 2; clear hSw
    (go_simp; try with_reducible rfl)
  simp only [List.setIfInBounds_toArray, List.set_cons_zero, List.set_cons_succ]
  refine wpAnyH_ready (rs := [15]) (by kernel_rfl) (by simp) (AllReadyH.cons rfl (fun K hK => ?_) AllReadyH.nil)
  go_simp
  refine (hto V0 hHeld).mono ?_
  rintro x V1 ⟨v3, rfl, ho3, -, hb3⟩
  dsimp only
  have hHeld2 : Below w1.heap.size w1 V1 := hHeld.trans (hb3.mono hHeld.size)
  refine hK.out _ _ hHeld2 (fun hHeld => ?_)
  clear hK K
  obtain ⟨A3, c3, rfl, -⟩ := ints_form ho3
  try simp only [List.setIfInBounds_toArray, List.set_cons_zero, List.set_cons_succ]
  refine wpAnyH_ready (rs := [18]) (by kernel_rfl) (by simp) (AllReadyH.cons rfl (fun K hK => ?_) AllReadyH.nil)
  go_simp
  have hsa := sameI_any (c := c3) (d := d) (ho3.rd (X := No) (fun _ _ h => h)) (HVB.out.below hHeld) hV hV
  rw [decide_eq_true rfl] at hsa
  refine hsa.mono ?_
  rintro x V2 ⟨rfl, q, rfl⟩
  dsimp only
  refine hK.out _ _ (below_drewN hHeld q) (fun hHeld => ?_)
  clear hK K
  try simp only [List.setIfInBounds_toArray, List.set_cons_zero, List.set_cons_succ]
  refine wpAnyH_takeAt (i := 19) (d := 24) (v := ?vq15x) rfl rfl (by kernel_rfl) (by kernel_rfl) (by kernel_rfl) (fun _ _ _ h => h) (Or.inl ⟨by rfl, ?hyq15x⟩) hHeld ?_
  case hyq15x =>
    intro W hSw
    clear hSw
    (go_simp; try with_reducible rfl)
  simp only [List.setIfInBounds_toArray, List.set_cons_zero, List.set_cons_succ]
  refine wpAnyH_takeAt (i := 20) (d := 4) (v := ?vq16x) rfl rfl (by kernel_rfl) (by kernel_rfl) (by kernel_rfl) (fun _ _ _ h => h) (Or.inl ⟨by rfl, ?hyq16x⟩) hHeld ?_
  case hyq16x =>
    intro W hSw
    clear hSw
    (go_simp; try with_reducible rfl)
  simp only [List.setIfInBounds_toArray, List.set_cons_zero, List.set_cons_succ]
  refine wpAnyH_done (by kernel_rfl) ?_ _
  have HB9 := Lib.hid (HB0.out.trans (hHeld.mono HB0.out.size))
  clear hHeld hto hat hlen ho3 hsa hb3
  go_wp2_with fail
  go_ret
  exact ⟨rfl, HB9.out⟩
end
end Go.Proofs.YthcphoijanebhaaDoor
namespace Go.Proofs.YthcphoijanebhaaDoor
open Go.RowKit Go.Maps
set_option linter.unusedVariables false
section
variable {w w' : World} {n c : Nat} {A : Option Addr} {V : List Nat}
theorem OwnK.thereI (h : OwnK w 3 1 (.slice A n c) (intsOf V)) (hn : 0 < n) : ∃ g, A = some ⟨g, 0, none⟩ ∧ Value.ownBlock (.slice A n c) = some g ∧ g < w.heap.size ∧ w.there g 0 n := by
  obtain ⟨A', q, c', he, hq, _⟩ := h.form
  injection he with e1 e2 e3
  subst e1 e2 e3
  have hrd := h.rd (X := No) (fun _ _ h => h)
  rcases h.1.2 with ⟨he, h0⟩ | ⟨g, cap, cur, he, hg, hh, h1, h2, h3, h4⟩
  · rw [hq] at hn; omega
  · injection he with e1 e2 e3
    subst e1 e3
    refine ⟨g, rfl, rfl, lt_of_heap hh, fun j hj => ?_⟩
    obtain ⟨ad, e, -, -, hc⟩ := hrd.2.2 hn
    injection e with e
    subst e
    have hl : j < (flatA (intsOf V)).length := by rw [length_flatA h.2]; omega
    have := hc j _ (List.getElem?_eq_getElem hl)
    rw [Addr.add_mid] at this
    refine ⟨by rw [this]; rfl, ?_⟩
    simp [World.frozen?, hh]
theorem there_set {b n k : Nat} {v : Value} (h : w.there b 0 n) : (w.setCell ⟨b, k, none⟩ v).there b 0 n := World.there_setCells h b k [v]
end
end Go.Proofs.YthcphoijanebhaaDoor
namespace Go.Proofs.YthcphoijanebhaaDoor
open Go.RowKit Go.Maps
set_option linter.unusedVariables false
section
variable {w W W' : World} {S T Y : Nat → Prop} {r k m n c d e bw : Nat} {l : List Ent} {V V2 F : List Nat} {A B : Option Addr} {css : List (Array Value)} {x : Ending} {z er : Int} {k2 : Nat}
theorem Rd.turned (h : Rd W (fun x => S x ∨ Y x) e A n css) (ht : Turn S W W') (hT : ∀ x, T x → More S W W' x) : Rd W' (fun x => T x ∨ Y x) e A n css := by
  have h1 := h.keep ht (fun b _ q => .inl q)
  refine ⟨h1.1, h1.2.1, fun hn => ?_⟩
  obtain ⟨ad, e1, e2, e3, e4⟩ := h1.2.2 hn
  obtain ⟨ad', f1, f2, -, -⟩ := h.2.2 hn
  have hadd : ad = ad' := by rw [e1] at f1; injection f1
  subst hadd
  refine ⟨ad, e1, e2, fun q => ?_, e4⟩
  rcases q with q | q
  · rcases hT _ q with q | q
    · exact e3 (.inl q)
    · omega
  · exact e3 (.inr q)
theorem Blk.three {v1 v2 v3 : Value} (h : Blk W bw 40 #[v1, v2, v3]) : W.cell? ⟨bw, 0, none⟩ = some v1 ∧ W.cell? ⟨bw, 1, none⟩ = some v2 ∧ W.cell? ⟨bw, 2, none⟩ = some v3 := ⟨h.cell 0, h.cell 1, h.cell 2⟩
structure RS (w W : World) (S : Nat → Prop) (r : Nat) (l : List Ent) (k : Nat) (V : List Nat) (bw : Nat) (A : Option Addr) (n c : Nat) (B : Option Addr) (d : Nat) : Prop where
  rr : Rr W S r l k V
  lt : ∀ x, S x → w.heap.size ≤ x ∧ x < W.heap.size
  bs : ¬ S bw
  bg : w.heap.size ≤ bw
  blk : Blk W bw 40 #[.slice A n c, .int .i64 (k : Int), .slice B V.length d]
  rl : Rd W (fun x => S x ∨ x = bw) 6 A n (cellsOf l)
  nc : n ≤ c
  rv : Rd W (fun x => S x ∨ x = bw) 1 B V.length (intsOf V)
  bb : Below w.heap.size w W
  gd : GoodL l
  to : ToldIs l k V
theorem RS.low (h : RS w W S r l k V bw A n c B d) (hb : Below W.heap.size W W') : RS w W' S r l k V bw A n c B d :=
  ⟨h.rr.below hb, fun x hx => ⟨(h.lt x hx).1, Nat.lt_of_lt_of_le (h.lt x hx).2 hb.size⟩, h.bs, h.bg, h.blk.below hb h.blk.lt, h.rl.below hb, h.nc, h.rv.below hb, h.bb.trans (hb.mono h.bb.size), h.gd, h.to⟩
theorem RS.is (h : RS w W S r l k V bw A n c B d) (hn : n ≤ 1000000) : Calls Tryd.prog 26 #[.pointer (some ⟨r, 0, none⟩), .agg #[.slice A n c, .int .i64 (k : Int), .slice B V.length d]] W fun x w' => x = .returned (.bool true) ∧ Below W.heap.size W w' :=
  is_any h.rr h.rl h.rv hn (by have := h.to.len; have := h.rl.lenE; omega)
/-- How far a reader looks then, what it was told, what is told and the error. -/
def Out (l : List Ent) (k : Nat) (V : List Nat) (z : Int) (k2 : Nat) (V2 F : List Nat) (er : Int) : Prop :=
  ((z < 0 ∨ (l.length : Int) < z) ∧ er = 4 ∧ k2 = k ∧ V2 = V ∧ F = []) ∨ (0 ≤ z ∧ z ≤ (l.length : Int) ∧ z < (k : Int) ∧ er = 2 ∧ k2 = k ∧ V2 = V ∧ F = []) ∨
    ∃ m N : Nat, z = (m : Int) ∧ k ≤ m ∧ m ≤ l.length ∧ StN l m 0 N ∧ er = 0 ∧ k2 = m ∧ F = fresh V (vl l m 0 N) ∧ V2 = V ++ F
theorem Out.len (h : Out l k V z k2 V2 F er) : F.length ≤ l.length := by
  rcases h with ⟨-, -, -, -, rfl⟩ | ⟨-, -, -, -, -, -, rfl⟩ | ⟨m, N, -, -, h1, h2, -, -, rfl, -⟩
  · exact Nat.zero_le _
  · exact Nat.zero_le _
  · have := fresh_len V (vl l m 0 N)
    have := vl_len l m 0 N
    have := h2.le
    omega
/-- The document's To, its three ways as one. -/
theorem RToP.out {X : Nat → Prop} (h : RToP W X A B n c k d l V z x W') (hn : l.length = n) (hV : Rd W X 1 B V.length (intsOf V)) (hX : ∀ x, X x → x < W.heap.size) :
    ∃ (k2 : Nat) (V2 : List Nat) (B2 : Option Addr) (d2 : Nat) (At : Option Addr) (ct : Nat) (F : List Nat) (er : Int), x = .returned (.tuple #[.agg #[.slice A n c, .int .i64 (k2 : Int), .slice B2 V2.length d2], .slice At F.length ct, .int .i64 er]) ∧ Rd W' X 1 At F.length (intsOf F) ∧ Rd W' X 1 B2 V2.length (intsOf V2) ∧ Out l k V z k2 V2 F er ∧ Below W.heap.size W W' := by
  obtain ⟨hb, h | h | h⟩ := h
  · exact ⟨k, V, B, d, none, 0, [], 4, h.2, Rd.none_, hV.below hb, .inl ⟨by rw [hn]; exact h.1, rfl, rfl, rfl, rfl⟩, hb⟩
  · exact ⟨k, V, B, d, none, 0, [], 2, h.2.2.2, Rd.none_, hV.below hb, .inr (.inl ⟨h.1, by rw [hn]; exact h.2.1, h.2.2.1, rfl, rfl, rfl, rfl⟩), hb⟩
  · obtain ⟨m, N, rfl, h1, h2, h3, v, B2, d2, rfl, ho, hv, hr⟩ := h
    obtain ⟨At, ct, rfl, -⟩ := ints_form ho
    exact ⟨m, V ++ fresh V (vl l m 0 N), B2, d2, At, ct, fresh V (vl l m 0 N), 0, rfl, ho.rd (fun g hg hx => by have := hv g hg; have := hX g hx; omega), hr, .inr (.inr ⟨m, N, rfl, h1, by omega, h3, rfl, rfl, rfl, rfl⟩), hb⟩
/-- The reader's To, its three ways as one, told what the document's answers. -/
theorem to_both (hP : ReadP W S r l k V z x W') (hO : Out l k V z k2 V2 F er) (hto : ToldIs l k V) (hf : Fine9 l) :
    ∃ T g, x = .returned (.tuple #[g, .int .i64 er]) ∧ OwnK W' 3 1 g (intsOf F) ∧ (∀ b, g.ownBlock = some b → W.heap.size ≤ b ∧ ¬ T b) ∧ Rr W' T r l k2 V2 ∧ (∀ x, T x → More S W W' x) ∧ Turn S W W' ∧ ToldIs l k2 V2 := by
  rcases hO with ⟨hz, rfl, rfl, rfl, rfl⟩ | ⟨hz0, hz1, hz2, rfl, rfl, rfl, rfl⟩ | ⟨m, N, rfl, hkm, hm, hN, rfl, rfl, rfl, rfl⟩
  · rcases hP with ⟨-, rfl, hr, hb⟩ | ⟨h1, h2, -⟩ | ⟨m, N, h1, -, h2, -⟩
    · exact ⟨S, .slice none 0 0, rfl, OwnK.nil _ _ _, fun b q => (nomatch q), hr, fun x q => .inl q, Turn.of_below hb S, hto⟩
    · omega
    · omega
  · rcases hP with ⟨h1, -⟩ | ⟨-, -, -, rfl, hr, hb⟩ | ⟨m, N, h1, h3, h2, -⟩
    · omega
    · exact ⟨S, .slice none 0 0, rfl, OwnK.nil _ _ _, fun b q => (nomatch q), hr, fun x q => .inl q, Turn.of_below hb S, hto⟩
    · omega
  · rcases hP with ⟨h1, -⟩ | ⟨-, -, h1, -⟩ | ⟨m', M, h1, h3, h2, hM, v, T, rfl, ho, hv, hr, hT, ht⟩
    · omega
    · omega
    · obtain rfl : k2 = m' := by omega
      have hF : fresh V (vl l k2 0 N) = vl l k2 (nextV V) M := hto.fresh hf hkm hN hM
      rw [hF]
      exact ⟨T, v, rfl, ho, hv, hr, hT, ht, hto.to hf hkm hm hM⟩
theorem rpush1_is {l : List Ent} (e : Ent) (h : AllR l) : rpush1 l e = push1 l e := by
  unfold rpush1
  rw [push1_is, push_doc h]
end
end Go.Proofs.YthcphoijanebhaaDoor
