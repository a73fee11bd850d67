/-
  net.doPicked, Peek, Take, Dup, Drop. Conditions: bounds.
-/
import Derived.Test.YticabfmjdjcfnaaDeed
namespace Go.Proofs.Yticabfmjdjcfnaa
open Go.RowKit
/-- What a deed tells and leaves, behind all that went ahead of it. -/
def Did (w : World) (S : Nat → Prop) (R : Value → Int → Int → World → World → Prop) (e : Ending) (w2 : World) : Prop :=
  ∃ cs a b, e = .returned (.tuple #[.agg cs, .int .i64 a, .int .i64 b]) ∧ cs.size = 3 ∧ cs.all (·.oneCell') = true ∧ Turn S w w2 ∧ R (.agg cs) a b w w2
/-- The same, through doPicked. -/
def Did2 (w : World) (R : Value → Int → Int → World → World → Prop) (e : Ending) (w' : World) : Prop :=
  ∃ cs a b w1 w2, e = .returned (.tuple #[.agg cs, .int .i64 a, .int .i64 b]) ∧ cs.size = 3 ∧ cs.all (·.oneCell') = true ∧ Below w.heap.size w w1 ∧ w.heap.size < w1.heap.size ∧ R (.agg cs) a b w1 w2 ∧ w2.grownBy w' (some w.heap.size)
theorem nat_beq_false {n : Nat} (h : 1 ≤ n) : ((n : Int) == 0) = false := by rw [beq_eq_false_iff_ne]; omega
set_option maxRecDepth 100000 in
set_option maxHeartbeats 4000000 in
theorem doPicked_none {w : World} {S : Nat → Prop} {g mb : Nat} {s : St} (h : NtAt w S g s mb) (k : Int) (d : Value) (hl : s.l.length = 0) :
    Calls Try.prog 42 #[.pointer (some ⟨g, 0, none⟩), .int .i64 k, d] w fun e w' => e = .returned (.tuple #[zMsg, .int .i64 0, .int .i64 5]) ∧ Below w.heap.size w w' := by
  have k0 : Blk (w.alloc (.cells #[.int .i64 0, .int .i64 0, .slice none 0 0] 39)) w.heap.size 39 #[.int .i64 0, .int .i64 0, .slice none 0 0] := Blk.new _ _ _
  have hb1 : Below w.heap.size w (w.alloc (.cells #[.int .i64 0, .int .i64 0, .slice none 0 0] 39)) := (Below.refl _ _).alloc (Nat.le_refl _) _
  have h1 := h.below hb1
  have hlen : ∀ ty, (Builtin.len_ #[69] ty #[.map (some mb)]).run Try.prog (w.alloc (.cells #[.int .i64 0, .int .i64 0, .slice none 0 0] 39)) = .ok (.int .i64 0) (w.alloc (.cells #[.int .i64 0, .int .i64 0, .slice none 0 0] 39)) := fun ty => by have := h1.map.len_ ty; rw [hl] at this; exact this
  clear h hl
  obtain ⟨c0, c1, c2⟩ := h1.blk.three
  go_enter Try.func42, Try.ntmps42
  go_wp2_with fail
  generalize w.alloc (.cells #[.int .i64 0, .int .i64 0, .slice none 0 0] 39) = w1 at *
  refine (made_net h1).mono ?_
  rintro e w' ⟨rfl, rfl⟩
  go_wp2_with (with_reducible refine at_store 39 rfl ?_)
  refine Stop.go (wpList_store_blk (by rfl) (by rfl) 39 _ _ (by rfl) w.heap.size _ #[.int .i64 0, .int .i64 0, .slice none 0 0] (by rfl) (by rfl) 39 k0 (by rfl) (info39 _ rfl) (by simp [Value.oneCell']) ?_)
  intro w3 f3 g3 s3
  clear s3
  go_wp2_with fail
  refine bodyPost_ret (v := .tuple #[zMsg, .int .i64 0, .int .i64 5]) (results_ctt (by rfl) _ _ w.heap.size 39 _ (0, 0) _ (by rfl) f3 Try.underlying39 (by rfl) (info39 _ rfl) (by rfl) (by rfl)) rfl ?_
  exact ⟨rfl, below_grown hb1 g3 (Nat.le_refl _) (Nat.le_refl _)⟩
theorem pick_nth {s : St} (k : Int) (h : 1 ≤ s.l.length) : ∃ p, s.l[pick k s.l.length]? = some p := ⟨s.l[pick k s.l.length]'(pick_lt k (by omega)), List.getElem?_eq_getElem _⟩
set_option maxRecDepth 100000 in
set_option maxHeartbeats 4000000 in
theorem doPicked_45 {w : World} {S : Nat → Prop} {g mb : Nat} {s : St} (h : NtAt w S g s mb) (k num : Int) (hl : 1 ≤ s.l.length) (hnum : (s.l.map (·.1))[pick k s.l.length]? = some num) (R : Value → Int → Int → World → World → Prop)
    (hd : ∀ w1, Below w.heap.size w w1 → Calls Try.prog 45 #[.pointer (some ⟨g, 0, none⟩), .int .i64 num] w1 (Did w1 S R)) :
    Calls Try.prog 42 #[.pointer (some ⟨g, 0, none⟩), .int .i64 k, .func (.func 45) #[] #[]] w (Did2 w R) := by
  have k0 : Blk (w.alloc (.cells #[.int .i64 0, .int .i64 0, .slice none 0 0] 39)) w.heap.size 39 #[.int .i64 0, .int .i64 0, .slice none 0 0] := Blk.new _ _ _
  have hb1 : Below w.heap.size w (w.alloc (.cells #[.int .i64 0, .int .i64 0, .slice none 0 0] 39)) := (Below.refl _ _).alloc (Nat.le_refl _) _
  have h1 := h.below hb1
  have hlen := h1.map.len_
  have h0 := nat_beq_false hl
  have hle := h.map.len
  have HSL := Lib.hid h.lt
  have HNUM := Lib.hid hnum
  clear h hnum
  obtain ⟨c0, c1, c2⟩ := h1.blk.three
  go_enter Try.func42, Try.ntmps42
  go_wp2_with fail
  generalize w.alloc (.cells #[.int .i64 0, .int .i64 0, .slice none 0 0] 39) = w1 at *
  refine (made_net h1).mono ?_
  rintro e w' ⟨rfl, rfl⟩
  go_wp2_with fail
  refine (numbers_any h1.map).mono ?_
  rintro e w2 ⟨v, rfl, ho, hnw, hb2⟩
  obtain ⟨A, q, c, rfl, hq, _⟩ := ho.form
  have HQ := Lib.hid hq
  have hq1 : q = s.l.length := by rw [hq, List.length_map]
  subst hq1
  clear hq
  have hz1 := hb1.size
  have hz2 := hb2.size
  go_wp2_with fail
  refine (picked_any k s.l.length w2 hl (by omega)).mono ?_
  rintro e w' ⟨rfl, rfl⟩
  have hpl := pick_lt k (n := s.l.length) (by omega)
  obtain ⟨r, rfl, hr, hcell⟩ := ho.at_ (i := pick k s.l.length) (by rw [List.length_map]; exact hpl)
  have hcell' : w2.cell? ⟨r, pick k s.l.length, none⟩ = some (.int .i64 num) := by
    rw [hcell]
    have := HNUM.out
    rw [List.getElem?_eq_getElem (by rw [List.length_map]; exact hpl)] at this
    injection this with this
    rw [this]
  have hcl : w2.cell? ((⟨r, 0, none⟩ : Addr).add (pick k s.l.length)) = some (.int .i64 num) := by
    have hadd : (⟨r, 0, none⟩ : Addr).add (pick k s.l.length) = ⟨r, pick k s.l.length, none⟩ := by unfold Addr.add; split <;> simp_all
    rw [hadd]; exact hcell'
  clear hcell
  have hpi : ((pick k s.l.length : Nat) : Int) < (s.l.length : Int) := by omega
  have hp0 : (0 : Int) ≤ ((pick k s.l.length : Nat) : Int) := by omega
  generalize pick k s.l.length = i at *
  go_wp2_with fail
  have hbw := hb1.trans (hb2.mono hz1)
  refine (hd w2 hbw).mono ?_
  rintro e w3 ⟨cs, a, b, rfl, hcs, hall, hT3, hR⟩
  have hlt := k0.lt
  have k3 := (k0.below hb2 k0.lt).keep hT3 (fun e => by have := HSL.out _ e; omega)
  go_wp2_with (with_reducible refine at_store 39 rfl ?_)
  refine Stop.go (wpList_store_blk (by rfl) (by rfl) 39 _ _ (by rfl) w.heap.size _ cs (by rfl) (by rfl) 39 k3 (by rw [hcs]; rfl) (info39 _ hcs) hall ?_)
  intro w4 f4 g4 s4
  clear s4
  go_wp2_with fail
  refine bodyPost_ret (v := .tuple #[.agg cs, .int .i64 a, .int .i64 b]) (results_ctt (by rfl) _ _ w.heap.size 39 _ (0, 0) _ (by rfl) f4 Try.underlying39 (by rfl) (info39 _ hcs) (by rfl) (by rfl)) rfl ?_
  exact ⟨cs, a, b, w2, w3, rfl, hcs, hall, hbw, by omega, hR, g4⟩
set_option maxRecDepth 100000 in
set_option maxHeartbeats 4000000 in
theorem doPicked_44 {w : World} {S : Nat → Prop} {g mb : Nat} {s : St} (h : NtAt w S g s mb) (k num : Int) (hl : 1 ≤ s.l.length) (hnum : (s.l.map (·.1))[pick k s.l.length]? = some num) (R : Value → Int → Int → World → World → Prop)
    (hd : ∀ w1, Below w.heap.size w w1 → Calls Try.prog 44 #[.pointer (some ⟨g, 0, none⟩), .int .i64 num] w1 (Did w1 S R)) :
    Calls Try.prog 42 #[.pointer (some ⟨g, 0, none⟩), .int .i64 k, .func (.func 44) #[] #[]] w (Did2 w R) := by
  have k0 : Blk (w.alloc (.cells #[.int .i64 0, .int .i64 0, .slice none 0 0] 39)) w.heap.size 39 #[.int .i64 0, .int .i64 0, .slice none 0 0] := Blk.new _ _ _
  have hb1 : Below w.heap.size w (w.alloc (.cells #[.int .i64 0, .int .i64 0, .slice none 0 0] 39)) := (Below.refl _ _).alloc (Nat.le_refl _) _
  have h1 := h.below hb1
  have hlen := h1.map.len_
  have h0 := nat_beq_false hl
  have hle := h.map.len
  have HSL := Lib.hid h.lt
  have HNUM := Lib.hid hnum
  clear h hnum
  obtain ⟨c0, c1, c2⟩ := h1.blk.three
  go_enter Try.func42, Try.ntmps42
  go_wp2_with fail
  generalize w.alloc (.cells #[.int .i64 0, .int .i64 0, .slice none 0 0] 39) = w1 at *
  refine (made_net h1).mono ?_
  rintro e w' ⟨rfl, rfl⟩
  go_wp2_with fail
  refine (numbers_any h1.map).mono ?_
  rintro e w2 ⟨v, rfl, ho, hnw, hb2⟩
  obtain ⟨A, q, c, rfl, hq, _⟩ := ho.form
  have HQ := Lib.hid hq
  have hq1 : q = s.l.length := by rw [hq, List.length_map]
  subst hq1
  clear hq
  have hz1 := hb1.size
  have hz2 := hb2.size
  go_wp2_with fail
  refine (picked_any k s.l.length w2 hl (by omega)).mono ?_
  rintro e w' ⟨rfl, rfl⟩
  have hpl := pick_lt k (n := s.l.length) (by omega)
  obtain ⟨r, rfl, hr, hcell⟩ := ho.at_ (i := pick k s.l.length) (by rw [List.length_map]; exact hpl)
  have hcell' : w2.cell? ⟨r, pick k s.l.length, none⟩ = some (.int .i64 num) := by
    rw [hcell]
    have := HNUM.out
    rw [List.getElem?_eq_getElem (by rw [List.length_map]; exact hpl)] at this
    injection this with this
    rw [this]
  have hcl : w2.cell? ((⟨r, 0, none⟩ : Addr).add (pick k s.l.length)) = some (.int .i64 num) := by
    have hadd : (⟨r, 0, none⟩ : Addr).add (pick k s.l.length) = ⟨r, pick k s.l.length, none⟩ := by unfold Addr.add; split <;> simp_all
    rw [hadd]; exact hcell'
  clear hcell
  have hpi : ((pick k s.l.length : Nat) : Int) < (s.l.length : Int) := by omega
  have hp0 : (0 : Int) ≤ ((pick k s.l.length : Nat) : Int) := by omega
  generalize pick k s.l.length = i at *
  go_wp2_with fail
  have hbw := hb1.trans (hb2.mono hz1)
  refine (hd w2 hbw).mono ?_
  rintro e w3 ⟨cs, a, b, rfl, hcs, hall, hT3, hR⟩
  have hlt := k0.lt
  have k3 := (k0.below hb2 k0.lt).keep hT3 (fun e => by have := HSL.out _ e; omega)
  go_wp2_with (with_reducible refine at_store 39 rfl ?_)
  refine Stop.go (wpList_store_blk (by rfl) (by rfl) 39 _ _ (by rfl) w.heap.size _ cs (by rfl) (by rfl) 39 k3 (by rw [hcs]; rfl) (info39 _ hcs) hall ?_)
  intro w4 f4 g4 s4
  clear s4
  go_wp2_with fail
  refine bodyPost_ret (v := .tuple #[.agg cs, .int .i64 a, .int .i64 b]) (results_ctt (by rfl) _ _ w.heap.size 39 _ (0, 0) _ (by rfl) f4 Try.underlying39 (by rfl) (info39 _ hcs) (by rfl) (by rfl)) rfl ?_
  exact ⟨cs, a, b, w2, w3, rfl, hcs, hall, hbw, by omega, hR, g4⟩
set_option maxRecDepth 100000 in
set_option maxHeartbeats 4000000 in
theorem doPicked_43 {w : World} {S : Nat → Prop} {g mb : Nat} {s : St} (h : NtAt w S g s mb) (k num : Int) (hl : 1 ≤ s.l.length) (hnum : (s.l.map (·.1))[pick k s.l.length]? = some num) (R : Value → Int → Int → World → World → Prop)
    (hd : ∀ w1, Below w.heap.size w w1 → Calls Try.prog 43 #[.pointer (some ⟨g, 0, none⟩), .int .i64 num] w1 (Did w1 S R)) :
    Calls Try.prog 42 #[.pointer (some ⟨g, 0, none⟩), .int .i64 k, .func (.func 43) #[] #[]] w (Did2 w R) := by
  have k0 : Blk (w.alloc (.cells #[.int .i64 0, .int .i64 0, .slice none 0 0] 39)) w.heap.size 39 #[.int .i64 0, .int .i64 0, .slice none 0 0] := Blk.new _ _ _
  have hb1 : Below w.heap.size w (w.alloc (.cells #[.int .i64 0, .int .i64 0, .slice none 0 0] 39)) := (Below.refl _ _).alloc (Nat.le_refl _) _
  have h1 := h.below hb1
  have hlen := h1.map.len_
  have h0 := nat_beq_false hl
  have hle := h.map.len
  have HSL := Lib.hid h.lt
  have HNUM := Lib.hid hnum
  clear h hnum
  obtain ⟨c0, c1, c2⟩ := h1.blk.three
  go_enter Try.func42, Try.ntmps42
  go_wp2_with fail
  generalize w.alloc (.cells #[.int .i64 0, .int .i64 0, .slice none 0 0] 39) = w1 at *
  refine (made_net h1).mono ?_
  rintro e w' ⟨rfl, rfl⟩
  go_wp2_with fail
  refine (numbers_any h1.map).mono ?_
  rintro e w2 ⟨v, rfl, ho, hnw, hb2⟩
  obtain ⟨A, q, c, rfl, hq, _⟩ := ho.form
  have HQ := Lib.hid hq
  have hq1 : q = s.l.length := by rw [hq, List.length_map]
  subst hq1
  clear hq
  have hz1 := hb1.size
  have hz2 := hb2.size
  go_wp2_with fail
  refine (picked_any k s.l.length w2 hl (by omega)).mono ?_
  rintro e w' ⟨rfl, rfl⟩
  have hpl := pick_lt k (n := s.l.length) (by omega)
  obtain ⟨r, rfl, hr, hcell⟩ := ho.at_ (i := pick k s.l.length) (by rw [List.length_map]; exact hpl)
  have hcell' : w2.cell? ⟨r, pick k s.l.length, none⟩ = some (.int .i64 num) := by
    rw [hcell]
    have := HNUM.out
    rw [List.getElem?_eq_getElem (by rw [List.length_map]; exact hpl)] at this
    injection this with this
    rw [this]
  have hcl : w2.cell? ((⟨r, 0, none⟩ : Addr).add (pick k s.l.length)) = some (.int .i64 num) := by
    have hadd : (⟨r, 0, none⟩ : Addr).add (pick k s.l.length) = ⟨r, pick k s.l.length, none⟩ := by unfold Addr.add; split <;> simp_all
    rw [hadd]; exact hcell'
  clear hcell
  have hpi : ((pick k s.l.length : Nat) : Int) < (s.l.length : Int) := by omega
  have hp0 : (0 : Int) ≤ ((pick k s.l.length : Nat) : Int) := by omega
  generalize pick k s.l.length = i at *
  go_wp2_with fail
  have hbw := hb1.trans (hb2.mono hz1)
  refine (hd w2 hbw).mono ?_
  rintro e w3 ⟨cs, a, b, rfl, hcs, hall, hT3, hR⟩
  have hlt := k0.lt
  have k3 := (k0.below hb2 k0.lt).keep hT3 (fun e => by have := HSL.out _ e; omega)
  go_wp2_with (with_reducible refine at_store 39 rfl ?_)
  refine Stop.go (wpList_store_blk (by rfl) (by rfl) 39 _ _ (by rfl) w.heap.size _ cs (by rfl) (by rfl) 39 k3 (by rw [hcs]; rfl) (info39 _ hcs) hall ?_)
  intro w4 f4 g4 s4
  clear s4
  go_wp2_with fail
  refine bodyPost_ret (v := .tuple #[.agg cs, .int .i64 a, .int .i64 b]) (results_ctt (by rfl) _ _ w.heap.size 39 _ (0, 0) _ (by rfl) f4 Try.underlying39 (by rfl) (info39 _ hcs) (by rfl) (by rfl)) rfl ?_
  exact ⟨cs, a, b, w2, w3, rfl, hcs, hall, hbw, by omega, hR, g4⟩
end Go.Proofs.Yticabfmjdjcfnaa
