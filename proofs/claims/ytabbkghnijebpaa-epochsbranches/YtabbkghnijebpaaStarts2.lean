/-
  What Starts answers. Conditions: bounds.
-/
import Derived.Test.YtabbkghnijebpaaStarts
namespace Go.Proofs.Ytabbkghnijebpaa
open Go.RowKit Go.Shelf
attribute [local go_sem] Oper.semAt_some
/-- Between two rounds: the first k starts are collected. -/
def Coll (w : World) (B bx : Nat) (E : Nat → Int) (ss : List Nat) (k : Nat) (W : World) : Prop :=
  ∃ v, Blk W bx 28 #[v] ∧ OwnS W v E (ss.take k) ∧ (∀ g, v.ownBlock = some g → B + 2 ≤ g) ∧ Below w.heap.size w W
theorem coll_abide {w : World} {B bx : Nat} {E : Nat → Int} {ss : List Nat} (hb : bx < B) (hB : w.heap.size ≤ B) : AbideB B (Coll w B bx E ss) := fun k A A' h ht => by
  obtain ⟨v, h1, h2, h3, h4⟩ := h
  refine ⟨v, h1.keep ht (fun e => by rcases e with e | e <;> omega), OwnK.keep h2 ht (fun g e hx => by have := h3 g e; rcases hx with hx | hx <;> omega), h3, h4.trans (ht.below h4.size (fun b e => by rcases e with e | e <;> omega))⟩
theorem OwnS.form {w : World} {v : Value} {E : Nat → Int} {l : List Nat} (h : OwnS w v E l) : ∃ A c, v = .slice A l.length c ∧ l.length ≤ c ∧ c ≤ maxLen := by
  obtain ⟨A, q, c, e, hq, h1, h2⟩ := OwnK.form h
  simp at hq
  subst hq
  exact ⟨A, c, e, h1, h2⟩
theorem OwnS.snoc {w : World} {v : Value} {E : Nat → Int} {l : List Nat} {i : Nat} (h : OwnK w 63 2 v (l.map (stA E) ++ [stA E i])) : OwnS w v E (l ++ [i]) := by
  unfold OwnS
  rw [List.map_append]
  exact h
/-- What is known behind Starts. -/
def NewSts (w : World) (E : Nat → Int) (l : List Nat) (er : Int) (e : Ending) (w' : World) : Prop := ∃ A c, e = .returned (.tuple #[.slice A l.length c, .int .i64 er]) ∧ Sts w' (fun b => b < w.heap.size) A l.length E l ∧ l.length ≤ c ∧ c ≤ maxLen ∧ Below w.heap.size w w'
theorem OwnS.sts {w : World} {X : Nat → Prop} {A : Option Addr} {n c : Nat} {E : Nat → Int} {l : List Nat} (h : OwnS w (.slice A n c) E l) (hX : ∀ g, Value.ownBlock (.slice A n c) = some g → ¬ X g) : Sts w X A n E l := OwnK.rd h hX
theorem wpListIn_append_k {t e k by_ : Nat} {z : Value} (E : El t e k z by_) {F : Fence} {n : Nat} (w : World) {ops : Array Oper} {rest : List Oper} {o : Oper} {a : Act} {Q : Exit → Act → World → Prop} (hw : Region.wanted o (yielded ops a.tmps) = true) (s x : Operand)
    (ho : o.op = .call { callee := .builtin .append, args := #[s, x], argTypes := #[t, t] })
    (v : Value) (css : List (Array Value)) (hs : a.eval s = v) (hown : OwnK w e k v css) (X : Nat → Prop) (A : Option Addr) (m c : Nat) (kss : List (Array Value)) (hx : a.eval x = .slice A m c) (hr : Rd w X k A m kss)
    (hl : css.length ≤ 1000000000) (hm : m ≤ 1000000000)
    (h : ∀ v' w', OwnK w' e k v' (css ++ kss) → Grew v w v' w' → wpListIn F n Try.prog ops Q rest (a.put o.dst v') w') : wpListIn F n Try.prog ops Q (o :: rest) a w := by
  refine BigFrame.wpListIn_want hw fun K hK => ?_
  obtain ⟨v', w', hrun, h2, h3⟩ := run_append_k E w v css hown X A m c kss hr o.type hl hm
  unfold Oper.wpIn
  refine ⟨?_, ?_⟩
  · simp [Oper.about, ho, resolve, Target.leads, Sem.run_pure]
  · rw [Oper.semAt_plain F _ _ (by rw [ho]; intro c hc'; cases hc')]
    simp [execOp, ho, resolve, invoke, builtin, hs, hx, hrun, Result.andThen]
    exact hK _ _ (h v' w' h2 h3)
set_option maxRecDepth 100000 in
set_option maxHeartbeats 4000000 in
theorem Starts_yes {w : World} {X : Nat → Prop} {A : Option Addr} {n c : Nat} {f : Nat → Int × Int} (h : Lg w X A n f) (hm : May (fun i => (f i).1) n) :
    Calls Try.prog 12 #[.slice A n c] w (NewSts w (fun i => (f i).1) (starts (fun i => (f i).1) n) 0) := by
  have hn : n ≤ 4096 := hm.1
  have hcall := asked_any (c := c) h (by omega) 0 0
  rw [ask_yes ⟨by omega, by omega, hm⟩] at hcall
  have HH := Lib.hid h
  have HG := Lib.hid hm.2
  have HAD : Hid (0 < n → ∀ ad, A = some ad → ad.block < w.heap.size) := Lib.hid (fun h0 ad e => by
    obtain ⟨ad', e', hb, _⟩ := h.2.2 h0
    rw [e] at e'
    injection e' with e'
    subst e'
    exact hb)
  clear h hm
  refine (callsIn_wide (n := 3)).1 ?_
  refine callsIn_of_wp_marks Try.func12 rfl trivial ?_ rfl
  simp only [Try.ntmps12, List.size_toArray, List.length_cons, List.length_nil, Nat.reduceAdd, Nat.reduceSub, Array.replicate_succ, Array.replicate_zero, List.push_toArray, List.append_toArray, List.nil_append, List.cons_append]
  gi_wp2_with fail
  refine ⟨trivial, (callsIn_wide.2 hcall).mono ?_⟩
  rintro e w1 ⟨rfl, hb1⟩
  have hbA : Below w1.heap.size w1 (w1.alloc (.cells #[.slice none 0 0] 28)) := (Below.refl _ _).alloc (Nat.le_refl _) _
  have hk1 : Blk (w1.alloc (.cells #[.slice none 0 0] 28)) w1.heap.size 28 #[.slice none 0 0] := Blk.new _ _ _
  have hz1 : (w1.alloc (.cells #[.slice none 0 0] 28)).heap.size = w1.heap.size + 1 := by simp
  gi_wp2_with fail
  generalize w1.alloc (.cells #[.slice none 0 0] 28) = w2 at *
  refine ⟨trivial, (callsIn_wide.2 (starts_iter A n c w2)).mono ?_⟩
  rintro e w3 ⟨rfl, hw3⟩
  have hb3 : Below w2.heap.size w2 w3 := by rw [← hw3]; exact (Below.refl _ _).alloc (Nat.le_refl _) _
  have hx3' : w3.cell? ⟨w2.heap.size, 0, none⟩ = some (.slice A n c) := by rw [← hw3]; exact (Blk.new _ _ _).cell 0
  have hx3 : w3.cell? ⟨w1.heap.size + 1, 0, none⟩ = some (.slice A n c) := by rw [← hz1]; exact hx3'
  have hz3 : w2.heap.size < w3.heap.size := by rw [← hw3]; simp
  have hk3 := hk1.below hb3 hk1.lt
  have hbw : Below w.heap.size w w3 := (hb1.trans (hbA.mono hb1.size)).trans (hb3.mono (by have := hb1.size; omega))
  have hl3 : Lg w3 X A n f := HH.out.below hbw
  clear hw3 hx3'
  gi_wp2_with fail
  refine range_n rfl (by omega) (gf := 33) (lb := #[.pointer (some ⟨w1.heap.size + 1, 0, none⟩)]) rfl trivial (enters_of Try.func33 (by kernel_rfl) rfl)
    (iter_in (3 - 1) (by omega) (w1.heap.size + 1) A n c f w3 hx3 hl3 HG.out (by omega) w.heap.size HAD.out)
    (fun h h' => ⟨Nat.le_trans h.1 h'.1, fun r e hb => (h'.2 r e hb).trans (h.2 r e hb)⟩)
    (fun W W' ht hz => ⟨ht.size, fun r e hb => ht.block r.block (by have := hbw.size; omega) (fun e' => by have := hbw.size; rcases e' with e' | e' <;> omega)⟩) (fun _ => rfl)
    (Coll w w3.heap.size w1.heap.size (fun i => (f i).1) (starts (fun i => (f i).1) n)) (fun _ _ _ => False) (coll_abide (by omega) (by have := hbw.size; omega)) (fun _ _ _ _ h _ => h)
    ⟨.slice none 0 0, hk3, OwnK.nil _ 63 2, fun g e => (by cases e), hbw⟩ (fun k => .cells (stA (fun i => (f i).1) ((starts (fun i => (f i).1) n).getD k 0)) 63)
    (fun k b => { tmps := #[.slice A n c, undef, .slice none 0 0, .int .i64 0, .int .i64 0, .pointer (some ⟨w1.heap.size, 0, none⟩), .pointer (some ⟨b, 0, none⟩), .slice A n c, .int .i64 0, .int .i64 0, .bool false, undef, .slice A n c, .func (.func 33) #[] #[.pointer (some ⟨w1.heap.size + 1, 0, none⟩)], .agg (stA (fun i => (f i).1) ((starts (fun i => (f i).1) n).getD k 0)), undef, undef, undef, undef, undef], defers := [] }) ?assign ?body ?done ?stop
  case assign =>
    intro l k W K hk hK
    unfold encS
    unfold stA at *
    generalize (starts (fun i => (f i).1) n).getD k 0 = i at *
    gi_wp2
    exact hK
  case body =>
    intro l k W0 W hI0 hk hob hbB hTW
    have hgi : (starts (fun i => (f i).1) n)[k]? = some ((starts (fun i => (f i).1) n).getD k 0) := by
      rw [List.getD_eq_getElem?_getD, List.getElem?_eq_getElem hk]; rfl
    have hlen := starts_len (fun i => (f i).1) n
    have hI := coll_abide (w := w) (B := w3.heap.size) (bx := w1.heap.size) (E := fun i => (f i).1) (ss := starts (fun i => (f i).1) n) (by omega) (by have := hbw.size; omega) k W0 W hI0 hTW
    generalize (starts (fun i => (f i).1) n).getD k 0 = i at *
    have HTK : Hid ((starts (fun i => (f i).1) n).take (k + 1) = (starts (fun i => (f i).1) n).take k ++ [i]) := Lib.hid (by rw [List.take_add_one, hgi]; rfl)
    have htl : ((starts (fun i => (f i).1) n).take k).length ≤ 4096 := by rw [List.length_take]; omega
    have hsb : Blk W W0.heap.size 63 (stA (fun i => (f i).1) i) := hob
    obtain ⟨v, q1, q2, q3, q4⟩ := hI
    obtain ⟨Av, cv, rfl, hv1, hv2⟩ := q2.form
    have m0 : W.cell? ⟨w1.heap.size, 0, none⟩ = some (.slice Av ((starts (fun i => (f i).1) n).take k).length cv) := q1.cell 0
    have s0 : W.cell? ⟨W0.heap.size, 0, none⟩ = some (.int .i64 (f i).1) := hsb.cell 0
    have s1 : W.cell? ⟨W0.heap.size, 1, none⟩ = some (.int .i64 (i : Int)) := hsb.cell 1
    have hsz := hsb.lt
    have hbW := q1.lt
    have HQ := Lib.hid (And.intro q1 (And.intro q2 (And.intro q3 q4)))
    generalize ((starts (fun i => (f i).1) n).take k) = pre at *
    clear q1 q2 q3 q4 hob hsb hI0 hTW hgi hlen
    try dsimp only
    unfold stA
    gi_wp2_with (gi_at_builtin; refine stop ?_)
    obtain ⟨q1, q2, q3, q4⟩ := HQ.out
    refine Stop.go (wpListIn_append_k el28 _ (by rfl) _ _ (by rfl) (.slice Av pre.length cv) _ (by rfl) (OwnK.alloc q2 _) No _ 1 _ [stA (fun i => (f i).1) i] (by rfl) (rd_one W 63 (stA (fun i => (f i).1) i) rfl (by simp [stA, Value.oneCell']) (fun h => h)) (by simp; omega) (by omega) ?_)
    intro v9 w9 ho9 hg9
    have hTA : Turn (fun b => b = w1.heap.size ∨ Value.ownBlock (.slice Av pre.length cv) = some b) W w9 :=
      (turn_alloc W (.cells (stA (fun i => (f i).1) i) 63) _).trans (hg9.turn (S := fun b => b = w1.heap.size ∨ Value.ownBlock (.slice Av pre.length cv) = some b) (fun g e => .inr e)) (fun _ _ e => e)
    have hv9 : ∀ g, v9.ownBlock = some g → w3.heap.size + 2 ≤ g := fun g e => by
      rcases hg9.2 g e with h | h
      · exact q3 g h
      · have h' : W.heap.size < g := by simp at h; omega
        omega
    have hb9 : Blk w9 w1.heap.size 28 #[.slice Av pre.length cv] := (q1.alloc _).keep (hg9.turn (S := fun b => Value.ownBlock (.slice Av pre.length cv) = some b) (fun g e => e)) (fun e => by have := q3 _ e; omega)
    obtain ⟨A9, c9, hv9e, -, -⟩ := (OwnS.snoc ho9).form
    generalize (pre ++ [i]).length = q9 at hv9e
    subst hv9e
    have t0 : w9.cell? ⟨w1.heap.size, 0, none⟩ = some (.slice Av pre.length cv) := hb9.cell 0
    have z0 := hb9.frozen 0
    have hTS : Turn (fun b => b = w1.heap.size ∨ Value.ownBlock (.slice Av pre.length cv) = some b) W (w9.setCell ⟨w1.heap.size, 0, none⟩ (.slice A9 q9 c9)) := hTA.setCell (p := ⟨w1.heap.size, 0, none⟩) (fun _ => .inl rfl) _
    have HB9 := Lib.hid (hb9.set_ 0 (.slice A9 q9 c9))
    have HO9 : Hid (OwnS (w9.setCell ⟨w1.heap.size, 0, none⟩ (.slice A9 q9 c9)) (.slice A9 q9 c9) (fun i => (f i).1) (pre ++ [i])) := Lib.hid (OwnK.keepB (OwnS.snoc ho9) (fun g e => Below.heap_setCell w9 ⟨w1.heap.size, 0, none⟩ _ g (by show g ≠ w1.heap.size; have := hv9 g e; omega)))
    have HT := Lib.hid hTS
    have HV := Lib.hid hv9
    have HW := Lib.hid (q4.trans (hTS.below q4.size (fun b e => by
      have h1 := hb1.size
      rcases e with e | e
      · omega
      · have := q3 b e; omega)))
    have HQ3 := Lib.hid q3
    clear ho9 hg9 hTA hv9 hb9 hTS q1 q2 q3 q4 m0 s0 s1
    gi_wp2
    refine ⟨Both.of_turn HT.out (by omega) (fun e => ?_) (fun e => ?_), ⟨HT.out.size, fun ad e hb => HT.out.block ad.block (by have := hbw.size; omega) (fun e => ?_)⟩, .slice A9 q9 c9, HB9.out, by rw [HTK.out]; exact HO9.out, HV.out, HW.out⟩
    · rcases e with e | e
      · omega
      · have := HQ3.out _ e; omega
    · rcases e with e | e
      · omega
      · have := HQ3.out _ e; omega
    · have h1 := hb1.size
      rcases e with e | e
      · omega
      · have := HQ3.out _ e; omega
  case done =>
    intro W hI hK
    obtain ⟨v, q1, q2, q3, q4⟩ := hI
    rw [List.take_length] at q2
    obtain ⟨Av, cv, rfl, hv1, hv2⟩ := q2.form
    have m0 : W.cell? ⟨w1.heap.size, 0, none⟩ = some (.slice Av (starts (fun i => (f i).1) n).length cv) := q1.cell 0
    have hT : Turn (two w3.heap.size) W (W.putObj w3.heap.size (.deferred none)) := turn_putObj _ _ _ (.inl rfl)
    have HS : Hid (Sts (W.putObj w3.heap.size (.deferred none)) (fun b => b < w.heap.size) Av (starts (fun i => (f i).1) n).length (fun i => (f i).1) (starts (fun i => (f i).1) n)) := Lib.hid ((OwnK.keep q2 hT (fun g e hx => by have := q3 g e; rcases hx with hx | hx <;> omega)).rd (fun g e hx => by have := q3 g e; have := hbw.size; omega))
    have HBW : Hid (Below w.heap.size w (W.putObj w3.heap.size (.deferred none))) := Lib.hid (q4.trans (hT.below q4.size (fun b e => by have := hbw.size; rcases e with e | e <;> omega)))
    clear q1 q2 q3 q4 hT
    gi_wp2_with fail
    generalize hW2 : W.putObj w3.heap.size (.deferred none) = W2 at *
    refine ⟨by simp, .inl ⟨_, _, rfl, run_takeDeferred hK, ?_⟩⟩
    rw [hW2]
    refine ⟨_, results_tmp2 rfl _ _ _, Av, cv, rfl, HS.out, hv1, hv2, HBW.out⟩
  case stop => exact fun _ _ _ _ h => h.elim
set_option maxRecDepth 100000 in
set_option maxHeartbeats 4000000 in
theorem Starts_no {w : World} {X : Nat → Prop} {A : Option Addr} {n c : Nat} {f : Nat → Int × Int} (h : Lg w X A n f) (hn : n ≤ 1000000000) (hm : ¬ May (fun i => (f i).1) n) :
    Calls Try.prog 12 #[.slice A n c] w fun e w' => e = .returned (.tuple #[.slice none 0 0, .int .i64 2]) ∧ Below w.heap.size w w' := by
  have hcall := asked_any (c := c) h hn 0 0
  rw [ask_no (fun h => hm h.2.2)] at hcall
  clear h hm
  go_enter Try.func12, Try.ntmps12
  go_wp2_with fail
  refine hcall.mono ?_
  rintro e w1 ⟨rfl, hb1⟩
  go_wp2_with fail
  go_ret2
  exact ⟨rfl, hb1⟩
end Go.Proofs.Ytabbkghnijebpaa
