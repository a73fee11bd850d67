/-
  What an iterator over places hands on, collected in a row. Conditions: at most 1000000 of them.
-/
import Derived.Test.YthcphoijanebhaaDoorVis9
namespace Go.Proofs.YthcphoijanebhaaDoor
open Go.RowKit Go.Shelf Go.Maps
set_option linter.unusedVariables false
attribute [local go_sem] Oper.semAt_some
theorem el24 : El 24 3 1 (.int .i64 0) 8 := ⟨Tryd.underlying24, by kernel_rfl, rfl, by omega, by omega⟩
theorem wpListIn_append_k {t e k by_ : Nat} {z : Value} (E : El t e k z by_) {F : Fence} {n : Nat} (w : World) {ops : Array Oper} {rest : List Oper} {o : Oper} {a : Act} {Q : Exit → Act → World → Prop} (hw : Region.wanted o (yielded ops a.tmps) = true) (s x : Operand)
    (ho : o.op = .call { callee := .builtin .append, args := #[s, x], argTypes := #[t, t] })
    (v : Value) (css : List (Array Value)) (hs : a.eval s = v) (hown : OwnK w e k v css) (X : Nat → Prop) (A : Option Addr) (m c : Nat) (kss : List (Array Value)) (hx : a.eval x = .slice A m c) (hr : Rd w X k A m kss)
    (hl : css.length ≤ 1000000000) (hm : m ≤ 1000000000)
    (h : ∀ v' w', OwnK w' e k v' (css ++ kss) → Grew v w v' w' → wpListIn F n Tryd.prog ops Q rest (a.put o.dst v') w') : wpListIn F n Tryd.prog ops Q (o :: rest) a w := by
  refine BigFrame.wpListIn_want hw fun K hK => ?_
  obtain ⟨v', w', hrun, h2, h3⟩ := run_append_k E w v css hown X A m c kss hr o.type hl hm
  unfold Oper.wpIn
  refine ⟨?_, ?_⟩
  · simp [Oper.about, ho, resolve, Target.leads, Sem.run_pure]
  · rw [Oper.semAt_plain F _ _ (by rw [ho]; intro c hc'; cases hc')]
    simp [execOp, ho, resolve, invoke, builtin, hs, hx, hrun, Result.andThen]
    exact hK _ _ (h v' w' h2 h3)
/-- Places, as elements of a row. -/
def intsOf (V : List Nat) : List (Array Value) := V.map fun (i : Nat) => #[.int .i64 (i : Int)]
/-- The collector's own blocks: where its row is told, and the row. -/
def Cs (bc : Nat) (W : World) (x : Nat) : Prop := x = bc ∨ ∃ v, W.cell? ⟨bc, 0, none⟩ = some v ∧ v.ownBlock = some x
/-- A row of places of our own. -/
def NewI (w : World) (V : List Nat) (r : Ending) (w' : World) : Prop := ∃ v, r = .returned v ∧ OwnK w' 3 1 v (intsOf V) ∧ (∀ b, v.ownBlock = some b → w.heap.size ≤ b) ∧ Below w.heap.size w w'
/-- Between two rounds. -/
def AsI (w : World) (B bc : Nat) (V : List Nat) (k : Nat) (A : World) : Prop := ∃ v, Blk A bc 24 #[v] ∧ OwnK A 3 1 v (intsOf (V.take k)) ∧ (∀ b, v.ownBlock = some b → B + 2 ≤ b) ∧ Below w.heap.size w A
theorem AsI.own {w : World} {B bc k : Nat} {V : List Nat} {A : World} (h : AsI w B bc V k A) {x : Nat} (hx : Cs bc A x) : x = bc ∨ (x < A.heap.size ∧ B + 2 ≤ x) := by
  obtain ⟨v, q1, q2, q3, q4⟩ := h
  rcases hx with e | ⟨v', h1, h2⟩
  · exact .inl e
  · have h3 : A.cell? ⟨bc, 0, none⟩ = some v := q1.cell 0
    rw [h3] at h1
    injection h1 with h1
    subst h1
    exact .inr ⟨q2.lt h2, q3 _ h2⟩
theorem asI_ab {w : World} {B bc : Nat} {V : List Nat} (hB : w.heap.size ≤ B) : ∀ k A A' T, AsI w B bc V k A → Turn T A A' → (∀ x, T x → B ≤ x ∧ ¬ Cs bc A x) → AsI w B bc V k A' ∧ ∀ x, Cs bc A' x → Cs bc A x := fun k A A' T h ht hT => by
  obtain ⟨v, q1, q2, q3, q4⟩ := h
  have h0 : A.cell? ⟨bc, 0, none⟩ = some v := q1.cell 0
  have hbT : ¬ T bc := fun q => (hT _ q).2 (.inl rfl)
  have k1 := q1.keep ht hbT
  refine ⟨⟨v, k1, q2.keep ht (fun b eb q => (hT _ q).2 (.inr ⟨v, h0, eb⟩)), q3, q4.trans (ht.below q4.size (fun x q => by have := (hT x q).1; omega))⟩, fun x hx => ?_⟩
  rcases hx with e | ⟨v', h1, h2⟩
  · exact .inl e
  · have h3 : A'.cell? ⟨bc, 0, none⟩ = some v := k1.cell 0
    rw [h3] at h1
    injection h1 with h1
    subst h1
    exact .inr ⟨v, h0, h2⟩
section
variable {w : World}
set_option maxRecDepth 100000 in
set_option maxHeartbeats 8000000 in
theorem appSeq_any (lb : Array Value) (V : List Nat) (hV : V.length ≤ 1000000) (hit : SeqC Fence.wide 3 Tryd.prog 54 lb (encV V) V.length (Cs w.heap.size) (w.alloc (.cells #[.slice none 0 0] 24))) : Calls Tryd.prog 52 #[.slice none 0 0, .func (.func 54) #[] lb] w (NewI w V) := by
  have HIT := Lib.hid hit
  clear hit
  have hb1 : Below w.heap.size w (w.alloc (.cells #[.slice none 0 0] 24)) := (Below.refl _ _).alloc (Nat.le_refl _) _
  have k1 : Blk (w.alloc (.cells #[.slice none 0 0] 24)) w.heap.size 24 #[.slice none 0 0] := Blk.new _ _ _
  have hI0 : AsI w (w.alloc (.cells #[.slice none 0 0] 24)).heap.size w.heap.size V 0 (w.alloc (.cells #[.slice none 0 0] 24)) := ⟨.slice none 0 0, k1, by rw [List.take_zero]; exact OwnK.nil _ _ _, fun b eb => (by cases eb), hb1⟩
  have HZ : Hid (w.heap.size < (w.alloc (.cells #[.slice none 0 0] 24)).heap.size) := Lib.hid k1.lt
  clear hb1 k1
  refine (callsIn_wide (n := 4)).1 ?_
  refine callsIn_of_wp_marks Tryd.func52 rfl trivial ?_ rfl
  simp only [Tryd.ntmps52, List.size_toArray, List.length_cons, List.length_nil, Nat.reduceAdd, Nat.reduceSub, Array.replicate_succ, Array.replicate_zero, List.push_toArray, List.append_toArray, List.nil_append, List.cons_append]
  gi_wp2_with fail
  generalize w.alloc (.cells #[.slice none 0 0] 24) = w1 at *
  obtain ⟨bc, hbc⟩ : ∃ bc, bc = w.heap.size := ⟨_, rfl⟩
  rw [← hbc] at hI0 HIT HZ ⊢
  have HBC := Lib.hid hbc
  clear hbc
  have hsz : w.heap.size ≤ w1.heap.size := by have := HZ.out; have := HBC.out; omega
  refine range_c rfl (by omega) (gf := 54) (lb := lb) rfl trivial (enters_of Tryd.func54 (by kernel_rfl) rfl) HIT.out (fun _ => rfl)
    (AsI w w1.heap.size bc V) (fun k A A' T h ht hT => asI_ab hsz k A A' T h ht hT)
    (fun k A h x hx => by
      have hb : bc < A.heap.size := by obtain ⟨v, q1, -⟩ := h; exact q1.lt
      rcases h.own hx with e | e
      · subst e; exact ⟨hb, .inl HZ.out⟩
      · exact ⟨e.1, .inr e.2⟩)
    hI0 (fun k => { tmps := #[.slice none 0 0, .func (.func 54) #[] lb, .pointer (some ⟨bc, 0, none⟩), undef, .slice none 0 0, .int .i64 ((V.getD k 0 : Nat) : Int), .func (.func 54) #[] lb, .int .i64 ((V.getD k 0 : Nat) : Int), undef, undef, undef, undef, undef], defers := [] }) ?assign ?body ?done
  case assign =>
    intro li k W K hk hK
    unfold encV
    generalize V.getD k 0 = q at *
    gi_wp2
    exact hK
  case body =>
    intro li k W hI hk hbB
    have hvk : V[k]? = some (V.getD k 0) := by rw [List.getD_eq_getElem?_getD, List.getElem?_eq_getElem hk]; rfl
    generalize V.getD k 0 = q at *
    have HTK : Hid (V.take (k + 1) = V.take k ++ [q]) := Lib.hid (by rw [List.take_add_one, hvk]; rfl)
    have htl : (V.take k).length ≤ 1000000 := by rw [List.length_take]; omega
    obtain ⟨v, q1, q2, q3, q4⟩ := hI
    obtain ⟨Av, nv, cv, rfl, hnv, -, -⟩ := q2.form
    generalize V.take k = pre at *
    have a0 : W.cell? ⟨bc, 0, none⟩ = some (.slice Av nv cv) := q1.cell 0
    have HQ := Lib.hid (And.intro q1 (And.intro q2 (And.intro q3 q4)))
    have HBB := Lib.hid hbB
    clear q1 q2 q3 q4 hvk hnv hbB
    try dsimp only
    gi_wp2_with (gi_at_builtin; refine stop ?_)
    obtain ⟨q1, q2, q3, q4⟩ := HQ.out
    refine Stop.go (wpListIn_append_k el24 _ (by rfl) _ _ (by rfl) (.slice Av nv cv) _ (by rfl) (OwnK.alloc q2 _) No _ 1 _ [#[.int .i64 (q : Int)]] (by rfl) (rd_one W 3 #[.int .i64 (q : Int)] rfl (by simp [Value.oneCell']) (fun h => h)) (by simp [intsOf]; omega) (by omega) ?_)
    intro v9 w9 ho9 hg9
    have hTA : Turn (fun b => Value.ownBlock (.slice Av nv cv) = some b) W w9 :=
      (turn_alloc W (.cells #[.int .i64 (q : Int)] 3) _).trans (hg9.turn (S := fun b => Value.ownBlock (.slice Av nv cv) = some b) (fun g e => e)) (fun _ _ e => e)
    have hv9 : ∀ b, v9.ownBlock = some b → Value.ownBlock (.slice Av nv cv) = some b ∨ W.heap.size ≤ b := fun b e => by
      rcases hg9.2 b e with h | h
      · exact .inl h
      · right; simp at h; omega
    have ho9' : OwnK w9 3 1 v9 (intsOf (pre ++ [q])) := by unfold intsOf at ho9 ⊢; rw [List.map_append]; exact ho9
    have hbcn : ¬ Value.ownBlock (.slice Av nv cv) = some bc := fun e => by have := q3 _ e; have := HZ.out; omega
    have r1 := q1.keep hTA hbcn
    have t3 : w9.cell? ⟨bc, 0, none⟩ = some (.slice Av nv cv) := r1.cell 0
    have z3 := r1.frozen 0
    obtain ⟨A9, n9, c9, rfl, -, -, -⟩ := ho9'.form
    have hTS : Turn (fun b => b = bc ∨ Value.ownBlock (.slice Av nv cv) = some b) W (w9.setCell ⟨bc, 0, none⟩ (.slice A9 n9 c9)) := (hTA.mono (fun b _ h => .inr h)).setCell (p := ⟨bc, 0, none⟩) (fun _ => .inl rfl) _
    have HT := Lib.hid hTS
    have HB9 := Lib.hid (r1.set_ 0 (.slice A9 n9 c9))
    have HO9 : Hid (OwnK (w9.setCell ⟨bc, 0, none⟩ (.slice A9 n9 c9)) 3 1 (.slice A9 n9 c9) (intsOf (pre ++ [q]))) := Lib.hid (ho9'.keepB fun b e => Below.heap_setCell w9 _ _ b (by
      show b ≠ bc
      rcases hv9 b e with h | h
      · exact fun e2 => hbcn (e2 ▸ h)
      · have := q1.lt; omega))
    have HV9 := Lib.hid hv9
    have HQQ := Lib.hid (And.intro q1 (And.intro q3 q4))
    clear ho9 hg9 hTA hv9 hTS q1 q2 q3 q4 a0 r1 ho9'
    gi_wp2
    obtain ⟨q1, q3, q4⟩ := HQQ.out
    have hzz := HZ.out
    have hbb := HBB.out
    have hbcw := HBC.out
    refine ⟨Both.of_turn HT.out (by omega) (fun e => ?_) (fun e => ?_), ⟨HT.out.size, fun x hx hn => HT.out.block x hx (fun e => hn ?_), fun x hx => ?_⟩, .slice A9 n9 c9, HB9.out, by rw [HTK.out]; exact HO9.out, fun b eb => ?_, q4.trans (HT.out.below q4.size (fun x e => ?_))⟩
    · rcases e with e | e
      · omega
      · have := q3 _ e; omega
    · rcases e with e | e
      · omega
      · have := q3 _ e; omega
    · rcases e with e | e
      · exact .inl e
      · exact .inr ⟨_, q1.cell 0, e⟩
    · rcases hx with e | ⟨v', h1, h2⟩
      · exact .inl (.inl e)
      · have h3 : (w9.setCell ⟨bc, 0, none⟩ (.slice A9 n9 c9)).cell? ⟨bc, 0, none⟩ = some (.slice A9 n9 c9) := HB9.out.cell 0
        rw [h3] at h1
        injection h1 with h1
        subst h1
        exact (HV9.out x h2).imp (fun h => .inr ⟨_, q1.cell 0, h⟩) id
    · rcases HV9.out b eb with h | h
      · exact q3 b h
      · omega
    · rcases e with e | e
      · omega
      · have := q3 _ e; omega
  case done =>
    intro W hI hK
    obtain ⟨v, q1, q2, q3, q4⟩ := hI
    rw [List.take_length] at q2
    obtain ⟨Av, nv, cv, rfl, -, -, -⟩ := q2.form
    have a0 : W.cell? ⟨bc, 0, none⟩ = some (.slice Av nv cv) := q1.cell 0
    have HF := Lib.hid (And.intro q2 (And.intro q3 (And.intro q4 hK)))
    clear q1 q2 q3 q4 hK
    gi_wp2_with fail
    obtain ⟨q2, q3, q4, hK⟩ := HF.out
    refine ⟨by simp, .inl ⟨_, _, rfl, run_takeDeferred hK, ?_⟩⟩
    have hTp : Turn (fun x => x = w1.heap.size) W (W.putObj w1.heap.size (.deferred none)) := turn_putObj _ _ _ rfl
    exact ⟨.slice Av nv cv, by simp [results, Tryd.results52, go_sem], _, rfl, q2.keep hTp (fun b eb e => by have := q3 b eb; omega), fun b eb => by have := q3 b eb; omega, q4.trans (hTp.below q4.size (fun x e => by omega))⟩
theorem collect_any (lb : Array Value) (V : List Nat) (hV : V.length ≤ 1000000) (hit : SeqC Fence.wide 3 Tryd.prog 54 lb (encV V) V.length (Cs w.heap.size) (w.alloc (.cells #[.slice none 0 0] 24))) : Calls Tryd.prog 34 #[.func (.func 54) #[] lb] w (NewI w V) := by
  have hap := appSeq_any lb V hV hit
  clear hit
  go_enter Tryd.func34, Tryd.ntmps34
  go_wp2_with fail
  refine hap.mono ?_
  rintro r w1 ⟨v, rfl, ho, hv, hb⟩
  have HF := Lib.hid (And.intro ho (And.intro hv hb))
  clear ho hv hb hap
  go_wp2_with fail
  go_ret
  exact ⟨v, rfl, HF.out⟩
end
end Go.Proofs.YthcphoijanebhaaDoor
