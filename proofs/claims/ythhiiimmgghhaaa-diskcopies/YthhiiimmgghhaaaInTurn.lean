/-
  The iterator over what waits: each thing, with its number, one behind the other. Nothing is assumed.
-/
import Derived.Test.YthhiiimmgghhaaaTurns
import Derived.Test.YthhiiimmgghhaaaDo
import Derived.RecoverIn
import Derived.Laws.EntriesVeiled
namespace Go.Proofs.Ythhiiimmgghhaaa
open Go.RowKit Go.Shelf
attribute [local go_sem] Oper.semAt_some
theorem inTurn_any (g : Nat) (w : World) : Calls Try.prog 45 #[.pointer (some ⟨g, 0, none⟩)] w fun e w' => e = .returned (.func (.func 66) #[] #[.pointer (some ⟨w.heap.size, 0, none⟩)]) ∧ w.alloc (.cells #[.pointer (some ⟨g, 0, none⟩)] 22) = w' := by
  have hmf := mf
  go_enter Try.func45, Try.ntmps45
  go_wp2_with fail
  go_ret
  exact ⟨rfl, rfl⟩
theorem add_off (ad : Addr) (n : Nat) {j : Nat} (hj : 0 < j) : (⟨(ad.add n).block, (ad.add n).off + j, none⟩ : Addr) = ad.add (n + j) := by
  unfold Addr.add
  by_cases h : n = 0
  · subst h; simp [Nat.ne_of_gt hj]
  · rw [if_neg h, if_neg (by omega)]; simp; omega
/-- The cells of the element at place i, in the form in which a load asks for them. -/
theorem Rd.load {w : World} {X : Nat → Prop} {k n : Nat} {A : Option Addr} {css : List (Array Value)} (h : Rd w X k A n css) {i : Nat} {cs : Array Value} (hi : css[i]? = some cs) : ∃ ad, A = some ad ∧ ad.block < w.heap.size ∧ ¬ X ad.block ∧
    (∀ u, cs[0]? = some u → w.cell? (ad.add (i * k)) = some u) ∧ ∀ j u, cs[j + 1]? = some u → w.cell? ⟨(ad.add (i * k)).block, (ad.add (i * k)).off + (j + 1), none⟩ = some u := by
  obtain ⟨ad, e, h1, h2, hc⟩ := h.at_ hi
  exact ⟨ad, e, h1, h2, fun u hu => hc 0 u hu, fun j u hu => by rw [add_off ad _ (Nat.succ_pos j)]; exact hc (j + 1) u hu⟩
theorem five_of {cs : Array Value} (h : cs.size = 5) : ∃ x0 x1 x2 x3 x4, cs = #[x0, x1, x2, x3, x4] := by
  rcases cs with ⟨l⟩
  match l, h with
  | [x0, x1, x2, x3, x4], _ => exact ⟨x0, x1, x2, x3, x4, rfl⟩
theorem four_of {cs : Array Value} (h : cs.size = 4) : ∃ x0 x1 x2 x3, cs = #[x0, x1, x2, x3] := by
  rcases cs with ⟨l⟩
  match l, h with
  | [x0, x1, x2, x3], _ => exact ⟨x0, x1, x2, x3, rfl⟩
theorem two_of {cs : Array Value} (h : cs.size = 2) : ∃ x0 x1, cs = #[x0, x1] := by
  rcases cs with ⟨l⟩
  match l, h with
  | [x0, x1], _ => exact ⟨x0, x1, rfl⟩
theorem gi_store {F : Fence} {n : Nat} {ops : Array Oper} {rest : List Oper} {o : Oper} {a : Act} {w : World} {Q : Exit → Act → World → Prop} (ty : TypeId) {x y : Operand} (_ho : o.op = .store ty x y) (h : Stop (wpListIn F n Try.prog ops Q (o :: rest) a w)) : wpListIn F n Try.prog ops Q (o :: rest) a w := h
/-- The row of what waits lies as it lay. -/
def KeepRow (wv : Value) (W W' : World) : Prop := W.heap.size ≤ W'.heap.size ∧ ∀ r, wv.ownBlock = some r → W'.heap[r]? = W.heap[r]?
/-- What is handed on: the number, the thing. -/
def encT (css : List (Array Value)) (k : Nat) : Array Value := #[.int .i64 (k : Int), .agg (css.getD k #[])]
theorem encT_at {css : List (Array Value)} {k : Nat} {cs : Array Value} (h : css[k]? = some cs) : encT css k = #[.int .i64 (k : Int), .agg cs] := by unfold encT; rw [List.getD_eq_getElem?_getD, h]; rfl
set_option maxRecDepth 100000 in
set_option maxHeartbeats 4000000 in
theorem iter_in (n : Nat) (hn : 1 ≤ n) (bx g : Nat) (wv : Value) (css : List (Array Value)) (w : World) (hc : w.cell? ⟨bx, 0, none⟩ = some (.pointer (some ⟨g, 0, none⟩))) (hg : w.cell? ⟨g, 4, none⟩ = some wv)
    (ho : OwnK w 92 5 wv css) (hform : ∀ cs ∈ css, ∃ (t : Th) (p q : Nat), cs = t.cells p q) (hlen : css.length ≤ 1000000) :
    SeqN Fence.wide n Try.prog 66 #[.pointer (some ⟨bx, 0, none⟩)] (encT css) css.length (KeepRow wv) w := fun l J Jx W hW hJ hJx hY h0 => by
  have hcW := (hW.cell (p := ⟨bx, 0, none⟩) (block_lt_of_cell hc) (fun h => h)).trans hc
  have hgW := (hW.cell (p := ⟨g, 4, none⟩) (block_lt_of_cell hg) (fun h => h)).trans hg
  have hoW := ho.keep hW (fun _ _ h => h)
  obtain ⟨A, q, c, rfl, hq, hqc, hcm⟩ := hoW.form
  have HQ := Lib.hid hq
  refine callsIn_of_wp Try.func66 rfl trivial ?_ rfl
  simp only [Try.ntmps66, List.size_toArray, List.length_cons, List.length_nil, Nat.reduceAdd, Nat.reduceSub, Array.replicate_succ, Array.replicate_zero, List.push_toArray, List.append_toArray, List.nil_append, List.cons_append]
  have HY := Lib.hid hY
  have HJ := Lib.hid hJ
  have HJX := Lib.hid hJx
  clear hY hJ hJx hW hc hg ho hq
  gi_wp2
  gi_loopw [10] (fun i wr => ∃ k : Nat, k ≤ css.length ∧ i = .int .i64 k ∧ J k wr ∧ KeepRow (.slice A q c) W wr) (fun i _ => css.length - (intOf i).toNat)
  case atStart => exact ⟨0, by omega, rfl, h0, Nat.le_refl _, fun _ _ => rfl⟩
  case round =>
    obtain ⟨k, hk, rfl, hJs, hkr⟩ := hrel
    have HK := Lib.hid hkr
    clear hkr
    by_cases hlt : k < css.length
    · have hlq : k < q := by have := HQ.out; omega
      have ho2 : OwnK wr 92 5 (.slice A q c) css := hoW.keepB HK.out.2
      have hrd := ho2.rd (X := No) (fun _ _ h => h)
      have hcs := List.getElem?_eq_getElem hlt
      obtain ⟨ad, rfl, hadb, -, hc0, hcell⟩ := hrd.load hcs
      have HE := Lib.hid (encT_at hcs)
      obtain ⟨t, p1, q1, hx⟩ := hform _ (List.getElem_mem hlt)
      rw [Th.cells_eq] at hx
      rw [hx] at hcell hc0
      rw [hx] at HE
      have h0 := hc0 _ rfl
      have h1 := hcell 0 _ rfl
      have h2 := hcell 1 _ rfl
      have h3 := hcell 2 _ rfl
      have h4 := hcell 3 _ rfl
      clear hcell hrd hcs hx hc0
      have hJ2 := HJ.out k _ _ hJs (turn_alloc wr (.cells #[.int .i64 t.deed, .string (str t.name), .string (str t.bytes), .int .i64 t.num, .func (.func t.fn) #[] (t.lb p1 q1)] 92) No)
      obtain ⟨fn, tmps, assign, body, hy, hR⟩ := HY.out k _ hJ2 hlt
      rw [HE.out] at hy

      gi_wp2
      refine hR.mono ?_
      rintro e W' (⟨rfl, hJ', hk'⟩ | ⟨rfl, hJ'⟩)
      · clear hy h0 h1 h2 h3 h4
        gi_wp2
        go_roundw
        case rel => exact ⟨k + 1, by omega, by go_num, hJ', Nat.le_trans HK.out.1 (Nat.le_trans (by simp) hk'.1), fun r e => (hk'.2 r e).trans ((Below.heap_alloc wr _ r (by
          have := ho2.lt e
          exact this)).trans (HK.out.2 r e))⟩
        case measure => simp [intOf]; omega
      · clear hy h0 h1 h2 h3 h4
        gi_wp2
        refine bodyPost_ret (results_none rfl _ _ _) rfl ?_
        exact ⟨⟨_, rfl⟩, .inr ⟨k, hlt, hJ'⟩⟩
    · have hd1 : decide (k < q) = false := by have := HQ.out; simp; omega
      gi_wp2
      go_end0
      exact ⟨⟨_, rfl⟩, .inl (by rw [show css.length = k from by omega]; exact hJs)⟩
end Go.Proofs.Ythhiiimmgghhaaa
