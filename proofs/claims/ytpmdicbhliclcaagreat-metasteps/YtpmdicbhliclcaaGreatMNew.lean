/-
  New. Nothing is assumed.
-/
import Derived.Test.YtpmdicbhliclcaaGreatMeth
namespace Go.Proofs.YtpmdicbhliclcaaGreat
open Go.RowKit Go.Maps
set_option linter.unusedVariables false
/-- A stretch of a block is overwritten. -/
theorem Blk.over {w : World} {g t : Nat} {cs : Array Value} (h : Blk w g t cs) (o : Nat) (vs : List Value) (hl : o + vs.length ≤ cs.size) : ∃ cs', Blk (w.setCells g o vs) g t cs' ∧ Upd cs cs' o vs.length ∧ Seg cs' o vs ∧ Turn (fun b => b = g) w (w.setCells g o vs) := by
  obtain ⟨cs', h1, h2, -⟩ := Blk.setCells (vs := vs) o h
  have hs : ∀ j, j < vs.length → (w.cell? ⟨g, o + j, none⟩).isSome = true := fun j hj => by
    rw [h.cell]; simp; omega
  refine ⟨cs', h1, ⟨h2, fun q hq => ?_⟩, fun j v hj => ?_, setCells_turn g vs o w⟩
  · rw [← h1.cell q, ← h.cell q]
    exact World.cell?_setCells_out g vs o w ⟨g, q, none⟩ (fun _ _ => hq)
  · have hj2 := (List.getElem?_eq_some_iff.1 hj).1
    rw [← h1.cell (o + j), World.cell?_setCells_in g vs o w hs j hj2]
    rw [← hj, List.getElem?_eq_getElem hj2]
section
variable {ops : Array Oper} {o : Oper} {a : Act} {w : World} {K : Act → World → Prop} {Q : Exit → Act → World → Prop} {E : Prop}
/-- A struct is stored into a stretch of a block, as a step of a region that draws. -/
theorem step_store_part (hw : Region.wanted o (yielded ops a.tmps) = true) (hd : o.dst = none) (ty : TypeId) (x y : Operand) (ho : o.op = .store ty x y) (g off : Nat) (cs new : Array Value) (hx : a.eval x = .pointer (some ⟨g, off, none⟩)) (hy : a.eval y = .agg new)
    (t : TypeId) (hb : Blk w g t cs) (hn : off + new.size ≤ cs.size) (hi : (Tryz.prog.info? ty).map (·.size) = some new.size) (h1 : new.all (·.oneCell') = true)
    (h : ∀ w' cs', Blk w' g t cs' → Upd cs cs' off new.size → Seg cs' off new.toList → Turn (fun b => b = g) w w' → K a w') : if Region.wanted o (yielded ops a.tmps) = true then Oper.wp Tryz.prog o a w K Q else E := by
  rw [if_pos hw]
  refine wp_store_mid ty x y ho g off new hx hy (fun j hj => ?_) hi h1 ?_
  · have := hb.there (off + j) (by omega)
    rwa [Nat.zero_add] at this
  · rw [hd]
    obtain ⟨cs', k1, k2, k3, k4⟩ := hb.over off new.toList (by rw [Array.length_toList]; exact hn)
    rw [Array.length_toList] at k2
    exact h _ cs' k1 k2 k3 k4
end
def Vw.zero : Vw := ⟨0, 0, 0, []⟩
def Vw.new (n : Nat) : Vw := ⟨-1, 0, 0, upTo n⟩
def Wt.zero : Wt := ⟨0, 0, 0, [], 0, 0⟩
def Wt.new : Wt := ⟨0, 0, 1, [], 0, 0⟩
/-- A controller that is being made. -/
def Mt.fresh (nb np ni i j k : Nat) : Mt := ⟨nb, np, ni, fun b => decide (b < i), fun p => if p < j then Vw.new nb else Vw.zero, fun q => if q < k then Wt.new else Wt.zero⟩
theorem Mt.fresh_live {nb np ni i : Nat} : ({ Mt.fresh nb np ni i 0 0 with lives := setAt (Mt.fresh nb np ni i 0 0).lives i true } : Mt) = Mt.fresh nb np ni (i + 1) 0 0 := by
  unfold Mt.fresh
  simp only [Mt.mk.injEq, true_and, and_true]
  funext b
  unfold setAt
  by_cases h : b = i
  · subst h; simp
  · rw [if_neg h]
    exact decide_eq_decide.2 ⟨fun q => by omega, fun q => by omega⟩
theorem Mt.fresh_view {nb np ni i j : Nat} : (Mt.fresh nb np ni i j 0).setV j (Vw.new nb) = Mt.fresh nb np ni i (j + 1) 0 := by
  unfold Mt.fresh Mt.setV
  simp only [Mt.mk.injEq, true_and, and_true]
  funext p
  unfold setAt
  by_cases h : p = j
  · subst h; rw [if_pos rfl, if_pos (by omega)]
  · rw [if_neg h]
    show (if p < j then Vw.new nb else Vw.zero) = _
    by_cases h2 : p < j
    · rw [if_pos h2, if_pos (by omega)]
    · rw [if_neg h2, if_neg (by omega)]
theorem Mt.fresh_wr {nb np ni i j k : Nat} : (Mt.fresh nb np ni i j k).setW k Wt.new = Mt.fresh nb np ni i j (k + 1) := by
  unfold Mt.fresh Mt.setW
  simp only [Mt.mk.injEq, true_and]
  funext p
  unfold setAt
  by_cases h : p = k
  · subst h; rw [if_pos rfl, if_pos (by omega)]
  · rw [if_neg h]
    show (if p < k then Wt.new else Wt.zero) = _
    by_cases h2 : p < k
    · rw [if_pos h2, if_pos (by omega)]
    · rw [if_neg h2, if_neg (by omega)]
theorem Vw.new_ok {n : Nat} (h : 1 ≤ n) : (Vw.new n).ok n := ⟨show (0 : Int) ≤ 0 by omega, show (0 : Int) ≤ 0 by omega, show (0 : Int) ≤ 2147483647 by omega, upTo_rise n, fun e => by
  have := upTo_len n
  have e2 : upTo n = [] := e
  rw [e2] at this
  simp at this
  omega⟩
theorem Wt.new_ok (n : Nat) : Wt.new.ok n := ⟨by decide, by decide, by decide, by decide, by decide, by decide, by decide, by decide, by decide, by decide, Rise.nil _, fun _ => rfl⟩
theorem Mt.fresh_ok {a b c : Nat} (h : FormOk a b c) : (Mt.fresh a b c a b c).ok := by
  obtain ⟨h1, h2, h3⟩ := h
  refine ⟨by show 1 ≤ a ∧ a ≤ 4; omega, by show 1 ≤ b ∧ b ≤ 4; omega, by show 1 ≤ c ∧ c ≤ 4; omega, fun p hp => ?_, fun i hi => ?_⟩
  · show (if p < b then Vw.new a else Vw.zero).ok a
    rw [if_pos (show p < b from hp)]
    exact Vw.new_ok (by omega)
  · show (if i < c then Wt.new else Wt.zero).ok b
    rw [if_pos (show i < c from hi)]
    exact Wt.new_ok b
theorem fresh_lay (a b c : Nat) : Lay #[.int .i64 (a : Int), .int .i64 (b : Int), .int .i64 (c : Int), .bool false, .bool false, .bool false, .bool false, .int .i64 0, .int .i64 0, .int .i64 0, .slice none 0 0, .int .i64 0, .int .i64 0, .int .i64 0, .slice none 0 0, .int .i64 0, .int .i64 0, .int .i64 0, .slice none 0 0, .int .i64 0, .int .i64 0, .int .i64 0, .slice none 0 0, .int .i64 0, .int .i64 0, .int .i64 0, .slice none 0 0, .int .i64 0, .int .i64 0, .int .i64 0, .int .i64 0, .int .i64 0, .slice none 0 0, .int .i64 0, .int .i64 0, .int .i64 0, .int .i64 0, .int .i64 0, .slice none 0 0, .int .i64 0, .int .i64 0, .int .i64 0, .int .i64 0, .int .i64 0, .slice none 0 0, .int .i64 0, .int .i64 0] (Mt.fresh a b c 0 0 0) (fun _ => .slice none 0 0) := by
  refine ⟨rfl, rfl, rfl, rfl, fun x hx => ?_, fun p hp j v hj => ?_, fun i hi j v hj => ?_⟩
  · have e : (Mt.fresh a b c 0 0 0).lives x = false := by simp [Mt.fresh]
    rw [e]
    rcases x with _ | _ | _ | _ | x
    · rfl
    · rfl
    · rfl
    · rfl
    · omega
  · have e : (Mt.fresh a b c 0 0 0).views p = Vw.zero := by simp [Mt.fresh]
    rw [e] at hj
    rcases p with _ | _ | _ | _ | p
    · rcases j with _ | _ | _ | _ | j <;> first | (injection hj with hj; subst hj; rfl) | (simp [vcells] at hj)
    · rcases j with _ | _ | _ | _ | j <;> first | (injection hj with hj; subst hj; rfl) | (simp [vcells] at hj)
    · rcases j with _ | _ | _ | _ | j <;> first | (injection hj with hj; subst hj; rfl) | (simp [vcells] at hj)
    · rcases j with _ | _ | _ | _ | j <;> first | (injection hj with hj; subst hj; rfl) | (simp [vcells] at hj)
    · omega
  · have e : (Mt.fresh a b c 0 0 0).wrs i = Wt.zero := by simp [Mt.fresh]
    rw [e] at hj
    rcases i with _ | _ | _ | _ | i
    · rcases j with _ | _ | _ | _ | _ | _ | j <;> first | (injection hj with hj; subst hj; rfl) | (simp [wcells] at hj)
    · rcases j with _ | _ | _ | _ | _ | _ | j <;> first | (injection hj with hj; subst hj; rfl) | (simp [wcells] at hj)
    · rcases j with _ | _ | _ | _ | _ | _ | j <;> first | (injection hj with hj; subst hj; rfl) | (simp [wcells] at hj)
    · rcases j with _ | _ | _ | _ | _ | _ | j <;> first | (injection hj with hj; subst hj; rfl) | (simp [wcells] at hj)
    · omega
theorem fresh_mx {w : World} {g : Nat} (a b c : Nat) (h : Blk w g 75 #[.int .i64 (a : Int), .int .i64 (b : Int), .int .i64 (c : Int), .bool false, .bool false, .bool false, .bool false, .int .i64 0, .int .i64 0, .int .i64 0, .slice none 0 0, .int .i64 0, .int .i64 0, .int .i64 0, .slice none 0 0, .int .i64 0, .int .i64 0, .int .i64 0, .slice none 0 0, .int .i64 0, .int .i64 0, .int .i64 0, .slice none 0 0, .int .i64 0, .int .i64 0, .int .i64 0, .slice none 0 0, .int .i64 0, .int .i64 0, .int .i64 0, .int .i64 0, .int .i64 0, .slice none 0 0, .int .i64 0, .int .i64 0, .int .i64 0, .int .i64 0, .int .i64 0, .slice none 0 0, .int .i64 0, .int .i64 0, .int .i64 0, .int .i64 0, .int .i64 0, .slice none 0 0, .int .i64 0, .int .i64 0]) : Mx w g (Mt.fresh a b c 0 0 0) #[.int .i64 (a : Int), .int .i64 (b : Int), .int .i64 (c : Int), .bool false, .bool false, .bool false, .bool false, .int .i64 0, .int .i64 0, .int .i64 0, .slice none 0 0, .int .i64 0, .int .i64 0, .int .i64 0, .slice none 0 0, .int .i64 0, .int .i64 0, .int .i64 0, .slice none 0 0, .int .i64 0, .int .i64 0, .int .i64 0, .slice none 0 0, .int .i64 0, .int .i64 0, .int .i64 0, .slice none 0 0, .int .i64 0, .int .i64 0, .int .i64 0, .int .i64 0, .int .i64 0, .slice none 0 0, .int .i64 0, .int .i64 0, .int .i64 0, .int .i64 0, .int .i64 0, .slice none 0 0, .int .i64 0, .int .i64 0, .int .i64 0, .int .i64 0, .int .i64 0, .slice none 0 0, .int .i64 0, .int .i64 0] (fun _ => .slice none 0 0) := by
  refine ⟨h, fresh_lay a b c, fun k hk => ?_, fun j k _ _ _ b e => (nomatch e), fun k _ e => (nomatch e)⟩
  have e : (Mt.fresh a b c 0 0 0).row k = [] := by
    unfold Mt.row
    split
    · simp [Mt.fresh, Vw.zero]
    · simp [Mt.fresh, Wt.zero]
  rw [e]
  exact OwnK.nil _ _ _
/-- While New goes on. -/
def NwI (w : World) (M : Mt) (W : World) : Prop := Mm W (fun z => w.heap.size ≤ z) (w.heap.size + 1) M ∧ Below w.heap.size w W
section
variable {w : World}
/-- What New answers. -/
def NewP (w : World) (a b c : Int) (r : Ending) (w' : World) : Prop := (¬ FormOk a b c ∧ r = .returned (.tuple #[.pointer none, .int .i64 2]) ∧ Below w.heap.size w w') ∨
  ∃ nb np ni : Nat, a = nb ∧ b = np ∧ c = ni ∧ FormOk a b c ∧ r = .returned (.tuple #[.pointer (some ⟨w.heap.size + 1, 0, none⟩), .int .i64 0]) ∧ NwI w (Mt.fresh nb np ni nb np ni) w'
set_option maxRecDepth 100000 in
set_option maxHeartbeats 8000000 in
theorem new_any (w : World) (a b c : Int) : Calls Tryz.prog 14 #[frm a b c] w (NewP w a b c) := by
  have HB0 := Lib.hid (((Below.refl w.heap.size w).alloc (Nat.le_refl _) (.cells #[.int .i64 a, .int .i64 b, .int .i64 c] 23)).alloc (le_alloc (Nat.le_refl _) _) (.cells #[.int .i64 a, .int .i64 b, .int .i64 c, .bool false, .bool false, .bool false, .bool false, .int .i64 0, .int .i64 0, .int .i64 0, .slice none 0 0, .int .i64 0, .int .i64 0, .int .i64 0, .slice none 0 0, .int .i64 0, .int .i64 0, .int .i64 0, .slice none 0 0, .int .i64 0, .int .i64 0, .int .i64 0, .slice none 0 0, .int .i64 0, .int .i64 0, .int .i64 0, .slice none 0 0, .int .i64 0, .int .i64 0, .int .i64 0, .int .i64 0, .int .i64 0, .slice none 0 0, .int .i64 0, .int .i64 0, .int .i64 0, .int .i64 0, .int .i64 0, .slice none 0 0, .int .i64 0, .int .i64 0, .int .i64 0, .int .i64 0, .int .i64 0, .slice none 0 0, .int .i64 0, .int .i64 0] 75))
  have HX : Hid (Blk ((w.alloc (.cells #[.int .i64 a, .int .i64 b, .int .i64 c] 23)).alloc (.cells #[.int .i64 a, .int .i64 b, .int .i64 c, .bool false, .bool false, .bool false, .bool false, .int .i64 0, .int .i64 0, .int .i64 0, .slice none 0 0, .int .i64 0, .int .i64 0, .int .i64 0, .slice none 0 0, .int .i64 0, .int .i64 0, .int .i64 0, .slice none 0 0, .int .i64 0, .int .i64 0, .int .i64 0, .slice none 0 0, .int .i64 0, .int .i64 0, .int .i64 0, .slice none 0 0, .int .i64 0, .int .i64 0, .int .i64 0, .int .i64 0, .int .i64 0, .slice none 0 0, .int .i64 0, .int .i64 0, .int .i64 0, .int .i64 0, .int .i64 0, .slice none 0 0, .int .i64 0, .int .i64 0, .int .i64 0, .int .i64 0, .int .i64 0, .slice none 0 0, .int .i64 0, .int .i64 0] 75)) (w.heap.size + 1) 75 #[.int .i64 a, .int .i64 b, .int .i64 c, .bool false, .bool false, .bool false, .bool false, .int .i64 0, .int .i64 0, .int .i64 0, .slice none 0 0, .int .i64 0, .int .i64 0, .int .i64 0, .slice none 0 0, .int .i64 0, .int .i64 0, .int .i64 0, .slice none 0 0, .int .i64 0, .int .i64 0, .int .i64 0, .slice none 0 0, .int .i64 0, .int .i64 0, .int .i64 0, .slice none 0 0, .int .i64 0, .int .i64 0, .int .i64 0, .int .i64 0, .int .i64 0, .slice none 0 0, .int .i64 0, .int .i64 0, .int .i64 0, .int .i64 0, .int .i64 0, .slice none 0 0, .int .i64 0, .int .i64 0, .int .i64 0, .int .i64 0, .int .i64 0, .slice none 0 0, .int .i64 0, .int .i64 0]) := Lib.hid (blk_new (w.alloc (.cells #[.int .i64 a, .int .i64 b, .int .i64 c] 23)) 75 _ (by simp))
  have hmb := fun w => mayBe_any w a b c
  unfold frm at *
  go_enter Tryz.func14, Tryz.ntmps14
  go_wp2_with fail
  refine wp_scope_jumps 0 (fun a' w' => (∃ u0 u1 u2 u3 u4 u5 u6 u7 u8 u9 u10 u11 u12 u13 u14 u15 u16 u17 u18 u19 u20 u21 u22 u23 u24 u25 u26 u27 u28 u29 u30 u31 u32 u33 u34 u35 u36 u37 u38 u39 u40 u41 u42 u43 u44 u45 u46 u47 u48 u49 u50 u51 u52 u53 u54 u55 u56 u57 u58 u59 u60 u61 u62 u63 u64 u65 u66 u67 u68 u69 u70 u71 u72 : Value, a' = { tmps := #[u0, u1, u2, u3, u4, u5, u6, u7, u8, u9, u10, u11, u12, u13, u14, u15, u16, u17, u18, u19, u20, u21, u22, u23, u24, u25, u26, u27, u28, u29, u30, u31, u32, u33, u34, u35, u36, u37, u38, u39, u40, u41, u42, u43, u44, u45, u46, u47, u48, u49, u50, u51, u52, u53, u54, u55, u56, u57, u58, u59, u60, u61, u62, u63, u64, u65, u66, u67, u68, u69, u70, u71, u72], defers := [] }) ∧ Hid (¬ FormOk a b c) ∧ Below w.heap.size w w') (fun _ _ => 0) rfl ?_ ?_
  · go_upto_region 2 with fail
    generalize hw2 : ((w.alloc (.cells #[.int .i64 a, .int .i64 b, .int .i64 c] 23)).alloc (.cells #[.int .i64 a, .int .i64 b, .int .i64 c, .bool false, .bool false, .bool false, .bool false, .int .i64 0, .int .i64 0, .int .i64 0, .slice none 0 0, .int .i64 0, .int .i64 0, .int .i64 0, .slice none 0 0, .int .i64 0, .int .i64 0, .int .i64 0, .slice none 0 0, .int .i64 0, .int .i64 0, .int .i64 0, .slice none 0 0, .int .i64 0, .int .i64 0, .int .i64 0, .slice none 0 0, .int .i64 0, .int .i64 0, .int .i64 0, .int .i64 0, .int .i64 0, .slice none 0 0, .int .i64 0, .int .i64 0, .int .i64 0, .int .i64 0, .int .i64 0, .slice none 0 0, .int .i64 0, .int .i64 0, .int .i64 0, .int .i64 0, .int .i64 0, .slice none 0 0, .int .i64 0, .int .i64 0] 75)) = w2 at *
    clear hw2
    have c0 : w2.cell? ⟨w.heap.size + 1, 0, none⟩ = some (.int .i64 a) := HX.out.cell 0
    have c1 : w2.cell? ⟨w.heap.size + 1, 1, none⟩ = some (.int .i64 b) := HX.out.cell 1
    have c2 : w2.cell? ⟨w.heap.size + 1, 2, none⟩ = some (.int .i64 c) := HX.out.cell 2
    by_cases hf : FormOk a b c
    case neg =>
      have HF := Lib.hid hf
      simp only [decide_eq_false hf] at hmb
      clear hf
      go_wp2_with fail
      refine (hmb w2).mono ?_
      rintro r w3 ⟨rfl, hb3⟩
      have HB3 := Lib.hid (HB0.out.trans (hb3.mono HB0.out.size))
      clear hb3 hmb c0 c1 c2
      go_wp2_with fail
      go_step3
      exact ⟨rfl, ⟨_, _, _, _, _, _, _, _, _, _, _, _, _, _, _, _, _, _, _, _, _, _, _, _, _, _, _, _, _, _, _, _, _, _, _, _, _, _, _, _, _, _, _, _, _, _, _, _, _, _, _, _, _, _, _, _, _, _, _, _, _, _, _, _, _, _, _, _, _, _, _, _, _, rfl⟩, HF, HB3.out⟩
    case pos =>
      have HF := Lib.hid hf
      simp only [decide_eq_true hf] at hmb
      obtain ⟨h1, h2, h3⟩ := hf
      obtain ⟨nb, rfl⟩ : ∃ n : Nat, a = (n : Int) := ⟨a.toNat, by omega⟩
      obtain ⟨np, rfl⟩ : ∃ n : Nat, b = (n : Int) := ⟨b.toNat, by omega⟩
      obtain ⟨ni, rfl⟩ : ∃ n : Nat, c = (n : Int) := ⟨c.toNat, by omega⟩
      have hnb : nb ≤ 4 := by omega
      have hnp : np ≤ 4 := by omega
      have hni : ni ≤ 4 := by omega
      clear h1 h2 h3
      go_wp2_with fail
      refine (hmb w2).mono ?_
      rintro r w3 ⟨rfl, hb3⟩
      have HI : Hid (NwI w (Mt.fresh nb np ni 0 0 0) w3) := Lib.hid ⟨Mm.below ⟨_, _, fresh_mx nb np ni HX.out, by show w.heap.size ≤ w.heap.size + 1; omega, fun k _ b e => (nomatch e)⟩ hb3, HB0.out.trans (hb3.mono HB0.out.size)⟩
      clear hb3 hmb c0 c1 c2 HX HB0
      have q0 : w3.cell? ⟨w.heap.size + 1, 0, none⟩ = some (.int .i64 (nb : Int)) := HI.out.1.form.1
      go_wp2_with fail
      clear q0
      go_loopw [28] (fun i wv => ∃ q : Nat, q ≤ nb ∧ i = .int .i64 q ∧ Hid (NwI w (Mt.fresh nb np ni q 0 0) wv)) (fun i _ => nb - (iOf i).toNat)
      case atStart => exact ⟨0, by omega, rfl, HI⟩
      case round =>
        clear HI
        obtain ⟨q, hq, rfl, HI⟩ := hrel
        by_cases hlt : q < nb
        case pos =>
          have hd1 : decide (q < nb) = true := decide_eq_true hlt
          have hq4 : q < 4 := by omega
          have hqi : (q : Int) < 4 := by omega
          obtain ⟨cs, rv, hMx, hSg, hSr⟩ := HI.out.1
          have hlive := hMx.live (b := q) (x := true) hq4
          have f3 := hMx.blk.frozen (3 + q)
          have c3 : wr.cell? ⟨w.heap.size + 1, 3 + q, none⟩ = some (.bool ((Mt.fresh nb np ni q 0 0).lives q)) := by rw [hMx.blk.cell]; exact hMx.lay.lv q hq4
          have HN : Hid (NwI w (Mt.fresh nb np ni (q + 1) 0 0) (wr.setCell ⟨w.heap.size + 1, 3 + q, none⟩ (.bool true))) := Lib.hid ⟨by
            rw [← Mt.fresh_live]
            exact ⟨_, _, hlive, hSg, hSr⟩, HI.out.2.trans (((Turn.refl (fun z => z = w.heap.size + 1) wr).setCell (p := ⟨w.heap.size + 1, 3 + q, none⟩) (fun _ => rfl) _).below HI.out.2.size (fun z e => by omega))⟩
          clear hMx hSg hSr hlive
          go_wp2_with fail
          go_round
          case rel => exact ⟨q + 1, by omega, by go_num, HN⟩
          case measure => simp [iOf]; omega
        case neg =>
        have hd1 : decide (q < nb) = false := decide_eq_false hlt
        have hqe : q = nb := by omega
        rw [hqe] at HI
        clear hlt hq hqe
        have q1 : wr.cell? ⟨w.heap.size + 1, 1, none⟩ = some (.int .i64 (np : Int)) := HI.out.1.form.2.1
        go_wp2_with fail
        clear q1
        go_loopw [42] (fun i wv => ∃ z : Nat, z ≤ np ∧ i = .int .i64 z ∧ Hid (NwI w (Mt.fresh nb np ni nb z 0) wv)) (fun i _ => np - (iOf i).toNat)
        case atStart => exact ⟨0, by omega, rfl, HI⟩
        case round =>
          clear HI
          obtain ⟨z, hz, rfl, HI⟩ := hrel
          by_cases hlt : z < np
          case pos =>
            have hd2 : decide (z < np) = true := decide_eq_true hlt
            have hz4 : z < 4 := by omega
            have hzi : (z : Int) < 4 := by omega
            go_upto_region 11 with fail
            refine wp_region_np ?_
            refine wp_region_held_drew (S := fun W => W.cell? ⟨w.heap.size + 1, 0, none⟩ = some (.int .i64 (nb : Int))) (by kernel_rfl) (show (fun W => W.cell? ⟨w.heap.size + 1, 0, none⟩ = some (.int .i64 (nb : Int))) wr.drew from HI.out.1.form.1) (fun hHeld => ?_)
            have hI : NwI w (Mt.fresh nb np ni nb z 0) wr.drew := ⟨HI.out.1.below (Below.refl _ _).drew, HI.out.2.drew⟩
            generalize hv0 : wr.drew = V0 at *
            clear hv0
            refine wpAnyH_takeAt (i := 0) (d := 45) (v := ?vq0x) rfl rfl (by kernel_rfl) (by kernel_rfl) (by kernel_rfl) (fun _ _ _ h => h) (Or.inl ⟨by rfl, ?hyq0x⟩) hHeld ?_
            case hyq0x =>
              intro W hSw
              clear hSw
              (go_simp; try with_reducible rfl)
            simp only [List.setIfInBounds_toArray, List.set_cons_zero, List.set_cons_succ]
            refine wpAnyH_takeAt (i := 1) (d := 46) (v := ?vq1x) rfl rfl (by kernel_rfl) (by kernel_rfl) (by kernel_rfl) (fun _ _ _ h => h) (Or.inl ⟨by rfl, ?hyq1x⟩) hHeld ?_
            case hyq1x =>
              intro W hSw
              clear hSw
              (go_simp; try with_reducible rfl)
            simp only [List.setIfInBounds_toArray, List.set_cons_zero, List.set_cons_succ]
            refine wpAnyH_takeAt (i := 2) (d := 47) (v := ?vq2x) rfl rfl (by kernel_rfl) (by kernel_rfl) (by kernel_rfl) (fun _ _ _ h => h) (Or.inl ⟨by rfl, ?hyq2x⟩) hHeld ?_
            case hyq2x =>
              intro W hSw
              clear hSw
              (go_simp; try with_reducible rfl)
            simp only [List.setIfInBounds_toArray, List.set_cons_zero, List.set_cons_succ]
            refine wpAnyH_takeAt (i := 3) (d := 48) (v := ?vq3x) rfl rfl (by kernel_rfl) (by kernel_rfl) (by kernel_rfl) (fun _ _ _ h => h) (Or.inl ⟨by rfl, ?hyq3x⟩) hHeld ?_
            case hyq3x =>
              intro W hSw
              clear hSw
              (go_simp; try with_reducible rfl)
            simp only [List.setIfInBounds_toArray, List.set_cons_zero, List.set_cons_succ]
            refine wpAnyH_takeAt (i := 4) (d := 49) (v := ?vq4x) rfl rfl (by kernel_rfl) (by kernel_rfl) (by kernel_rfl) (fun _ _ _ h => h) (Or.inl ⟨by rfl, ?hyq4x⟩) hHeld ?_
            case hyq4x =>
              intro W hSw
              clear hSw
              (go_simp; try with_reducible rfl)
            simp only [List.setIfInBounds_toArray, List.set_cons_zero, List.set_cons_succ]
            refine wpAnyH_takeAt (i := 5) (d := 50) (v := ?vq5x) rfl rfl (by kernel_rfl) (by kernel_rfl) (by kernel_rfl) (fun _ _ _ h => h) (Or.inl ⟨by rfl, ?hyq5x⟩) hHeld ?_
            case hyq5x =>
              intro W hSw
              clear hSw
              (go_simp; try with_reducible rfl)
            simp only [List.setIfInBounds_toArray, List.set_cons_zero, List.set_cons_succ]
            refine wpAnyH_takeAt (i := 6) (d := 51) (v := ?vq6x) rfl rfl (by kernel_rfl) (by kernel_rfl) (by kernel_rfl) (fun _ _ _ h => h) (Or.inl ⟨by rfl, ?hyq6x⟩) hHeld ?_
            case hyq6x =>
              intro W hSw
              have q0 := hSw; clear hSw
              (go_simp; try with_reducible rfl)
            simp only [List.setIfInBounds_toArray, List.set_cons_zero, List.set_cons_succ]
            refine wpAnyH_takeAt (i := 8) (d := 53) (v := ?vq7x) rfl rfl (by kernel_rfl) (by kernel_rfl) (by kernel_rfl) (fun _ _ _ h => h) (Or.inl ⟨by rfl, ?hyq7x⟩) hHeld ?_
            case hyq7x =>
              intro W hSw
              clear hSw
              (go_simp; try with_reducible rfl)
            simp only [List.setIfInBounds_toArray, List.set_cons_zero, List.set_cons_succ]
            refine wpAnyH_takeAt (i := 9) (d := 54) (v := ?vq8x) rfl rfl (by kernel_rfl) (by kernel_rfl) (by kernel_rfl) (fun _ _ _ h => h) (Or.inl ⟨by rfl, ?hyq8x⟩) hHeld ?_
            case hyq8x =>
              intro W hSw
              clear hSw
              (go_simp; try with_reducible rfl)
            simp only [List.setIfInBounds_toArray, List.set_cons_zero, List.set_cons_succ]
            refine wpAnyH_ready (rs := [7]) (by kernel_rfl) (by simp) (AllReadyH.cons rfl (fun K hK => ?_) AllReadyH.nil)
            go_simp
            refine (newView_any nb (by omega)).mono ?_
            rintro r V1 ⟨v, rfl, ho, hv, hb1⟩
            obtain ⟨A9, k9, rfl, -⟩ := ints_form ho
            dsimp only
            have hI1 : NwI w (Mt.fresh nb np ni nb z 0) V1 := ⟨hI.1.below hb1, hI.2.trans (hb1.mono hI.2.size)⟩
            have hv1 : ∀ b, (Value.slice A9 (upTo nb).length k9).ownBlock = some b → V0.heap.size ≤ b := hv
            have hlt0 : w.heap.size + 1 < V0.heap.size := hI.1.lt
            have hold := hI.1.tight
            refine hK.out _ _ (hI1.1.form.1) (fun hHeld => ?_)
            clear hK K
            try simp only [List.setIfInBounds_toArray, List.set_cons_zero, List.set_cons_succ]
            refine wpAnyH_takeAt (i := 10) (d := 55) (v := ?vq9x) rfl rfl (by kernel_rfl) (by kernel_rfl) (by kernel_rfl) (fun _ _ _ h => h) (Or.inl ⟨by rfl, ?hyq9x⟩) hHeld ?_
            case hyq9x =>
              intro W hSw
              clear hSw
              (go_simp; try with_reducible rfl)
            simp only [List.setIfInBounds_toArray, List.set_cons_zero, List.set_cons_succ]
            refine wpAnyH_ready (rs := [11]) (by kernel_rfl) (by simp) (AllReadyH.cons rfl (fun K hK => ?_) AllReadyH.nil)
            obtain ⟨cs, rv, hMx, hSg, hSr⟩ := hold
            have hblk := hMx.blk.below hb1 hMx.blk.lt
            refine step_store_part (by rfl) (by rfl) 70 _ _ (by rfl) (w.heap.size + 1) (7 + z * 4) cs #[.int .i64 (-1), .int .i64 0, .int .i64 0, .slice A9 (upTo nb).length k9] (by rfl) (by rfl) 75 hblk (by rw [hMx.lay.sz]; simp; omega) (by kernel_rfl) (by simp [Value.oneCell']) ?_
            intro V2 cs2 hB2 hU2 hS2 hT2
            have hown2 : OwnK V2 3 1 (.slice A9 (upTo nb).length k9) (intsOf (upTo nb)) := ho.keep hT2 (fun b hb e => by have := hv1 b hb; omega)
            have hM2 := hMx.view (V' := Vw.new nb) (pv' := .slice A9 (upTo nb).length k9) hz4 hB2 hU2 hS2 hown2 (fun b hb => .inr (hv1 b hb)) ((Turn.of_below hb1 _).trans (hT2.mono (S' := fun b => b = w.heap.size + 1 ∨ (rv z).ownBlock = some b) (fun b _ e => .inl e)) (fun _ _ e => e))
            have HN : Hid (NwI w (Mt.fresh nb np ni nb (z + 1) 0) V2) := Lib.hid ⟨by
              rw [← Mt.fresh_view]
              refine ⟨_, _, hM2, Nat.le_succ _, fun k hk b hb => ?_⟩
              by_cases hkz : k = z
              · subst hkz
                rw [setAt_self] at hb
                have := hv1 b hb
                omega
              · rw [setAt_ne _ hkz] at hb
                exact (hSr k hk b hb).1, hI1.2.trans (hT2.below hI1.2.size (fun b e => by omega))⟩
            refine hK.out _ _ (HN.out.1.form.1) (fun hHeld => ?_)
            clear hK K hMx hSg hSr hB2 hU2 hS2 hT2 hown2 hM2
            try simp only [List.setIfInBounds_toArray, List.set_cons_zero, List.set_cons_succ]
            refine wpAnyH_done (by kernel_rfl) ?_ _
            clear hHeld
            go_wp2_with fail
            go_round
            case rel => exact ⟨z + 1, by omega, by go_num, HN⟩
            case measure => simp [iOf]; omega
          case neg =>
          have hd2 : decide (z < np) = false := decide_eq_false hlt
          have hze : z = np := by omega
          rw [hze] at HI
          clear hlt hz hze
          have q2 : wr.cell? ⟨w.heap.size + 1, 2, none⟩ = some (.int .i64 (ni : Int)) := HI.out.1.form.2.2
          go_wp2_with fail
          clear q2
          go_loopw [62] (fun i wv => ∃ y : Nat, y ≤ ni ∧ i = .int .i64 y ∧ Hid (NwI w (Mt.fresh nb np ni nb np y) wv)) (fun i _ => ni - (iOf i).toNat)
          case atStart => exact ⟨0, by omega, rfl, HI⟩
          case round =>
            clear HI
            obtain ⟨y, hy, rfl, HI⟩ := hrel
            by_cases hlt : y < ni
            case pos =>
              have hd3 : decide (y < ni) = true := decide_eq_true hlt
              have hy4 : y < 4 := by omega
              have hyi : (y : Int) < 4 := by omega
              go_upto_region 16 with fail
              refine wp_region_np ?_
              refine wp_region_held_drew (S := fun _ => True) (by kernel_rfl) trivial (fun hHeld => ?_)
              have hI : NwI w (Mt.fresh nb np ni nb np y) wr.drew := ⟨HI.out.1.below (Below.refl _ _).drew, HI.out.2.drew⟩
              generalize hv0 : wr.drew = V0 at *
              clear hv0
              refine wpAnyH_takeAt (i := 0) (d := 65) (v := ?vq10x) rfl rfl (by kernel_rfl) (by kernel_rfl) (by kernel_rfl) (fun _ _ _ h => h) (Or.inl ⟨by rfl, ?hyq10x⟩) hHeld ?_
              case hyq10x =>
                intro W hSw
                clear hSw
                (go_simp; try with_reducible rfl)
              simp only [List.setIfInBounds_toArray, List.set_cons_zero, List.set_cons_succ]
              refine wpAnyH_takeAt (i := 1) (d := 66) (v := ?vq11x) rfl rfl (by kernel_rfl) (by kernel_rfl) (by kernel_rfl) (fun _ _ _ h => h) (Or.inl ⟨by rfl, ?hyq11x⟩) hHeld ?_
              case hyq11x =>
                intro W hSw
                clear hSw
                (go_simp; try with_reducible rfl)
              simp only [List.setIfInBounds_toArray, List.set_cons_zero, List.set_cons_succ]
              refine wpAnyH_takeAt (i := 3) (d := 68) (v := ?vq12x) rfl rfl (by kernel_rfl) (by kernel_rfl) (by kernel_rfl) (fun _ _ _ h => h) (Or.inl ⟨by rfl, ?hyq12x⟩) hHeld ?_
              case hyq12x =>
                intro W hSw
                clear hSw
                (go_simp; try with_reducible rfl)
              simp only [List.setIfInBounds_toArray, List.set_cons_zero, List.set_cons_succ]
              refine wpAnyH_takeAt (i := 4) (d := 69) (v := ?vq13x) rfl rfl (by kernel_rfl) (by kernel_rfl) (by kernel_rfl) (fun _ _ _ h => h) (Or.inl ⟨by rfl, ?hyq13x⟩) hHeld ?_
              case hyq13x =>
                intro W hSw
                clear hSw
                (go_simp; try with_reducible rfl)
              simp only [List.setIfInBounds_toArray, List.set_cons_zero, List.set_cons_succ]
              refine wpAnyH_ready (rs := [2]) (by kernel_rfl) (by simp) (AllReadyH.cons rfl (fun K hK => ?_) AllReadyH.nil)
              go_simp
              refine (newWriter_any V0).mono ?_
              rintro r V1 ⟨rfl, hb1⟩
              dsimp only
              have hI1 : NwI w (Mt.fresh nb np ni nb np y) V1 := ⟨hI.1.below hb1, hI.2.trans (hb1.mono hI.2.size)⟩
              refine hK.out _ _ trivial (fun hHeld => ?_)
              clear hK K
              try simp only [List.setIfInBounds_toArray, List.set_cons_zero, List.set_cons_succ]
              refine wpAnyH_takeAt (i := 5) (d := 70) (v := ?vq14x) rfl rfl (by kernel_rfl) (by kernel_rfl) (by kernel_rfl) (fun _ _ _ h => h) (Or.inl ⟨by rfl, ?hyq14x⟩) hHeld ?_
              case hyq14x =>
                intro W hSw
                clear hSw
                (go_simp; try with_reducible rfl)
              simp only [List.setIfInBounds_toArray, List.set_cons_zero, List.set_cons_succ]
              refine wpAnyH_ready (rs := [6]) (by kernel_rfl) (by simp) (AllReadyH.cons rfl (fun K hK => ?_) AllReadyH.nil)
              obtain ⟨cs, rv, hMx, hSg, hSr⟩ := hI1.1
              refine step_store_part (by rfl) (by rfl) 72 _ _ (by rfl) (w.heap.size + 1) (23 + y * 6) cs #[.int .i64 0, .int .i64 0, .int .i64 1, .slice none 0 0, .int .i64 0, .int .i64 0] (by rfl) (by rfl) 75 hMx.blk (by rw [hMx.lay.sz]; simp; omega) (by kernel_rfl) (by simp [Value.oneCell']) ?_
              intro V2 cs2 hB2 hU2 hS2 hT2
              have hM2 := hMx.writer (W' := Wt.new) (pv' := .slice none 0 0) hy4 hB2 hU2 hS2 (OwnK.nil _ _ _) (fun b hb => (nomatch hb)) (hT2.mono (fun b _ e => .inl e))
              have HN : Hid (NwI w (Mt.fresh nb np ni nb np (y + 1)) V2) := Lib.hid ⟨by
                rw [← Mt.fresh_wr]
                refine ⟨_, _, hM2, Nat.le_succ _, fun k hk b hb => ?_⟩
                by_cases hkz : k = 4 + y
                · subst hkz
                  rw [setAt_self] at hb
                  cases hb
                · rw [setAt_ne _ hkz] at hb
                  exact hSr k hk b hb, hI1.2.trans (hT2.below hI1.2.size (fun b e => by omega))⟩
              refine hK.out _ _ trivial (fun hHeld => ?_)
              clear hK K hMx hSg hSr hB2 hU2 hS2 hT2 hM2
              try simp only [List.setIfInBounds_toArray, List.set_cons_zero, List.set_cons_succ]
              refine wpAnyH_done (by kernel_rfl) ?_ _
              clear hHeld
              go_wp2_with fail
              go_round
              case rel => exact ⟨y + 1, by omega, by go_num, HN⟩
              case measure => simp [iOf]; omega
            case neg =>
            have hd3 : decide (y < ni) = false := decide_eq_false hlt
            have hye : y = ni := by omega
            rw [hye] at HI
            clear hlt hy hye
            go_wp2_with fail
            simp only [Exit.jump]
            refine bodyPost_ret (results_tmp2 (by rfl) _ _ _) rfl ?_
            exact .inr ⟨nb, np, ni, rfl, rfl, rfl, HF.out, rfl, HI.out⟩
  · rintro a' w1 ⟨⟨u0, u1, u2, u3, u4, u5, u6, u7, u8, u9, u10, u11, u12, u13, u14, u15, u16, u17, u18, u19, u20, u21, u22, u23, u24, u25, u26, u27, u28, u29, u30, u31, u32, u33, u34, u35, u36, u37, u38, u39, u40, u41, u42, u43, u44, u45, u46, u47, u48, u49, u50, u51, u52, u53, u54, u55, u56, u57, u58, u59, u60, u61, u62, u63, u64, u65, u66, u67, u68, u69, u70, u71, u72, rfl⟩, HF, hb⟩
    go_wp2_with fail
    simp only [Exit.jump]
    refine bodyPost_ret (results_tmp2 (by rfl) _ _ _) rfl ?_
    exact .inl ⟨HF.out, rfl, hb⟩
end
end Go.Proofs.YtpmdicbhliclcaaGreat
