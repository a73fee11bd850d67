/-
  The function that net.All hands back: each message on its way, by their numbers, with bytes of its own. Conditions: bounds.
-/
import Derived.Test.YticabfmjdjcfnaaAll0
namespace Go.Proofs.Yticabfmjdjcfnaa
open Go.RowKit Go.Shelf
attribute [local go_sem] Oper.semAt_some
/-- The block of the bytes that are handed on. -/
def rowOf (x : Array Value) (b : Nat) : Prop := ∃ v f t A q c, x = #[v, .agg #[f, t, .slice A q c]] ∧ Value.ownBlock (.slice A q c) = some b
/-- What is handed on: the number, a message with bytes of its own, made since block B. -/
def VNew (B : Nat) (l : Row) (k : Nat) (x : Array Value) (W : World) : Prop :=
  ∃ p A q c, l[k]? = some p ∧ x = #[.int .i64 p.1, .agg #[.int .i64 p.2.fr, .int .i64 p.2.to, .slice A q c]] ∧ Own W (.slice A q c) p.2.b ∧ ∀ r, Value.ownBlock (.slice A q c) = some r → B ≤ r
theorem round_any {m m' l : Nat} {P : Program} {lr : Nat} {f : FuncId} {tmps : Array Value} {assign body : Code} {w : World} {R : Ending → World → Prop} (h : RoundIn Fence.wide m P lr f tmps assign body w R) : RoundIn (Fence.wide.inRound l) m' P lr f tmps assign body w R :=
  ⟨h.1, fun c cs _ => h.2 c cs (fun d hd => by cases hd)⟩
theorem mem_one {l : Row} {k : Nat} {p : Int × Msg} (h : l[k]? = some p) : p ∈ l := List.mem_of_getElem? h
/-- What a round of the one behind may turn. -/
def Mine3 (T : Nat → Prop) (B : Nat) (x : Array Value) : Nat → Prop := fun b => Mine2 T B b ∨ rowOf x b
set_option maxRecDepth 100000 in
set_option maxHeartbeats 8000000 in
theorem all_in (n : Nat) (hn : 2 ≤ n) (cb m : Nat) (l : Row) (X T : Nat → Prop) (w : World) (hc : w.cell? ⟨cb, 0, none⟩ = some (.map (some m))) (hM : NM w X m l) (hT : ∀ b, T b → b ≠ cb ∧ b ≠ m ∧ X b) (hTl : ∀ b, T b → b < w.heap.size) (hsh : ∀ p ∈ l, p.2.b.length ≤ 1000000000) :
    SeqV (Turn (fun b => w.heap.size + 2 ≤ b)) Fence.wide n Try.prog 39 #[.pointer (some ⟨cb, 0, none⟩)] (VNew (w.heap.size + 2) l) l.length (fun x => Turn (Mine3 T w.heap.size x)) w := fun lr J Jx W hW hsz hJ hJx hY h0 => by
  have hcb : cb < w.heap.size := block_lt_of_cell hc
  have hml := hM.lt
  have hcW := (hW.cell (p := ⟨cb, 0, none⟩) hcb (fun h => h)).trans hc
  have hM' : NM w (fun b => X b ∨ w.heap.size ≤ b) m l := hM.wide (fun b hb e => e.elim id (fun e => absurd e (by omega)))
  have hMW : NM W (fun b => X b ∨ w.heap.size ≤ b) m l := hM'.keep hW (fun _ _ h => h.elim) (fun h => h)
  refine callsIn_of_wp_marks Try.func39 rfl trivial ?_ rfl
  simp only [Try.ntmps39, List.size_toArray, List.length_cons, List.length_nil, Nat.reduceAdd, Nat.reduceSub, Array.replicate_succ, Array.replicate_zero, List.push_toArray, List.append_toArray, List.nil_append, List.cons_append]
  have HY := Lib.hid hY
  have HJ := Lib.hid hJ
  have HJX := Lib.hid hJx
  have HT := Lib.hid hT
  have HTL := Lib.hid hTl
  have HSH := Lib.hid hsh
  have hbA : Below W.heap.size W (W.alloc (.cells #[.func (.yield lr) #[] #[]] 80)) := (Below.refl _ _).alloc (Nat.le_refl _) _
  have kA : Blk (W.alloc (.cells #[.func (.yield lr) #[] #[]] 80)) W.heap.size 80 #[.func (.yield lr) #[] #[]] := Blk.new _ _ _
  have hMA := hMW.below hbA
  have hcA := (hbA.cell (p := ⟨cb, 0, none⟩) (show cb < _ by omega)).trans hcW
  have hJA : J 0 _ := HJ.out 0 _ _ h0 (Turn.of_below hbA _)
  clear hY hJ hJx hW hc hM hM' hMW hT hTl hsh hcW h0
  gi_wp2_with fail
  generalize W.alloc (.cells #[.func (.yield lr) #[] #[]] 80) = WA at *
  have hzA := hbA.size
  have hlA := kA.lt
  refine ⟨trivial, fun h => (by cases h), (callsIn_wide.2 (inOrder_any m WA)).mono ?_⟩
  rintro e WB ⟨rfl, hWB⟩
  have hbB : Below WA.heap.size WA WB := by rw [← hWB]; exact (Below.refl _ _).alloc (Nat.le_refl _) _
  have hxB : WB.cell? ⟨WA.heap.size, 0, none⟩ = some (.map (some m)) := by rw [← hWB]; exact (Blk.new WA 69 _).cell 0
  have hzB : WB.heap.size = WA.heap.size + 1 := by rw [← hWB]; simp
  have HZB := Lib.hid hzB
  clear hWB hzB
  have hzB' := hbB.size
  have hltB : WA.heap.size < WB.heap.size := block_lt_of_cell hxB
  have kB := kA.below hbB kA.lt
  have hMB := hMA.below hbB
  have hJB : J 0 WB := HJ.out 0 _ _ hJA (Turn.of_below hbB _)
  clear hMA hJA kA hcA
  gi_wp2_with fail
  refine range_v (Ab := Turn No) rfl (by omega) (gf := 47) (lb := #[.pointer (some ⟨WA.heap.size, 0, none⟩)]) rfl trivial (enters_of Try.func47 (by kernel_rfl) rfl)
    (iter_in (n - 1) (by omega) WA.heap.size m l (fun b => X b ∨ w.heap.size ≤ b) (Mine2 T w.heap.size) WB hxB hMB
      (fun b e => by
        rcases e with e | e | e
        · have q := HT.out b e
          have q' := HTL.out b e
          exact ⟨by omega, q.2.1, .inl q.2.2⟩
        · exact ⟨by omega, by omega, .inr (by omega)⟩
        · exact ⟨by omega, by omega, .inr (by omega)⟩)
      (fun b e => by
        rcases e with e | e | e
        · have q' := HTL.out b e
          omega
        · omega
        · omega))
    (fun h h' => h.trans h' (fun _ _ e => e)) (fun x A B ht hz => ht.mono (fun b _ e => .inr e)) (fun k x A hv => by obtain ⟨p, v, _, e, _⟩ := hv; rw [e]; rfl)
    (fun A B b ht _ hb => ht.block b hb (fun h => h))
    (fun k A => J k A ∧ Blk A W.heap.size 80 #[.func (.yield lr) #[] #[]]) (fun c k A => c = .ret ∧ Jx k A)
    (fun k A B hi ht => ⟨HJ.out k A B hi.1 (ht.mono (fun b _ e => by rcases e with e | e <;> omega)), hi.2.keep ht (fun e => by rcases e with e | e <;> omega)⟩)
    (fun c k A B hi ht => ⟨hi.1, HJX.out k A B hi.2 (ht.mono (fun b _ e => by rcases e with e | e <;> omega))⟩)
    (fun k A B hi ht => ⟨HJ.out k A B hi.1 (ht.mono (fun _ _ e => e.elim)), hi.2.keep ht (fun e => e)⟩)
    (fun c k A B hi ht => ⟨hi.1, HJX.out k A B hi.2 (ht.mono (fun _ _ e => e.elim))⟩)
    ⟨hJB, kB⟩ (fun x => .cells (x.getD 1 undef).cells 39)
    (fun x b => { tmps := #[.func (.yield lr) #[] #[], .pointer (some ⟨cb, 0, none⟩), .pointer (some ⟨W.heap.size, 0, none⟩), x.getD 0 undef, .pointer (some ⟨b, 0, none⟩), .map (some m), .func (.func 47) #[] #[.pointer (some ⟨WA.heap.size, 0, none⟩)], x.getD 0 undef, x.getD 1 undef, undef, undef, undef, undef, undef, undef], defers := [] })
    ?assign ?body ?done ?stop
  case assign =>
    intro li k x A K hk hv hK
    obtain ⟨p, v, _, rfl, Am, nm, cm, rfl, _⟩ := hv
    gi_wp2
    exact hK
  case body =>
    intro li k x A0 A hI0 hk hv hob hbB0 hTA
    obtain ⟨p, v, hp, rfl, Am, nm, cm, rfl, hby⟩ := hv
    obtain ⟨hJ0, hkb0⟩ := hI0
    have hJA : J k A := HJ.out k A0 A hJ0 (hTA.mono (fun b _ e => by rcases e with e | e <;> omega))
    have kA := hkb0.keep hTA (fun e => by rcases e with e | e <;> omega)
    have hbyA : MsgV A (fun b => X b ∨ w.heap.size ≤ b) p.2 (.agg #[.int .i64 p.2.fr, .int .i64 p.2.to, .slice Am nm cm]) := ⟨_, _, _, rfl, hby.keep hTA (fun b _ e => by rcases e with e | e <;> exact .inr (by omega))⟩
    have kM : Blk A A0.heap.size 39 #[.int .i64 p.2.fr, .int .i64 p.2.to, .slice Am nm cm] := hob
    have hz0 := hTA.size
    have hbl := HSH.out p (mem_one hp)
    obtain ⟨b, hbe⟩ : ∃ b, b = A0.heap.size := ⟨_, rfl⟩
    rw [← hbe] at kM hbB0 ⊢
    have hAz : b < A.heap.size := kM.lt
    clear hbe hTA hJ0 hkb0 hby hob hz0
    obtain ⟨s0, s1, s2⟩ := kM.three
    have y0 : A.cell? ⟨W.heap.size, 0, none⟩ = some (.func (.yield lr) #[] #[]) := kA.cell 0
    have g0 : (#[Value.int IntKind.i64 p.1, Value.agg #[.int .i64 p.2.fr, .int .i64 p.2.to, .slice Am nm cm]]).getD 0 undef = .int .i64 p.1 := rfl
    have g1 : (#[Value.int IntKind.i64 p.1, Value.agg #[.int .i64 p.2.fr, .int .i64 p.2.to, .slice Am nm cm]]).getD 1 undef = .agg #[.int .i64 p.2.fr, .int .i64 p.2.to, .slice Am nm cm] := rfl
    rw [g0, g1]
    clear g0 g1
    have hstep : ∀ v3 A3, NewMsg A p.2 v3 A3 → Below A.heap.size A A3 → ∃ fn tmps assign body, (Instr.yield lr #[.int .i64 p.1, v3]).run Try.prog A3 = .ok (.round lr fn tmps assign body) A3 ∧ RoundIn Fence.wide (n - 1) Try.prog lr fn tmps assign body A3 fun e W' =>
        (e = .returned (.bool true) ∧ (Both WB.heap.size A W' ∧ Turn (Mine2 (Mine2 T w.heap.size) WB.heap.size) A W' ∧ (J (k + 1) W' ∧ Blk W' W.heap.size 80 #[.func (.yield lr) #[] #[]]))) ∨ (e = .returned (.bool false) ∧ (Both WB.heap.size A W' ∧ Turn (Mine2 (Mine2 T w.heap.size) WB.heap.size) A W' ∧ (Code.ret = Code.ret ∧ Jx k W'))) := by
      intro v3 A3 hn3 hb3
      obtain ⟨A', n', c', rfl, ho, hnw⟩ := hn3
      have hz3 := hb3.size
      have hJ3 : J k A3 := HJ.out k A A3 hJA ((Turn.of_below hb3 (fun b => w.heap.size + 2 ≤ b)))
      obtain ⟨fn, tmps, assign, body, hy, hR⟩ := HY.out k _ A3 hJ3 hk ⟨p, A', n', c', hp, rfl, ho, fun r e => by have := hnw r e; omega⟩
      have key : ∀ W', Turn (Mine3 T w.heap.size #[.int .i64 p.1, .agg #[.int .i64 p.2.fr, .int .i64 p.2.to, .slice A' n' c']]) A3 W' → Both WB.heap.size A W' ∧ Turn (Mine2 (Mine2 T w.heap.size) WB.heap.size) A W' ∧ Blk W' W.heap.size 80 #[.func (.yield lr) #[] #[]] := fun W' ht => by
        have hT : Turn (Mine2 T w.heap.size) A W' := (Turn.of_below hb3 (Mine2 T w.heap.size)).trans ht (fun b hb e => by
          rcases e with e | e
          · exact e
          · obtain ⟨v, f, t, A2, q2, c2, e1, e2⟩ := e
            simp at e1
            obtain ⟨_, _, _, rfl, rfl, rfl⟩ := e1
            have := hnw b e2
            omega)
        have hno : ∀ b, w.heap.size + 2 ≤ b → ¬ Mine2 T w.heap.size b := fun b hb e => by
          rcases e with e | e | e
          · have := HTL.out b e; omega
          · omega
          · omega
        exact ⟨Both.of_turn hT (by omega) (hno _ (by omega)) (hno _ (by omega)), hT.mono (fun b _ e => .inl e), kA.keep hT (hno _ (by omega))⟩
      refine ⟨fn, tmps, assign, body, hy, hR.mono ?_⟩
      rintro e W' (⟨rfl, hJ', hk'⟩ | ⟨rfl, hJ', hk'⟩)
      · obtain ⟨q1, q2, q3⟩ := key W' hk'
        exact .inl ⟨rfl, q1, q2, hJ', q3⟩
      · obtain ⟨q1, q2, q3⟩ := key W' hk'
        exact .inr ⟨rfl, q1, q2, rfl, hJ'⟩
    have HST := Lib.hid hstep
    clear hstep HY HJ HJX
    gi_wp2_with fail
    refine wpIn_region_any (by kernel_rfl) ?_
    refine wpAnyIn_ready (rs := [0, 1, 2]) (by kernel_rfl) (by simp) (AllReadyIn.cons rfl (fun K hK => ?_) (AllReadyIn.cons rfl (fun K hK => ?_) (AllReadyIn.cons rfl (fun K hK => ?_) AllReadyIn.nil)))
    · go_simp
      refine hK _ _ ?_
      clear hK K
      try simp only [List.setIfInBounds_toArray, List.set_cons_zero, List.set_cons_succ]
      refine wpAnyIn_ready (rs := [1, 2]) (by kernel_rfl) (by simp) (AllReadyIn.cons rfl (fun K hK => ?_) (AllReadyIn.cons rfl (fun K hK => ?_) AllReadyIn.nil))
      · go_simp
        refine hK _ _ ?_
        clear hK K
        try simp only [List.setIfInBounds_toArray, List.set_cons_zero, List.set_cons_succ]
        refine wpAnyIn_ready (rs := [2]) (by kernel_rfl) (by simp) (AllReadyIn.cons rfl (fun K hK => ?_) AllReadyIn.nil)
        go_simp
        refine hK _ _ ?_
        clear hK K
        try simp only [List.setIfInBounds_toArray, List.set_cons_zero, List.set_cons_succ]
        refine wpAnyIn_ready (rs := [3]) (by kernel_rfl) (by simp) (AllReadyIn.cons rfl (fun K hK => ?_) AllReadyIn.nil)
        go_simp
        refine ⟨trivial, fun h => (by cases h), (CallsIn.inRound li (callsIn_wide.2 (another_any (w := A.drew) (hbyA.below (Below.refl _ _).drew) hbl))).mono ?_⟩
        rintro e A3 ⟨v3, rfl, hn3, hb3⟩
        replace hb3 : Below A.heap.size A A3 := ((Below.refl _ _).drew).trans hb3
        replace hn3 : NewMsg A p.2 v3 A3 := hn3
        have u0 := (hb3.cell (p := ⟨W.heap.size, 0, none⟩) (show W.heap.size < _ by omega)).trans y0
        refine hK _ _ ?_
        clear hK K
        try simp only [List.setIfInBounds_toArray, List.set_cons_zero, List.set_cons_succ]
        obtain ⟨fn, tmps, assign, body, hy, hR⟩ := HST.out _ _ hn3 hb3
        refine wpAnyIn_ready (rs := [4]) (by kernel_rfl) (by simp) (AllReadyIn.cons rfl (fun K hK => ?_) AllReadyIn.nil)
        go_simp
        refine ⟨fun h => (by cases h), (round_any hR).mono ?_⟩
        rintro e W' (⟨rfl, hq⟩ | ⟨rfl, hq⟩)
        · refine hK _ _ ?_
          clear hK K hy hR
          try simp only [List.setIfInBounds_toArray, List.set_cons_zero, List.set_cons_succ]
          refine wpAnyIn_ready (rs := [5]) (by kernel_rfl) (by simp) (AllReadyIn.cons rfl (fun K hK => ?_) AllReadyIn.nil)
          go_simp
          refine hK _ _ ?_
          clear hK K
          try simp only [List.setIfInBounds_toArray, List.set_cons_zero, List.set_cons_succ]
          refine wpAnyIn_done (by kernel_rfl) ?_ _
          gi_wp2_with fail
          exact hq
        · refine hK _ _ ?_
          clear hK K hy hR
          try simp only [List.setIfInBounds_toArray, List.set_cons_zero, List.set_cons_succ]
          refine wpAnyIn_ready (rs := [5]) (by kernel_rfl) (by simp) (AllReadyIn.cons rfl (fun K hK => ?_) AllReadyIn.nil)
          go_simp
          refine hK _ _ ?_
          clear hK K
          try simp only [List.setIfInBounds_toArray, List.set_cons_zero, List.set_cons_succ]
          refine wpAnyIn_done (by kernel_rfl) ?_ _
          gi_wp2_with fail
          exact ⟨hq.1, hq.2.1, rfl, hq.2.2.2⟩
      · go_simp
        refine hK _ _ ?_
        clear hK K
        try simp only [List.setIfInBounds_toArray, List.set_cons_zero, List.set_cons_succ]
        refine wpAnyIn_ready (rs := [1, 3]) (by kernel_rfl) (by simp) (AllReadyIn.cons rfl (fun K hK => ?_) (AllReadyIn.cons rfl (fun K hK => ?_) AllReadyIn.nil))
        · go_simp
          refine hK _ _ ?_
          clear hK K
          try simp only [List.setIfInBounds_toArray, List.set_cons_zero, List.set_cons_succ]
          refine wpAnyIn_ready (rs := [3]) (by kernel_rfl) (by simp) (AllReadyIn.cons rfl (fun K hK => ?_) AllReadyIn.nil)
          go_simp
          refine ⟨trivial, fun h => (by cases h), (CallsIn.inRound li (callsIn_wide.2 (another_any (w := A.drew) (hbyA.below (Below.refl _ _).drew) hbl))).mono ?_⟩
          rintro e A3 ⟨v3, rfl, hn3, hb3⟩
          replace hb3 : Below A.heap.size A A3 := ((Below.refl _ _).drew).trans hb3
          replace hn3 : NewMsg A p.2 v3 A3 := hn3
          have u0 := (hb3.cell (p := ⟨W.heap.size, 0, none⟩) (show W.heap.size < _ by omega)).trans y0
          refine hK _ _ ?_
          clear hK K
          try simp only [List.setIfInBounds_toArray, List.set_cons_zero, List.set_cons_succ]
          obtain ⟨fn, tmps, assign, body, hy, hR⟩ := HST.out _ _ hn3 hb3
          refine wpAnyIn_ready (rs := [4]) (by kernel_rfl) (by simp) (AllReadyIn.cons rfl (fun K hK => ?_) AllReadyIn.nil)
          go_simp
          refine ⟨fun h => (by cases h), (round_any hR).mono ?_⟩
          rintro e W' (⟨rfl, hq⟩ | ⟨rfl, hq⟩)
          · refine hK _ _ ?_
            clear hK K hy hR
            try simp only [List.setIfInBounds_toArray, List.set_cons_zero, List.set_cons_succ]
            refine wpAnyIn_ready (rs := [5]) (by kernel_rfl) (by simp) (AllReadyIn.cons rfl (fun K hK => ?_) AllReadyIn.nil)
            go_simp
            refine hK _ _ ?_
            clear hK K
            try simp only [List.setIfInBounds_toArray, List.set_cons_zero, List.set_cons_succ]
            refine wpAnyIn_done (by kernel_rfl) ?_ _
            gi_wp2_with fail
            exact hq
          · refine hK _ _ ?_
            clear hK K hy hR
            try simp only [List.setIfInBounds_toArray, List.set_cons_zero, List.set_cons_succ]
            refine wpAnyIn_ready (rs := [5]) (by kernel_rfl) (by simp) (AllReadyIn.cons rfl (fun K hK => ?_) AllReadyIn.nil)
            go_simp
            refine hK _ _ ?_
            clear hK K
            try simp only [List.setIfInBounds_toArray, List.set_cons_zero, List.set_cons_succ]
            refine wpAnyIn_done (by kernel_rfl) ?_ _
            gi_wp2_with fail
            exact ⟨hq.1, hq.2.1, rfl, hq.2.2.2⟩
        · go_simp
          refine ⟨trivial, fun h => (by cases h), (CallsIn.inRound li (callsIn_wide.2 (another_any (w := A.drew) (hbyA.below (Below.refl _ _).drew) hbl))).mono ?_⟩
          rintro e A3 ⟨v3, rfl, hn3, hb3⟩
          replace hb3 : Below A.heap.size A A3 := ((Below.refl _ _).drew).trans hb3
          replace hn3 : NewMsg A p.2 v3 A3 := hn3
          have u0 := (hb3.cell (p := ⟨W.heap.size, 0, none⟩) (show W.heap.size < _ by omega)).trans y0
          refine hK _ _ ?_
          clear hK K
          try simp only [List.setIfInBounds_toArray, List.set_cons_zero, List.set_cons_succ]
          refine wpAnyIn_ready (rs := [1]) (by kernel_rfl) (by simp) (AllReadyIn.cons rfl (fun K hK => ?_) AllReadyIn.nil)
          go_simp
          refine hK _ _ ?_
          clear hK K
          try simp only [List.setIfInBounds_toArray, List.set_cons_zero, List.set_cons_succ]
          obtain ⟨fn, tmps, assign, body, hy, hR⟩ := HST.out _ _ hn3 hb3
          refine wpAnyIn_ready (rs := [4]) (by kernel_rfl) (by simp) (AllReadyIn.cons rfl (fun K hK => ?_) AllReadyIn.nil)
          go_simp
          refine ⟨fun h => (by cases h), (round_any hR).mono ?_⟩
          rintro e W' (⟨rfl, hq⟩ | ⟨rfl, hq⟩)
          · refine hK _ _ ?_
            clear hK K hy hR
            try simp only [List.setIfInBounds_toArray, List.set_cons_zero, List.set_cons_succ]
            refine wpAnyIn_ready (rs := [5]) (by kernel_rfl) (by simp) (AllReadyIn.cons rfl (fun K hK => ?_) AllReadyIn.nil)
            go_simp
            refine hK _ _ ?_
            clear hK K
            try simp only [List.setIfInBounds_toArray, List.set_cons_zero, List.set_cons_succ]
            refine wpAnyIn_done (by kernel_rfl) ?_ _
            gi_wp2_with fail
            exact hq
          · refine hK _ _ ?_
            clear hK K hy hR
            try simp only [List.setIfInBounds_toArray, List.set_cons_zero, List.set_cons_succ]
            refine wpAnyIn_ready (rs := [5]) (by kernel_rfl) (by simp) (AllReadyIn.cons rfl (fun K hK => ?_) AllReadyIn.nil)
            go_simp
            refine hK _ _ ?_
            clear hK K
            try simp only [List.setIfInBounds_toArray, List.set_cons_zero, List.set_cons_succ]
            refine wpAnyIn_done (by kernel_rfl) ?_ _
            gi_wp2_with fail
            exact ⟨hq.1, hq.2.1, rfl, hq.2.2.2⟩
    · go_simp
      refine hK _ _ ?_
      clear hK K
      try simp only [List.setIfInBounds_toArray, List.set_cons_zero, List.set_cons_succ]
      refine wpAnyIn_ready (rs := [0, 2]) (by kernel_rfl) (by simp) (AllReadyIn.cons rfl (fun K hK => ?_) (AllReadyIn.cons rfl (fun K hK => ?_) AllReadyIn.nil))
      · go_simp
        refine hK _ _ ?_
        clear hK K
        try simp only [List.setIfInBounds_toArray, List.set_cons_zero, List.set_cons_succ]
        refine wpAnyIn_ready (rs := [2]) (by kernel_rfl) (by simp) (AllReadyIn.cons rfl (fun K hK => ?_) AllReadyIn.nil)
        go_simp
        refine hK _ _ ?_
        clear hK K
        try simp only [List.setIfInBounds_toArray, List.set_cons_zero, List.set_cons_succ]
        refine wpAnyIn_ready (rs := [3]) (by kernel_rfl) (by simp) (AllReadyIn.cons rfl (fun K hK => ?_) AllReadyIn.nil)
        go_simp
        refine ⟨trivial, fun h => (by cases h), (CallsIn.inRound li (callsIn_wide.2 (another_any (w := A.drew) (hbyA.below (Below.refl _ _).drew) hbl))).mono ?_⟩
        rintro e A3 ⟨v3, rfl, hn3, hb3⟩
        replace hb3 : Below A.heap.size A A3 := ((Below.refl _ _).drew).trans hb3
        replace hn3 : NewMsg A p.2 v3 A3 := hn3
        have u0 := (hb3.cell (p := ⟨W.heap.size, 0, none⟩) (show W.heap.size < _ by omega)).trans y0
        refine hK _ _ ?_
        clear hK K
        try simp only [List.setIfInBounds_toArray, List.set_cons_zero, List.set_cons_succ]
        obtain ⟨fn, tmps, assign, body, hy, hR⟩ := HST.out _ _ hn3 hb3
        refine wpAnyIn_ready (rs := [4]) (by kernel_rfl) (by simp) (AllReadyIn.cons rfl (fun K hK => ?_) AllReadyIn.nil)
        go_simp
        refine ⟨fun h => (by cases h), (round_any hR).mono ?_⟩
        rintro e W' (⟨rfl, hq⟩ | ⟨rfl, hq⟩)
        · refine hK _ _ ?_
          clear hK K hy hR
          try simp only [List.setIfInBounds_toArray, List.set_cons_zero, List.set_cons_succ]
          refine wpAnyIn_ready (rs := [5]) (by kernel_rfl) (by simp) (AllReadyIn.cons rfl (fun K hK => ?_) AllReadyIn.nil)
          go_simp
          refine hK _ _ ?_
          clear hK K
          try simp only [List.setIfInBounds_toArray, List.set_cons_zero, List.set_cons_succ]
          refine wpAnyIn_done (by kernel_rfl) ?_ _
          gi_wp2_with fail
          exact hq
        · refine hK _ _ ?_
          clear hK K hy hR
          try simp only [List.setIfInBounds_toArray, List.set_cons_zero, List.set_cons_succ]
          refine wpAnyIn_ready (rs := [5]) (by kernel_rfl) (by simp) (AllReadyIn.cons rfl (fun K hK => ?_) AllReadyIn.nil)
          go_simp
          refine hK _ _ ?_
          clear hK K
          try simp only [List.setIfInBounds_toArray, List.set_cons_zero, List.set_cons_succ]
          refine wpAnyIn_done (by kernel_rfl) ?_ _
          gi_wp2_with fail
          exact ⟨hq.1, hq.2.1, rfl, hq.2.2.2⟩
      · go_simp
        refine hK _ _ ?_
        clear hK K
        try simp only [List.setIfInBounds_toArray, List.set_cons_zero, List.set_cons_succ]
        refine wpAnyIn_ready (rs := [0, 3]) (by kernel_rfl) (by simp) (AllReadyIn.cons rfl (fun K hK => ?_) (AllReadyIn.cons rfl (fun K hK => ?_) AllReadyIn.nil))
        · go_simp
          refine hK _ _ ?_
          clear hK K
          try simp only [List.setIfInBounds_toArray, List.set_cons_zero, List.set_cons_succ]
          refine wpAnyIn_ready (rs := [3]) (by kernel_rfl) (by simp) (AllReadyIn.cons rfl (fun K hK => ?_) AllReadyIn.nil)
          go_simp
          refine ⟨trivial, fun h => (by cases h), (CallsIn.inRound li (callsIn_wide.2 (another_any (w := A.drew) (hbyA.below (Below.refl _ _).drew) hbl))).mono ?_⟩
          rintro e A3 ⟨v3, rfl, hn3, hb3⟩
          replace hb3 : Below A.heap.size A A3 := ((Below.refl _ _).drew).trans hb3
          replace hn3 : NewMsg A p.2 v3 A3 := hn3
          have u0 := (hb3.cell (p := ⟨W.heap.size, 0, none⟩) (show W.heap.size < _ by omega)).trans y0
          refine hK _ _ ?_
          clear hK K
          try simp only [List.setIfInBounds_toArray, List.set_cons_zero, List.set_cons_succ]
          obtain ⟨fn, tmps, assign, body, hy, hR⟩ := HST.out _ _ hn3 hb3
          refine wpAnyIn_ready (rs := [4]) (by kernel_rfl) (by simp) (AllReadyIn.cons rfl (fun K hK => ?_) AllReadyIn.nil)
          go_simp
          refine ⟨fun h => (by cases h), (round_any hR).mono ?_⟩
          rintro e W' (⟨rfl, hq⟩ | ⟨rfl, hq⟩)
          · refine hK _ _ ?_
            clear hK K hy hR
            try simp only [List.setIfInBounds_toArray, List.set_cons_zero, List.set_cons_succ]
            refine wpAnyIn_ready (rs := [5]) (by kernel_rfl) (by simp) (AllReadyIn.cons rfl (fun K hK => ?_) AllReadyIn.nil)
            go_simp
            refine hK _ _ ?_
            clear hK K
            try simp only [List.setIfInBounds_toArray, List.set_cons_zero, List.set_cons_succ]
            refine wpAnyIn_done (by kernel_rfl) ?_ _
            gi_wp2_with fail
            exact hq
          · refine hK _ _ ?_
            clear hK K hy hR
            try simp only [List.setIfInBounds_toArray, List.set_cons_zero, List.set_cons_succ]
            refine wpAnyIn_ready (rs := [5]) (by kernel_rfl) (by simp) (AllReadyIn.cons rfl (fun K hK => ?_) AllReadyIn.nil)
            go_simp
            refine hK _ _ ?_
            clear hK K
            try simp only [List.setIfInBounds_toArray, List.set_cons_zero, List.set_cons_succ]
            refine wpAnyIn_done (by kernel_rfl) ?_ _
            gi_wp2_with fail
            exact ⟨hq.1, hq.2.1, rfl, hq.2.2.2⟩
        · go_simp
          refine ⟨trivial, fun h => (by cases h), (CallsIn.inRound li (callsIn_wide.2 (another_any (w := A.drew) (hbyA.below (Below.refl _ _).drew) hbl))).mono ?_⟩
          rintro e A3 ⟨v3, rfl, hn3, hb3⟩
          replace hb3 : Below A.heap.size A A3 := ((Below.refl _ _).drew).trans hb3
          replace hn3 : NewMsg A p.2 v3 A3 := hn3
          have u0 := (hb3.cell (p := ⟨W.heap.size, 0, none⟩) (show W.heap.size < _ by omega)).trans y0
          refine hK _ _ ?_
          clear hK K
          try simp only [List.setIfInBounds_toArray, List.set_cons_zero, List.set_cons_succ]
          refine wpAnyIn_ready (rs := [0]) (by kernel_rfl) (by simp) (AllReadyIn.cons rfl (fun K hK => ?_) AllReadyIn.nil)
          go_simp
          refine hK _ _ ?_
          clear hK K
          try simp only [List.setIfInBounds_toArray, List.set_cons_zero, List.set_cons_succ]
          obtain ⟨fn, tmps, assign, body, hy, hR⟩ := HST.out _ _ hn3 hb3
          refine wpAnyIn_ready (rs := [4]) (by kernel_rfl) (by simp) (AllReadyIn.cons rfl (fun K hK => ?_) AllReadyIn.nil)
          go_simp
          refine ⟨fun h => (by cases h), (round_any hR).mono ?_⟩
          rintro e W' (⟨rfl, hq⟩ | ⟨rfl, hq⟩)
          · refine hK _ _ ?_
            clear hK K hy hR
            try simp only [List.setIfInBounds_toArray, List.set_cons_zero, List.set_cons_succ]
            refine wpAnyIn_ready (rs := [5]) (by kernel_rfl) (by simp) (AllReadyIn.cons rfl (fun K hK => ?_) AllReadyIn.nil)
            go_simp
            refine hK _ _ ?_
            clear hK K
            try simp only [List.setIfInBounds_toArray, List.set_cons_zero, List.set_cons_succ]
            refine wpAnyIn_done (by kernel_rfl) ?_ _
            gi_wp2_with fail
            exact hq
          · refine hK _ _ ?_
            clear hK K hy hR
            try simp only [List.setIfInBounds_toArray, List.set_cons_zero, List.set_cons_succ]
            refine wpAnyIn_ready (rs := [5]) (by kernel_rfl) (by simp) (AllReadyIn.cons rfl (fun K hK => ?_) AllReadyIn.nil)
            go_simp
            refine hK _ _ ?_
            clear hK K
            try simp only [List.setIfInBounds_toArray, List.set_cons_zero, List.set_cons_succ]
            refine wpAnyIn_done (by kernel_rfl) ?_ _
            gi_wp2_with fail
            exact ⟨hq.1, hq.2.1, rfl, hq.2.2.2⟩
    · go_simp
      refine hK _ _ ?_
      clear hK K
      try simp only [List.setIfInBounds_toArray, List.set_cons_zero, List.set_cons_succ]
      refine wpAnyIn_ready (rs := [0, 1, 3]) (by kernel_rfl) (by simp) (AllReadyIn.cons rfl (fun K hK => ?_) (AllReadyIn.cons rfl (fun K hK => ?_) (AllReadyIn.cons rfl (fun K hK => ?_) AllReadyIn.nil)))
      · go_simp
        refine hK _ _ ?_
        clear hK K
        try simp only [List.setIfInBounds_toArray, List.set_cons_zero, List.set_cons_succ]
        refine wpAnyIn_ready (rs := [1, 3]) (by kernel_rfl) (by simp) (AllReadyIn.cons rfl (fun K hK => ?_) (AllReadyIn.cons rfl (fun K hK => ?_) AllReadyIn.nil))
        · go_simp
          refine hK _ _ ?_
          clear hK K
          try simp only [List.setIfInBounds_toArray, List.set_cons_zero, List.set_cons_succ]
          refine wpAnyIn_ready (rs := [3]) (by kernel_rfl) (by simp) (AllReadyIn.cons rfl (fun K hK => ?_) AllReadyIn.nil)
          go_simp
          refine ⟨trivial, fun h => (by cases h), (CallsIn.inRound li (callsIn_wide.2 (another_any (w := A.drew) (hbyA.below (Below.refl _ _).drew) hbl))).mono ?_⟩
          rintro e A3 ⟨v3, rfl, hn3, hb3⟩
          replace hb3 : Below A.heap.size A A3 := ((Below.refl _ _).drew).trans hb3
          replace hn3 : NewMsg A p.2 v3 A3 := hn3
          have u0 := (hb3.cell (p := ⟨W.heap.size, 0, none⟩) (show W.heap.size < _ by omega)).trans y0
          refine hK _ _ ?_
          clear hK K
          try simp only [List.setIfInBounds_toArray, List.set_cons_zero, List.set_cons_succ]
          obtain ⟨fn, tmps, assign, body, hy, hR⟩ := HST.out _ _ hn3 hb3
          refine wpAnyIn_ready (rs := [4]) (by kernel_rfl) (by simp) (AllReadyIn.cons rfl (fun K hK => ?_) AllReadyIn.nil)
          go_simp
          refine ⟨fun h => (by cases h), (round_any hR).mono ?_⟩
          rintro e W' (⟨rfl, hq⟩ | ⟨rfl, hq⟩)
          · refine hK _ _ ?_
            clear hK K hy hR
            try simp only [List.setIfInBounds_toArray, List.set_cons_zero, List.set_cons_succ]
            refine wpAnyIn_ready (rs := [5]) (by kernel_rfl) (by simp) (AllReadyIn.cons rfl (fun K hK => ?_) AllReadyIn.nil)
            go_simp
            refine hK _ _ ?_
            clear hK K
            try simp only [List.setIfInBounds_toArray, List.set_cons_zero, List.set_cons_succ]
            refine wpAnyIn_done (by kernel_rfl) ?_ _
            gi_wp2_with fail
            exact hq
          · refine hK _ _ ?_
            clear hK K hy hR
            try simp only [List.setIfInBounds_toArray, List.set_cons_zero, List.set_cons_succ]
            refine wpAnyIn_ready (rs := [5]) (by kernel_rfl) (by simp) (AllReadyIn.cons rfl (fun K hK => ?_) AllReadyIn.nil)
            go_simp
            refine hK _ _ ?_
            clear hK K
            try simp only [List.setIfInBounds_toArray, List.set_cons_zero, List.set_cons_succ]
            refine wpAnyIn_done (by kernel_rfl) ?_ _
            gi_wp2_with fail
            exact ⟨hq.1, hq.2.1, rfl, hq.2.2.2⟩
        · go_simp
          refine ⟨trivial, fun h => (by cases h), (CallsIn.inRound li (callsIn_wide.2 (another_any (w := A.drew) (hbyA.below (Below.refl _ _).drew) hbl))).mono ?_⟩
          rintro e A3 ⟨v3, rfl, hn3, hb3⟩
          replace hb3 : Below A.heap.size A A3 := ((Below.refl _ _).drew).trans hb3
          replace hn3 : NewMsg A p.2 v3 A3 := hn3
          have u0 := (hb3.cell (p := ⟨W.heap.size, 0, none⟩) (show W.heap.size < _ by omega)).trans y0
          refine hK _ _ ?_
          clear hK K
          try simp only [List.setIfInBounds_toArray, List.set_cons_zero, List.set_cons_succ]
          refine wpAnyIn_ready (rs := [1]) (by kernel_rfl) (by simp) (AllReadyIn.cons rfl (fun K hK => ?_) AllReadyIn.nil)
          go_simp
          refine hK _ _ ?_
          clear hK K
          try simp only [List.setIfInBounds_toArray, List.set_cons_zero, List.set_cons_succ]
          obtain ⟨fn, tmps, assign, body, hy, hR⟩ := HST.out _ _ hn3 hb3
          refine wpAnyIn_ready (rs := [4]) (by kernel_rfl) (by simp) (AllReadyIn.cons rfl (fun K hK => ?_) AllReadyIn.nil)
          go_simp
          refine ⟨fun h => (by cases h), (round_any hR).mono ?_⟩
          rintro e W' (⟨rfl, hq⟩ | ⟨rfl, hq⟩)
          · refine hK _ _ ?_
            clear hK K hy hR
            try simp only [List.setIfInBounds_toArray, List.set_cons_zero, List.set_cons_succ]
            refine wpAnyIn_ready (rs := [5]) (by kernel_rfl) (by simp) (AllReadyIn.cons rfl (fun K hK => ?_) AllReadyIn.nil)
            go_simp
            refine hK _ _ ?_
            clear hK K
            try simp only [List.setIfInBounds_toArray, List.set_cons_zero, List.set_cons_succ]
            refine wpAnyIn_done (by kernel_rfl) ?_ _
            gi_wp2_with fail
            exact hq
          · refine hK _ _ ?_
            clear hK K hy hR
            try simp only [List.setIfInBounds_toArray, List.set_cons_zero, List.set_cons_succ]
            refine wpAnyIn_ready (rs := [5]) (by kernel_rfl) (by simp) (AllReadyIn.cons rfl (fun K hK => ?_) AllReadyIn.nil)
            go_simp
            refine hK _ _ ?_
            clear hK K
            try simp only [List.setIfInBounds_toArray, List.set_cons_zero, List.set_cons_succ]
            refine wpAnyIn_done (by kernel_rfl) ?_ _
            gi_wp2_with fail
            exact ⟨hq.1, hq.2.1, rfl, hq.2.2.2⟩
      · go_simp
        refine hK _ _ ?_
        clear hK K
        try simp only [List.setIfInBounds_toArray, List.set_cons_zero, List.set_cons_succ]
        refine wpAnyIn_ready (rs := [0, 3]) (by kernel_rfl) (by simp) (AllReadyIn.cons rfl (fun K hK => ?_) (AllReadyIn.cons rfl (fun K hK => ?_) AllReadyIn.nil))
        · go_simp
          refine hK _ _ ?_
          clear hK K
          try simp only [List.setIfInBounds_toArray, List.set_cons_zero, List.set_cons_succ]
          refine wpAnyIn_ready (rs := [3]) (by kernel_rfl) (by simp) (AllReadyIn.cons rfl (fun K hK => ?_) AllReadyIn.nil)
          go_simp
          refine ⟨trivial, fun h => (by cases h), (CallsIn.inRound li (callsIn_wide.2 (another_any (w := A.drew) (hbyA.below (Below.refl _ _).drew) hbl))).mono ?_⟩
          rintro e A3 ⟨v3, rfl, hn3, hb3⟩
          replace hb3 : Below A.heap.size A A3 := ((Below.refl _ _).drew).trans hb3
          replace hn3 : NewMsg A p.2 v3 A3 := hn3
          have u0 := (hb3.cell (p := ⟨W.heap.size, 0, none⟩) (show W.heap.size < _ by omega)).trans y0
          refine hK _ _ ?_
          clear hK K
          try simp only [List.setIfInBounds_toArray, List.set_cons_zero, List.set_cons_succ]
          obtain ⟨fn, tmps, assign, body, hy, hR⟩ := HST.out _ _ hn3 hb3
          refine wpAnyIn_ready (rs := [4]) (by kernel_rfl) (by simp) (AllReadyIn.cons rfl (fun K hK => ?_) AllReadyIn.nil)
          go_simp
          refine ⟨fun h => (by cases h), (round_any hR).mono ?_⟩
          rintro e W' (⟨rfl, hq⟩ | ⟨rfl, hq⟩)
          · refine hK _ _ ?_
            clear hK K hy hR
            try simp only [List.setIfInBounds_toArray, List.set_cons_zero, List.set_cons_succ]
            refine wpAnyIn_ready (rs := [5]) (by kernel_rfl) (by simp) (AllReadyIn.cons rfl (fun K hK => ?_) AllReadyIn.nil)
            go_simp
            refine hK _ _ ?_
            clear hK K
            try simp only [List.setIfInBounds_toArray, List.set_cons_zero, List.set_cons_succ]
            refine wpAnyIn_done (by kernel_rfl) ?_ _
            gi_wp2_with fail
            exact hq
          · refine hK _ _ ?_
            clear hK K hy hR
            try simp only [List.setIfInBounds_toArray, List.set_cons_zero, List.set_cons_succ]
            refine wpAnyIn_ready (rs := [5]) (by kernel_rfl) (by simp) (AllReadyIn.cons rfl (fun K hK => ?_) AllReadyIn.nil)
            go_simp
            refine hK _ _ ?_
            clear hK K
            try simp only [List.setIfInBounds_toArray, List.set_cons_zero, List.set_cons_succ]
            refine wpAnyIn_done (by kernel_rfl) ?_ _
            gi_wp2_with fail
            exact ⟨hq.1, hq.2.1, rfl, hq.2.2.2⟩
        · go_simp
          refine ⟨trivial, fun h => (by cases h), (CallsIn.inRound li (callsIn_wide.2 (another_any (w := A.drew) (hbyA.below (Below.refl _ _).drew) hbl))).mono ?_⟩
          rintro e A3 ⟨v3, rfl, hn3, hb3⟩
          replace hb3 : Below A.heap.size A A3 := ((Below.refl _ _).drew).trans hb3
          replace hn3 : NewMsg A p.2 v3 A3 := hn3
          have u0 := (hb3.cell (p := ⟨W.heap.size, 0, none⟩) (show W.heap.size < _ by omega)).trans y0
          refine hK _ _ ?_
          clear hK K
          try simp only [List.setIfInBounds_toArray, List.set_cons_zero, List.set_cons_succ]
          refine wpAnyIn_ready (rs := [0]) (by kernel_rfl) (by simp) (AllReadyIn.cons rfl (fun K hK => ?_) AllReadyIn.nil)
          go_simp
          refine hK _ _ ?_
          clear hK K
          try simp only [List.setIfInBounds_toArray, List.set_cons_zero, List.set_cons_succ]
          obtain ⟨fn, tmps, assign, body, hy, hR⟩ := HST.out _ _ hn3 hb3
          refine wpAnyIn_ready (rs := [4]) (by kernel_rfl) (by simp) (AllReadyIn.cons rfl (fun K hK => ?_) AllReadyIn.nil)
          go_simp
          refine ⟨fun h => (by cases h), (round_any hR).mono ?_⟩
          rintro e W' (⟨rfl, hq⟩ | ⟨rfl, hq⟩)
          · refine hK _ _ ?_
            clear hK K hy hR
            try simp only [List.setIfInBounds_toArray, List.set_cons_zero, List.set_cons_succ]
            refine wpAnyIn_ready (rs := [5]) (by kernel_rfl) (by simp) (AllReadyIn.cons rfl (fun K hK => ?_) AllReadyIn.nil)
            go_simp
            refine hK _ _ ?_
            clear hK K
            try simp only [List.setIfInBounds_toArray, List.set_cons_zero, List.set_cons_succ]
            refine wpAnyIn_done (by kernel_rfl) ?_ _
            gi_wp2_with fail
            exact hq
          · refine hK _ _ ?_
            clear hK K hy hR
            try simp only [List.setIfInBounds_toArray, List.set_cons_zero, List.set_cons_succ]
            refine wpAnyIn_ready (rs := [5]) (by kernel_rfl) (by simp) (AllReadyIn.cons rfl (fun K hK => ?_) AllReadyIn.nil)
            go_simp
            refine hK _ _ ?_
            clear hK K
            try simp only [List.setIfInBounds_toArray, List.set_cons_zero, List.set_cons_succ]
            refine wpAnyIn_done (by kernel_rfl) ?_ _
            gi_wp2_with fail
            exact ⟨hq.1, hq.2.1, rfl, hq.2.2.2⟩
      · go_simp
        refine ⟨trivial, fun h => (by cases h), (CallsIn.inRound li (callsIn_wide.2 (another_any (w := A.drew) (hbyA.below (Below.refl _ _).drew) hbl))).mono ?_⟩
        rintro e A3 ⟨v3, rfl, hn3, hb3⟩
        replace hb3 : Below A.heap.size A A3 := ((Below.refl _ _).drew).trans hb3
        replace hn3 : NewMsg A p.2 v3 A3 := hn3
        have u0 := (hb3.cell (p := ⟨W.heap.size, 0, none⟩) (show W.heap.size < _ by omega)).trans y0
        refine hK _ _ ?_
        clear hK K
        try simp only [List.setIfInBounds_toArray, List.set_cons_zero, List.set_cons_succ]
        refine wpAnyIn_ready (rs := [0, 1]) (by kernel_rfl) (by simp) (AllReadyIn.cons rfl (fun K hK => ?_) (AllReadyIn.cons rfl (fun K hK => ?_) AllReadyIn.nil))
        · go_simp
          refine hK _ _ ?_
          clear hK K
          try simp only [List.setIfInBounds_toArray, List.set_cons_zero, List.set_cons_succ]
          refine wpAnyIn_ready (rs := [1]) (by kernel_rfl) (by simp) (AllReadyIn.cons rfl (fun K hK => ?_) AllReadyIn.nil)
          go_simp
          refine hK _ _ ?_
          clear hK K
          try simp only [List.setIfInBounds_toArray, List.set_cons_zero, List.set_cons_succ]
          obtain ⟨fn, tmps, assign, body, hy, hR⟩ := HST.out _ _ hn3 hb3
          refine wpAnyIn_ready (rs := [4]) (by kernel_rfl) (by simp) (AllReadyIn.cons rfl (fun K hK => ?_) AllReadyIn.nil)
          go_simp
          refine ⟨fun h => (by cases h), (round_any hR).mono ?_⟩
          rintro e W' (⟨rfl, hq⟩ | ⟨rfl, hq⟩)
          · refine hK _ _ ?_
            clear hK K hy hR
            try simp only [List.setIfInBounds_toArray, List.set_cons_zero, List.set_cons_succ]
            refine wpAnyIn_ready (rs := [5]) (by kernel_rfl) (by simp) (AllReadyIn.cons rfl (fun K hK => ?_) AllReadyIn.nil)
            go_simp
            refine hK _ _ ?_
            clear hK K
            try simp only [List.setIfInBounds_toArray, List.set_cons_zero, List.set_cons_succ]
            refine wpAnyIn_done (by kernel_rfl) ?_ _
            gi_wp2_with fail
            exact hq
          · refine hK _ _ ?_
            clear hK K hy hR
            try simp only [List.setIfInBounds_toArray, List.set_cons_zero, List.set_cons_succ]
            refine wpAnyIn_ready (rs := [5]) (by kernel_rfl) (by simp) (AllReadyIn.cons rfl (fun K hK => ?_) AllReadyIn.nil)
            go_simp
            refine hK _ _ ?_
            clear hK K
            try simp only [List.setIfInBounds_toArray, List.set_cons_zero, List.set_cons_succ]
            refine wpAnyIn_done (by kernel_rfl) ?_ _
            gi_wp2_with fail
            exact ⟨hq.1, hq.2.1, rfl, hq.2.2.2⟩
        · go_simp
          refine hK _ _ ?_
          clear hK K
          try simp only [List.setIfInBounds_toArray, List.set_cons_zero, List.set_cons_succ]
          refine wpAnyIn_ready (rs := [0]) (by kernel_rfl) (by simp) (AllReadyIn.cons rfl (fun K hK => ?_) AllReadyIn.nil)
          go_simp
          refine hK _ _ ?_
          clear hK K
          try simp only [List.setIfInBounds_toArray, List.set_cons_zero, List.set_cons_succ]
          obtain ⟨fn, tmps, assign, body, hy, hR⟩ := HST.out _ _ hn3 hb3
          refine wpAnyIn_ready (rs := [4]) (by kernel_rfl) (by simp) (AllReadyIn.cons rfl (fun K hK => ?_) AllReadyIn.nil)
          go_simp
          refine ⟨fun h => (by cases h), (round_any hR).mono ?_⟩
          rintro e W' (⟨rfl, hq⟩ | ⟨rfl, hq⟩)
          · refine hK _ _ ?_
            clear hK K hy hR
            try simp only [List.setIfInBounds_toArray, List.set_cons_zero, List.set_cons_succ]
            refine wpAnyIn_ready (rs := [5]) (by kernel_rfl) (by simp) (AllReadyIn.cons rfl (fun K hK => ?_) AllReadyIn.nil)
            go_simp
            refine hK _ _ ?_
            clear hK K
            try simp only [List.setIfInBounds_toArray, List.set_cons_zero, List.set_cons_succ]
            refine wpAnyIn_done (by kernel_rfl) ?_ _
            gi_wp2_with fail
            exact hq
          · refine hK _ _ ?_
            clear hK K hy hR
            try simp only [List.setIfInBounds_toArray, List.set_cons_zero, List.set_cons_succ]
            refine wpAnyIn_ready (rs := [5]) (by kernel_rfl) (by simp) (AllReadyIn.cons rfl (fun K hK => ?_) AllReadyIn.nil)
            go_simp
            refine hK _ _ ?_
            clear hK K
            try simp only [List.setIfInBounds_toArray, List.set_cons_zero, List.set_cons_succ]
            refine wpAnyIn_done (by kernel_rfl) ?_ _
            gi_wp2_with fail
            exact ⟨hq.1, hq.2.1, rfl, hq.2.2.2⟩
  case done =>
    intro A hI hd
    have hJA := HJ.out _ _ _ hI.1 (turn_putObj A WB.heap.size (.deferred none) (S := fun b => w.heap.size + 2 ≤ b) (show w.heap.size + 2 ≤ _ by omega))
    gi_wp2_with fail
    refine ⟨by simp, .inl ⟨_, _, rfl, run_takeDeferred hd, ?_⟩⟩
    exact ⟨.tuple #[], by simp [results, Try.results39, go_sem], ⟨_, rfl⟩, .inl hJA⟩
  case stop =>
    intro c k A hk hi hd
    obtain ⟨rfl, hi⟩ := hi
    have hJA := HJX.out _ _ _ hi (turn_putObj A WB.heap.size (.deferred none) (S := fun b => w.heap.size + 2 ≤ b) (show w.heap.size + 2 ≤ _ by omega))
    gi_wp2_with fail
    refine ⟨by simp, .inl ⟨_, _, rfl, run_takeDeferred hd, ?_⟩⟩
    exact ⟨.tuple #[], by simp [results, Try.results39, go_sem], ⟨_, rfl⟩, .inr ⟨k, hk, hJA⟩⟩
end Go.Proofs.Yticabfmjdjcfnaa
