/-
  The iterator over what is visible: what it hands on. Conditions: entries that may be; a length that is there.
-/
import Derived.Test.YthcphoijanebhaaDoorMkv9
import Derived.Test.YthcphoijanebhaaDoorTurnsC
namespace Go.Proofs.YthcphoijanebhaaDoor
open Go.RowKit Go.Shelf Go.Maps
set_option linter.unusedVariables false
attribute [local go_sem] Oper.semAt_some
theorem round_any {m m' l : Nat} {P : Program} {lr : Nat} {f : FuncId} {tmps : Array Value} {assign body : Code} {w : World} {R : Ending → World → Prop} (h : RoundIn Fence.wide m P lr f tmps assign body w R) : RoundIn (Fence.wide.inRound l) m' P lr f tmps assign body w R :=
  ⟨h.1, fun c cs _ => h.2 c cs (fun d hd => by cases hd)⟩
/-- The places of what is visible among the first j from a place on. -/
def vl (l : List Ent) (n fr : Nat) : Nat → List Nat
  | 0 => []
  | j + 1 => if see l n (l.getD (fr + j) .none_) = true then vl l n fr j ++ [fr + j] else vl l n fr j
theorem vl_pre (l : List Ent) (n fr : Nat) : ∀ (d j : Nat), ∃ r, vl l n fr (j + d) = vl l n fr j ++ r
  | 0, j => ⟨[], by simp⟩
  | d + 1, j => by
    obtain ⟨r, h⟩ := vl_pre l n fr d j
    show ∃ r, (if see l n (l.getD (fr + (j + d)) .none_) = true then vl l n fr (j + d) ++ [fr + (j + d)] else vl l n fr (j + d)) = vl l n fr j ++ r
    split
    · exact ⟨r ++ [fr + (j + d)], by rw [h, List.append_assoc]⟩
    · exact ⟨r, h⟩
theorem vl_at {l : List Ent} {n fr j N : Nat} {e : Ent} (hj : j < N) (he : l[fr + j]? = some e) (hs : see l n e = true) : (vl l n fr j).length < (vl l n fr N).length ∧ (vl l n fr N).getD (vl l n fr j).length 0 = fr + j ∧ (vl l n fr (j + 1)).length = (vl l n fr j).length + 1 := by
  have h1 : vl l n fr (j + 1) = vl l n fr j ++ [fr + j] := by
    have hd : l.getD (fr + j) .none_ = e := by rw [List.getD_eq_getElem?_getD, he]; rfl
    show (if see l n (l.getD (fr + j) .none_) = true then _ else _) = _
    rw [hd, if_pos hs]
  obtain ⟨r, h2⟩ := vl_pre l n fr (N - (j + 1)) (j + 1)
  rw [show j + 1 + (N - (j + 1)) = N by omega, h1] at h2
  refine ⟨by rw [h2]; simp, ?_, by rw [h1]; simp⟩
  rw [h2, List.getD_eq_getElem?_getD]
  simp
theorem vl_no {l : List Ent} {n fr j : Nat} {e : Ent} (he : l[fr + j]? = some e) (hs : see l n e = false) : vl l n fr (j + 1) = vl l n fr j := by
  have hd : l.getD (fr + j) .none_ = e := by rw [List.getD_eq_getElem?_getD, he]; rfl
  show (if see l n (l.getD (fr + j) .none_) = true then _ else _) = _
  rw [hd, hs]; rfl
def encV (V : List Nat) (k : Nat) : Array Value := #[.int .i64 ((V.getD k 0 : Nat) : Int)]
/-- What is known between two rounds over what is stable. -/
def ViI (D : World → Nat → Prop) (WB : World) (l : List Ent) (n fr : Nat) (J : Nat → World → Prop) (j : Nat) (A : World) : Prop :=
  J (vl l n fr j).length A ∧ KeepZ (fun x => x < WB.heap.size ∧ ¬ D WB x) WB A ∧ ∀ x, D A x → D WB x ∨ WB.heap.size + 2 ≤ x
set_option maxRecDepth 100000 in
set_option maxHeartbeats 8000000 in
theorem vis_in (nf : Nat) (hnf : 2 ≤ nf) {w : World} {B b g m1 m2 bT bF bN bS bt bn fr n N : Nat} {S : Nat → Prop} {l : List Ent} (C : World → Nat → Prop) (hI : ItV w B b bT bF bN bS bt bn fr n) (hN : Nob w) (hV : VT w b g m1 m2 S l) (hn : n ≤ l.length) (hS : StN l n fr N)
    (hC : ∀ x, (x = 0 ∨ x = b ∨ x = m1 ∨ x = m2 ∨ x = bT ∨ x = bF ∨ x = bN ∨ x = bS ∨ x = bt ∨ x = bn) → ¬ C w x) (hCW : ∀ W, Turn No w W → ∀ x, C W x → C w x) :
    SeqC Fence.wide nf Tryd.prog 54 #[.pointer (some ⟨bT, 0, none⟩), .pointer (some ⟨bF, 0, none⟩), .pointer (some ⟨bN, 0, none⟩), .pointer (some ⟨bS, 0, none⟩)] (encV (vl l n fr N)) (vl l n fr N).length C w := fun lr J Jx W hW hsz hJ hJx hY h0 => by
  have hbW : Below w.heap.size w W := hW.below (Nat.le_refl _) (fun _ h => h.elim)
  have HY := Lib.hid hY
  have HJ := Lib.hid hJ
  have HJX := Lib.hid hJx
  have HIW := Lib.hid (hI.below hbW)
  have HNW := Lib.hid (hN.low hbW)
  have HVW := Lib.hid (hV.below hbW)
  have HNL := Lib.hid hn
  have HSN := Lib.hid hS
  have HAR : Hid (AllR l ∧ l.length ≤ 4096) := Lib.hid ⟨hV.tb.right, hV.tb.len⟩
  have HCW : Hid (∀ x, (x = 0 ∨ x = b ∨ x = m1 ∨ x = m2 ∨ x = bT ∨ x = bF ∨ x = bN ∨ x = bS ∨ x = bt ∨ x = bn) → ¬ Dd C w.heap.size W x) := Lib.hid (fun x hx q => by
    have hlt : x < w.heap.size := by
      have h1 := hN.2.2
      have h2 := hV.blt
      have h3 := hV.vr.e1.lt
      have h4 := hV.vr.e2.lt
      have h5 : bT < w.heap.size := block_lt_of_cell hI.cT
      have h6 : bF < w.heap.size := block_lt_of_cell hI.cF
      have h7 : bN < w.heap.size := block_lt_of_cell hI.cN
      have h8 : bS < w.heap.size := block_lt_of_cell hI.cS
      have h9 : bt < w.heap.size := block_lt_of_cell hI.ct
      have h10 : bn < w.heap.size := block_lt_of_cell hI.cn
      omega
    rcases q with q | q
    · exact hC x hx (hCW W hW x q)
    · rcases q with q | q <;> omega)
  have HLO : Hid (0 < w.heap.size ∧ b < w.heap.size ∧ m1 < w.heap.size ∧ m2 < w.heap.size ∧ bT < w.heap.size ∧ bF < w.heap.size ∧ bN < w.heap.size ∧ bS < w.heap.size ∧ bt < w.heap.size ∧ bn < w.heap.size) := Lib.hid ⟨hN.2.2, hV.blt, hV.vr.e1.lt, hV.vr.e2.lt, block_lt_of_cell hI.cT, block_lt_of_cell hI.cF, block_lt_of_cell hI.cN, block_lt_of_cell hI.cS, block_lt_of_cell hI.ct, block_lt_of_cell hI.cn⟩
  have HBL := Lib.hid hI.lo
  have HSZ := Lib.hid hsz
  clear hY hJ hJx hW hI hN hV hn hS hC hCW hbW hsz
  refine callsIn_of_wp_marks Tryd.func54 rfl trivial ?_ rfl
  simp only [Tryd.ntmps54, List.size_toArray, List.length_cons, List.length_nil, Nat.reduceAdd, Nat.reduceSub, Array.replicate_succ, Array.replicate_zero, List.push_toArray, List.append_toArray, List.nil_append, List.cons_append]
  have hbA : Below W.heap.size W (W.alloc (.cells #[.func (.yield lr) #[] #[]] 92)) := (Below.refl _ _).alloc (Nat.le_refl _) _
  have kA : Blk (W.alloc (.cells #[.func (.yield lr) #[] #[]] 92)) W.heap.size 92 #[.func (.yield lr) #[] #[]] := Blk.new _ _ _
  have c1 := (HIW.out.below hbA).cT
  have c2 := (HIW.out.below hbA).cF
  have c3 := (HIW.out.below hbA).cN
  gi_wp2_with fail
  generalize W.alloc (.cells #[.func (.yield lr) #[] #[]] 92) = WA at *
  have HBA := Lib.hid hbA
  have HKA := Lib.hid kA
  clear hbA kA c1 c2 c3
  refine ⟨trivial, fun h => (by cases h), (callsIn_wide.2 (stable_any (HVW.out.below HBA.out) fr n HNL.out)).mono ?_⟩
  rintro r WB ⟨bf, bn', btt, bl, rfl, hI, hbB⟩
  have HI := Lib.hid hI
  have HWB : Hid (Below W.heap.size W WB) := Lib.hid (HBA.out.trans (hbB.mono HBA.out.size))
  have HZY : Hid (WB.cell? ⟨W.heap.size, 0, none⟩ = some (.func (.yield lr) #[] #[]) ∧ W.heap.size < WA.heap.size ∧ WA.heap.size ≤ WB.heap.size) := Lib.hid ⟨(hbB.cell (p := ⟨W.heap.size, 0, none⟩) HKA.out.lt).trans (HKA.out.cell 0), HKA.out.lt, hbB.size⟩
  clear hI hbB
  obtain ⟨zy, hzy⟩ : ∃ zy, zy = W.heap.size := ⟨_, rfl⟩
  rw [← hzy]
  have HZYE := Lib.hid hzy
  clear hzy
  have hab := HJ.out.ab 0 W WB No h0 (Turn.of_below HWB.out No) (fun _ h => h.elim)
  have HJB := Lib.hid hab.1
  have HDB : Hid (∀ x, Dd C w.heap.size WB x → Dd C w.heap.size W x ∧ x < W.heap.size) := Lib.hid (fun x q => ⟨hab.2 x q, HJ.out.lt 0 W h0 x (hab.2 x q)⟩)
  clear hab h0
  obtain ⟨D, hD⟩ : ∃ D, D = Dd C w.heap.size := ⟨_, rfl⟩
  have HZA : Hid (∀ x, (x = 0 ∨ x = b ∨ x = m1 ∨ x = m2 ∨ x = bT ∨ x = bF ∨ x = bN ∨ x = bS ∨ x = bt ∨ x = bn ∨ (W.heap.size ≤ x ∧ x < WB.heap.size)) → x < WB.heap.size ∧ ¬ D WB x) := Lib.hid (fun x hx => by
    have hz := HSZ.out
    have hz2 := HWB.out.size
    have hlo := HLO.out
    rw [hD]
    refine ⟨by omega, fun q => ?_⟩
    have q2 := HDB.out x q
    by_cases hxw : W.heap.size ≤ x
    · omega
    · exact HCW.out x (by omega) q2.1)
  rw [← hD] at HJ HJX HY HDB
  have HSZB : Hid (w.heap.size + 2 ≤ WB.heap.size) := Lib.hid (by have := HSZ.out; have := HWB.out.size; omega)
  have HNB : Hid (Nob WB) := Lib.hid (HNW.out.low HWB.out)
  have HVB : Hid (VR WB b m1 m2 l) := Lib.hid (HVW.out.vr.below HWB.out)
  have HIB : Hid (ItV WB B b bT bF bN bS bt bn fr n) := Lib.hid (HIW.out.below HWB.out)
  have habD : ∀ j A T A', ViI D WB l n fr J j A → Turn T A A' → (∀ x, T x → WB.heap.size ≤ x ∧ x < WB.heap.size + 2) → ViI D WB l n fr J j A' := fun j A T A' h ht hT => by
    have h2 := HJ.out.ab _ A A' T h.1 ht (fun x hx => ⟨by have := hT x hx; have := HSZB.out; omega, fun q => by
      rcases h.2.2 x q with q | q
      · have := (HDB.out x q).2; have := hT x hx; have := HWB.out.size; omega
      · have := hT x hx; omega⟩)
    refine ⟨h2.1, h.2.1.trans (KeepZ.of_turn ht (fun x hx => ⟨Nat.lt_of_lt_of_le hx.1 h.2.1.1, fun q => by have := hT x q; have := hx.1; omega⟩)), fun x q => h.2.2 x (h2.2 x q)⟩
  have HAB := Lib.hid habD
  clear habD
  gi_wp2_with fail
  refine range_k (Kp := KeepZ (fun x => x < WB.heap.size ∧ ¬ D WB x)) rfl (by omega) (gf := 56) (lb := #[.pointer (some ⟨bf, 0, none⟩), .pointer (some ⟨bn', 0, none⟩), .pointer (some ⟨btt, 0, none⟩), .pointer (some ⟨bl, 0, none⟩)]) rfl trivial (enters_of Tryd.func56 (by kernel_rfl) rfl)
    (stb_in (nf - 1) (by omega) (fun x => x < WB.heap.size ∧ ¬ D WB x) HI.out HNB.out HVB.out HAR.out.1 HNL.out HAR.out.2 HSN.out (fun x h1 h2 => HZA.out x (by have := HZY.out.2.1; omega))
      ⟨HZA.out 0 (by omega), HZA.out b (by omega), HZA.out m1 (by omega), HZA.out m2 (by omega)⟩ (fun x h => h.1))
    (fun h h' => h.trans h') (fun A A' ht hz => KeepZ.of_turn ht (fun x hx => ⟨by have := hx.1; omega, fun q => by have := hx.1; rcases q with e | e <;> omega⟩)) (fun _ => rfl)
    (ViI D WB l n fr J) (fun c j A => c = .ret ∧ ∃ k, k < (vl l n fr N).length ∧ ∀ A', Turn (two WB.heap.size) A A' → Jx k A')
    (fun j A A' h ht => HAB.out j A _ A' h ht (fun x q => by rcases q with e | e <;> omega))
    (fun c j A A' h ht => by
      obtain ⟨h1, k, h2, h3⟩ := h
      exact ⟨h1, k, h2, fun A2 ht2 => h3 A2 (ht.trans ht2 (fun _ _ q => q))⟩)
    ⟨HJB.out, KeepZ.refl _ _, fun x q => .inl q⟩ (fun k => .cells (l.getD (fr + k) .none_).cells 45)
    (fun k x => { tmps := #[.func (.yield lr) #[] #[], .pointer (some ⟨bT, 0, none⟩), .pointer (some ⟨bF, 0, none⟩), .pointer (some ⟨bN, 0, none⟩), .pointer (some ⟨bS, 0, none⟩), .pointer (some ⟨zy, 0, none⟩), .int .i64 ((fr + k : Nat) : Int), .pointer (some ⟨x, 0, none⟩), .pointer (some ⟨b, 0, none⟩), .int .i64 (fr : Int), .int .i64 (n : Int), StF bf bn' btt bl, .int .i64 ((fr + k : Nat) : Int), (l.getD (fr + k) .none_).val, undef, undef, undef, undef, undef, undef, undef, undef, undef], defers := [] }) ?assign ?body ?done ?stop
  case assign =>
    intro li k A K hk hK
    unfold encS
    generalize l.getD (fr + k) .none_ = e at *
    generalize fr + k = q at *
    unfold Ent.val Ent.cells at *
    gi_wp2
    exact hK
  case body =>
    intro li k W0 A hI0 hk hob hbB hTA
    obtain ⟨e, he, ho⟩ := HSN.out.yes k hk
    have hgd : l.getD (fr + k) .none_ = e := by rw [List.getD_eq_getElem?_getD, he]; rfl
    rw [hgd] at hob ⊢
    have hIA := HAB.out k W0 _ A hI0 hTA (fun x q => by rcases q with e | e <;> omega)
    have hWs := hTA.size
    obtain ⟨bx, hbx⟩ : ∃ bx, bx = W0.heap.size := ⟨_, rfl⟩
    rw [← hbx] at hob hbB hWs ⊢
    clear hbx
    have HKE : Hid (Blk A bx 45 e.cells) := Lib.hid hob
    have HIA := Lib.hid hIA
    have HEK : Hid (In64P e.key) := Lib.hid (right_key (HAR.out.1 e (List.mem_of_getElem? he)))
    have HEA := Lib.hid he
    have hzA : ∀ x, (x = 0 ∨ x = b ∨ x = m1 ∨ x = m2 ∨ x = bT ∨ x = bF ∨ x = bN ∨ x = bS ∨ x = bt ∨ x = bn ∨ (W.heap.size ≤ x ∧ x < WB.heap.size)) → A.heap[x]? = WB.heap[x]? := fun x hx => HIA.out.2.1.2 x (HZA.out x hx)
    have HHA := Lib.hid hzA
    have HNA : Hid (Nob A) := Lib.hid (HNB.out.keepZ HIA.out.2.1 (HZA.out 0 (by omega)))
    have HVA : Hid (VR A b m1 m2 l) := Lib.hid (HVB.out.keepZ HIA.out.2.1 ⟨HZA.out b (by omega), HZA.out m1 (by omega), HZA.out m2 (by omega)⟩)
    have s4 : A.cell? ⟨bS, 0, none⟩ = some (SeF bt bn) := (World.cell?_of_block (hzA bS (by have := HBL.out; have := HLO.out; omega))).trans HIB.out.cS
    have ht4 : A.cell? ⟨bt, 0, none⟩ = some (.pointer (some ⟨b, 0, none⟩)) := (World.cell?_of_block (hzA bt (by have := HBL.out; have := HLO.out; omega))).trans HIB.out.ct
    have hn4 : A.cell? ⟨bn, 0, none⟩ = some (.int .i64 (n : Int)) := (World.cell?_of_block (hzA bn (by have := HBL.out; have := HLO.out; omega))).trans HIB.out.cn
    have hse := sees_any HNA.out HVA.out HEK.out n ht4 hn4
    have HZY4 : Hid (A.cell? ⟨zy, 0, none⟩ = some (.func (.yield lr) #[] #[]) ∧ zy < A.heap.size) := Lib.hid ⟨(World.cell?_of_block (hzA zy (by have := HZY.out.2; have := HZYE.out; omega))).trans (HZYE.out ▸ HZY.out.1), by have := HZY.out.2; have := HZYE.out; have := HIA.out.2.1.1; omega⟩
    have HBB := Lib.hid hbB
    have HWS := Lib.hid hWs
    clear hIA hzA hI0 hTA hgd he ho hob ht4 hn4 hbB hWs
    obtain ⟨t0, t1, t2, t3, t4, t5⟩ := HKE.out.six9
    unfold Ent.val Ent.cells at hse ⊢
    unfold SeF at s4
    obtain ⟨qk, hqk⟩ : ∃ qk, qk = fr + k := ⟨_, rfl⟩
    rw [← hqk] at HEA ⊢
    have HQK := Lib.hid hqk
    clear hqk
    try dsimp only
    gi_wp2_with fail
    refine ⟨trivial, fun h => (by cases h), (CallsIn.inRound li (callsIn_wide.2 hse)).mono ?_⟩
    rintro r A3 ⟨rfl, hb3⟩
    have HB3 := Lib.hid hb3
    have y0 : A3.cell? ⟨zy, 0, none⟩ = some (.func (.yield lr) #[] #[]) := (hb3.cell (p := ⟨zy, 0, none⟩) HZY4.out.2).trans HZY4.out.1
    clear hse hb3 s4 t0 t1 t2 t3 t4 t5
    have hJ3 := HJ.out.ab _ A A3 No HIA.out.1 (Turn.of_below HB3.out No) (fun _ h => h.elim)
    have HJ3 := Lib.hid hJ3
    clear hJ3
    have HA3 : Hid (∀ x, D A3 x → D WB x ∨ WB.heap.size + 2 ≤ x) := Lib.hid (fun x q => HIA.out.2.2 x (HJ3.out.2 x q))
    have HK3 : Hid (KeepZ (fun x => x < WB.heap.size ∧ ¬ D WB x) WB A3 ∧ KeepZ (fun x => x < WB.heap.size ∧ ¬ D WB x) A A3) := Lib.hid (by
      have := KeepZ.of_below (Z := fun x => x < WB.heap.size ∧ ¬ D WB x) HB3.out (fun x hx => Nat.lt_of_lt_of_le hx.1 HIA.out.2.1.1)
      exact ⟨HIA.out.2.1.trans this, this⟩)
    have HBO : Hid (Both WB.heap.size A A3) := Lib.hid ⟨HB3.out.block _ (by have := HBB.out; have := HWS.out; omega), HB3.out.block _ (by have := HBB.out; have := HWS.out; omega)⟩
    by_cases hs : see l n e = true
    case neg =>
      have hs' : see l n e = false := by simpa using hs
      have HV := Lib.hid (vl_no (HQK.out ▸ HEA.out) hs')
      rw [hs']
      clear hs hs'
      gi_wp2_with (refine ⟨fun f hf => (by cases hf), ?_⟩)
      exact ⟨HBO.out, HK3.out.2, by rw [HV.out]; exact HJ3.out.1, HK3.out.1, HA3.out⟩
    case pos =>
      obtain ⟨v1, v2, v3⟩ := vl_at hk (HQK.out ▸ HEA.out) hs
      obtain ⟨fn, tmps, assign, body, hy, hR⟩ := HY.out _ A3 HJ3.out.1 v1
      unfold encV at hy
      rw [v2, ← HQK.out] at hy
      rw [hs]
      have HV := Lib.hid (And.intro v1 v3)
      have key : ∀ W', KeepC D A3 W' → Both WB.heap.size A W' ∧ KeepZ (fun x => x < WB.heap.size ∧ ¬ D WB x) A W' ∧ KeepZ (fun x => x < WB.heap.size ∧ ¬ D WB x) WB W' ∧ ∀ x, D W' x → D WB x ∨ WB.heap.size + 2 ≤ x := fun W' hk' => by
        have hsz3 := HB3.out.size
        have hb0 := HBB.out
        have hw0 := HWS.out
        have hno : ∀ x, x < WB.heap.size + 2 → ¬ D WB x → ¬ D A3 x := fun x hx hn q => (HA3.out x q).elim hn (fun q => by omega)
        have hnB : ∀ x, WB.heap.size ≤ x → ¬ D WB x := fun x hx q => by
          have := (HDB.out x q).2; have := HWB.out.size; omega
        have hz : KeepZ (fun x => x < WB.heap.size ∧ ¬ D WB x) A3 W' := ⟨hk'.1, fun x hx => hk'.2.1 x (by have := hx.1; omega) (hno x (by have := hx.1; omega) hx.2)⟩
        refine ⟨⟨(hk'.2.1 _ (by omega) (hno _ (by omega) (hnB _ (by omega)))).trans HBO.out.1, (hk'.2.1 _ (by omega) (hno _ (by omega) (hnB _ (by omega)))).trans HBO.out.2⟩, HK3.out.2.trans hz, HK3.out.1.trans hz, fun x q => ?_⟩
        rcases hk'.2.2 x q with q | q
        · exact HA3.out x q
        · right; omega
      have HKEY := Lib.hid key
      clear key hs v1 v2 v3
      gi_wp2_with fail
      refine ⟨fun h => (by cases h), (round_any hR).mono ?_⟩
      rintro r W' (⟨rfl, hJ', hk'⟩ | ⟨rfl, hJ', hk'⟩)
      · have hq := HKEY.out W' hk'
        gi_wp2
        exact ⟨hq.1, hq.2.1, by rw [HV.out.2]; exact hJ', hq.2.2.1, hq.2.2.2⟩
      · have hq := HKEY.out W' hk'
        gi_wp2
        exact ⟨hq.1, hq.2.1, rfl, _, HV.out.1, fun A2 ht2 => HJX.out _ W' A2 _ hJ' ht2 (fun x q => ⟨by have := HSZB.out; rcases q with e | e <;> omega, fun q2 => by
          rcases hq.2.2.2 x q2 with q3 | q3
          · have := (HDB.out x q3).2; have := HWB.out.size; rcases q with e | e <;> omega
          · rcases q with e | e <;> omega⟩)⟩
  case done =>
    intro A hI hd
    have hIA := HAB.out N A _ _ hI (turn_putObj A WB.heap.size (.deferred none) (S := fun x => x = WB.heap.size) rfl) (fun x q => by omega)
    gi_wp2_with fail
    refine ⟨by simp, .inl ⟨_, _, rfl, run_takeDeferred hd, ?_⟩⟩
    exact ⟨.tuple #[], by simp [results, Tryd.results54, go_sem], ⟨_, rfl⟩, .inl hIA.1⟩
  case stop =>
    intro c k A hk hi hd
    obtain ⟨rfl, k2, hk2, hx⟩ := hi
    have hJA := hx _ (turn_putObj A WB.heap.size (.deferred none) (S := two WB.heap.size) (.inl rfl))
    gi_wp2_with fail
    refine ⟨by simp, .inl ⟨_, _, rfl, run_takeDeferred hd, ?_⟩⟩
    exact ⟨.tuple #[], by simp [results, Tryd.results54, go_sem], ⟨_, rfl⟩, .inr ⟨k2, hk2, hJA⟩⟩
end Go.Proofs.YthcphoijanebhaaDoor
