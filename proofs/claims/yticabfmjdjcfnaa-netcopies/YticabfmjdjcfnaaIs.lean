/-
  waystationlaw05.is: a net stands as the document's. Conditions: bounds.
-/
import Derived.Test.YticabfmjdjcfnaaRound
import Derived.Test.YticabfmjdjcfnaaRef
namespace Go.Proofs.Yticabfmjdjcfnaa
open Go.RowKit Go.Shelf
attribute [local go_sem] Oper.semAt_some
/-- What holds between two messages. -/
def IsI (at_ : Nat) (w2 : World) (k : Nat) (W : World) : Prop := Turn (fun b => b = at_) w2 W ∧ Blk W at_ 3 #[.int .i64 (k : Int)]
theorem IsI.keep {at_ : Nat} {w2 W W' : World} {k : Nat} {S : Nat → Prop} (h : IsI at_ w2 k W) (ht : Turn S W W') (hS : ∀ b, S b → w2.heap.size ≤ b) (hl : at_ < w2.heap.size) : IsI at_ w2 k W' :=
  ⟨h.1.trans ht (fun b hb e => absurd (hS b e) (by omega)), h.2.keep ht (fun e => absurd (hS _ e) (by omega))⟩
theorem two_ge {B b : Nat} (h : two B b) : B ≤ b := by rcases h with h | h <;> omega
/-- A byte of a row of its own is written. -/
theorem Own.set_ {w : World} {r n c j : Nat} {l : Bs} (h : Own w (.slice (some ⟨r, 0, none⟩) n c) l) (u : UInt8) : Own (w.setCell ⟨r, j, none⟩ (byteV u)) (.slice (some ⟨r, 0, none⟩) n c) (l.set j u) ∧ w.grownBy (w.setCell ⟨r, j, none⟩ (byteV u)) (some r) := by
  obtain ⟨A', n', c', e, hn, _⟩ := h.form
  injection e with e1 e2 e3
  subst e1 e2 e3
  have hl : w.ownsRow 0 5 1 (.slice (some ⟨r, 0, none⟩) n c) n (l.map byteV) := by have := h; unfold Own at this; rw [← hn] at this; exact this
  obtain ⟨hs, hg⟩ := hl.stored j (byteV u)
  refine ⟨?_, hg⟩
  unfold Own
  rw [List.length_set, ← hn, List.map_set]
  exact hs
theorem Own.at_ {w : World} {A : Option Addr} {n c j : Nat} {l : Bs} (h : Own w (.slice A n c) l) (hj : j < n) : ∃ r u, A = some ⟨r, 0, none⟩ ∧ l[j]? = some u ∧ w.cell? ⟨r, j, none⟩ = some (.int .u8 (u.toNat : Int)) ∧ w.frozen? ⟨r, j, none⟩ = false := by
  obtain ⟨A', n', c', e, hn, _⟩ := h.form
  injection e with e1 e2 e3
  subst e1 e2 e3
  have hl : w.ownsRow 0 5 1 (.slice A n c) n (l.map byteV) := by have := h; unfold Own at this; rw [← hn] at this; exact this
  obtain ⟨r, cap, hv, _, _⟩ := hl.form (by omega)
  have hA : A = some ⟨r, 0, none⟩ := by injection hv
  subst hA
  have hlt : j < l.length := by omega
  have hcell := hl.cells (g := r) rfl j _ (by rw [List.getElem?_map, List.getElem?_eq_getElem hlt]; rfl)
  have hadd : (⟨r, 0, none⟩ : Addr).add j = ⟨r, j, none⟩ := by unfold Addr.add; split <;> simp_all
  rw [hadd] at hcell
  exact ⟨r, l[j], rfl, List.getElem?_eq_getElem hlt, hcell, hl.frozenAt j⟩
theorem wrap_u8 (u : UInt8) : IntKind.u8.wrap ((u.toNat : Int) + 1) = ((u + 1).toNat : Int) := by
  have h := u.toNat_lt
  rw [UInt8.toNat_add]
  simp [IntKind.wrap, IntKind.signed, IntKind.bits]
set_option maxRecDepth 100000 in
set_option maxHeartbeats 16000000 in
theorem is_any {w : World} {S X : Nat → Prop} {g : Nat} {s : St} {cs : Array Value} (hN : Nt w S g s) (hR : RAt w X s cs) : Calls Try.prog 17 #[.pointer (some ⟨g, 0, none⟩), .agg cs] w fun e w' => e = .returned (.bool true) ∧ Below w.heap.size w w' := by
  obtain ⟨A, n, c, rfl, hI, hnc, hcm⟩ := hR
  have hlen := hI.len
  subst hlen
  have hI := hI.wide (X' := fun b => w.heap.size ≤ b) (fun b hb e => absurd e (by omega))
  have hok := hN.ok
  have hl4 : s.l.length ≤ 4096 := Nat.le_trans hok.len hok.hi
  have HSH := Lib.hid hok.short
  have HSL := Lib.hid (fun b => hN.lt (b := b))
  have k0 : Blk (((w.alloc (.cells #[.int .i64 (s.most : Int), .slice A s.l.length c, .int .i64 (s.came : Int)] 28)).alloc (.cells #[.bool false] 4)).alloc (.cells #[.int .i64 0] 3)) w.heap.size 28 #[.int .i64 (s.most : Int), .slice A s.l.length c, .int .i64 (s.came : Int)] := ((Blk.new _ _ _).alloc _).alloc _
  have k1 : Blk (((w.alloc (.cells #[.int .i64 (s.most : Int), .slice A s.l.length c, .int .i64 (s.came : Int)] 28)).alloc (.cells #[.bool false] 4)).alloc (.cells #[.int .i64 0] 3)) (w.heap.size + 1) 4 #[.bool false] := (blk_new _ 4 _ (by simp)).alloc _
  have k2 : Blk (((w.alloc (.cells #[.int .i64 (s.most : Int), .slice A s.l.length c, .int .i64 (s.came : Int)] 28)).alloc (.cells #[.bool false] 4)).alloc (.cells #[.int .i64 0] 3)) (w.heap.size + 1 + 1) 3 #[.int .i64 0] := blk_new _ 3 _ (by simp)
  have hb1 : Below w.heap.size w (((w.alloc (.cells #[.int .i64 (s.most : Int), .slice A s.l.length c, .int .i64 (s.came : Int)] 28)).alloc (.cells #[.bool false] 4)).alloc (.cells #[.int .i64 0] 3)) := (((Below.refl _ _).alloc (Nat.le_refl _) _).alloc (by simp) _).alloc (by simp; omega) _
  have hz1 : (((w.alloc (.cells #[.int .i64 (s.most : Int), .slice A s.l.length c, .int .i64 (s.came : Int)] 28)).alloc (.cells #[.bool false] 4)).alloc (.cells #[.int .i64 0] 3)).heap.size = w.heap.size + 3 := by simp
  have HZ1 := Lib.hid hz1
  have hI1 := hI.below hb1
  have hN1 := hN.below hb1
  clear hI hN hz1 hok
  refine (callsIn_wide (n := 5)).1 ?_
  refine callsIn_of_wp_marks Try.func17 rfl trivial ?_ rfl
  simp only [Try.ntmps17, List.size_toArray, List.length_cons, List.length_nil, Nat.reduceAdd, Nat.reduceSub, Array.replicate_succ, Array.replicate_zero, List.push_toArray, List.append_toArray, List.nil_append, List.cons_append]
  gi_wp2_with fail
  generalize (((w.alloc (.cells #[.int .i64 (s.most : Int), .slice A s.l.length c, .int .i64 (s.came : Int)] 28)).alloc (.cells #[.bool false] 4)).alloc (.cells #[.int .i64 0] 3)) = w1 at *
  refine ⟨trivial, (callsIn_wide.2 (all_any hN1)).mono ?_⟩
  rintro e w2 ⟨mN, rfl, hcb, hMN, hmN, hb2⟩
  have hz1' : w1.heap.size = w.heap.size + 3 := HZ1.out
  have HZ := Lib.hid hz1'
  have hz2 := hb2.size
  have hcl : w1.heap.size < w2.heap.size := block_lt_of_cell hcb
  have hml := hMN.lt
  have j0 := k0.below hb2 k0.lt
  have j1 := k1.below hb2 k1.lt
  have j2 := k2.below hb2 k2.lt
  have hI2 := hI1.below hb2
  have hN2 := hN1.below hb2
  have hbw := hb1.trans (hb2.mono (by omega))
  clear hI1 hN1 k0 k1 k2 hb1 hb2 HZ1 hz1'
  gi_wp2_with fail
  refine range_v (Ab := Turn (fun b => w2.heap.size + 2 ≤ b)) rfl (by omega) (gf := 39) (lb := #[.pointer (some ⟨w1.heap.size, 0, none⟩)]) rfl trivial (enters_of Try.func39 (by kernel_rfl) rfl)
    (all_in (5 - 1) (by omega) w1.heap.size mN s.l (fun b => ¬ S b) (fun b => b = (w.heap.size + 1 + 1)) w2 hcb hMN (fun b e => by
        have := HZ.out
        exact ⟨by omega, by omega, fun q => by have := HSL.out b q; omega⟩) (fun b e => by have := HZ.out; omega) (fun p hp => by have := HSH.out p hp; omega))
    (fun h h' => h.trans h' (fun _ _ e => e)) (fun x B C ht hz => ht.mono (fun b _ e => .inl (.inr e))) (fun k x B hv => by obtain ⟨p, Am, q, cm, _, e, _⟩ := hv; rw [e]; rfl)
    (fun B C b ht e hb => ht.block b hb (fun q => by rcases e with e | e <;> omega))
    (IsI (w.heap.size + 1 + 1) w2) (fun _ _ _ => False)
    (fun k B C hi ht => hi.keep ht (fun b e => two_ge e) (by have := HZ.out; omega)) (fun c k B C hi ht => hi.elim)
    (fun k B C hi ht => hi.keep ht (fun b e => by omega) (by have := HZ.out; omega)) (fun c k B C hi ht => hi.elim)
    ⟨Turn.refl _ _, j2⟩ (fun x => .cells (x.getD 1 undef).cells 39)
    (fun x b => { tmps := #[.pointer (some ⟨g, 0, none⟩), .agg #[.int .i64 (s.most : Int), .slice A s.l.length c, .int .i64 (s.came : Int)], undef, .pointer (some ⟨w.heap.size, 0, none⟩), .pointer (some ⟨w.heap.size + 1, 0, none⟩), .pointer (some ⟨w.heap.size + 1 + 1, 0, none⟩), x.getD 0 undef, .pointer (some ⟨b, 0, none⟩), undef, .pointer (some ⟨g, 0, none⟩), .func (.func 39) #[] #[.pointer (some ⟨w1.heap.size, 0, none⟩)], x.getD 0 undef, x.getD 1 undef, undef, undef, undef, undef, undef, undef, undef, undef, undef, undef, undef, undef, undef, undef, undef, undef, undef, undef, undef, undef, undef, undef, undef, undef, undef, undef, undef, undef, undef, undef, undef, undef, undef, undef, undef, undef, undef, undef, undef, undef, undef, undef, undef, undef, undef, undef, undef, undef, undef, undef, undef, undef, undef, undef, undef, undef, undef, undef, undef, undef, undef, undef, undef], defers := [] })
    ?assign ?body ?done ?stop
  case assign =>
    intro li k x B K hk hv hK
    obtain ⟨p, Am, q, cm, _, rfl, _⟩ := hv
    gi_wp2
    exact hK
  case stop => exact fun c k B _ h => h.elim
  case body =>
    intro li k x B0 B hI0 hk hv hob hbB0 hTB
    obtain ⟨p, Am, q, cm, hp, rfl, ho0, hnw⟩ := hv
    have hpk : p = s.l[k] := by
      have := List.getElem?_eq_getElem hk
      rw [hp] at this
      injection this
    have hIB := hI0.keep hTB (fun b e => two_ge e) (by have := HZ.out; omega)
    have hoB := ho0.keep hTB (fun r e e' => by have := hnw r e; rcases e' with e' | e' <;> omega)
    have hrb : ∀ r, Value.ownBlock (.slice Am q cm) = some r → r < B0.heap.size := fun r e => ho0.lt e
    have kM : Blk B B0.heap.size 39 #[.int .i64 p.2.fr, .int .i64 p.2.to, .slice Am q cm] := hob
    obtain ⟨b, hbe⟩ : ∃ b, b = B0.heap.size := ⟨_, rfl⟩
    rw [← hbe] at kM hbB0 hrb ⊢
    have hbz := kM.lt
    have hql : q = p.2.b.length := by obtain ⟨_, _, _, e, e', _⟩ := hoB.form; injection e with _ e _; omega
    have hq4 : q ≤ 4096 := by have := HSH.out p (List.mem_of_getElem? hp); omega
    have HQL := Lib.hid hql
    have HP := Lib.hid hpk
    clear hbe hTB hI0 ho0 hob B0 hpk hql
    obtain ⟨hT2, hat⟩ := hIB
    have m0 := j0.keep hT2 (by omega)
    have hItB : Its B (fun b => w.heap.size ≤ b) A s.l.length s.l := hI2.keep hT2 (fun b _ e => by omega)
    obtain ⟨ad, Ar, qr, cr, hAe, hadl, hadx, hbr, r0, r1, r2, r3⟩ := hItB.at_ hk
    rw [← HP.out] at hbr r0 r1 r2
    subst hAe
    obtain ⟨x0, x1, x2⟩ := m0.three
    obtain ⟨t0, t1, t2⟩ := kM.three
    have a0 : B.cell? ⟨w.heap.size + 1 + 1, 0, none⟩ = some (.int .i64 (k : Int)) := hat.cell 0
    have hmA : MsgV B No p.2 (.agg #[.int .i64 p.2.fr, .int .i64 p.2.to, .slice Am q cm]) := ⟨_, _, _, rfl, hoB.bys (fun _ _ h => h)⟩
    have hmR : MsgV B (fun b => w.heap.size ≤ b) p.2 (.agg #[.int .i64 p.2.fr, .int .i64 p.2.to, .slice Ar qr cr]) := ⟨_, _, _, rfl, hbr⟩
    have g0 : (#[Value.int IntKind.i64 p.1, Value.agg #[.int .i64 p.2.fr, .int .i64 p.2.to, .slice Am q cm]]).getD 0 undef = .int .i64 p.1 := rfl
    have g1 : (#[Value.int IntKind.i64 p.1, Value.agg #[.int .i64 p.2.fr, .int .i64 p.2.to, .slice Am q cm]]).getD 1 undef = .agg #[.int .i64 p.2.fr, .int .i64 p.2.to, .slice Am q cm] := rfl
    rw [g0, g1]
    clear g0 g1
    have hk0 : ((k : Nat) : Int) < ((s.l.length : Nat) : Int) := by omega
    have hkd : decide (((s.l.length : Nat) : Int) ≤ ((k : Nat) : Int)) = false := by simp; omega
    have hm1 : c ≤ 9223372036854775807 := by unfold maxLen at hcm; omega
    have hadz : (ad.add (k * 4)).block < B.heap.size := by rw [block_of_add]; exact hadl
    have HTB := Lib.hid hT2
    have HOB := Lib.hid hoB
    have HKM := Lib.hid kM
    have HAT := Lib.hid hat
    have hazz : w.heap.size + 1 + 1 < B.heap.size := hat.lt
    have hawz : w.heap.size < B.heap.size := by omega
    clear hI2 hItB hT2 hoB kM hat m0 hbr hp
    generalize hnm : p.1 = num at *
    gi_wp2_with fail
    refine round_np ?_
    refine round_held (S := fun W => Below B.heap.size B W) (by kernel_rfl) (by kernel_rfl) np_out (show Below B.heap.size B B.drew from (Below.refl _ _).drew) (fun hHeld => ?_)
    refine wpAnyH_takeAt (i := 0) (d := 13) (v := ?vq0x) rfl rfl (by kernel_rfl) (by kernel_rfl) (by kernel_rfl) (fun _ _ _ h => h) (Or.inl ⟨by rfl, ?hyq0x⟩) hHeld ?_
    case hyq0x =>
      intro W hSw
      have hSw' : Below B.heap.size B W := hSw; have a0' := (hSw'.cell (p := ⟨w.heap.size + 1 + 1, 0, none⟩) hazz).trans a0; clear hSw hSw'
      (go_simp; try with_reducible rfl)
    simp only [List.setIfInBounds_toArray, List.set_cons_zero, List.set_cons_succ]
    refine wpAnyH_takeAt (i := 1) (d := 14) (v := ?vq1x) rfl rfl (by kernel_rfl) (by kernel_rfl) (by kernel_rfl) (fun _ _ _ h => h) (Or.inl ⟨by rfl, ?hyq1x⟩) hHeld ?_
    case hyq1x =>
      intro W hSw
      clear hSw
      (go_simp; try with_reducible rfl)
    simp only [List.setIfInBounds_toArray, List.set_cons_zero, List.set_cons_succ]
    refine wpAnyH_takeAt (i := 2) (d := 15) (v := ?vq2x) rfl rfl (by kernel_rfl) (by kernel_rfl) (by kernel_rfl) (fun _ _ _ h => h) (Or.inl ⟨by rfl, ?hyq2x⟩) hHeld ?_
    case hyq2x =>
      intro W hSw
      have hSw' : Below B.heap.size B W := hSw; have x1' := (hSw'.cell (p := ⟨w.heap.size, 1, none⟩) hawz).trans x1; clear hSw hSw'
      (go_simp; try with_reducible rfl)
    simp only [List.setIfInBounds_toArray, List.set_cons_zero, List.set_cons_succ]
    refine wpAnyH_takeAt (i := 3) (d := 16) (v := ?vq3x) rfl rfl (by kernel_rfl) (by kernel_rfl) (by kernel_rfl) (fun _ _ _ h => h) (Or.inl ⟨by rfl, ?hyq3x⟩) hHeld ?_
    case hyq3x =>
      intro W hSw
      clear hSw
      (go_simp; try with_reducible rfl)
    simp only [List.setIfInBounds_toArray, List.set_cons_zero, List.set_cons_succ]
    refine wpAnyH_takeAt (i := 4) (d := 17) (v := .bool false) rfl rfl (by kernel_rfl) (by kernel_rfl) (by kernel_rfl) (fun _ _ _ h => h) (Or.inl ⟨by rfl, ?hyq4x⟩) hHeld ?_
    case hyq4x =>
      intro W hSw
      clear hSw
      go_simp
      all_goals (first | with_reducible rfl | (simp; done) | (simp; omega))
    simp only [List.setIfInBounds_toArray, List.set_cons_zero, List.set_cons_succ]
    refine wpAnyH_takeAt (i := 5) (d := 18) (v := ?vq5x) rfl rfl (by kernel_rfl) (by kernel_rfl) (by kernel_rfl) (fun _ _ _ h => h) (Or.inl ⟨by rfl, ?hyq5x⟩) hHeld ?_
    case hyq5x =>
      intro W hSw
      clear hSw
      (go_simp; try with_reducible rfl)
    simp only [List.setIfInBounds_toArray, List.set_cons_zero, List.set_cons_succ]
    refine wpAnyH_takeAt (i := 6) (d := 19) (v := ?vq6x) rfl rfl (by kernel_rfl) (by kernel_rfl) (by kernel_rfl) (fun _ _ _ h => h) (Or.inl ⟨by rfl, ?hyq6x⟩) hHeld ?_
    case hyq6x =>
      intro W hSw
      clear hSw
      (go_simp; try with_reducible rfl)
    simp only [List.setIfInBounds_toArray, List.set_cons_zero, List.set_cons_succ]
    refine wpAnyH_takeAt (i := 7) (d := 20) (v := ?vq7x) rfl rfl (by kernel_rfl) (by kernel_rfl) (by kernel_rfl) (fun _ _ _ h => h) (Or.inl ⟨by rfl, ?hyq7x⟩) hHeld ?_
    case hyq7x =>
      intro W hSw
      have hSw' : Below B.heap.size B W := hSw; have x1' := (hSw'.cell (p := ⟨w.heap.size, 1, none⟩) hawz).trans x1; clear hSw hSw'
      (go_simp; try with_reducible rfl)
    simp only [List.setIfInBounds_toArray, List.set_cons_zero, List.set_cons_succ]
    refine wpAnyH_takeAt (i := 8) (d := 21) (v := ?vq8x) rfl rfl (by kernel_rfl) (by kernel_rfl) (by kernel_rfl) (fun _ _ _ h => h) (Or.inl ⟨by rfl, ?hyq8x⟩) hHeld ?_
    case hyq8x =>
      intro W hSw
      have hSw' : Below B.heap.size B W := hSw; have a0' := (hSw'.cell (p := ⟨w.heap.size + 1 + 1, 0, none⟩) hazz).trans a0; clear hSw hSw'
      (go_simp; try with_reducible rfl)
    simp only [List.setIfInBounds_toArray, List.set_cons_zero, List.set_cons_succ]
    refine wpAnyH_takeAt (i := 9) (d := 22) (v := ?vq9x) rfl rfl (by kernel_rfl) (by kernel_rfl) (by kernel_rfl) (fun _ _ _ h => h) (Or.inl ⟨by rfl, ?hyq9x⟩) hHeld ?_
    case hyq9x =>
      intro W hSw
      clear hSw
      (go_simp; try with_reducible rfl)
    simp only [List.setIfInBounds_toArray, List.set_cons_zero, List.set_cons_succ]
    refine wpAnyH_takeAt (i := 10) (d := 23) (v := ?vq10x) rfl rfl (by kernel_rfl) (by kernel_rfl) (by kernel_rfl) (fun _ _ _ h => h) (Or.inl ⟨by rfl, ?hyq10x⟩) hHeld ?_
    case hyq10x =>
      intro W hSw
      clear hSw
      (go_simp; try with_reducible rfl)
    simp only [List.setIfInBounds_toArray, List.set_cons_zero, List.set_cons_succ]
    refine wpAnyH_takeAt (i := 11) (d := 24) (v := ?vq11x) rfl rfl (by kernel_rfl) (by kernel_rfl) (by kernel_rfl) (fun _ _ _ h => h) (Or.inl ⟨by rfl, ?hyq11x⟩) hHeld ?_
    case hyq11x =>
      intro W hSw
      have hSw' : Below B.heap.size B W := hSw; have r0' := (hSw'.cell (p := (ad.add (k * 4))) hadz).trans r0; clear hSw hSw'
      (go_simp; try with_reducible rfl)
    simp only [List.setIfInBounds_toArray, List.set_cons_zero, List.set_cons_succ]
    refine wpAnyH_takeAt (i := 12) (d := 25) (v := ?vq12x) rfl rfl (by kernel_rfl) (by kernel_rfl) (by kernel_rfl) (fun _ _ _ h => h) (Or.inl ⟨by rfl, ?hyq12x⟩) hHeld ?_
    case hyq12x =>
      intro W hSw
      clear hSw
      (go_simp; try with_reducible rfl)
    simp only [List.setIfInBounds_toArray, List.set_cons_zero, List.set_cons_succ]
    refine wpAnyH_takeAt (i := 13) (d := 26) (v := .bool false) rfl rfl (by kernel_rfl) (by kernel_rfl) (by kernel_rfl) (fun _ _ _ h => h) (Or.inl ⟨by rfl, ?hyq13x⟩) hHeld ?_
    case hyq13x =>
      intro W hSw
      clear hSw
      go_simp
      all_goals (first | with_reducible rfl | (simp; done) | (simp; omega))
    simp only [List.setIfInBounds_toArray, List.set_cons_zero, List.set_cons_succ]
    refine wpAnyH_takeAt (i := 14) (d := 27) (v := ?vq14x) rfl rfl (by kernel_rfl) (by kernel_rfl) (by kernel_rfl) (fun _ _ _ h => h) (Or.inl ⟨by rfl, ?hyq14x⟩) hHeld ?_
    case hyq14x =>
      intro W hSw
      clear hSw
      (go_simp; try with_reducible rfl)
    simp only [List.setIfInBounds_toArray, List.set_cons_zero, List.set_cons_succ]
    refine wpAnyH_takeAt (i := 15) (d := 28) (v := ?vq15x) rfl rfl (by kernel_rfl) (by kernel_rfl) (by kernel_rfl) (fun _ _ _ h => h) (Or.inl ⟨by rfl, ?hyq15x⟩) hHeld ?_
    case hyq15x =>
      intro W hSw
      clear hSw
      (go_simp; try with_reducible rfl)
    simp only [List.setIfInBounds_toArray, List.set_cons_zero, List.set_cons_succ]
    refine wpAnyH_takeAt (i := 16) (d := 29) (v := ?vq16x) rfl rfl (by kernel_rfl) (by kernel_rfl) (by kernel_rfl) (fun _ _ _ h => h) (Or.inl ⟨by rfl, ?hyq16x⟩) hHeld ?_
    case hyq16x =>
      intro W hSw
      have hSw' : Below B.heap.size B W := hSw; have t0' := (hSw'.cell (p := ⟨b, 0, none⟩) hbz).trans t0; have t1' := (hSw'.cell (p := ⟨b, 1, none⟩) hbz).trans t1; have t2' := (hSw'.cell (p := ⟨b, 2, none⟩) hbz).trans t2; clear hSw hSw'
      (go_simp; try with_reducible rfl)
    simp only [List.setIfInBounds_toArray, List.set_cons_zero, List.set_cons_succ]
    refine wpAnyH_takeAt (i := 17) (d := 30) (v := ?vq17x) rfl rfl (by kernel_rfl) (by kernel_rfl) (by kernel_rfl) (fun _ _ _ h => h) (Or.inl ⟨by rfl, ?hyq17x⟩) hHeld ?_
    case hyq17x =>
      intro W hSw
      clear hSw
      (go_simp; try with_reducible rfl)
    simp only [List.setIfInBounds_toArray, List.set_cons_zero, List.set_cons_succ]
    refine wpAnyH_takeAt (i := 18) (d := 31) (v := ?vq18x) rfl rfl (by kernel_rfl) (by kernel_rfl) (by kernel_rfl) (fun _ _ _ h => h) (Or.inl ⟨by rfl, ?hyq18x⟩) hHeld ?_
    case hyq18x =>
      intro W hSw
      have hSw' : Below B.heap.size B W := hSw; have x1' := (hSw'.cell (p := ⟨w.heap.size, 1, none⟩) hawz).trans x1; clear hSw hSw'
      (go_simp; try with_reducible rfl)
    simp only [List.setIfInBounds_toArray, List.set_cons_zero, List.set_cons_succ]
    refine wpAnyH_takeAt (i := 19) (d := 32) (v := ?vq19x) rfl rfl (by kernel_rfl) (by kernel_rfl) (by kernel_rfl) (fun _ _ _ h => h) (Or.inl ⟨by rfl, ?hyq19x⟩) hHeld ?_
    case hyq19x =>
      intro W hSw
      have hSw' : Below B.heap.size B W := hSw; have a0' := (hSw'.cell (p := ⟨w.heap.size + 1 + 1, 0, none⟩) hazz).trans a0; clear hSw hSw'
      (go_simp; try with_reducible rfl)
    simp only [List.setIfInBounds_toArray, List.set_cons_zero, List.set_cons_succ]
    refine wpAnyH_takeAt (i := 20) (d := 33) (v := ?vq20x) rfl rfl (by kernel_rfl) (by kernel_rfl) (by kernel_rfl) (fun _ _ _ h => h) (Or.inl ⟨by rfl, ?hyq20x⟩) hHeld ?_
    case hyq20x =>
      intro W hSw
      clear hSw
      (go_simp; try with_reducible rfl)
    simp only [List.setIfInBounds_toArray, List.set_cons_zero, List.set_cons_succ]
    refine wpAnyH_takeAt (i := 21) (d := 34) (v := ?vq21x) rfl rfl (by kernel_rfl) (by kernel_rfl) (by kernel_rfl) (fun _ _ _ h => h) (Or.inl ⟨by rfl, ?hyq21x⟩) hHeld ?_
    case hyq21x =>
      intro W hSw
      clear hSw
      (go_simp; try with_reducible rfl)
    simp only [List.setIfInBounds_toArray, List.set_cons_zero, List.set_cons_succ]
    refine wpAnyH_takeAt (i := 22) (d := 35) (v := ?vq22x) rfl rfl (by kernel_rfl) (by kernel_rfl) (by kernel_rfl) (fun _ _ _ h => h) (Or.inl ⟨by rfl, ?hyq22x⟩) hHeld ?_
    case hyq22x =>
      intro W hSw
      have hSw' : Below B.heap.size B W := hSw; have r1' := (hSw'.cell (p := ⟨(ad.add (k * 4)).block, (ad.add (k * 4)).off + 1, none⟩) hadz).trans r1; have r2' := (hSw'.cell (p := ⟨(ad.add (k * 4)).block, (ad.add (k * 4)).off + 2, none⟩) hadz).trans r2; have r3' := (hSw'.cell (p := ⟨(ad.add (k * 4)).block, (ad.add (k * 4)).off + 3, none⟩) hadz).trans r3; clear hSw hSw'
      (go_simp; try with_reducible rfl)
    simp only [List.setIfInBounds_toArray, List.set_cons_zero, List.set_cons_succ]
    refine wpAnyH_ready (rs := [23]) (by kernel_rfl) (by simp) (AllReadyH.cons rfl (fun K hK => ?_) AllReadyH.nil)
    go_simp
    refine (sameMsg_any (w := B.drew) (hmA.below (Below.refl _ _).drew) (hmR.below (Below.refl _ _).drew)).mono ?_
    rintro e B5 ⟨rfl, hb5⟩
    rw [sameM_refl]
    dsimp only
    have hb5' : Below B.heap.size B B5 := ((Below.refl _ _).drew).trans hb5
    refine hK.out _ _ (show Below B.heap.size B B5 from hb5') (fun hHeld => ?_)
    clear hK K
    try simp only [List.setIfInBounds_toArray, List.set_cons_zero, List.set_cons_succ]
    refine wpAnyH_takeAt (i := 24) (d := 37) (v := ?vq23x) rfl rfl (by kernel_rfl) (by kernel_rfl) (by kernel_rfl) (fun _ _ _ h => h) (Or.inl ⟨by rfl, ?hyq23x⟩) hHeld ?_
    case hyq23x =>
      intro W hSw
      clear hSw
      (go_simp; try with_reducible rfl)
    simp only [List.setIfInBounds_toArray, List.set_cons_zero, List.set_cons_succ]
    refine wpAnyH_takeAt (i := 25) (d := 38) (v := ?vq24x) rfl rfl (by kernel_rfl) (by kernel_rfl) (by kernel_rfl) (fun _ _ _ h => h) (Or.inl ⟨by rfl, ?hyq24x⟩) hHeld ?_
    case hyq24x =>
      intro W hSw
      clear hSw
      (go_simp; try with_reducible rfl)
    simp only [List.setIfInBounds_toArray, List.set_cons_zero, List.set_cons_succ]
    refine wpAnyH_done (by kernel_rfl) ?_ _
    clear hHeld a0 x0 x1 x2 r0 r1 r2 r3 hmA hmR
    have hz5 := hb5'.size
    have kM5 := HKM.out.below hb5' HKM.out.lt
    have ho5 := HOB.out.below hb5'
    have hrB : ∀ r, Value.ownBlock (.slice Am q cm) = some r → r < b ∧ w2.heap.size + 2 ≤ r := fun r e => ⟨hrb r e, hnw r e⟩
    have HRB := Lib.hid hrB
    have HKM5 := Lib.hid kM5
    have HO5 := Lib.hid ho5
    have hwr := wrap_u8
    clear hrB kM5 ho5 t0 t1 t2
    gi_wp2_with fail
    gi_loopw [8] (fun i wr => ∃ (j : Nat) (l' : Bs), j ≤ q ∧ i = .int .i64 j ∧ l'.length = q ∧ Own wr (.slice Am q cm) l' ∧ Turn (fun r => Value.ownBlock (.slice Am q cm) = some r) B5 wr) (fun i _ => q - (intOf i).toNat)
    case atStart => exact ⟨0, p.2.b, by omega, rfl, HQL.out.symm, HO5.out, Turn.refl _ _⟩
    case round =>
      obtain ⟨j, l', hj, rfl, hl', hoj, hTj⟩ := hrel
      have kMj := HKM5.out.keep hTj (fun e => by have := HRB.out _ e; omega)
      obtain ⟨u0, u1, u2⟩ := kMj.three
      by_cases hjq : j < q
      case neg =>
        have hdj : decide (j < q) = false := by simpa using hjq
        have hatj : Blk wr (w.heap.size + 1 + 1) 3 #[.int .i64 (k : Int)] := (HAT.out.below hb5' HAT.out.lt).keep hTj (fun e => by have := HRB.out _ e; have := HZ.out; omega)
        have a0 : wr.cell? ⟨w.heap.size + 1 + 1, 0, none⟩ = some (.int .i64 (k : Int)) := hatj.cell 0
        have af := hatj.frozen 0
        have HTJ := Lib.hid hTj
        clear hTj hoj
        gi_wp2_with fail
        have hT9 : Turn (fun b => b = (w.heap.size + 1 + 1)) wr (wr.setCell ⟨w.heap.size + 1 + 1, 0, none⟩ (.int .i64 ((k : Int) + 1))) := (Turn.refl (fun b => b = (w.heap.size + 1 + 1)) wr).setCell (p := ⟨w.heap.size + 1 + 1, 0, none⟩) (fun _ => rfl) _
        have hTa : Turn (fun r => Value.ownBlock (.slice Am q cm) = some r ∨ r = (w.heap.size + 1 + 1)) B (wr.setCell ⟨w.heap.size + 1 + 1, 0, none⟩ (.int .i64 ((k : Int) + 1))) := ((Turn.of_below hb5' _).trans HTJ.out (fun b hb e => .inl e)).trans hT9 (fun b hb e => .inr e)
        refine ⟨Both.of_turn hTa (by omega) (fun e => ?_) (fun e => ?_), hTa.mono (fun r _ e => ?_), ⟨HTB.out.trans hTa (fun r hr e => ?_), ?_⟩⟩
        · rcases e with e | e
          · have := HRB.out _ e; omega
          · have := HZ.out; omega
        · rcases e with e | e
          · have := HRB.out _ e; omega
          · have := HZ.out; omega
        · rcases e with e | e
          · exact .inr ⟨_, _, _, Am, q, cm, rfl, e⟩
          · exact .inl (.inl e)
        · rcases e with e | e
          · have := HRB.out _ e; omega
          · exact e
        · exact hatj.set_ 0 (.int .i64 ((k : Int) + 1))
      case pos =>
        obtain ⟨r, u, rfl, hlu, hcu, hfu⟩ := hoj.at_ hjq
        have hj0 : ((j : Nat) : Int) < ((q : Nat) : Int) := by omega
        have hrl : r < wr.heap.size := block_lt_of_cell hcu
        have hbl : b < wr.heap.size := kMj.lt
        gi_wp2_with fail
        refine round_np ?_
        refine round_held (S := fun W => W.cell? ⟨b, 2, none⟩ = some (.slice (some ⟨r, 0, none⟩) q cm)) (by kernel_rfl) (by kernel_rfl) np_out u2 (fun hHeld => ?_)
        refine wpAnyH_takeAt (i := 0) (d := 46) (v := ?vq25x) rfl rfl (by kernel_rfl) (by kernel_rfl) (by kernel_rfl) (fun _ _ _ h => h) (Or.inl ⟨by rfl, ?hyq25x⟩) hHeld ?_
        case hyq25x =>
          intro W hSw
          clear hSw
          (go_simp; try with_reducible rfl)
        simp only [List.setIfInBounds_toArray, List.set_cons_zero, List.set_cons_succ]
        refine wpAnyH_takeAt (i := 1) (d := 47) (v := ?vq26x) rfl rfl (by kernel_rfl) (by kernel_rfl) (by kernel_rfl) (fun _ _ _ h => h) (Or.inl ⟨by rfl, ?hyq26x⟩) hHeld ?_
        case hyq26x =>
          intro W hSw
          have sc := hSw
          (go_simp; try with_reducible rfl)
        simp only [List.setIfInBounds_toArray, List.set_cons_zero, List.set_cons_succ]
        refine wpAnyH_takeAt (i := 2) (d := 48) (v := ?vq27x) rfl rfl (by kernel_rfl) (by kernel_rfl) (by kernel_rfl) (fun _ _ _ h => h) (Or.inl ⟨by rfl, ?hyq27x⟩) hHeld ?_
        case hyq27x =>
          intro W hSw
          clear hSw
          (go_simp; try with_reducible rfl)
        simp only [List.setIfInBounds_toArray, List.set_cons_zero, List.set_cons_succ]
        refine wpAnyH_takeAt (i := 3) (d := 49) (v := ?vq28x) rfl rfl (by kernel_rfl) (by kernel_rfl) (by kernel_rfl) (fun _ _ _ h => h) (Or.inl ⟨by rfl, ?hyq28x⟩) hHeld ?_
        case hyq28x =>
          intro W hSw
          clear hSw
          (go_simp; try with_reducible rfl)
        simp only [List.setIfInBounds_toArray, List.set_cons_zero, List.set_cons_succ]
        refine wpAnyH_takeAt (i := 4) (d := 50) (v := ?vq29x) rfl rfl (by kernel_rfl) (by kernel_rfl) (by kernel_rfl) (fun _ _ _ h => h) (Or.inl ⟨by rfl, ?hyq29x⟩) hHeld ?_
        case hyq29x =>
          intro W hSw
          have sc := hSw
          (go_simp; try with_reducible rfl)
        simp only [List.setIfInBounds_toArray, List.set_cons_zero, List.set_cons_succ]
        refine wpAnyH_takeAt (i := 5) (d := 51) (v := ?vq30x) rfl rfl (by kernel_rfl) (by kernel_rfl) (by kernel_rfl) (fun _ _ _ h => h) (Or.inl ⟨by rfl, ?hyq30x⟩) hHeld ?_
        case hyq30x =>
          intro W hSw
          clear hSw
          (go_simp; try with_reducible rfl)
        simp only [List.setIfInBounds_toArray, List.set_cons_zero, List.set_cons_succ]
        refine wpAnyH_takeAt (i := 6) (d := 52) (v := ?vq31x) rfl rfl (by kernel_rfl) (by kernel_rfl) (by kernel_rfl) (fun _ _ _ h => h) (Or.inl ⟨by rfl, ?hyq31x⟩) hHeld ?_
        case hyq31x =>
          intro W hSw
          clear hSw
          (go_simp; try with_reducible rfl)
        simp only [List.setIfInBounds_toArray, List.set_cons_zero, List.set_cons_succ]
        refine wpAnyH_ready (rs := [7]) (by kernel_rfl) (by simp) (AllReadyH.cons rfl (fun K hK => ?_) AllReadyH.nil)
        go_simp
        refine hK.out _ _ u2 (fun hHeld => ?_)
        clear hK K
        try simp only [List.setIfInBounds_toArray, List.set_cons_zero, List.set_cons_succ]
        refine wpAnyH_takeAt (i := 8) (d := 54) (v := (.int .u8 ((u + 1).toNat : Int))) rfl rfl (by kernel_rfl) (by kernel_rfl) (by kernel_rfl) (fun _ _ _ h => h) (Or.inl ⟨by rfl, ?hyq32x⟩) hHeld ?_
        case hyq32x =>
          intro W hSw
          clear hSw
          go_simp
          all_goals (first | with_reducible rfl | (simp; done) | (simp; omega))
        simp only [List.setIfInBounds_toArray, List.set_cons_zero, List.set_cons_succ]
        refine wpAnyH_takeAt (i := 9) (d := 55) (v := ?vq33x) rfl rfl (by kernel_rfl) (by kernel_rfl) (by kernel_rfl) (fun _ _ _ h => h) (Or.inl ⟨by rfl, ?hyq33x⟩) hHeld ?_
        case hyq33x =>
          intro W hSw
          clear hSw
          (go_simp; try with_reducible rfl)
        simp only [List.setIfInBounds_toArray, List.set_cons_zero, List.set_cons_succ]
        refine wpAnyH_ready (rs := [10]) (by kernel_rfl) (by simp) (AllReadyH.cons rfl (fun K hK => ?_) AllReadyH.nil)
        go_simp
        obtain ⟨hs1, hs2⟩ := (show Own wr.drew (.slice (some ⟨r, 0, none⟩) q cm) l' from hoj).set_ (j := j) (u + 1)
        have hT10 : Turn (fun x => x = r) wr.drew (wr.drew.setCell ⟨r, j, none⟩ (byteV (u + 1))) := Turn.of_grown hs2 (fun x e => by injection e with e; exact e.symm)
        have hrb2 : r ≠ b := by have := HRB.out r rfl; omega
        refine hK.out _ _ ((hT10.cell (p := ⟨b, 2, none⟩) hbl (fun e => hrb2 e.symm)).trans u2) (fun hHeld => ?_)
        clear hK K
        try simp only [List.setIfInBounds_toArray, List.set_cons_zero, List.set_cons_succ]
        refine wpAnyH_done (by kernel_rfl) ?_ _
        gi_wp2_with fail
        have hTj' : Turn (fun x => Value.ownBlock (.slice (some ⟨r, 0, none⟩) q cm) = some x) B5 (wr.drew.setCell ⟨r, j, none⟩ (byteV (u + 1))) := hTj.drew.trans hT10 (fun x _ e => by rw [e]; rfl)
        refine ⟨⟨j + 1, l'.set j (u + 1), by omega, by go_num, by rw [List.length_set]; exact hl', hs1, hTj'⟩, by simp [intOf]; omega⟩
  case done =>
    intro B hI hd
    obtain ⟨hT2, hat⟩ := hI
    have m0 := j0.keep hT2 (by omega)
    have m1 := j1.keep hT2 (by omega)
    obtain ⟨mb, hNb⟩ := hN2.keep hT2 (fun b _ e e' => by have := HSL.out b e'; omega)
    obtain ⟨x0, x1, x2⟩ := m0.three
    have a0 : B.cell? ⟨w.heap.size + 1 + 1, 0, none⟩ = some (.int .i64 ((s.l.length : Nat) : Int)) := hat.cell 0
    have hbB := hbw.trans (hT2.below hbw.size (fun b e => by omega))
    have v0 : B.cell? ⟨w.heap.size + 1, 0, none⟩ = some (.bool false) := m1.cell 0
    have vf : B.frozen? ⟨w.heap.size + 1, 0, none⟩ = false := m1.frozen 0
    have hNd : NtAt B.drew S g s mb := hNb.below (Below.refl _ _).drew
    have HD := Lib.hid hd
    have HBB := Lib.hid hbB
    have HM1 := Lib.hid m1
    clear hN2 hI2 hMN j0 j1 j2 m0 m1 hat hd hbB hT2
    gi_wp2_with fail
    refine (wpIn_wide (n := 5)).2 (wp_region_by (fun a' w' => a'.tmps.getD 4 undef = .pointer (some ⟨w.heap.size + 1, 0, none⟩) ∧ a'.defers = [{ target := .collected w2.heap.size, args := #[] }] ∧ Blk w' (w.heap.size + 1) 4 #[.bool true] ∧ w'.heap[w2.heap.size]? = some (.deferred (some [])) ∧ Below w.heap.size w w') ?regs ?rest)
    case regs =>
      refine wp_region_np ?_
      refine wp_region_held_drew (S := fun W => W.cell? ⟨w.heap.size + 1 + 1, 0, none⟩ = some (.int .i64 ((s.l.length : Nat) : Int)) ∧ W.cell? ⟨w.heap.size, 1, none⟩ = some (.slice A s.l.length c) ∧ W.cell? ⟨w.heap.size, 2, none⟩ = some (.int .i64 (s.came : Int))) (by kernel_rfl) (show _ ∧ _ ∧ _ from ⟨a0, x1, x2⟩) (fun hHeld => ?_)
      refine wpAnyH_takeAt (i := 0) (d := 58) (v := ?vq34x) rfl rfl (by kernel_rfl) (by kernel_rfl) (by kernel_rfl) (fun _ _ _ h => h) (Or.inl ⟨by rfl, ?hyq34x⟩) hHeld ?_
      case hyq34x =>
        intro W hSw
        obtain ⟨sa, sb, sc⟩ := hSw
        (go_simp; try with_reducible rfl)
      simp only [List.setIfInBounds_toArray, List.set_cons_zero, List.set_cons_succ]
      refine wpAnyH_takeAt (i := 1) (d := 59) (v := ?vq35x) rfl rfl (by kernel_rfl) (by kernel_rfl) (by kernel_rfl) (fun _ _ _ h => h) (Or.inl ⟨by rfl, ?hyq35x⟩) hHeld ?_
      case hyq35x =>
        intro W hSw
        clear hSw
        (go_simp; try with_reducible rfl)
      simp only [List.setIfInBounds_toArray, List.set_cons_zero, List.set_cons_succ]
      refine wpAnyH_takeAt (i := 2) (d := 60) (v := ?vq36x) rfl rfl (by kernel_rfl) (by kernel_rfl) (by kernel_rfl) (fun _ _ _ h => h) (Or.inl ⟨by rfl, ?hyq36x⟩) hHeld ?_
      case hyq36x =>
        intro W hSw
        obtain ⟨sa, sb, sc⟩ := hSw
        (go_simp; try with_reducible rfl)
      simp only [List.setIfInBounds_toArray, List.set_cons_zero, List.set_cons_succ]
      refine wpAnyH_takeAt (i := 3) (d := 61) (v := ?vq37x) rfl rfl (by kernel_rfl) (by kernel_rfl) (by kernel_rfl) (fun _ _ _ h => h) (Or.inl ⟨by rfl, ?hyq37x⟩) hHeld ?_
      case hyq37x =>
        intro W hSw
        clear hSw
        (go_simp; try with_reducible rfl)
      simp only [List.setIfInBounds_toArray, List.set_cons_zero, List.set_cons_succ]
      refine wpAnyH_takeAt (i := 4) (d := 62) (v := .bool true) rfl rfl (by kernel_rfl) (by kernel_rfl) (by kernel_rfl) (fun _ _ _ h => h) (Or.inl ⟨by rfl, ?hyq38x⟩) hHeld ?_
      case hyq38x =>
        intro W hSw
        clear hSw
        go_simp
        all_goals (first | with_reducible rfl | (simp; done) | (simp; omega))
      simp only [List.setIfInBounds_toArray, List.set_cons_zero, List.set_cons_succ]
      refine wpAnyH_takeAt (i := 5) (d := 63) (v := ?vq39x) rfl rfl (by kernel_rfl) (by kernel_rfl) (by kernel_rfl) (fun _ _ _ h => h) (Or.inl ⟨by rfl, ?hyq39x⟩) hHeld ?_
      case hyq39x =>
        intro W hSw
        clear hSw
        (go_simp; try with_reducible rfl)
      simp only [List.setIfInBounds_toArray, List.set_cons_zero, List.set_cons_succ]
      refine wpAnyH_takeAt (i := 6) (d := 64) (v := ?vq40x) rfl rfl (by kernel_rfl) (by kernel_rfl) (by kernel_rfl) (fun _ _ _ h => h) (Or.inl ⟨by rfl, ?hyq40x⟩) hHeld ?_
      case hyq40x =>
        intro W hSw
        clear hSw
        (go_simp; try with_reducible rfl)
      simp only [List.setIfInBounds_toArray, List.set_cons_zero, List.set_cons_succ]
      refine wpAnyH_takeAt (i := 8) (d := 66) (v := ?vq41x) rfl rfl (by kernel_rfl) (by kernel_rfl) (by kernel_rfl) (fun _ _ _ h => h) (Or.inl ⟨by rfl, ?hyq41x⟩) hHeld ?_
      case hyq41x =>
        intro W hSw
        obtain ⟨sa, sb, sc⟩ := hSw
        (go_simp; try with_reducible rfl)
      simp only [List.setIfInBounds_toArray, List.set_cons_zero, List.set_cons_succ]
      refine wpAnyH_ready (rs := [7]) (by kernel_rfl) (by simp) (AllReadyH.cons rfl (fun K hK => ?_) AllReadyH.nil)
      go_simp
      refine (len_any hNd).mono ?_
      rintro e B9 ⟨rfl, rfl⟩
      dsimp only
      refine hK.out _ _ (show _ ∧ _ ∧ _ from ⟨a0, x1, x2⟩) (fun hHeld => ?_)
      clear hK K
      try simp only [List.setIfInBounds_toArray, List.set_cons_zero, List.set_cons_succ]
      refine wpAnyH_takeAt (i := 9) (d := 67) (v := .bool true) rfl rfl (by kernel_rfl) (by kernel_rfl) (by kernel_rfl) (fun _ _ _ h => h) (Or.inl ⟨by rfl, ?hyq42x⟩) hHeld ?_
      case hyq42x =>
        intro W hSw
        clear hSw
        go_simp
        all_goals (first | with_reducible rfl | (simp; done) | (simp; omega))
      simp only [List.setIfInBounds_toArray, List.set_cons_zero, List.set_cons_succ]
      refine wpAnyH_takeAt (i := 10) (d := 68) (v := ?vq43x) rfl rfl (by kernel_rfl) (by kernel_rfl) (by kernel_rfl) (fun _ _ _ h => h) (Or.inl ⟨by rfl, ?hyq43x⟩) hHeld ?_
      case hyq43x =>
        intro W hSw
        clear hSw
        (go_simp; try with_reducible rfl)
      simp only [List.setIfInBounds_toArray, List.set_cons_zero, List.set_cons_succ]
      refine wpAnyH_takeAt (i := 11) (d := 69) (v := ?vq44x) rfl rfl (by kernel_rfl) (by kernel_rfl) (by kernel_rfl) (fun _ _ _ h => h) (Or.inl ⟨by rfl, ?hyq44x⟩) hHeld ?_
      case hyq44x =>
        intro W hSw
        clear hSw
        (go_simp; try with_reducible rfl)
      simp only [List.setIfInBounds_toArray, List.set_cons_zero, List.set_cons_succ]
      refine wpAnyH_takeAt (i := 12) (d := 70) (v := ?vq45x) rfl rfl (by kernel_rfl) (by kernel_rfl) (by kernel_rfl) (fun _ _ _ h => h) (Or.inl ⟨by rfl, ?hyq45x⟩) hHeld ?_
      case hyq45x =>
        intro W hSw
        clear hSw
        (go_simp; try with_reducible rfl)
      simp only [List.setIfInBounds_toArray, List.set_cons_zero, List.set_cons_succ]
      refine wpAnyH_takeAt (i := 14) (d := 72) (v := ?vq46x) rfl rfl (by kernel_rfl) (by kernel_rfl) (by kernel_rfl) (fun _ _ _ h => h) (Or.inl ⟨by rfl, ?hyq46x⟩) hHeld ?_
      case hyq46x =>
        intro W hSw
        clear hSw
        (go_simp; try with_reducible rfl)
      simp only [List.setIfInBounds_toArray, List.set_cons_zero, List.set_cons_succ]
      refine wpAnyH_takeAt (i := 15) (d := 73) (v := ?vq47x) rfl rfl (by kernel_rfl) (by kernel_rfl) (by kernel_rfl) (fun _ _ _ h => h) (Or.inl ⟨by rfl, ?hyq47x⟩) hHeld ?_
      case hyq47x =>
        intro W hSw
        obtain ⟨sa, sb, sc⟩ := hSw
        (go_simp; try with_reducible rfl)
      simp only [List.setIfInBounds_toArray, List.set_cons_zero, List.set_cons_succ]
      refine wpAnyH_ready (rs := [13]) (by kernel_rfl) (by simp) (AllReadyH.cons rfl (fun K hK => ?_) AllReadyH.nil)
      go_simp
      refine (came_any hNd).mono ?_
      rintro e B9 ⟨rfl, rfl⟩
      dsimp only
      refine hK.out _ _ (show _ ∧ _ ∧ _ from ⟨a0, x1, x2⟩) (fun hHeld => ?_)
      clear hK K
      try simp only [List.setIfInBounds_toArray, List.set_cons_zero, List.set_cons_succ]
      refine wpAnyH_takeAt (i := 16) (d := 74) (v := .bool true) rfl rfl (by kernel_rfl) (by kernel_rfl) (by kernel_rfl) (fun _ _ _ h => h) (Or.inl ⟨by rfl, ?hyq48x⟩) hHeld ?_
      case hyq48x =>
        intro W hSw
        clear hSw
        go_simp
        all_goals (first | with_reducible rfl | (simp; done) | (simp; omega))
      simp only [List.setIfInBounds_toArray, List.set_cons_zero, List.set_cons_succ]
      refine wpAnyH_takeAt (i := 17) (d := 75) (v := ?vq49x) rfl rfl (by kernel_rfl) (by kernel_rfl) (by kernel_rfl) (fun _ _ _ h => h) (Or.inl ⟨by rfl, ?hyq49x⟩) hHeld ?_
      case hyq49x =>
        intro W hSw
        clear hSw
        (go_simp; try with_reducible rfl)
      simp only [List.setIfInBounds_toArray, List.set_cons_zero, List.set_cons_succ]
      refine wpAnyH_ready (rs := [18]) (by kernel_rfl) (by simp) (AllReadyH.cons rfl (fun K hK => ?_) AllReadyH.nil)
      go_simp
      have hT18 : Turn (fun x => x = w.heap.size + 1) B.drew (B.drew.setCell ⟨w.heap.size + 1, 0, none⟩ (.bool true)) := (Turn.refl (fun x => x = w.heap.size + 1) _).setCell (p := ⟨w.heap.size + 1, 0, none⟩) (fun _ => rfl) _
      refine hK.out _ _ (show _ ∧ _ ∧ _ from ⟨(hT18.cell (p := ⟨w.heap.size + 1 + 1, 0, none⟩) (block_lt_of_cell a0) (show ¬ w.heap.size + 1 + 1 = _ by omega)).trans a0, (hT18.cell (p := ⟨w.heap.size, 1, none⟩) (block_lt_of_cell x1) (show ¬ w.heap.size = _ by omega)).trans x1, (hT18.cell (p := ⟨w.heap.size, 2, none⟩) (block_lt_of_cell x2) (show ¬ w.heap.size = _ by omega)).trans x2⟩) (fun hHeld => ?_)
      clear hK K
      try simp only [List.setIfInBounds_toArray, List.set_cons_zero, List.set_cons_succ]
      refine wpAnyH_done (by kernel_rfl) ?_ _
      refine ⟨rfl, rfl, rfl, (show Blk B.drew (w.heap.size + 1) 4 #[.bool false] from HM1.out).set_ 0 (.bool true), ?_, ?_⟩
      · exact (hT18.block w2.heap.size (lt_of_heap HD.out) (by have := HZ.out; omega)).trans HD.out
      · exact (HBB.out.drew).trans (hT18.below HBB.out.size (fun b e => by omega))
    case rest =>
      rintro a' w9 ⟨e4, ed, hr9, hd9, hb9⟩
      obtain ⟨tm, df⟩ := a'
      dsimp only at e4 ed
      subst ed
      have hc9 : (w9.putObj w2.heap.size (.deferred none)).cell? ⟨w.heap.size + 1, 0, none⟩ = some (.bool true) := ((turn_putObj w9 w2.heap.size (.deferred none) (S := fun b => b = w2.heap.size) rfl).cell (p := ⟨w.heap.size + 1, 0, none⟩) hr9.lt (show ¬ w.heap.size + 1 = _ by have := HZ.out; omega)).trans (hr9.cell 0)
      have hb10 : Below w.heap.size w (w9.putObj w2.heap.size (.deferred none)) := hb9.trans ((turn_putObj w9 w2.heap.size (.deferred none) (S := fun b => b = w2.heap.size) rfl).below hb9.size (fun b e => by have := HZ.out; omega))
      gi_wp2_with fail
      refine ⟨by simp, .inl ⟨_, _, rfl, run_takeDeferred hd9, ?_⟩⟩
      rw [Array.getD_eq_getD_getElem?] at e4
      refine ⟨.bool true, ?_, rfl, hb10⟩
      generalize w9.putObj w2.heap.size (.deferred none) = w10 at *
      simp [results, Try.results17, go_sem, e4, hc9]
end Go.Proofs.Yticabfmjdjcfnaa
