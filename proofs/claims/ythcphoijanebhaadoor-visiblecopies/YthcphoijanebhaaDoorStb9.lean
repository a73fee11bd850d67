/-
  The iterator over what is stable: what it hands on. Conditions: entries that may be; a length that is there.
-/
import Derived.Test.YthcphoijanebhaaDoorStable9
import Derived.Test.YthcphoijanebhaaDoorHeldIn
import Derived.Test.YthcphoijanebhaaDoorTurnsK
import Derived.Test.YthcphoijanebhaaDoorIter
namespace Go.Proofs.YthcphoijanebhaaDoor
open Go.RowKit Go.Shelf Go.Maps
set_option linter.unusedVariables false
attribute [local go_sem] Oper.semAt_some
theorem round_wide {m m' lr : Nat} {P : Program} {f : FuncId} {tmps : Array Value} {assign body : Code} {w : World} {R : Ending → World → Prop} (h : RoundIn Fence.wide m P lr f tmps assign body w R) : RoundIn Fence.wide m' P lr f tmps assign body w R :=
  ⟨h.1, fun c cs _ => h.2 c cs (fun d hd => by cases hd)⟩
/-- What is handed on. -/
def encS (l : List Ent) (fr k : Nat) : Array Value := #[.int .i64 ((fr + k : Nat) : Int), (l.getD (fr + k) .none_).val]
theorem encS_at {l : List Ent} {fr k q : Nat} {e : Ent} (h : l[q]? = some e) (hq : fr + k = q) : encS l fr k = #[.int .i64 (q : Int), .agg #[.int .i64 e.epoch, .int .i64 e.id, .int .i64 e.num, .int .i64 e.seq, .int .i64 e.kind, .int .i64 e.value]] := by unfold encS; rw [hq, List.getD_eq_getElem?_getD, h]; rfl
set_option maxRecDepth 100000 in
set_option maxHeartbeats 4000000 in
theorem stb_in (nf : Nat) (hnf : 1 ≤ nf) {w : World} {B b m1 m2 bf bn bt bl fr n N : Nat} {l : List Ent} (Z : Nat → Prop) (hI : ItS w B b bf bn bt bl fr n l) (hN : Nob w) (hV : VR w b m1 m2 l) (hr : AllR l) (hn : n ≤ l.length) (hl : l.length ≤ 4096) (hS : StN l n fr N)
    (hZ : ∀ x, B ≤ x → x < w.heap.size → Z x) (hZ0 : Z 0 ∧ Z b ∧ Z m1 ∧ Z m2) (hZl : ∀ x, Z x → x < w.heap.size) :
    SeqK Fence.wide nf Tryd.prog 56 #[.pointer (some ⟨bf, 0, none⟩), .pointer (some ⟨bn, 0, none⟩), .pointer (some ⟨bt, 0, none⟩), .pointer (some ⟨bl, 0, none⟩)] (encS l fr) N (KeepZ Z) w := fun lo J Jx W hW hJ hJx hY h0 => by
  have hkW : KeepZ Z w W := KeepZ.of_turn hW (fun x hx => ⟨hZl x hx, fun h => h⟩)
  obtain ⟨c1, c2, c3, ⟨A, c, c4, hrd, hAb⟩, hlo⟩ := hI
  have hzf : Z bf := hZ bf hlo.1 (block_lt_of_cell c1)
  have hzn : Z bn := hZ bn hlo.2.1 (block_lt_of_cell c2)
  have hzt : Z bt := hZ bt hlo.2.2.1 (block_lt_of_cell c3)
  have hzl : Z bl := hZ bl hlo.2.2.2 (block_lt_of_cell c4)
  have hzA : 0 < n → ∀ ad, A = some ad → Z ad.block := fun h0 ad e => by
    obtain ⟨ad', e', hb, -, -⟩ := hrd.2.2 h0
    rw [e] at e'
    injection e' with e'
    subst e'
    exact hZ _ (hAb ad e) hb
  have HCF : Hid (∀ W', KeepZ Z W W' → W'.cell? ⟨bf, 0, none⟩ = some (.int .i64 (fr : Int))) := Lib.hid (fun W' hk => ((hkW.trans hk).cell (p := ⟨bf, 0, none⟩) hzf).trans c1)
  have HCN : Hid (∀ W', KeepZ Z W W' → W'.cell? ⟨bn, 0, none⟩ = some (.int .i64 (n : Int))) := Lib.hid (fun W' hk => ((hkW.trans hk).cell (p := ⟨bn, 0, none⟩) hzn).trans c2)
  have HCT : Hid (∀ W', KeepZ Z W W' → W'.cell? ⟨bt, 0, none⟩ = some (.pointer (some ⟨b, 0, none⟩))) := Lib.hid (fun W' hk => ((hkW.trans hk).cell (p := ⟨bt, 0, none⟩) hzt).trans c3)
  have HCL : Hid (∀ W', KeepZ Z W W' → W'.cell? ⟨bl, 0, none⟩ = some (.slice A n c)) := Lib.hid (fun W' hk => ((hkW.trans hk).cell (p := ⟨bl, 0, none⟩) hzl).trans c4)
  have HRD : Hid (0 < n → ∀ W', KeepZ Z W W' → Rd W' No 6 A n (cellsOf (l.take n))) := Lib.hid (fun h0 W' hk => hrd.keepZ (hkW.trans hk) (hzA h0))
  have HOP : Hid (∀ W' e, KeepZ Z W W' → In64P e.key → Calls Tryd.prog 57 #[.pointer (some ⟨b, 0, none⟩), e.val, .int .i64 (n : Int)] W' fun r w' => r = .returned (.bool (opn l n e)) ∧ Below W'.heap.size W' w') := Lib.hid (fun W' e hk he => open_any (hN.keepZ (hkW.trans hk) hZ0.1) (hV.keepZ (hkW.trans hk) hZ0.2) he n)
  have HZL : Hid (∀ x, Z x → x < W.heap.size) := Lib.hid (fun x hx => Nat.lt_of_lt_of_le (hZl x hx) hkW.1)
  have HSN := Lib.hid hS
  have HR := Lib.hid hr
  have HNL := Lib.hid (And.intro hn hl)
  have HY := Lib.hid hY
  have HJ := Lib.hid hJ
  have HJX := Lib.hid hJx
  clear hY hJ hJx hW hkW c1 c2 c3 c4 hrd hAb hlo hzf hzn hzt hzl hzA hS hr hn hl hN hV hZ hZ0 hZl
  refine callsIn_of_wp Tryd.func56 rfl trivial ?_ rfl
  simp only [Tryd.ntmps56, List.size_toArray, List.length_cons, List.length_nil, Nat.reduceAdd, Nat.reduceSub, Array.replicate_succ, Array.replicate_zero, List.push_toArray, List.append_toArray, List.nil_append, List.cons_append]
  have y0 := HCF.out W (KeepZ.refl Z W)
  gi_wp2
  clear y0
  gi_loopw [6] (fun i wr => ∃ q : Nat, fr ≤ q ∧ q ≤ fr + N ∧ i = .int .i64 (q : Int) ∧ J (q - fr) wr ∧ KeepZ Z W wr) (fun i _ => n - (iOf i).toNat)
  case atStart => exact ⟨fr, Nat.le_refl _, by omega, rfl, by rw [Nat.sub_self]; exact h0, KeepZ.refl _ _⟩
  case round =>
    obtain ⟨q, hq1, hq2, rfl, hJs, hkr⟩ := hrel
    obtain ⟨k, hqk⟩ : ∃ k, k = q - fr := ⟨_, rfl⟩
    rw [← hqk] at hJs
    have HQ : Hid (fr + k = q) := Lib.hid (by omega)
    have HKN0 : Hid (k ≤ N) := Lib.hid (by omega)
    clear hqk
    have HK := Lib.hid hkr
    have HJS := Lib.hid hJs
    clear hkr hJs
    have hle := HSN.out.le
    have y1 := HCN.out wr HK.out
    have hnl := HNL.out
    by_cases hlt : q < n
    case neg =>
      have hd1 : decide (q < n) = false := by simpa using hlt
      obtain rfl : k = N := by have := HQ.out; have := HKN0.out; omega
      gi_wp2
      go_end0
      exact ⟨⟨_, rfl⟩, .inl HJS.out⟩
    case pos =>
    have hd1 : decide (q < n) = true := by simpa using hlt
    obtain ⟨e, he⟩ : ∃ e, l[q]? = some e := ⟨_, List.getElem?_eq_getElem (by omega)⟩
    have hmem : e ∈ l := List.mem_of_getElem? he
    have HKEY : Hid (In64P e.key) := Lib.hid (right_key (HR.out e hmem))
    have HTK : Hid ((l.take n)[q]? = some e) := Lib.hid (by rw [List.getElem?_take, if_pos hlt]; exact he)
    obtain ⟨ad, rfl, hadl, -, -⟩ := (HRD.out (by omega) wr HK.out).ent HTK.out
    have HEN : Hid (∀ W', KeepZ Z wr W' → W'.cell? (ad.add (q * 6)) = some (.int .i64 e.epoch) ∧ W'.cell? ⟨(ad.add (q * 6)).block, (ad.add (q * 6)).off + 1, none⟩ = some (.int .i64 e.id) ∧ W'.cell? ⟨(ad.add (q * 6)).block, (ad.add (q * 6)).off + 2, none⟩ = some (.int .i64 e.num) ∧
        W'.cell? ⟨(ad.add (q * 6)).block, (ad.add (q * 6)).off + 3, none⟩ = some (.int .i64 e.seq) ∧ W'.cell? ⟨(ad.add (q * 6)).block, (ad.add (q * 6)).off + 4, none⟩ = some (.int .i64 e.kind) ∧ W'.cell? ⟨(ad.add (q * 6)).block, (ad.add (q * 6)).off + 5, none⟩ = some (.int .i64 e.value)) := Lib.hid (fun W' hk' => by
      obtain ⟨ad', e', -, -, s⟩ := (HRD.out (by omega) W' (HK.out.trans hk')).ent HTK.out
      injection e' with e'
      subst e'
      exact s)
    have HTY : Hid (∀ W', KeepZ Z wr W' → W'.cell? ⟨bt, 0, none⟩ = some (.pointer (some ⟨b, 0, none⟩)) ∧ W'.cell? ⟨bn, 0, none⟩ = some (.int .i64 (n : Int)) ∧ W'.cell? ⟨bl, 0, none⟩ = some (.slice (some ad) n c)) := Lib.hid (fun W' hk' => ⟨HCT.out _ (HK.out.trans hk'), HCN.out _ (HK.out.trans hk'), HCL.out _ (HK.out.trans hk')⟩)
    have HOPE : Hid (∀ W', KeepZ Z wr W' → Calls Tryd.prog 57 #[.pointer (some ⟨b, 0, none⟩), .agg #[.int .i64 e.epoch, .int .i64 e.id, .int .i64 e.num, .int .i64 e.seq, .int .i64 e.kind, .int .i64 e.value], .int .i64 (n : Int)] W' fun r w' => r = .returned (.bool (opn l n e)) ∧ Below W'.heap.size W' w') := Lib.hid (fun W' hk' => HOP.out W' e (HK.out.trans hk') HKEY.out)
    clear hmem hadl
    by_cases hkN : k < N
    case neg =>
      obtain rfl : k = N := by have := HKN0.out; omega
      obtain ⟨e', he', ho⟩ := HSN.out.no (by rw [HQ.out]; exact hlt)
      rw [HQ.out, he] at he'
      injection he' with he'
      subst he'
      clear he
      have hopn := ho
      gi_wp2_with fail
      refine wpIn_region_np ?_
      refine wpIn_region_held (S := KeepZ Z wr) (by kernel_rfl) (KeepZ.refl Z wr).drew (fun hHeld => ?_)
      refine wpAnyInH_takeAt (fun _ => trivial) (calm_of (by kernel_rfl)) (i := 0) (d := 13) (v := ?vq0x) rfl rfl (by kernel_rfl) (by kernel_rfl) (by kernel_rfl) (fun _ _ _ h => h) (Or.inl ⟨by rfl, ?hyq0x⟩) hHeld ?_
      case hyq0x =>
        intro W hSw
        have qc := (HTY.out W hSw).1; clear hSw
        (go_simp; try with_reducible rfl)
      simp only [List.setIfInBounds_toArray, List.set_cons_zero, List.set_cons_succ]
      refine wpAnyInH_takeAt (fun _ => trivial) (calm_of (by kernel_rfl)) (i := 1) (d := 14) (v := ?vq1x) rfl rfl (by kernel_rfl) (by kernel_rfl) (by kernel_rfl) (fun _ _ _ h => h) (Or.inl ⟨by rfl, ?hyq1x⟩) hHeld ?_
      case hyq1x =>
        intro W hSw
        have qc := (HTY.out W hSw).2.2; clear hSw
        (go_simp; try with_reducible rfl)
      simp only [List.setIfInBounds_toArray, List.set_cons_zero, List.set_cons_succ]
      refine wpAnyInH_takeAt (fun _ => trivial) (calm_of (by kernel_rfl)) (i := 2) (d := 15) (v := ?vq2x) rfl rfl (by kernel_rfl) (by kernel_rfl) (by kernel_rfl) (fun _ _ _ h => h) (Or.inl ⟨by rfl, ?hyq2x⟩) hHeld ?_
      case hyq2x =>
        intro W hSw
        clear hSw
        (go_simp; try with_reducible rfl)
      simp only [List.setIfInBounds_toArray, List.set_cons_zero, List.set_cons_succ]
      refine wpAnyInH_takeAt (fun _ => trivial) (calm_of (by kernel_rfl)) (i := 3) (d := 16) (v := ?vq3x) rfl rfl (by kernel_rfl) (by kernel_rfl) (by kernel_rfl) (fun _ _ _ h => h) (Or.inl ⟨by rfl, ?hyq3x⟩) hHeld ?_
      case hyq3x =>
        intro W hSw
        clear hSw
        (go_simp; try with_reducible rfl)
      simp only [List.setIfInBounds_toArray, List.set_cons_zero, List.set_cons_succ]
      refine wpAnyInH_takeAt (fun _ => trivial) (calm_of (by kernel_rfl)) (i := 4) (d := 17) (v := ?vq4x) rfl rfl (by kernel_rfl) (by kernel_rfl) (by kernel_rfl) (fun _ _ _ h => h) (Or.inl ⟨by rfl, ?hyq4x⟩) hHeld ?_
      case hyq4x =>
        intro W hSw
        obtain ⟨s0, s1, s2, s3, s4, s5⟩ := HEN.out W hSw; clear hSw
        (go_simp; try with_reducible rfl)
      simp only [List.setIfInBounds_toArray, List.set_cons_zero, List.set_cons_succ]
      refine wpAnyInH_takeAt (fun _ => trivial) (calm_of (by kernel_rfl)) (i := 5) (d := 18) (v := ?vq5x) rfl rfl (by kernel_rfl) (by kernel_rfl) (by kernel_rfl) (fun _ _ _ h => h) (Or.inl ⟨by rfl, ?hyq5x⟩) hHeld ?_
      case hyq5x =>
        intro W hSw
        have qc := (HTY.out W hSw).2.1; clear hSw
        (go_simp; try with_reducible rfl)
      simp only [List.setIfInBounds_toArray, List.set_cons_zero, List.set_cons_succ]
      refine wpAnyInH_ready (rs := [6]) (by kernel_rfl) (by simp) (AllReadyInH.cons rfl (fun K hK => ?_) AllReadyInH.nil)
      go_simp
      refine ⟨by intros; trivial, (callsIn_wide.2 (HOPE.out wr.drew (KeepZ.refl Z wr).drew)).mono ?_⟩
      rintro r w2 ⟨rfl, hb2⟩
      rw [ho]
      dsimp only
      have hk2 : KeepZ Z wr w2 := (KeepZ.refl Z wr).drew.trans (KeepZ.of_below hb2 (fun x hx => Nat.lt_of_lt_of_le (HZL.out x hx) HK.out.1))
      have hJ2 : J k w2 := HJ.out k _ _ HJS.out (Turn.of_below ((Below.refl wr.heap.size wr).drew.trans hb2) No)
      refine hK.out _ _ hk2 (fun hHeld => ?_)
      clear hK K
      try simp only [List.setIfInBounds_toArray, List.set_cons_zero, List.set_cons_succ]
      refine wpAnyInH_takeAt (fun _ => trivial) (calm_of (by kernel_rfl)) (i := 7) (d := 20) (v := ?vq6x) rfl rfl (by kernel_rfl) (by kernel_rfl) (by kernel_rfl) (fun _ _ _ h => h) (Or.inl ⟨by rfl, ?hyq6x⟩) hHeld ?_
      case hyq6x =>
        intro W hSw
        clear hSw
        (go_simp; try with_reducible rfl)
      simp only [List.setIfInBounds_toArray, List.set_cons_zero, List.set_cons_succ]
      refine wpAnyInH_takeAt (fun _ => trivial) (calm_of (by kernel_rfl)) (i := 8) (d := 21) (v := undef) rfl rfl (by kernel_rfl) (by kernel_rfl) (by kernel_rfl) (fun _ _ _ h => h) (Or.inr ⟨by rfl, rfl⟩) hHeld ?_
      simp only [List.setIfInBounds_toArray, List.set_cons_zero, List.set_cons_succ]
      refine wpAnyInH_takeAt (fun _ => trivial) (calm_of (by kernel_rfl)) (i := 9) (d := 22) (v := undef) rfl rfl (by kernel_rfl) (by kernel_rfl) (by kernel_rfl) (fun _ _ _ h => h) (Or.inr ⟨by rfl, rfl⟩) hHeld ?_
      simp only [List.setIfInBounds_toArray, List.set_cons_zero, List.set_cons_succ]
      refine wpAnyInH_takeAt (fun _ => trivial) (calm_of (by kernel_rfl)) (i := 10) (d := 23) (v := undef) rfl rfl (by kernel_rfl) (by kernel_rfl) (by kernel_rfl) (fun _ _ _ h => h) (Or.inr ⟨by rfl, rfl⟩) hHeld ?_
      simp only [List.setIfInBounds_toArray, List.set_cons_zero, List.set_cons_succ]
      refine wpAnyInH_takeAt (fun _ => trivial) (calm_of (by kernel_rfl)) (i := 11) (d := 24) (v := undef) rfl rfl (by kernel_rfl) (by kernel_rfl) (by kernel_rfl) (fun _ _ _ h => h) (Or.inr ⟨by rfl, rfl⟩) hHeld ?_
      simp only [List.setIfInBounds_toArray, List.set_cons_zero, List.set_cons_succ]
      refine wpAnyInH_takeAt (fun _ => trivial) (calm_of (by kernel_rfl)) (i := 12) (d := 25) (v := undef) rfl rfl (by kernel_rfl) (by kernel_rfl) (by kernel_rfl) (fun _ _ _ h => h) (Or.inr ⟨by rfl, rfl⟩) hHeld ?_
      simp only [List.setIfInBounds_toArray, List.set_cons_zero, List.set_cons_succ]
      refine wpAnyInH_takeAt (fun _ => trivial) (calm_of (by kernel_rfl)) (i := 13) (d := 26) (v := undef) rfl rfl (by kernel_rfl) (by kernel_rfl) (by kernel_rfl) (fun _ _ _ h => h) (Or.inr ⟨by rfl, rfl⟩) hHeld ?_
      simp only [List.setIfInBounds_toArray, List.set_cons_zero, List.set_cons_succ]
      refine wpAnyInH_takeAt (fun _ => trivial) (calm_of (by kernel_rfl)) (i := 14) (d := 27) (v := undef) rfl rfl (by kernel_rfl) (by kernel_rfl) (by kernel_rfl) (fun _ _ _ h => h) (Or.inr ⟨by rfl, rfl⟩) hHeld ?_
      simp only [List.setIfInBounds_toArray, List.set_cons_zero, List.set_cons_succ]
      refine wpAnyInH_takeAt (fun _ => trivial) (calm_of (by kernel_rfl)) (i := 15) (d := 28) (v := undef) rfl rfl (by kernel_rfl) (by kernel_rfl) (by kernel_rfl) (fun _ _ _ h => h) (Or.inr ⟨by rfl, rfl⟩) hHeld ?_
      simp only [List.setIfInBounds_toArray, List.set_cons_zero, List.set_cons_succ]
      refine wpAnyInH_takeAt (fun _ => trivial) (calm_of (by kernel_rfl)) (i := 16) (d := 29) (v := ?vq7x) rfl rfl (by kernel_rfl) (by kernel_rfl) (by kernel_rfl) (fun _ _ _ h => h) (Or.inl ⟨by rfl, ?hyq7x⟩) hHeld ?_
      case hyq7x =>
        intro W hSw
        clear hSw
        (go_simp; try with_reducible rfl)
      simp only [List.setIfInBounds_toArray, List.set_cons_zero, List.set_cons_succ]
      refine wpAnyInH_done (by kernel_rfl) ?_ _
      gi_wp2
      refine bodyPost_ret (results_none rfl _ _ _) rfl ?_
      exact ⟨⟨_, rfl⟩, .inl hJ2⟩
    case pos =>
      obtain ⟨e', he', ho⟩ := HSN.out.yes k hkN
      rw [HQ.out, he] at he'
      injection he' with he'
      subst he'
      have HE := Lib.hid (encS_at he HQ.out)
      clear he
      gi_wp2_with fail
      refine wpIn_region_np ?_
      refine wpIn_region_held (S := KeepZ Z wr) (by kernel_rfl) (KeepZ.refl Z wr).drew (fun hHeld => ?_)
      refine wpAnyInH_takeAt (fun _ => trivial) (calm_of (by kernel_rfl)) (i := 0) (d := 13) (v := ?vq8x) rfl rfl (by kernel_rfl) (by kernel_rfl) (by kernel_rfl) (fun _ _ _ h => h) (Or.inl ⟨by rfl, ?hyq8x⟩) hHeld ?_
      case hyq8x =>
        intro W hSw
        have qc := (HTY.out W hSw).1; clear hSw
        (go_simp; try with_reducible rfl)
      simp only [List.setIfInBounds_toArray, List.set_cons_zero, List.set_cons_succ]
      refine wpAnyInH_takeAt (fun _ => trivial) (calm_of (by kernel_rfl)) (i := 1) (d := 14) (v := ?vq9x) rfl rfl (by kernel_rfl) (by kernel_rfl) (by kernel_rfl) (fun _ _ _ h => h) (Or.inl ⟨by rfl, ?hyq9x⟩) hHeld ?_
      case hyq9x =>
        intro W hSw
        have qc := (HTY.out W hSw).2.2; clear hSw
        (go_simp; try with_reducible rfl)
      simp only [List.setIfInBounds_toArray, List.set_cons_zero, List.set_cons_succ]
      refine wpAnyInH_takeAt (fun _ => trivial) (calm_of (by kernel_rfl)) (i := 2) (d := 15) (v := ?vq10x) rfl rfl (by kernel_rfl) (by kernel_rfl) (by kernel_rfl) (fun _ _ _ h => h) (Or.inl ⟨by rfl, ?hyq10x⟩) hHeld ?_
      case hyq10x =>
        intro W hSw
        clear hSw
        (go_simp; try with_reducible rfl)
      simp only [List.setIfInBounds_toArray, List.set_cons_zero, List.set_cons_succ]
      refine wpAnyInH_takeAt (fun _ => trivial) (calm_of (by kernel_rfl)) (i := 3) (d := 16) (v := ?vq11x) rfl rfl (by kernel_rfl) (by kernel_rfl) (by kernel_rfl) (fun _ _ _ h => h) (Or.inl ⟨by rfl, ?hyq11x⟩) hHeld ?_
      case hyq11x =>
        intro W hSw
        clear hSw
        (go_simp; try with_reducible rfl)
      simp only [List.setIfInBounds_toArray, List.set_cons_zero, List.set_cons_succ]
      refine wpAnyInH_takeAt (fun _ => trivial) (calm_of (by kernel_rfl)) (i := 4) (d := 17) (v := ?vq12x) rfl rfl (by kernel_rfl) (by kernel_rfl) (by kernel_rfl) (fun _ _ _ h => h) (Or.inl ⟨by rfl, ?hyq12x⟩) hHeld ?_
      case hyq12x =>
        intro W hSw
        obtain ⟨s0, s1, s2, s3, s4, s5⟩ := HEN.out W hSw; clear hSw
        (go_simp; try with_reducible rfl)
      simp only [List.setIfInBounds_toArray, List.set_cons_zero, List.set_cons_succ]
      refine wpAnyInH_takeAt (fun _ => trivial) (calm_of (by kernel_rfl)) (i := 5) (d := 18) (v := ?vq13x) rfl rfl (by kernel_rfl) (by kernel_rfl) (by kernel_rfl) (fun _ _ _ h => h) (Or.inl ⟨by rfl, ?hyq13x⟩) hHeld ?_
      case hyq13x =>
        intro W hSw
        have qc := (HTY.out W hSw).2.1; clear hSw
        (go_simp; try with_reducible rfl)
      simp only [List.setIfInBounds_toArray, List.set_cons_zero, List.set_cons_succ]
      refine wpAnyInH_ready (rs := [6]) (by kernel_rfl) (by simp) (AllReadyInH.cons rfl (fun K hK => ?_) AllReadyInH.nil)
      go_simp
      refine ⟨by intros; trivial, (callsIn_wide.2 (HOPE.out wr.drew (KeepZ.refl Z wr).drew)).mono ?_⟩
      rintro r w2 ⟨rfl, hb2⟩
      rw [ho]
      dsimp only
      have hk2 : KeepZ Z wr w2 := (KeepZ.refl Z wr).drew.trans (KeepZ.of_below hb2 (fun x hx => Nat.lt_of_lt_of_le (HZL.out x hx) HK.out.1))
      have hJ2 : J k w2 := HJ.out k _ _ HJS.out (Turn.of_below ((Below.refl wr.heap.size wr).drew.trans hb2) No)
      refine hK.out _ _ hk2 (fun hHeld => ?_)
      clear hK K
      try simp only [List.setIfInBounds_toArray, List.set_cons_zero, List.set_cons_succ]
      refine wpAnyInH_takeAt (fun _ => trivial) (calm_of (by kernel_rfl)) (i := 7) (d := 20) (v := ?vq14x) rfl rfl (by kernel_rfl) (by kernel_rfl) (by kernel_rfl) (fun _ _ _ h => h) (Or.inl ⟨by rfl, ?hyq14x⟩) hHeld ?_
      case hyq14x =>
        intro W hSw
        clear hSw
        (go_simp; try with_reducible rfl)
      simp only [List.setIfInBounds_toArray, List.set_cons_zero, List.set_cons_succ]
      refine wpAnyInH_takeAt (fun _ => trivial) (calm_of (by kernel_rfl)) (i := 8) (d := 21) (v := ?vq15x) rfl rfl (by kernel_rfl) (by kernel_rfl) (by kernel_rfl) (fun _ _ _ h => h) (Or.inl ⟨by rfl, ?hyq15x⟩) hHeld ?_
      case hyq15x =>
        intro W hSw
        clear hSw
        (go_simp; try with_reducible rfl)
      simp only [List.setIfInBounds_toArray, List.set_cons_zero, List.set_cons_succ]
      refine wpAnyInH_takeAt (fun _ => trivial) (calm_of (by kernel_rfl)) (i := 9) (d := 22) (v := ?vq16x) rfl rfl (by kernel_rfl) (by kernel_rfl) (by kernel_rfl) (fun _ _ _ h => h) (Or.inl ⟨by rfl, ?hyq16x⟩) hHeld ?_
      case hyq16x =>
        intro W hSw
        clear hSw
        (go_simp; try with_reducible rfl)
      simp only [List.setIfInBounds_toArray, List.set_cons_zero, List.set_cons_succ]
      refine wpAnyInH_takeAt (fun _ => trivial) (calm_of (by kernel_rfl)) (i := 10) (d := 23) (v := ?vq17x) rfl rfl (by kernel_rfl) (by kernel_rfl) (by kernel_rfl) (fun _ _ _ h => h) (Or.inl ⟨by rfl, ?hyq17x⟩) hHeld ?_
      case hyq17x =>
        intro W hSw
        have qc := (HTY.out W hSw).2.2; clear hSw
        (go_simp; try with_reducible rfl)
      simp only [List.setIfInBounds_toArray, List.set_cons_zero, List.set_cons_succ]
      refine wpAnyInH_takeAt (fun _ => trivial) (calm_of (by kernel_rfl)) (i := 11) (d := 24) (v := ?vq18x) rfl rfl (by kernel_rfl) (by kernel_rfl) (by kernel_rfl) (fun _ _ _ h => h) (Or.inl ⟨by rfl, ?hyq18x⟩) hHeld ?_
      case hyq18x =>
        intro W hSw
        clear hSw
        (go_simp; try with_reducible rfl)
      simp only [List.setIfInBounds_toArray, List.set_cons_zero, List.set_cons_succ]
      refine wpAnyInH_takeAt (fun _ => trivial) (calm_of (by kernel_rfl)) (i := 12) (d := 25) (v := ?vq19x) rfl rfl (by kernel_rfl) (by kernel_rfl) (by kernel_rfl) (fun _ _ _ h => h) (Or.inl ⟨by rfl, ?hyq19x⟩) hHeld ?_
      case hyq19x =>
        intro W hSw
        clear hSw
        (go_simp; try with_reducible rfl)
      simp only [List.setIfInBounds_toArray, List.set_cons_zero, List.set_cons_succ]
      refine wpAnyInH_takeAt (fun _ => trivial) (calm_of (by kernel_rfl)) (i := 13) (d := 26) (v := ?vq20x) rfl rfl (by kernel_rfl) (by kernel_rfl) (by kernel_rfl) (fun _ _ _ h => h) (Or.inl ⟨by rfl, ?hyq20x⟩) hHeld ?_
      case hyq20x =>
        intro W hSw
        obtain ⟨s0, s1, s2, s3, s4, s5⟩ := HEN.out W hSw; clear hSw
        (go_simp; try with_reducible rfl)
      simp only [List.setIfInBounds_toArray, List.set_cons_zero, List.set_cons_succ]
      refine wpAnyInH_ready (rs := [14]) (by kernel_rfl) (by simp) (AllReadyInH.cons rfl (fun K hK => ?_) AllReadyInH.nil)
      obtain ⟨fn, tmps, assign, body, hy, hR⟩ := HY.out _ _ hJ2 hkN
      rw [HE.out] at hy
      go_simp
      refine (round_wide hR).mono ?_
      rintro r W' (⟨rfl, hJ', hk'⟩ | ⟨rfl, hJ', hk'⟩)
      · refine hK.out _ _ (hk2.trans hk') (fun hHeld => ?_)
        clear hK K hy hR
        try simp only [List.setIfInBounds_toArray, List.set_cons_zero, List.set_cons_succ]
        refine wpAnyInH_takeAt (fun _ => trivial) (calm_of (by kernel_rfl)) (i := 15) (d := 28) (v := ?vq23x) rfl rfl (by kernel_rfl) (by kernel_rfl) (by kernel_rfl) (fun _ _ _ h => h) (Or.inl ⟨by rfl, ?hyq23x⟩) hHeld ?_
        case hyq23x =>
          intro W hSw
          clear hSw
          (go_simp; try with_reducible rfl)
        simp only [List.setIfInBounds_toArray, List.set_cons_zero, List.set_cons_succ]
        refine wpAnyInH_takeAt (fun _ => trivial) (calm_of (by kernel_rfl)) (i := 16) (d := 29) (v := ?vq24x) rfl rfl (by kernel_rfl) (by kernel_rfl) (by kernel_rfl) (fun _ _ _ h => h) (Or.inl ⟨by rfl, ?hyq24x⟩) hHeld ?_
        case hyq24x =>
          intro W hSw
          clear hSw
          (go_simp; try with_reducible rfl)
        simp only [List.setIfInBounds_toArray, List.set_cons_zero, List.set_cons_succ]
        refine wpAnyInH_done (by kernel_rfl) ?_ _
        have hk3 := HK.out.trans (hk2.trans hk')
        gi_wp2
        go_roundw
        case rel => exact ⟨q + 1, by omega, by have := HQ.out; omega, by go_num, by rw [show q + 1 - fr = k + 1 by have := HQ.out; omega]; exact hJ', hk3⟩
        case measure => simp [iOf]; omega
      · refine hK.out _ _ (hk2.trans hk') (fun hHeld => ?_)
        clear hK K hy hR
        try simp only [List.setIfInBounds_toArray, List.set_cons_zero, List.set_cons_succ]
        refine wpAnyInH_takeAt (fun _ => trivial) (calm_of (by kernel_rfl)) (i := 15) (d := 28) (v := ?vq25x) rfl rfl (by kernel_rfl) (by kernel_rfl) (by kernel_rfl) (fun _ _ _ h => h) (Or.inl ⟨by rfl, ?hyq25x⟩) hHeld ?_
        case hyq25x =>
          intro W hSw
          clear hSw
          (go_simp; try with_reducible rfl)
        simp only [List.setIfInBounds_toArray, List.set_cons_zero, List.set_cons_succ]
        refine wpAnyInH_takeAt (fun _ => trivial) (calm_of (by kernel_rfl)) (i := 16) (d := 29) (v := ?vq26x) rfl rfl (by kernel_rfl) (by kernel_rfl) (by kernel_rfl) (fun _ _ _ h => h) (Or.inl ⟨by rfl, ?hyq26x⟩) hHeld ?_
        case hyq26x =>
          intro W hSw
          clear hSw
          (go_simp; try with_reducible rfl)
        simp only [List.setIfInBounds_toArray, List.set_cons_zero, List.set_cons_succ]
        refine wpAnyInH_done (by kernel_rfl) ?_ _
        gi_wp2
        refine bodyPost_ret (results_none rfl _ _ _) rfl ?_
        exact ⟨⟨_, rfl⟩, .inr ⟨k, hkN, hJ'⟩⟩
end Go.Proofs.YthcphoijanebhaaDoor
