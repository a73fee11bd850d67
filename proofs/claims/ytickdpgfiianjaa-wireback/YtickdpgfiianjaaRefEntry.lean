/-
  What waystationref02.entry answers: the entry that a body is, or that it is none. Conditions: from 1 to 999 bytes.
-/
import Derived.Test.YtickdpgfiianjaaRefTake
import Derived.Test.YtickdpgfiianjaaRefRight
namespace Go.Proofs.Ytickdpgfiianjaa
open Go.RowKit
def refTail (kd : Nat) (ep id : Int) (l : List UInt8) (k : Nat) : Option (Ent × Nat) :=
  if id = -1 then (if kd = 1 then dataTk ep id l k else some (⟨ep, id, 0, 0, kd, 0⟩, k)) else (if kd = 1 then dataTk ep id l k else markTk kd ep id l k)
def refId (l : List UInt8) (kd : Nat) (ep : Int) (k : Nat) : Option Ent :=
  match l[k]? with
  | none => none
  | some i => endTk l (refTail kd ep ((i.toNat : Int) - 1) l (k + 1))
def refAfter (l : List UInt8) (kd : Nat) : Tk → Option Ent
  | .num ep j => refId l kd ep (1 + j)
  | _ => none
theorem endTk_not {l : List UInt8} {o : Option (Ent × Nat)} (h : ∀ e k, o = some (e, k) → ¬ Right e) : endTk l o = none := by
  rcases o with _ | ⟨e, k⟩
  · rfl
  · show (if k = l.length ∧ Right e then some e else none) = none
    rw [if_neg (fun hh => h e k rfl hh.2)]
theorem mark_kind {kd ep id : Int} {l : List UInt8} {k : Nat} {e : Ent} {k' : Nat} (h : markTk kd ep id l k = some (e, k')) : e.kind = kd ∧ e.id = id := by
  unfold markTk at h
  rcases ht : tk (l.drop k) with _ | _ | ⟨m, j⟩
  · rw [ht] at h; cases h
  · rw [ht] at h; cases h
  · rw [ht] at h
    simp only [Option.some.injEq, Prod.mk.injEq] at h
    obtain ⟨rfl, _⟩ := h
    exact ⟨rfl, rfl⟩
theorem refAfter_eq (kd : UInt8) (b : List UInt8) : refAfter (kd :: b) kd.toNat (tk ((kd :: b).drop 1)) = entryOf (kd :: b) := by
  generalize hl : kd :: b = l
  by_cases h : kd.toNat < 1 ∨ 3 < kd.toNat
  · have he : entryOf l = none := by rw [← hl, entryOf_cons, if_pos h]
    rw [he]
    rcases tk (l.drop 1) with _ | _ | ⟨ep, j⟩
    · rfl
    · rfl
    · show refId l kd.toNat ep (1 + j) = none
      unfold refId
      rcases l[1 + j]? with _ | i
      · rfl
      · show endTk l (refTail _ _ _ _ _) = none
        apply endTk_not
        intro e k' h'
        unfold refTail at h'
        have h1 : ¬ kd.toNat = 1 := by omega
        rw [if_neg h1, if_neg h1] at h'
        split at h'
        · simp only [Option.some.injEq, Prod.mk.injEq] at h'
          obtain ⟨rfl, _⟩ := h'
          exact right_none (by show (kd.toNat : Int) ≤ 0 ∨ 4 ≤ (kd.toNat : Int); omega)
        · have := (mark_kind h').1
          exact right_none (by rw [this]; omega)
  · have he := entryOf_kind kd b h
    rw [hl] at he
    rw [he]
    rcases tk (l.drop 1) with _ | _ | ⟨ep, j⟩
    · rfl
    · rfl
    · show refId l kd.toNat ep (1 + j) = entryId l kd.toNat ep (1 + j)
      unfold refId entryId
      rcases l[1 + j]? with _ | i
      · rfl
      · simp only
        unfold refTail
        by_cases h1 : kd.toNat = 1
        · rw [if_pos h1, if_pos h1, if_pos h1]
          split <;> rfl
        · rw [if_neg h1, if_neg h1, if_neg h1]
          split
          case isFalse => rfl
          case isTrue hid =>
            rw [endTk_not, endTk_not]
            · intro e k' h' hR
              have := (mark_kind h').2
              rw [hid] at this
              have h3 := (mark_kind h').1
              unfold Right at hR
              omega
            · intro e k' h' hR
              simp only [Option.some.injEq, Prod.mk.injEq] at h'
              obtain ⟨rfl, _⟩ := h'
              unfold Right at hR
              simp only at hR
              omega
/-- What is known behind waystationref02.entry. -/
def RefEntry (w : World) (o : Option Ent) (r : Ending) (w' : World) : Prop :=
  Below w.heap.size w w' ∧ match o with
  | some e => r = .returned (.tuple #[e.val, .bool true])
  | none => ∃ x : Ent, r = .returned (.tuple #[x.val, .bool false])
theorem slice_from (ad : Addr) (n c i : Nat) (x : Int) (hx : x = (i : Int)) (hi : i ≤ n) (W : World) : (Instr.slice 22 (.slice (some ad) n c) (some (.int .i64 x)) none none).run Try.prog W = .ok (.slice (if c = i then some ad else some (ad.add i)) (n - i) (c - i)) W := by
  subst hx
  obtain ⟨k, hk, hz0, hz1, hz2⟩ := info_parts info5
  simp [Instr.slice, run_underlying Try.underlying22, Instr.sliceBounds, Instr.sliceBound, asIntOf, hi, sizeOf, typeInfo, hk]
  rw [hz1, Nat.mul_one]
theorem slice_rest (ad : Addr) (n c i : Nat) (x : Int) (hx : x = (i : Int)) (hi : i ≤ n) (hc : n ≤ c) : ∃ A1, (∀ W, (Instr.slice 22 (.slice (some ad) n c) (some (.int .i64 x)) none none).run Try.prog W = .ok (.slice A1 (n - i) (c - i)) W) ∧ ∀ (W : World) (B : Nat) (l : List UInt8), Bys W B (some ad) n l → Bys W B A1 (n - i) (l.drop i) := by
  refine ⟨_, slice_from ad n c i x hx hi, fun W B l h => ?_⟩
  have := h.cut (k := i) (cap := c) hi hc
  simpa using this
theorem ent_low {w : World} (o p : Obj) : Below w.heap.size w ((w.alloc o).alloc p) := ((Below.refl _ _).alloc (Nat.le_refl _) _).alloc (le_alloc (Nat.le_refl _) _) _
theorem two_bys {w : World} {A : Option Addr} {n : Nat} {l : List UInt8} (hr : Bys w w.heap.size A n l) (o p : Obj) : Bys ((w.alloc o).alloc p) w.heap.size A n l := hr.below (ent_low o p)
set_option maxRecDepth 100000 in
set_option maxHeartbeats 8000000 in
theorem refEntry_any (A : Option Addr) (n c : Nat) (l : List UInt8) (w : World) (hr : Bys w w.heap.size A n l) (h0 : 0 < n) (hc : n ≤ c) (hn : n < 1000) :
    Calls Try.prog 51 #[.slice A n c] w (RefEntry w (entryOf l)) := by
  obtain ⟨ad, kd, rfl, hb, hu, hcell⟩ := hr.at_ (k := 0) h0
  have hcell1 : w.cell? ad = some (.int .u8 (kd.toNat : Int)) := by simpa [Addr.add] using hcell
  have hkd := UInt8.toNat_lt kd
  have HLB : Hid (entryOf l = refAfter l kd.toNat (tk (l.drop 1))) := Lib.hid (by
    rcases l with _ | ⟨x, b⟩
    · cases hu
    · simp at hu; subst hu; exact (refAfter_eq x b).symm)
  have HL := Lib.hid hr.1
  obtain ⟨A1, hs1, hy1⟩ := slice_rest ad n c 1 1 rfl (by omega) hc
  have HY1 := Lib.hid hy1
  have hcz : (w.alloc (.cells #[.int .i64 0, .int .i64 0, .int .i64 0, .int .i64 0, .int .i64 0, .int .i64 0] 38)).cell? ad = some (.int .u8 (kd.toNat : Int)) := (World.cell?_alloc_lt w _ ad hb).trans hcell1
  have HR := Lib.hid hr
  clear hcell hu hcell1 hy1 hr
  go_enter Try.func51, Try.ntmps51
  go_wp2_with fail
  clear hs1 hcz
  refine (refTake_any A1 (n - 1) (c - 1) w.heap.size (l.drop 1) _ (HY1.out _ _ _ (two_bys HR.out _ _)) (by omega)).mono ?_
  rintro r w1 ⟨rfl, rfl⟩
  rcases ht1 : tk (l.drop 1) with _ | _ | ⟨ep, j⟩
  · skip
    have HE : Hid (entryOf l = none) := Lib.hid (by rw [HLB.out, ht1]; rfl)
    simp only [tkNum, tkLen, tkErr]
    go_wp2_with fail
    refine bodyPost_ret (v := .tuple #[Ent.val ⟨0, 0, 0, 0, (kd.toNat : Int), 0⟩, .bool false]) ?_ rfl ⟨ent_low _ _, by rw [HE.out]; exact ⟨⟨0, 0, 0, 0, (kd.toNat : Int), 0⟩, rfl⟩⟩
    simp [results, Try.results51, go_sem, Ent.val, Ent.cells]
  · skip
    have HE : Hid (entryOf l = none) := Lib.hid (by rw [HLB.out, ht1]; rfl)
    simp only [tkNum, tkLen, tkErr]
    go_wp2_with fail
    refine bodyPost_ret (v := .tuple #[Ent.val ⟨0, 0, 0, 0, (kd.toNat : Int), 0⟩, .bool false]) ?_ rfl ⟨ent_low _ _, by rw [HE.out]; exact ⟨⟨0, 0, 0, 0, (kd.toNat : Int), 0⟩, rfl⟩⟩
    simp [results, Try.results51, go_sem, Ent.val, Ent.cells]
  · have hj := tk_drop ht1
    rw [HL.out] at hj
    have HA : Hid (entryOf l = refId l kd.toNat ep (1 + j)) := Lib.hid (by rw [HLB.out, ht1]; rfl)
    clear ht1
    by_cases hge : 1 + j < n
    case neg =>
      have HE0 : Hid (entryOf l = none) := Lib.hid (by rw [HA.out]; unfold refId; rw [List.getElem?_eq_none (by rw [HL.out]; omega)])
      have HE : Hid (entryOf l = none) := Lib.hid (HE0.out)
      simp only [tkNum, tkLen, tkErr]
      go_wp2_with fail
      refine bodyPost_ret (v := .tuple #[Ent.val ⟨0, 0, 0, 0, (kd.toNat : Int), 0⟩, .bool false]) ?_ rfl ⟨ent_low _ _, by rw [HE.out]; exact ⟨⟨0, 0, 0, 0, (kd.toNat : Int), 0⟩, rfl⟩⟩
      simp [results, Try.results51, go_sem, Ent.val, Ent.cells]
    obtain ⟨ad', i, e', hb', hu2, hcell2⟩ := HR.out.at_ (k := 1 + j) hge
    injection e' with e'
    subst e'
    have hil := UInt8.toNat_lt i
    have HA2 : Hid (entryOf l = endTk l (refTail kd.toNat ep ((i.toNat : Int) - 1) l (1 + j + 1))) := Lib.hid (by rw [HA.out]; unfold refId; rw [hu2])
    have hcz : ∀ o p : Obj, ((w.alloc o).alloc p).cell? ⟨ad.block, ad.off + (j + 1), none⟩ = some (.int .u8 (i.toNat : Int)) := fun o p => by
      rw [show (⟨ad.block, ad.off + (j + 1), none⟩ : Addr) = ad.add (j + 1) from by simp [Addr.add]]
      have hlt : (ad.add (j + 1)).block < w.heap.size := by rw [block_of_add]; exact hb'
      rw [World.cell?_alloc_lt _ _ _ (Nat.lt_of_lt_of_le hlt (le_alloc (Nat.le_refl _) _)), World.cell?_alloc_lt _ _ _ hlt, Nat.add_comm j 1]
      exact hcell2
    clear hu2 hcell2
    by_cases hid : 1 ≤ i.toNat
    · have hid1 : (0 : Int) ≤ (i.toNat : Int) - 1 := by omega
      have hne : ¬ ((i.toNat : Int) - 1 = -1) := by omega
      have HNE := Lib.hid hne
      clear hne
      by_cases hk1 : kd.toNat = 1
      · have b1 : ((kd.toNat : Int) == 1) = true := by rw [hk1]; rfl
        have HK1 := Lib.hid hk1
        clear hk1
        obtain ⟨Ab, hsb, hyb⟩ := slice_rest ad n c (1 + j + 1) ((j : Int) + 1 + 1) (by omega) (by omega) hc
        have HYb := Lib.hid hyb
        clear hyb
        simp only [tkNum, tkLen, tkErr]
        go_wp2_with fail
        clear hsb hcz
        refine (refTake_any Ab (n - (1 + j + 1)) (c - (1 + j + 1)) w.heap.size (l.drop (1 + j + 1)) _ (HYb.out _ _ _ (two_bys HR.out _ _)) (by omega)).mono ?_
        rintro r w1 ⟨rfl, rfl⟩
        rcases htb : tk (l.drop (1 + j + 1)) with _ | _ | ⟨mb, kb⟩
        · skip
          have HE : Hid (entryOf l = none) := Lib.hid (by rw [HA2.out]; unfold refTail; rw [if_neg HNE.out, if_pos HK1.out]; unfold dataTk; rw [if_neg HNE.out, htb]; rfl)
          simp only [tkNum, tkLen, tkErr]
          go_wp2_with fail
          refine bodyPost_ret (v := .tuple #[Ent.val ⟨ep, ((i.toNat : Int) - 1), 0, 0, (kd.toNat : Int), 0⟩, .bool false]) ?_ rfl ⟨ent_low _ _, by rw [HE.out]; exact ⟨⟨ep, ((i.toNat : Int) - 1), 0, 0, (kd.toNat : Int), 0⟩, rfl⟩⟩
          simp [results, Try.results51, go_sem, Ent.val, Ent.cells]
        · skip
          have HE : Hid (entryOf l = none) := Lib.hid (by rw [HA2.out]; unfold refTail; rw [if_neg HNE.out, if_pos HK1.out]; unfold dataTk; rw [if_neg HNE.out, htb]; rfl)
          simp only [tkNum, tkLen, tkErr]
          go_wp2_with fail
          refine bodyPost_ret (v := .tuple #[Ent.val ⟨ep, ((i.toNat : Int) - 1), 0, 0, (kd.toNat : Int), 0⟩, .bool false]) ?_ rfl ⟨ent_low _ _, by rw [HE.out]; exact ⟨⟨ep, ((i.toNat : Int) - 1), 0, 0, (kd.toNat : Int), 0⟩, rfl⟩⟩
          simp [results, Try.results51, go_sem, Ent.val, Ent.cells]
        · have hkb := tk_drop htb
          rw [HL.out] at hkb
          have HTb := Lib.hid htb
          clear htb
          simp only [tkNum, tkLen, tkErr]
          obtain ⟨Ad, hsd, hyd⟩ := slice_rest ad n c (1 + j + 1 + kb) ((j : Int) + 1 + 1 + (kb : Int)) (by omega) (by omega) hc
          have HYd := Lib.hid hyd
          clear hyd
          go_wp2_with fail
          clear hsd
          refine (refTake_any Ad (n - (1 + j + 1 + kb)) (c - (1 + j + 1 + kb)) w.heap.size (l.drop (1 + j + 1 + kb)) _ (HYd.out _ _ _ (two_bys HR.out _ _)) (by omega)).mono ?_
          rintro r w1 ⟨rfl, rfl⟩
          rcases htd : tk (l.drop (1 + j + 1 + kb)) with _ | _ | ⟨md, kd2⟩
          · skip
            have HE : Hid (entryOf l = none) := Lib.hid (by rw [HA2.out]; unfold refTail; rw [if_neg HNE.out, if_pos HK1.out]; unfold dataTk; rw [if_neg HNE.out, HTb.out]; simp only; rw [htd]; rfl)
            simp only [tkNum, tkLen, tkErr]
            go_wp2_with fail
            refine bodyPost_ret (v := .tuple #[Ent.val ⟨ep, ((i.toNat : Int) - 1), mb, 0, (kd.toNat : Int), 0⟩, .bool false]) ?_ rfl ⟨ent_low _ _, by rw [HE.out]; exact ⟨⟨ep, ((i.toNat : Int) - 1), mb, 0, (kd.toNat : Int), 0⟩, rfl⟩⟩
            simp [results, Try.results51, go_sem, Ent.val, Ent.cells]
          · skip
            have HE : Hid (entryOf l = none) := Lib.hid (by rw [HA2.out]; unfold refTail; rw [if_neg HNE.out, if_pos HK1.out]; unfold dataTk; rw [if_neg HNE.out, HTb.out]; simp only; rw [htd]; rfl)
            simp only [tkNum, tkLen, tkErr]
            go_wp2_with fail
            refine bodyPost_ret (v := .tuple #[Ent.val ⟨ep, ((i.toNat : Int) - 1), mb, 0, (kd.toNat : Int), 0⟩, .bool false]) ?_ rfl ⟨ent_low _ _, by rw [HE.out]; exact ⟨⟨ep, ((i.toNat : Int) - 1), mb, 0, (kd.toNat : Int), 0⟩, rfl⟩⟩
            simp [results, Try.results51, go_sem, Ent.val, Ent.cells]
          · have hkd2 := tk_drop htd
            rw [HL.out] at hkd2
            have HTd := Lib.hid htd
            clear htd
            simp only [tkNum, tkLen, tkErr]
            obtain ⟨Af, hsf, hyf⟩ := slice_rest ad n c (1 + j + 1 + kb + kd2) ((j : Int) + 1 + 1 + (kb : Int) + (kd2 : Int)) (by omega) (by omega) hc
            have HYf := Lib.hid hyf
            clear hyf
            go_wp2_with fail
            clear hsf
            refine (refTakeSigned_any Af (n - (1 + j + 1 + kb + kd2)) (c - (1 + j + 1 + kb + kd2)) w.heap.size (l.drop (1 + j + 1 + kb + kd2)) _ (HYf.out _ _ _ (two_bys HR.out _ _)) (by omega)).mono ?_
            rintro r w1 ⟨rfl, rfl⟩
            rcases htf : tk (l.drop (1 + j + 1 + kb + kd2)) with _ | _ | ⟨mf2, kf⟩
            · skip
              have HE : Hid (entryOf l = none) := Lib.hid (by rw [HA2.out]; unfold refTail; rw [if_neg HNE.out, if_pos HK1.out]; unfold dataTk; rw [if_neg HNE.out, HTb.out]; simp only; rw [HTd.out]; simp only; rw [htf]; rfl)
              simp only [tksNum, tkLen, tkErr]
              go_wp2_with fail
              refine bodyPost_ret (v := .tuple #[Ent.val ⟨ep, ((i.toNat : Int) - 1), mb, md, (kd.toNat : Int), 0⟩, .bool false]) ?_ rfl ⟨ent_low _ _, by rw [HE.out]; exact ⟨⟨ep, ((i.toNat : Int) - 1), mb, md, (kd.toNat : Int), 0⟩, rfl⟩⟩
              simp [results, Try.results51, go_sem, Ent.val, Ent.cells]
            · skip
              have HE : Hid (entryOf l = none) := Lib.hid (by rw [HA2.out]; unfold refTail; rw [if_neg HNE.out, if_pos HK1.out]; unfold dataTk; rw [if_neg HNE.out, HTb.out]; simp only; rw [HTd.out]; simp only; rw [htf]; rfl)
              simp only [tksNum, tkLen, tkErr]
              go_wp2_with fail
              refine bodyPost_ret (v := .tuple #[Ent.val ⟨ep, ((i.toNat : Int) - 1), mb, md, (kd.toNat : Int), 0⟩, .bool false]) ?_ rfl ⟨ent_low _ _, by rw [HE.out]; exact ⟨⟨ep, ((i.toNat : Int) - 1), mb, md, (kd.toNat : Int), 0⟩, rfl⟩⟩
              simp [results, Try.results51, go_sem, Ent.val, Ent.cells]
            · have hkf := tk_drop htf
              rw [HL.out] at hkf
              have HTf := Lib.hid htf
              clear htf
              simp only [tksNum, tkLen, tkErr]
              have HT : Hid (refTail kd.toNat ep ((i.toNat : Int) - 1) l (1 + j + 1) = some (⟨ep, ((i.toNat : Int) - 1), mb, md, (kd.toNat : Int), unf mf2⟩, 1 + j + 1 + kb + kd2 + kf)) := Lib.hid (by unfold refTail; rw [if_neg HNE.out, if_pos HK1.out]; unfold dataTk; rw [if_neg HNE.out, HTb.out]; simp only; rw [HTd.out]; simp only; rw [HTf.out, HK1.out]; rfl)
              go_wp2_with fail
              have HQ : Hid (entryOf l = if (1 + j + 1 + kb + kd2 + kf) = n ∧ Right ⟨ep, ((i.toNat : Int) - 1), mb, md, (kd.toNat : Int), unf mf2⟩ then some ⟨ep, ((i.toNat : Int) - 1), mb, md, (kd.toNat : Int), unf mf2⟩ else none) := Lib.hid (by
                rw [HA2.out, HT.out]
                show (if (1 + j + 1 + kb + kd2 + kf) = l.length ∧ Right _ then _ else _) = _
                rw [HL.out])
              generalize hW0 : (w.alloc _).alloc _ = w1
              have hg1 : Blk w1 (w.heap.size + 1) 38 (Ent.cells ⟨ep, ((i.toNat : Int) - 1), mb, md, (kd.toNat : Int), unf mf2⟩) := by rw [← hW0]; exact blk_new _ 38 _ (by simp)
              have hz1 : Blk w1 w.heap.size 38 Ent.none_.cells := by rw [← hW0]; exact (Blk.new w 38 _).alloc _
              have hl1 : Below w.heap.size w w1 := by rw [← hW0]; exact ent_low _ _
              clear hW0
              obtain ⟨X, hX⟩ : ∃ X : Ent, X = ⟨ep, ((i.toNat : Int) - 1), mb, md, (kd.toNat : Int), unf mf2⟩ := ⟨_, rfl⟩
              rw [← hX] at hg1 HQ
              clear hX
              have hg2 := hg1.drew
              have hz2 := hz1.drew
              have hl2 := hl1.drew
              clear hg1 hz1 hl1
              refine wp_region_np ?_
              refine wp_region_held_drew (S := fun W => Blk W (w.heap.size + 1) 38 X.cells ∧ ∃ y : Ent, Blk W w.heap.size 38 y.cells) (by kernel_rfl) ⟨hg2, _, hz2⟩ (fun hHeld => ?_)
              generalize w1.drew = w2 at *
              clear hz2
              refine wpAnyH_takeAt (i := 0) (d := 114) (v := ?va00) rfl rfl (by kernel_rfl) (by kernel_rfl) (by kernel_rfl) (fun _ _ _ h => h) (Or.inl ⟨by rfl, ?hya00⟩) hHeld ?_
              case hya00 =>
                intro W hSw
                obtain ⟨s0, s1, s2, s3, s4, s5⟩ := hSw.1.six
                (go_simp; try with_reducible rfl)
              simp only [List.setIfInBounds_toArray, List.set_cons_zero, List.set_cons_succ]
              refine wpAnyH_takeAt (i := 1) (d := 115) (v := ?va01) rfl rfl (by kernel_rfl) (by kernel_rfl) (by kernel_rfl) (fun _ _ _ h => h) (Or.inl ⟨by rfl, ?hya01⟩) hHeld ?_
              case hya01 =>
                intro W hSw
                clear hSw
                (go_simp; try with_reducible rfl)
              simp only [List.setIfInBounds_toArray, List.set_cons_zero, List.set_cons_succ]
              refine wpAnyH_takeAt (i := 2) (d := 116) (v := ?va02) rfl rfl (by kernel_rfl) (by kernel_rfl) (by kernel_rfl) (fun _ _ _ h => h) (Or.inl ⟨by rfl, ?hya02⟩) hHeld ?_
              case hya02 =>
                intro W hSw
                clear hSw
                (go_simp; try with_reducible rfl)
              simp only [List.setIfInBounds_toArray, List.set_cons_zero, List.set_cons_succ]
              refine wpAnyH_takeAt (i := 3) (d := 117) (v := ?va03) rfl rfl (by kernel_rfl) (by kernel_rfl) (by kernel_rfl) (fun _ _ _ h => h) (Or.inl ⟨by rfl, ?hya03⟩) hHeld ?_
              case hya03 =>
                intro W hSw
                clear hSw
                (go_simp; try with_reducible rfl)
              simp only [List.setIfInBounds_toArray, List.set_cons_zero, List.set_cons_succ]
              by_cases hat : (1 + j + 1 + kb + kd2 + kf) = n
              · have bat : ((((j : Int) + 1 + 1 + (kb : Int) + (kd2 : Int) + (kf : Int)) : Int) == (n : Int)) = true := by rw [beq_iff_eq]; omega
                refine wpAnyH_takeAt (i := 4) (d := 118) (v := ?vb04) rfl rfl (by kernel_rfl) (by kernel_rfl) (by kernel_rfl) (fun _ _ _ h => h) (Or.inl ⟨by rfl, ?hyb04⟩) hHeld ?_
                case hyb04 =>
                  intro W hSw
                  clear hSw
                  (go_simp; try with_reducible rfl)
                simp only [List.setIfInBounds_toArray, List.set_cons_zero, List.set_cons_succ]
                refine wpAnyH_takeAt (i := 5) (d := 119) (v := ?vb05) rfl rfl (by kernel_rfl) (by kernel_rfl) (by kernel_rfl) (fun _ _ _ h => h) (Or.inl ⟨by rfl, ?hyb05⟩) hHeld ?_
                case hyb05 =>
                  intro W hSw
                  clear hSw
                  (go_simp; try with_reducible rfl)
                simp only [List.setIfInBounds_toArray, List.set_cons_zero, List.set_cons_succ]
                refine wpAnyH_takeAt (i := 6) (d := 120) (v := ?vb06) rfl rfl (by kernel_rfl) (by kernel_rfl) (by kernel_rfl) (fun _ _ _ h => h) (Or.inl ⟨by rfl, ?hyb06⟩) hHeld ?_
                case hyb06 =>
                  intro W hSw
                  obtain ⟨s0, s1, s2, s3, s4, s5⟩ := hSw.1.six
                  (go_simp; try with_reducible rfl)
                simp only [List.setIfInBounds_toArray, List.set_cons_zero, List.set_cons_succ]
                refine wpAnyH_ready (rs := [7]) (by kernel_rfl) (by simp) (AllReadyH.cons rfl (fun K hK => ?_) AllReadyH.nil)
                go_simp
                refine (right_any X w2).mono ?_
                rintro e w9 ⟨rfl, hb9⟩
                have hHeld9 : Blk w9 (w.heap.size + 1) 38 X.cells ∧ ∃ y : Ent, Blk w9 w.heap.size 38 y.cells := ⟨hHeld.1.below hb9 hHeld.1.lt, hHeld.2.choose, hHeld.2.choose_spec.below hb9 hHeld.2.choose_spec.lt⟩
                have hl9 := hl2.trans (hb9.mono hl2.size)
                clear hl2 hHeld hb9 hg2
                dsimp only
                refine hK.out _ _ hHeld9 (fun hHeld => ?_)
                clear hK K hHeld9
                by_cases hRx : Right X
                · rw [decide_eq_true hRx]
                  have HE : Hid (entryOf l = some X) := Lib.hid (by rw [HQ.out, if_pos ⟨hat, hRx⟩])
                  refine wpAnyH_takeAt (i := 8) (d := 122) (v := ?vc08) rfl rfl (by kernel_rfl) (by kernel_rfl) (by kernel_rfl) (fun _ _ _ h => h) (Or.inl ⟨by rfl, ?hyc08⟩) hHeld ?_
                  case hyc08 =>
                    intro W hSw
                    clear hSw
                    (go_simp; try with_reducible rfl)
                  simp only [List.setIfInBounds_toArray, List.set_cons_zero, List.set_cons_succ]
                  refine wpAnyH_ready (rs := [9]) (by kernel_rfl) (by simp) (AllReadyH.cons rfl (fun K hK => ?_) AllReadyH.nil)
                  obtain ⟨hx2, y, hy2⟩ := hHeld
                  obtain ⟨s0, s1, s2, s3, s4, s5⟩ := hy2.six
                  have y0 := hy2.frozen 0
                  have y1 := hy2.frozen 1
                  have y2 := hy2.frozen 2
                  have y3 := hy2.frozen 3
                  have y4 := hy2.frozen 4
                  have y5 := hy2.frozen 5
                  have HS := six_set hy2 X
                  have HF := six_far hx2 (p1 := w.heap.size) (by omega) X
                  have HLW := six_low hl9 (Nat.le_refl _) X
                  go_simp
                  refine hK.out _ _ ⟨HF, X, HS⟩ (fun hHeld => ?_)
                  clear hK K s0 s1 s2 s3 s4 s5 y0 y1 y2 y3 y4 y5 hx2 hy2 HF
                  generalize ((((((w9.setCell ⟨w.heap.size, 0, none⟩ (.int .i64 X.epoch)).setCell ⟨w.heap.size, 1, none⟩ (.int .i64 X.id)).setCell ⟨w.heap.size, 2, none⟩ (.int .i64 X.num)).setCell ⟨w.heap.size, 3, none⟩ (.int .i64 X.seq)).setCell ⟨w.heap.size, 4, none⟩ (.int .i64 X.kind)).setCell ⟨w.heap.size, 5, none⟩ (.int .i64 X.value)) = w3 at *
                  refine wpAnyH_ready (rs := [10]) (by kernel_rfl) (by simp) (AllReadyH.cons rfl (fun K hK => ?_) AllReadyH.nil)
                  go_simp
                  refine hK.out _ _ hHeld (fun hHeld => ?_)
                  clear hK K
                  refine wpAnyH_done (by kernel_rfl) ?_ _
                  obtain ⟨s0, s1, s2, s3, s4, s5⟩ := HS.six
                  clear HS hHeld
                  go_wp2_with fail
                  refine bodyPost_ret (v := .tuple #[X.val, .bool true]) ?_ rfl ⟨HLW, by rw [HE.out]⟩
                  simp [results, Try.results51, go_sem, s0, s1, s2, s3, s4, s5, Ent.val, Ent.cells]
                · rw [decide_eq_false hRx]
                  have HE : Hid (entryOf l = none) := Lib.hid (by rw [HQ.out, if_neg (fun h => hRx h.2)])
                  refine wpAnyH_takeAt (i := 8) (d := 122) (v := ?vd08) rfl rfl (by kernel_rfl) (by kernel_rfl) (by kernel_rfl) (fun _ _ _ h => h) (Or.inl ⟨by rfl, ?hyd08⟩) hHeld ?_
                  case hyd08 =>
                    intro W hSw
                    clear hSw
                    (go_simp; try with_reducible rfl)
                  simp only [List.setIfInBounds_toArray, List.set_cons_zero, List.set_cons_succ]
                  refine wpAnyH_ready (rs := [9]) (by kernel_rfl) (by simp) (AllReadyH.cons rfl (fun K hK => ?_) AllReadyH.nil)
                  obtain ⟨hx2, y, hy2⟩ := hHeld
                  obtain ⟨s0, s1, s2, s3, s4, s5⟩ := hy2.six
                  have y0 := hy2.frozen 0
                  have y1 := hy2.frozen 1
                  have y2 := hy2.frozen 2
                  have y3 := hy2.frozen 3
                  have y4 := hy2.frozen 4
                  have y5 := hy2.frozen 5
                  have HS := six_set hy2 X
                  have HF := six_far hx2 (p1 := w.heap.size) (by omega) X
                  have HLW := six_low hl9 (Nat.le_refl _) X
                  go_simp
                  refine hK.out _ _ ⟨HF, X, HS⟩ (fun hHeld => ?_)
                  clear hK K s0 s1 s2 s3 s4 s5 y0 y1 y2 y3 y4 y5 hx2 hy2 HF
                  generalize ((((((w9.setCell ⟨w.heap.size, 0, none⟩ (.int .i64 X.epoch)).setCell ⟨w.heap.size, 1, none⟩ (.int .i64 X.id)).setCell ⟨w.heap.size, 2, none⟩ (.int .i64 X.num)).setCell ⟨w.heap.size, 3, none⟩ (.int .i64 X.seq)).setCell ⟨w.heap.size, 4, none⟩ (.int .i64 X.kind)).setCell ⟨w.heap.size, 5, none⟩ (.int .i64 X.value)) = w3 at *
                  refine wpAnyH_ready (rs := [10]) (by kernel_rfl) (by simp) (AllReadyH.cons rfl (fun K hK => ?_) AllReadyH.nil)
                  go_simp
                  refine hK.out _ _ hHeld (fun hHeld => ?_)
                  clear hK K
                  refine wpAnyH_done (by kernel_rfl) ?_ _
                  obtain ⟨s0, s1, s2, s3, s4, s5⟩ := HS.six
                  clear HS hHeld
                  go_wp2_with fail
                  refine bodyPost_ret (v := .tuple #[X.val, .bool false]) ?_ rfl ⟨HLW, by rw [HE.out]; exact ⟨X, rfl⟩⟩
                  simp [results, Try.results51, go_sem, s0, s1, s2, s3, s4, s5, Ent.val, Ent.cells]
              · have bat : ((((j : Int) + 1 + 1 + (kb : Int) + (kd2 : Int) + (kf : Int)) : Int) == (n : Int)) = false := by rw [beq_eq_false_iff_ne]; omega
                have HE : Hid (entryOf l = none) := Lib.hid (by rw [HQ.out, if_neg (fun h => hat h.1)])
                refine wpAnyH_takeAt (i := 4) (d := 118) (v := ?ve04) rfl rfl (by kernel_rfl) (by kernel_rfl) (by kernel_rfl) (fun _ _ _ h => h) (Or.inl ⟨by rfl, ?hye04⟩) hHeld ?_
                case hye04 =>
                  intro W hSw
                  clear hSw
                  (go_simp; try with_reducible rfl)
                simp only [List.setIfInBounds_toArray, List.set_cons_zero, List.set_cons_succ]
                refine wpAnyH_takeAt (i := 5) (d := 119) (v := ?ve05) rfl rfl (by kernel_rfl) (by kernel_rfl) (by kernel_rfl) (fun _ _ _ h => h) (Or.inl ⟨by rfl, ?hye05⟩) hHeld ?_
                case hye05 =>
                  intro W hSw
                  clear hSw
                  (go_simp; try with_reducible rfl)
                simp only [List.setIfInBounds_toArray, List.set_cons_zero, List.set_cons_succ]
                refine wpAnyH_takeAt (i := 6) (d := 120) (v := undef) rfl rfl (by kernel_rfl) (by kernel_rfl) (by kernel_rfl) (fun _ _ _ h => h) (Or.inr ⟨by rfl, rfl⟩) hHeld ?_
                simp only [List.setIfInBounds_toArray, List.set_cons_zero, List.set_cons_succ]
                refine wpAnyH_takeAt (i := 7) (d := 121) (v := undef) rfl rfl (by kernel_rfl) (by kernel_rfl) (by kernel_rfl) (fun _ _ _ h => h) (Or.inr ⟨by rfl, rfl⟩) hHeld ?_
                simp only [List.setIfInBounds_toArray, List.set_cons_zero, List.set_cons_succ]
                refine wpAnyH_takeAt (i := 8) (d := 122) (v := ?vf08) rfl rfl (by kernel_rfl) (by kernel_rfl) (by kernel_rfl) (fun _ _ _ h => h) (Or.inl ⟨by rfl, ?hyf08⟩) hHeld ?_
                case hyf08 =>
                  intro W hSw
                  clear hSw
                  (go_simp; try with_reducible rfl)
                simp only [List.setIfInBounds_toArray, List.set_cons_zero, List.set_cons_succ]
                refine wpAnyH_ready (rs := [9]) (by kernel_rfl) (by simp) (AllReadyH.cons rfl (fun K hK => ?_) AllReadyH.nil)
                obtain ⟨hx2, y, hy2⟩ := hHeld
                obtain ⟨s0, s1, s2, s3, s4, s5⟩ := hy2.six
                have y0 := hy2.frozen 0
                have y1 := hy2.frozen 1
                have y2 := hy2.frozen 2
                have y3 := hy2.frozen 3
                have y4 := hy2.frozen 4
                have y5 := hy2.frozen 5
                have HS := six_set hy2 X
                have HF := six_far hx2 (p1 := w.heap.size) (by omega) X
                have HLW := six_low hl2 (Nat.le_refl _) X
                go_simp
                refine hK.out _ _ ⟨HF, X, HS⟩ (fun hHeld => ?_)
                clear hK K s0 s1 s2 s3 s4 s5 y0 y1 y2 y3 y4 y5 hx2 hy2 HF
                generalize ((((((w2.setCell ⟨w.heap.size, 0, none⟩ (.int .i64 X.epoch)).setCell ⟨w.heap.size, 1, none⟩ (.int .i64 X.id)).setCell ⟨w.heap.size, 2, none⟩ (.int .i64 X.num)).setCell ⟨w.heap.size, 3, none⟩ (.int .i64 X.seq)).setCell ⟨w.heap.size, 4, none⟩ (.int .i64 X.kind)).setCell ⟨w.heap.size, 5, none⟩ (.int .i64 X.value)) = w3 at *
                refine wpAnyH_ready (rs := [10]) (by kernel_rfl) (by simp) (AllReadyH.cons rfl (fun K hK => ?_) AllReadyH.nil)
                go_simp
                refine hK.out _ _ hHeld (fun hHeld => ?_)
                clear hK K
                refine wpAnyH_done (by kernel_rfl) ?_ _
                obtain ⟨s0, s1, s2, s3, s4, s5⟩ := HS.six
                clear HS hHeld
                go_wp2_with fail
                refine bodyPost_ret (v := .tuple #[X.val, .bool false]) ?_ rfl ⟨HLW, by rw [HE.out]; exact ⟨X, rfl⟩⟩
                simp [results, Try.results51, go_sem, s0, s1, s2, s3, s4, s5, Ent.val, Ent.cells]
      · have b1 : ((kd.toNat : Int) == 1) = false := by rw [beq_eq_false_iff_ne]; omega
        obtain ⟨Ab, hsb, hyb⟩ := slice_rest ad n c (1 + j + 1) ((j : Int) + 1 + 1) (by omega) (by omega) hc
        have HYb := Lib.hid hyb
        clear hyb
        simp only [tkNum, tkLen, tkErr]
        go_wp2_with fail
        clear hsb hcz
        refine (refTake_any Ab (n - (1 + j + 1)) (c - (1 + j + 1)) w.heap.size (l.drop (1 + j + 1)) _ (HYb.out _ _ _ (two_bys HR.out _ _)) (by omega)).mono ?_
        rintro r w1 ⟨rfl, rfl⟩
        rcases htb : tk (l.drop (1 + j + 1)) with _ | _ | ⟨mb, kb⟩
        · skip
          have HE : Hid (entryOf l = none) := Lib.hid (by rw [HA2.out]; unfold refTail; rw [if_neg HNE.out, if_neg hk1]; unfold markTk; rw [htb]; rfl)
          simp only [tkNum, tkLen, tkErr]
          go_wp2_with fail
          refine bodyPost_ret (v := .tuple #[Ent.val ⟨ep, ((i.toNat : Int) - 1), 0, 0, (kd.toNat : Int), 0⟩, .bool false]) ?_ rfl ⟨ent_low _ _, by rw [HE.out]; exact ⟨⟨ep, ((i.toNat : Int) - 1), 0, 0, (kd.toNat : Int), 0⟩, rfl⟩⟩
          simp [results, Try.results51, go_sem, Ent.val, Ent.cells]
        · skip
          have HE : Hid (entryOf l = none) := Lib.hid (by rw [HA2.out]; unfold refTail; rw [if_neg HNE.out, if_neg hk1]; unfold markTk; rw [htb]; rfl)
          simp only [tkNum, tkLen, tkErr]
          go_wp2_with fail
          refine bodyPost_ret (v := .tuple #[Ent.val ⟨ep, ((i.toNat : Int) - 1), 0, 0, (kd.toNat : Int), 0⟩, .bool false]) ?_ rfl ⟨ent_low _ _, by rw [HE.out]; exact ⟨⟨ep, ((i.toNat : Int) - 1), 0, 0, (kd.toNat : Int), 0⟩, rfl⟩⟩
          simp [results, Try.results51, go_sem, Ent.val, Ent.cells]
        · have hkb := tk_drop htb
          rw [HL.out] at hkb
          have HTb := Lib.hid htb
          clear htb
          simp only [tkNum, tkLen, tkErr]
          have HT : Hid (refTail kd.toNat ep ((i.toNat : Int) - 1) l (1 + j + 1) = some (⟨ep, ((i.toNat : Int) - 1), mb, 0, (kd.toNat : Int), 0⟩, 1 + j + 1 + kb)) := Lib.hid (by unfold refTail; rw [if_neg HNE.out, if_neg hk1]; unfold markTk; rw [HTb.out])
          go_wp2_with fail
          have HQ : Hid (entryOf l = if (1 + j + 1 + kb) = n ∧ Right ⟨ep, ((i.toNat : Int) - 1), mb, 0, (kd.toNat : Int), 0⟩ then some ⟨ep, ((i.toNat : Int) - 1), mb, 0, (kd.toNat : Int), 0⟩ else none) := Lib.hid (by
            rw [HA2.out, HT.out]
            show (if (1 + j + 1 + kb) = l.length ∧ Right _ then _ else _) = _
            rw [HL.out])
          generalize hW0 : (w.alloc _).alloc _ = w1
          have hg1 : Blk w1 (w.heap.size + 1) 38 (Ent.cells ⟨ep, ((i.toNat : Int) - 1), mb, 0, (kd.toNat : Int), 0⟩) := by rw [← hW0]; exact blk_new _ 38 _ (by simp)
          have hz1 : Blk w1 w.heap.size 38 Ent.none_.cells := by rw [← hW0]; exact (Blk.new w 38 _).alloc _
          have hl1 : Below w.heap.size w w1 := by rw [← hW0]; exact ent_low _ _
          clear hW0
          obtain ⟨X, hX⟩ : ∃ X : Ent, X = ⟨ep, ((i.toNat : Int) - 1), mb, 0, (kd.toNat : Int), 0⟩ := ⟨_, rfl⟩
          rw [← hX] at hg1 HQ
          clear hX
          have hg2 := hg1.drew
          have hz2 := hz1.drew
          have hl2 := hl1.drew
          clear hg1 hz1 hl1
          refine wp_region_np ?_
          refine wp_region_held_drew (S := fun W => Blk W (w.heap.size + 1) 38 X.cells ∧ ∃ y : Ent, Blk W w.heap.size 38 y.cells) (by kernel_rfl) ⟨hg2, _, hz2⟩ (fun hHeld => ?_)
          generalize w1.drew = w2 at *
          clear hz2
          refine wpAnyH_takeAt (i := 0) (d := 114) (v := ?va10) rfl rfl (by kernel_rfl) (by kernel_rfl) (by kernel_rfl) (fun _ _ _ h => h) (Or.inl ⟨by rfl, ?hya10⟩) hHeld ?_
          case hya10 =>
            intro W hSw
            obtain ⟨s0, s1, s2, s3, s4, s5⟩ := hSw.1.six
            (go_simp; try with_reducible rfl)
          simp only [List.setIfInBounds_toArray, List.set_cons_zero, List.set_cons_succ]
          refine wpAnyH_takeAt (i := 1) (d := 115) (v := ?va11) rfl rfl (by kernel_rfl) (by kernel_rfl) (by kernel_rfl) (fun _ _ _ h => h) (Or.inl ⟨by rfl, ?hya11⟩) hHeld ?_
          case hya11 =>
            intro W hSw
            clear hSw
            (go_simp; try with_reducible rfl)
          simp only [List.setIfInBounds_toArray, List.set_cons_zero, List.set_cons_succ]
          refine wpAnyH_takeAt (i := 2) (d := 116) (v := ?va12) rfl rfl (by kernel_rfl) (by kernel_rfl) (by kernel_rfl) (fun _ _ _ h => h) (Or.inl ⟨by rfl, ?hya12⟩) hHeld ?_
          case hya12 =>
            intro W hSw
            clear hSw
            (go_simp; try with_reducible rfl)
          simp only [List.setIfInBounds_toArray, List.set_cons_zero, List.set_cons_succ]
          refine wpAnyH_takeAt (i := 3) (d := 117) (v := ?va13) rfl rfl (by kernel_rfl) (by kernel_rfl) (by kernel_rfl) (fun _ _ _ h => h) (Or.inl ⟨by rfl, ?hya13⟩) hHeld ?_
          case hya13 =>
            intro W hSw
            clear hSw
            (go_simp; try with_reducible rfl)
          simp only [List.setIfInBounds_toArray, List.set_cons_zero, List.set_cons_succ]
          by_cases hat : (1 + j + 1 + kb) = n
          · have bat : ((((j : Int) + 1 + 1 + (kb : Int)) : Int) == (n : Int)) = true := by rw [beq_iff_eq]; omega
            refine wpAnyH_takeAt (i := 4) (d := 118) (v := ?vb14) rfl rfl (by kernel_rfl) (by kernel_rfl) (by kernel_rfl) (fun _ _ _ h => h) (Or.inl ⟨by rfl, ?hyb14⟩) hHeld ?_
            case hyb14 =>
              intro W hSw
              clear hSw
              (go_simp; try with_reducible rfl)
            simp only [List.setIfInBounds_toArray, List.set_cons_zero, List.set_cons_succ]
            refine wpAnyH_takeAt (i := 5) (d := 119) (v := ?vb15) rfl rfl (by kernel_rfl) (by kernel_rfl) (by kernel_rfl) (fun _ _ _ h => h) (Or.inl ⟨by rfl, ?hyb15⟩) hHeld ?_
            case hyb15 =>
              intro W hSw
              clear hSw
              (go_simp; try with_reducible rfl)
            simp only [List.setIfInBounds_toArray, List.set_cons_zero, List.set_cons_succ]
            refine wpAnyH_takeAt (i := 6) (d := 120) (v := ?vb16) rfl rfl (by kernel_rfl) (by kernel_rfl) (by kernel_rfl) (fun _ _ _ h => h) (Or.inl ⟨by rfl, ?hyb16⟩) hHeld ?_
            case hyb16 =>
              intro W hSw
              obtain ⟨s0, s1, s2, s3, s4, s5⟩ := hSw.1.six
              (go_simp; try with_reducible rfl)
            simp only [List.setIfInBounds_toArray, List.set_cons_zero, List.set_cons_succ]
            refine wpAnyH_ready (rs := [7]) (by kernel_rfl) (by simp) (AllReadyH.cons rfl (fun K hK => ?_) AllReadyH.nil)
            go_simp
            refine (right_any X w2).mono ?_
            rintro e w9 ⟨rfl, hb9⟩
            have hHeld9 : Blk w9 (w.heap.size + 1) 38 X.cells ∧ ∃ y : Ent, Blk w9 w.heap.size 38 y.cells := ⟨hHeld.1.below hb9 hHeld.1.lt, hHeld.2.choose, hHeld.2.choose_spec.below hb9 hHeld.2.choose_spec.lt⟩
            have hl9 := hl2.trans (hb9.mono hl2.size)
            clear hl2 hHeld hb9 hg2
            dsimp only
            refine hK.out _ _ hHeld9 (fun hHeld => ?_)
            clear hK K hHeld9
            by_cases hRx : Right X
            · rw [decide_eq_true hRx]
              have HE : Hid (entryOf l = some X) := Lib.hid (by rw [HQ.out, if_pos ⟨hat, hRx⟩])
              refine wpAnyH_takeAt (i := 8) (d := 122) (v := ?vc18) rfl rfl (by kernel_rfl) (by kernel_rfl) (by kernel_rfl) (fun _ _ _ h => h) (Or.inl ⟨by rfl, ?hyc18⟩) hHeld ?_
              case hyc18 =>
                intro W hSw
                clear hSw
                (go_simp; try with_reducible rfl)
              simp only [List.setIfInBounds_toArray, List.set_cons_zero, List.set_cons_succ]
              refine wpAnyH_ready (rs := [9]) (by kernel_rfl) (by simp) (AllReadyH.cons rfl (fun K hK => ?_) AllReadyH.nil)
              obtain ⟨hx2, y, hy2⟩ := hHeld
              obtain ⟨s0, s1, s2, s3, s4, s5⟩ := hy2.six
              have y0 := hy2.frozen 0
              have y1 := hy2.frozen 1
              have y2 := hy2.frozen 2
              have y3 := hy2.frozen 3
              have y4 := hy2.frozen 4
              have y5 := hy2.frozen 5
              have HS := six_set hy2 X
              have HF := six_far hx2 (p1 := w.heap.size) (by omega) X
              have HLW := six_low hl9 (Nat.le_refl _) X
              go_simp
              refine hK.out _ _ ⟨HF, X, HS⟩ (fun hHeld => ?_)
              clear hK K s0 s1 s2 s3 s4 s5 y0 y1 y2 y3 y4 y5 hx2 hy2 HF
              generalize ((((((w9.setCell ⟨w.heap.size, 0, none⟩ (.int .i64 X.epoch)).setCell ⟨w.heap.size, 1, none⟩ (.int .i64 X.id)).setCell ⟨w.heap.size, 2, none⟩ (.int .i64 X.num)).setCell ⟨w.heap.size, 3, none⟩ (.int .i64 X.seq)).setCell ⟨w.heap.size, 4, none⟩ (.int .i64 X.kind)).setCell ⟨w.heap.size, 5, none⟩ (.int .i64 X.value)) = w3 at *
              refine wpAnyH_ready (rs := [10]) (by kernel_rfl) (by simp) (AllReadyH.cons rfl (fun K hK => ?_) AllReadyH.nil)
              go_simp
              refine hK.out _ _ hHeld (fun hHeld => ?_)
              clear hK K
              refine wpAnyH_done (by kernel_rfl) ?_ _
              obtain ⟨s0, s1, s2, s3, s4, s5⟩ := HS.six
              clear HS hHeld
              go_wp2_with fail
              refine bodyPost_ret (v := .tuple #[X.val, .bool true]) ?_ rfl ⟨HLW, by rw [HE.out]⟩
              simp [results, Try.results51, go_sem, s0, s1, s2, s3, s4, s5, Ent.val, Ent.cells]
            · rw [decide_eq_false hRx]
              have HE : Hid (entryOf l = none) := Lib.hid (by rw [HQ.out, if_neg (fun h => hRx h.2)])
              refine wpAnyH_takeAt (i := 8) (d := 122) (v := ?vd18) rfl rfl (by kernel_rfl) (by kernel_rfl) (by kernel_rfl) (fun _ _ _ h => h) (Or.inl ⟨by rfl, ?hyd18⟩) hHeld ?_
              case hyd18 =>
                intro W hSw
                clear hSw
                (go_simp; try with_reducible rfl)
              simp only [List.setIfInBounds_toArray, List.set_cons_zero, List.set_cons_succ]
              refine wpAnyH_ready (rs := [9]) (by kernel_rfl) (by simp) (AllReadyH.cons rfl (fun K hK => ?_) AllReadyH.nil)
              obtain ⟨hx2, y, hy2⟩ := hHeld
              obtain ⟨s0, s1, s2, s3, s4, s5⟩ := hy2.six
              have y0 := hy2.frozen 0
              have y1 := hy2.frozen 1
              have y2 := hy2.frozen 2
              have y3 := hy2.frozen 3
              have y4 := hy2.frozen 4
              have y5 := hy2.frozen 5
              have HS := six_set hy2 X
              have HF := six_far hx2 (p1 := w.heap.size) (by omega) X
              have HLW := six_low hl9 (Nat.le_refl _) X
              go_simp
              refine hK.out _ _ ⟨HF, X, HS⟩ (fun hHeld => ?_)
              clear hK K s0 s1 s2 s3 s4 s5 y0 y1 y2 y3 y4 y5 hx2 hy2 HF
              generalize ((((((w9.setCell ⟨w.heap.size, 0, none⟩ (.int .i64 X.epoch)).setCell ⟨w.heap.size, 1, none⟩ (.int .i64 X.id)).setCell ⟨w.heap.size, 2, none⟩ (.int .i64 X.num)).setCell ⟨w.heap.size, 3, none⟩ (.int .i64 X.seq)).setCell ⟨w.heap.size, 4, none⟩ (.int .i64 X.kind)).setCell ⟨w.heap.size, 5, none⟩ (.int .i64 X.value)) = w3 at *
              refine wpAnyH_ready (rs := [10]) (by kernel_rfl) (by simp) (AllReadyH.cons rfl (fun K hK => ?_) AllReadyH.nil)
              go_simp
              refine hK.out _ _ hHeld (fun hHeld => ?_)
              clear hK K
              refine wpAnyH_done (by kernel_rfl) ?_ _
              obtain ⟨s0, s1, s2, s3, s4, s5⟩ := HS.six
              clear HS hHeld
              go_wp2_with fail
              refine bodyPost_ret (v := .tuple #[X.val, .bool false]) ?_ rfl ⟨HLW, by rw [HE.out]; exact ⟨X, rfl⟩⟩
              simp [results, Try.results51, go_sem, s0, s1, s2, s3, s4, s5, Ent.val, Ent.cells]
          · have bat : ((((j : Int) + 1 + 1 + (kb : Int)) : Int) == (n : Int)) = false := by rw [beq_eq_false_iff_ne]; omega
            have HE : Hid (entryOf l = none) := Lib.hid (by rw [HQ.out, if_neg (fun h => hat h.1)])
            refine wpAnyH_takeAt (i := 4) (d := 118) (v := ?ve14) rfl rfl (by kernel_rfl) (by kernel_rfl) (by kernel_rfl) (fun _ _ _ h => h) (Or.inl ⟨by rfl, ?hye14⟩) hHeld ?_
            case hye14 =>
              intro W hSw
              clear hSw
              (go_simp; try with_reducible rfl)
            simp only [List.setIfInBounds_toArray, List.set_cons_zero, List.set_cons_succ]
            refine wpAnyH_takeAt (i := 5) (d := 119) (v := ?ve15) rfl rfl (by kernel_rfl) (by kernel_rfl) (by kernel_rfl) (fun _ _ _ h => h) (Or.inl ⟨by rfl, ?hye15⟩) hHeld ?_
            case hye15 =>
              intro W hSw
              clear hSw
              (go_simp; try with_reducible rfl)
            simp only [List.setIfInBounds_toArray, List.set_cons_zero, List.set_cons_succ]
            refine wpAnyH_takeAt (i := 6) (d := 120) (v := undef) rfl rfl (by kernel_rfl) (by kernel_rfl) (by kernel_rfl) (fun _ _ _ h => h) (Or.inr ⟨by rfl, rfl⟩) hHeld ?_
            simp only [List.setIfInBounds_toArray, List.set_cons_zero, List.set_cons_succ]
            refine wpAnyH_takeAt (i := 7) (d := 121) (v := undef) rfl rfl (by kernel_rfl) (by kernel_rfl) (by kernel_rfl) (fun _ _ _ h => h) (Or.inr ⟨by rfl, rfl⟩) hHeld ?_
            simp only [List.setIfInBounds_toArray, List.set_cons_zero, List.set_cons_succ]
            refine wpAnyH_takeAt (i := 8) (d := 122) (v := ?vf18) rfl rfl (by kernel_rfl) (by kernel_rfl) (by kernel_rfl) (fun _ _ _ h => h) (Or.inl ⟨by rfl, ?hyf18⟩) hHeld ?_
            case hyf18 =>
              intro W hSw
              clear hSw
              (go_simp; try with_reducible rfl)
            simp only [List.setIfInBounds_toArray, List.set_cons_zero, List.set_cons_succ]
            refine wpAnyH_ready (rs := [9]) (by kernel_rfl) (by simp) (AllReadyH.cons rfl (fun K hK => ?_) AllReadyH.nil)
            obtain ⟨hx2, y, hy2⟩ := hHeld
            obtain ⟨s0, s1, s2, s3, s4, s5⟩ := hy2.six
            have y0 := hy2.frozen 0
            have y1 := hy2.frozen 1
            have y2 := hy2.frozen 2
            have y3 := hy2.frozen 3
            have y4 := hy2.frozen 4
            have y5 := hy2.frozen 5
            have HS := six_set hy2 X
            have HF := six_far hx2 (p1 := w.heap.size) (by omega) X
            have HLW := six_low hl2 (Nat.le_refl _) X
            go_simp
            refine hK.out _ _ ⟨HF, X, HS⟩ (fun hHeld => ?_)
            clear hK K s0 s1 s2 s3 s4 s5 y0 y1 y2 y3 y4 y5 hx2 hy2 HF
            generalize ((((((w2.setCell ⟨w.heap.size, 0, none⟩ (.int .i64 X.epoch)).setCell ⟨w.heap.size, 1, none⟩ (.int .i64 X.id)).setCell ⟨w.heap.size, 2, none⟩ (.int .i64 X.num)).setCell ⟨w.heap.size, 3, none⟩ (.int .i64 X.seq)).setCell ⟨w.heap.size, 4, none⟩ (.int .i64 X.kind)).setCell ⟨w.heap.size, 5, none⟩ (.int .i64 X.value)) = w3 at *
            refine wpAnyH_ready (rs := [10]) (by kernel_rfl) (by simp) (AllReadyH.cons rfl (fun K hK => ?_) AllReadyH.nil)
            go_simp
            refine hK.out _ _ hHeld (fun hHeld => ?_)
            clear hK K
            refine wpAnyH_done (by kernel_rfl) ?_ _
            obtain ⟨s0, s1, s2, s3, s4, s5⟩ := HS.six
            clear HS hHeld
            go_wp2_with fail
            refine bodyPost_ret (v := .tuple #[X.val, .bool false]) ?_ rfl ⟨HLW, by rw [HE.out]; exact ⟨X, rfl⟩⟩
            simp [results, Try.results51, go_sem, s0, s1, s2, s3, s4, s5, Ent.val, Ent.cells]
    · have i0 : ((i.toNat : Int) - 1) = -1 := by omega
      by_cases hk1 : kd.toNat = 1
      · have b1 : ((kd.toNat : Int) == 1) = true := by rw [hk1]; rfl
        have HK1 := Lib.hid hk1
        clear hk1
        obtain ⟨Ab, hsb, hyb⟩ := slice_rest ad n c (1 + j + 1) ((j : Int) + 1 + 1) (by omega) (by omega) hc
        have HYb := Lib.hid hyb
        clear hyb
        simp only [tkNum, tkLen, tkErr]
        go_wp2_with fail
        clear hsb hcz
        refine (refTakeSigned_any Ab (n - (1 + j + 1)) (c - (1 + j + 1)) w.heap.size (l.drop (1 + j + 1)) _ (HYb.out _ _ _ (two_bys HR.out _ _)) (by omega)).mono ?_
        rintro r w1 ⟨rfl, rfl⟩
        rcases htb : tk (l.drop (1 + j + 1)) with _ | _ | ⟨mb, kb⟩
        · skip
          have HE : Hid (entryOf l = none) := Lib.hid (by rw [HA2.out]; unfold refTail; rw [i0, if_pos rfl, if_pos HK1.out]; unfold dataTk; rw [if_pos rfl, htb]; rfl)
          simp only [tksNum, tkLen, tkErr]
          go_wp2_with fail
          refine bodyPost_ret (v := .tuple #[Ent.val ⟨ep, -1, 0, 0, (kd.toNat : Int), 0⟩, .bool false]) ?_ rfl ⟨ent_low _ _, by rw [HE.out]; exact ⟨⟨ep, -1, 0, 0, (kd.toNat : Int), 0⟩, rfl⟩⟩
          simp [results, Try.results51, go_sem, Ent.val, Ent.cells]
        · skip
          have HE : Hid (entryOf l = none) := Lib.hid (by rw [HA2.out]; unfold refTail; rw [i0, if_pos rfl, if_pos HK1.out]; unfold dataTk; rw [if_pos rfl, htb]; rfl)
          simp only [tksNum, tkLen, tkErr]
          go_wp2_with fail
          refine bodyPost_ret (v := .tuple #[Ent.val ⟨ep, -1, 0, 0, (kd.toNat : Int), 0⟩, .bool false]) ?_ rfl ⟨ent_low _ _, by rw [HE.out]; exact ⟨⟨ep, -1, 0, 0, (kd.toNat : Int), 0⟩, rfl⟩⟩
          simp [results, Try.results51, go_sem, Ent.val, Ent.cells]
        · have hkb := tk_drop htb
          rw [HL.out] at hkb
          have HTb := Lib.hid htb
          clear htb
          simp only [tksNum, tkLen, tkErr]
          have HT : Hid (refTail kd.toNat ep ((i.toNat : Int) - 1) l (1 + j + 1) = some (⟨ep, -1, 0, 0, (kd.toNat : Int), unf mb⟩, 1 + j + 1 + kb)) := Lib.hid (by unfold refTail; rw [i0, if_pos rfl, if_pos HK1.out]; unfold dataTk; rw [if_pos rfl, HTb.out, HK1.out]; rfl)
          go_wp2_with fail
          have HQ : Hid (entryOf l = if (1 + j + 1 + kb) = n ∧ Right ⟨ep, -1, 0, 0, (kd.toNat : Int), unf mb⟩ then some ⟨ep, -1, 0, 0, (kd.toNat : Int), unf mb⟩ else none) := Lib.hid (by
            rw [HA2.out, HT.out]
            show (if (1 + j + 1 + kb) = l.length ∧ Right _ then _ else _) = _
            rw [HL.out])
          generalize hW0 : (w.alloc _).alloc _ = w1
          have hg1 : Blk w1 (w.heap.size + 1) 38 (Ent.cells ⟨ep, -1, 0, 0, (kd.toNat : Int), unf mb⟩) := by rw [← hW0]; exact blk_new _ 38 _ (by simp)
          have hz1 : Blk w1 w.heap.size 38 Ent.none_.cells := by rw [← hW0]; exact (Blk.new w 38 _).alloc _
          have hl1 : Below w.heap.size w w1 := by rw [← hW0]; exact ent_low _ _
          clear hW0
          obtain ⟨X, hX⟩ : ∃ X : Ent, X = ⟨ep, -1, 0, 0, (kd.toNat : Int), unf mb⟩ := ⟨_, rfl⟩
          rw [← hX] at hg1 HQ
          clear hX
          have hg2 := hg1.drew
          have hz2 := hz1.drew
          have hl2 := hl1.drew
          clear hg1 hz1 hl1
          refine wp_region_np ?_
          refine wp_region_held_drew (S := fun W => Blk W (w.heap.size + 1) 38 X.cells ∧ ∃ y : Ent, Blk W w.heap.size 38 y.cells) (by kernel_rfl) ⟨hg2, _, hz2⟩ (fun hHeld => ?_)
          generalize w1.drew = w2 at *
          clear hz2
          refine wpAnyH_takeAt (i := 0) (d := 114) (v := ?va20) rfl rfl (by kernel_rfl) (by kernel_rfl) (by kernel_rfl) (fun _ _ _ h => h) (Or.inl ⟨by rfl, ?hya20⟩) hHeld ?_
          case hya20 =>
            intro W hSw
            obtain ⟨s0, s1, s2, s3, s4, s5⟩ := hSw.1.six
            (go_simp; try with_reducible rfl)
          simp only [List.setIfInBounds_toArray, List.set_cons_zero, List.set_cons_succ]
          refine wpAnyH_takeAt (i := 1) (d := 115) (v := ?va21) rfl rfl (by kernel_rfl) (by kernel_rfl) (by kernel_rfl) (fun _ _ _ h => h) (Or.inl ⟨by rfl, ?hya21⟩) hHeld ?_
          case hya21 =>
            intro W hSw
            clear hSw
            (go_simp; try with_reducible rfl)
          simp only [List.setIfInBounds_toArray, List.set_cons_zero, List.set_cons_succ]
          refine wpAnyH_takeAt (i := 2) (d := 116) (v := ?va22) rfl rfl (by kernel_rfl) (by kernel_rfl) (by kernel_rfl) (fun _ _ _ h => h) (Or.inl ⟨by rfl, ?hya22⟩) hHeld ?_
          case hya22 =>
            intro W hSw
            clear hSw
            (go_simp; try with_reducible rfl)
          simp only [List.setIfInBounds_toArray, List.set_cons_zero, List.set_cons_succ]
          refine wpAnyH_takeAt (i := 3) (d := 117) (v := ?va23) rfl rfl (by kernel_rfl) (by kernel_rfl) (by kernel_rfl) (fun _ _ _ h => h) (Or.inl ⟨by rfl, ?hya23⟩) hHeld ?_
          case hya23 =>
            intro W hSw
            clear hSw
            (go_simp; try with_reducible rfl)
          simp only [List.setIfInBounds_toArray, List.set_cons_zero, List.set_cons_succ]
          by_cases hat : (1 + j + 1 + kb) = n
          · have bat : ((((j : Int) + 1 + 1 + (kb : Int)) : Int) == (n : Int)) = true := by rw [beq_iff_eq]; omega
            refine wpAnyH_takeAt (i := 4) (d := 118) (v := ?vb24) rfl rfl (by kernel_rfl) (by kernel_rfl) (by kernel_rfl) (fun _ _ _ h => h) (Or.inl ⟨by rfl, ?hyb24⟩) hHeld ?_
            case hyb24 =>
              intro W hSw
              clear hSw
              (go_simp; try with_reducible rfl)
            simp only [List.setIfInBounds_toArray, List.set_cons_zero, List.set_cons_succ]
            refine wpAnyH_takeAt (i := 5) (d := 119) (v := ?vb25) rfl rfl (by kernel_rfl) (by kernel_rfl) (by kernel_rfl) (fun _ _ _ h => h) (Or.inl ⟨by rfl, ?hyb25⟩) hHeld ?_
            case hyb25 =>
              intro W hSw
              clear hSw
              (go_simp; try with_reducible rfl)
            simp only [List.setIfInBounds_toArray, List.set_cons_zero, List.set_cons_succ]
            refine wpAnyH_takeAt (i := 6) (d := 120) (v := ?vb26) rfl rfl (by kernel_rfl) (by kernel_rfl) (by kernel_rfl) (fun _ _ _ h => h) (Or.inl ⟨by rfl, ?hyb26⟩) hHeld ?_
            case hyb26 =>
              intro W hSw
              obtain ⟨s0, s1, s2, s3, s4, s5⟩ := hSw.1.six
              (go_simp; try with_reducible rfl)
            simp only [List.setIfInBounds_toArray, List.set_cons_zero, List.set_cons_succ]
            refine wpAnyH_ready (rs := [7]) (by kernel_rfl) (by simp) (AllReadyH.cons rfl (fun K hK => ?_) AllReadyH.nil)
            go_simp
            refine (right_any X w2).mono ?_
            rintro e w9 ⟨rfl, hb9⟩
            have hHeld9 : Blk w9 (w.heap.size + 1) 38 X.cells ∧ ∃ y : Ent, Blk w9 w.heap.size 38 y.cells := ⟨hHeld.1.below hb9 hHeld.1.lt, hHeld.2.choose, hHeld.2.choose_spec.below hb9 hHeld.2.choose_spec.lt⟩
            have hl9 := hl2.trans (hb9.mono hl2.size)
            clear hl2 hHeld hb9 hg2
            dsimp only
            refine hK.out _ _ hHeld9 (fun hHeld => ?_)
            clear hK K hHeld9
            by_cases hRx : Right X
            · rw [decide_eq_true hRx]
              have HE : Hid (entryOf l = some X) := Lib.hid (by rw [HQ.out, if_pos ⟨hat, hRx⟩])
              refine wpAnyH_takeAt (i := 8) (d := 122) (v := ?vc28) rfl rfl (by kernel_rfl) (by kernel_rfl) (by kernel_rfl) (fun _ _ _ h => h) (Or.inl ⟨by rfl, ?hyc28⟩) hHeld ?_
              case hyc28 =>
                intro W hSw
                clear hSw
                (go_simp; try with_reducible rfl)
              simp only [List.setIfInBounds_toArray, List.set_cons_zero, List.set_cons_succ]
              refine wpAnyH_ready (rs := [9]) (by kernel_rfl) (by simp) (AllReadyH.cons rfl (fun K hK => ?_) AllReadyH.nil)
              obtain ⟨hx2, y, hy2⟩ := hHeld
              obtain ⟨s0, s1, s2, s3, s4, s5⟩ := hy2.six
              have y0 := hy2.frozen 0
              have y1 := hy2.frozen 1
              have y2 := hy2.frozen 2
              have y3 := hy2.frozen 3
              have y4 := hy2.frozen 4
              have y5 := hy2.frozen 5
              have HS := six_set hy2 X
              have HF := six_far hx2 (p1 := w.heap.size) (by omega) X
              have HLW := six_low hl9 (Nat.le_refl _) X
              go_simp
              refine hK.out _ _ ⟨HF, X, HS⟩ (fun hHeld => ?_)
              clear hK K s0 s1 s2 s3 s4 s5 y0 y1 y2 y3 y4 y5 hx2 hy2 HF
              generalize ((((((w9.setCell ⟨w.heap.size, 0, none⟩ (.int .i64 X.epoch)).setCell ⟨w.heap.size, 1, none⟩ (.int .i64 X.id)).setCell ⟨w.heap.size, 2, none⟩ (.int .i64 X.num)).setCell ⟨w.heap.size, 3, none⟩ (.int .i64 X.seq)).setCell ⟨w.heap.size, 4, none⟩ (.int .i64 X.kind)).setCell ⟨w.heap.size, 5, none⟩ (.int .i64 X.value)) = w3 at *
              refine wpAnyH_ready (rs := [10]) (by kernel_rfl) (by simp) (AllReadyH.cons rfl (fun K hK => ?_) AllReadyH.nil)
              go_simp
              refine hK.out _ _ hHeld (fun hHeld => ?_)
              clear hK K
              refine wpAnyH_done (by kernel_rfl) ?_ _
              obtain ⟨s0, s1, s2, s3, s4, s5⟩ := HS.six
              clear HS hHeld
              go_wp2_with fail
              refine bodyPost_ret (v := .tuple #[X.val, .bool true]) ?_ rfl ⟨HLW, by rw [HE.out]⟩
              simp [results, Try.results51, go_sem, s0, s1, s2, s3, s4, s5, Ent.val, Ent.cells]
            · rw [decide_eq_false hRx]
              have HE : Hid (entryOf l = none) := Lib.hid (by rw [HQ.out, if_neg (fun h => hRx h.2)])
              refine wpAnyH_takeAt (i := 8) (d := 122) (v := ?vd28) rfl rfl (by kernel_rfl) (by kernel_rfl) (by kernel_rfl) (fun _ _ _ h => h) (Or.inl ⟨by rfl, ?hyd28⟩) hHeld ?_
              case hyd28 =>
                intro W hSw
                clear hSw
                (go_simp; try with_reducible rfl)
              simp only [List.setIfInBounds_toArray, List.set_cons_zero, List.set_cons_succ]
              refine wpAnyH_ready (rs := [9]) (by kernel_rfl) (by simp) (AllReadyH.cons rfl (fun K hK => ?_) AllReadyH.nil)
              obtain ⟨hx2, y, hy2⟩ := hHeld
              obtain ⟨s0, s1, s2, s3, s4, s5⟩ := hy2.six
              have y0 := hy2.frozen 0
              have y1 := hy2.frozen 1
              have y2 := hy2.frozen 2
              have y3 := hy2.frozen 3
              have y4 := hy2.frozen 4
              have y5 := hy2.frozen 5
              have HS := six_set hy2 X
              have HF := six_far hx2 (p1 := w.heap.size) (by omega) X
              have HLW := six_low hl9 (Nat.le_refl _) X
              go_simp
              refine hK.out _ _ ⟨HF, X, HS⟩ (fun hHeld => ?_)
              clear hK K s0 s1 s2 s3 s4 s5 y0 y1 y2 y3 y4 y5 hx2 hy2 HF
              generalize ((((((w9.setCell ⟨w.heap.size, 0, none⟩ (.int .i64 X.epoch)).setCell ⟨w.heap.size, 1, none⟩ (.int .i64 X.id)).setCell ⟨w.heap.size, 2, none⟩ (.int .i64 X.num)).setCell ⟨w.heap.size, 3, none⟩ (.int .i64 X.seq)).setCell ⟨w.heap.size, 4, none⟩ (.int .i64 X.kind)).setCell ⟨w.heap.size, 5, none⟩ (.int .i64 X.value)) = w3 at *
              refine wpAnyH_ready (rs := [10]) (by kernel_rfl) (by simp) (AllReadyH.cons rfl (fun K hK => ?_) AllReadyH.nil)
              go_simp
              refine hK.out _ _ hHeld (fun hHeld => ?_)
              clear hK K
              refine wpAnyH_done (by kernel_rfl) ?_ _
              obtain ⟨s0, s1, s2, s3, s4, s5⟩ := HS.six
              clear HS hHeld
              go_wp2_with fail
              refine bodyPost_ret (v := .tuple #[X.val, .bool false]) ?_ rfl ⟨HLW, by rw [HE.out]; exact ⟨X, rfl⟩⟩
              simp [results, Try.results51, go_sem, s0, s1, s2, s3, s4, s5, Ent.val, Ent.cells]
          · have bat : ((((j : Int) + 1 + 1 + (kb : Int)) : Int) == (n : Int)) = false := by rw [beq_eq_false_iff_ne]; omega
            have HE : Hid (entryOf l = none) := Lib.hid (by rw [HQ.out, if_neg (fun h => hat h.1)])
            refine wpAnyH_takeAt (i := 4) (d := 118) (v := ?ve24) rfl rfl (by kernel_rfl) (by kernel_rfl) (by kernel_rfl) (fun _ _ _ h => h) (Or.inl ⟨by rfl, ?hye24⟩) hHeld ?_
            case hye24 =>
              intro W hSw
              clear hSw
              (go_simp; try with_reducible rfl)
            simp only [List.setIfInBounds_toArray, List.set_cons_zero, List.set_cons_succ]
            refine wpAnyH_takeAt (i := 5) (d := 119) (v := ?ve25) rfl rfl (by kernel_rfl) (by kernel_rfl) (by kernel_rfl) (fun _ _ _ h => h) (Or.inl ⟨by rfl, ?hye25⟩) hHeld ?_
            case hye25 =>
              intro W hSw
              clear hSw
              (go_simp; try with_reducible rfl)
            simp only [List.setIfInBounds_toArray, List.set_cons_zero, List.set_cons_succ]
            refine wpAnyH_takeAt (i := 6) (d := 120) (v := undef) rfl rfl (by kernel_rfl) (by kernel_rfl) (by kernel_rfl) (fun _ _ _ h => h) (Or.inr ⟨by rfl, rfl⟩) hHeld ?_
            simp only [List.setIfInBounds_toArray, List.set_cons_zero, List.set_cons_succ]
            refine wpAnyH_takeAt (i := 7) (d := 121) (v := undef) rfl rfl (by kernel_rfl) (by kernel_rfl) (by kernel_rfl) (fun _ _ _ h => h) (Or.inr ⟨by rfl, rfl⟩) hHeld ?_
            simp only [List.setIfInBounds_toArray, List.set_cons_zero, List.set_cons_succ]
            refine wpAnyH_takeAt (i := 8) (d := 122) (v := ?vf28) rfl rfl (by kernel_rfl) (by kernel_rfl) (by kernel_rfl) (fun _ _ _ h => h) (Or.inl ⟨by rfl, ?hyf28⟩) hHeld ?_
            case hyf28 =>
              intro W hSw
              clear hSw
              (go_simp; try with_reducible rfl)
            simp only [List.setIfInBounds_toArray, List.set_cons_zero, List.set_cons_succ]
            refine wpAnyH_ready (rs := [9]) (by kernel_rfl) (by simp) (AllReadyH.cons rfl (fun K hK => ?_) AllReadyH.nil)
            obtain ⟨hx2, y, hy2⟩ := hHeld
            obtain ⟨s0, s1, s2, s3, s4, s5⟩ := hy2.six
            have y0 := hy2.frozen 0
            have y1 := hy2.frozen 1
            have y2 := hy2.frozen 2
            have y3 := hy2.frozen 3
            have y4 := hy2.frozen 4
            have y5 := hy2.frozen 5
            have HS := six_set hy2 X
            have HF := six_far hx2 (p1 := w.heap.size) (by omega) X
            have HLW := six_low hl2 (Nat.le_refl _) X
            go_simp
            refine hK.out _ _ ⟨HF, X, HS⟩ (fun hHeld => ?_)
            clear hK K s0 s1 s2 s3 s4 s5 y0 y1 y2 y3 y4 y5 hx2 hy2 HF
            generalize ((((((w2.setCell ⟨w.heap.size, 0, none⟩ (.int .i64 X.epoch)).setCell ⟨w.heap.size, 1, none⟩ (.int .i64 X.id)).setCell ⟨w.heap.size, 2, none⟩ (.int .i64 X.num)).setCell ⟨w.heap.size, 3, none⟩ (.int .i64 X.seq)).setCell ⟨w.heap.size, 4, none⟩ (.int .i64 X.kind)).setCell ⟨w.heap.size, 5, none⟩ (.int .i64 X.value)) = w3 at *
            refine wpAnyH_ready (rs := [10]) (by kernel_rfl) (by simp) (AllReadyH.cons rfl (fun K hK => ?_) AllReadyH.nil)
            go_simp
            refine hK.out _ _ hHeld (fun hHeld => ?_)
            clear hK K
            refine wpAnyH_done (by kernel_rfl) ?_ _
            obtain ⟨s0, s1, s2, s3, s4, s5⟩ := HS.six
            clear HS hHeld
            go_wp2_with fail
            refine bodyPost_ret (v := .tuple #[X.val, .bool false]) ?_ rfl ⟨HLW, by rw [HE.out]; exact ⟨X, rfl⟩⟩
            simp [results, Try.results51, go_sem, s0, s1, s2, s3, s4, s5, Ent.val, Ent.cells]
      · have b1 : ((kd.toNat : Int) == 1) = false := by rw [beq_eq_false_iff_ne]; omega
        have HT : Hid (refTail kd.toNat ep ((i.toNat : Int) - 1) l (1 + j + 1) = some (⟨ep, -1, 0, 0, (kd.toNat : Int), 0⟩, 1 + j + 1)) := Lib.hid (by unfold refTail; rw [i0, if_pos rfl, if_neg hk1])
        simp only [tkNum, tkLen, tkErr]
        go_wp2_with fail
        have HQ : Hid (entryOf l = if (1 + j + 1) = n ∧ Right ⟨ep, -1, 0, 0, (kd.toNat : Int), 0⟩ then some ⟨ep, -1, 0, 0, (kd.toNat : Int), 0⟩ else none) := Lib.hid (by
          rw [HA2.out, HT.out]
          show (if (1 + j + 1) = l.length ∧ Right _ then _ else _) = _
          rw [HL.out])
        generalize hW0 : (w.alloc _).alloc _ = w1
        have hg1 : Blk w1 (w.heap.size + 1) 38 (Ent.cells ⟨ep, -1, 0, 0, (kd.toNat : Int), 0⟩) := by rw [← hW0]; exact blk_new _ 38 _ (by simp)
        have hz1 : Blk w1 w.heap.size 38 Ent.none_.cells := by rw [← hW0]; exact (Blk.new w 38 _).alloc _
        have hl1 : Below w.heap.size w w1 := by rw [← hW0]; exact ent_low _ _
        clear hW0 hcz
        obtain ⟨X, hX⟩ : ∃ X : Ent, X = ⟨ep, -1, 0, 0, (kd.toNat : Int), 0⟩ := ⟨_, rfl⟩
        rw [← hX] at hg1 HQ
        clear hX
        have hg2 := hg1.drew
        have hz2 := hz1.drew
        have hl2 := hl1.drew
        clear hg1 hz1 hl1
        refine wp_region_np ?_
        refine wp_region_held_drew (S := fun W => Blk W (w.heap.size + 1) 38 X.cells ∧ ∃ y : Ent, Blk W w.heap.size 38 y.cells) (by kernel_rfl) ⟨hg2, _, hz2⟩ (fun hHeld => ?_)
        generalize w1.drew = w2 at *
        clear hz2
        refine wpAnyH_takeAt (i := 0) (d := 114) (v := ?va30) rfl rfl (by kernel_rfl) (by kernel_rfl) (by kernel_rfl) (fun _ _ _ h => h) (Or.inl ⟨by rfl, ?hya30⟩) hHeld ?_
        case hya30 =>
          intro W hSw
          obtain ⟨s0, s1, s2, s3, s4, s5⟩ := hSw.1.six
          (go_simp; try with_reducible rfl)
        simp only [List.setIfInBounds_toArray, List.set_cons_zero, List.set_cons_succ]
        refine wpAnyH_takeAt (i := 1) (d := 115) (v := ?va31) rfl rfl (by kernel_rfl) (by kernel_rfl) (by kernel_rfl) (fun _ _ _ h => h) (Or.inl ⟨by rfl, ?hya31⟩) hHeld ?_
        case hya31 =>
          intro W hSw
          clear hSw
          (go_simp; try with_reducible rfl)
        simp only [List.setIfInBounds_toArray, List.set_cons_zero, List.set_cons_succ]
        refine wpAnyH_takeAt (i := 2) (d := 116) (v := ?va32) rfl rfl (by kernel_rfl) (by kernel_rfl) (by kernel_rfl) (fun _ _ _ h => h) (Or.inl ⟨by rfl, ?hya32⟩) hHeld ?_
        case hya32 =>
          intro W hSw
          clear hSw
          (go_simp; try with_reducible rfl)
        simp only [List.setIfInBounds_toArray, List.set_cons_zero, List.set_cons_succ]
        refine wpAnyH_takeAt (i := 3) (d := 117) (v := ?va33) rfl rfl (by kernel_rfl) (by kernel_rfl) (by kernel_rfl) (fun _ _ _ h => h) (Or.inl ⟨by rfl, ?hya33⟩) hHeld ?_
        case hya33 =>
          intro W hSw
          clear hSw
          (go_simp; try with_reducible rfl)
        simp only [List.setIfInBounds_toArray, List.set_cons_zero, List.set_cons_succ]
        by_cases hat : (1 + j + 1) = n
        · have bat : ((((j : Int) + 1 + 1) : Int) == (n : Int)) = true := by rw [beq_iff_eq]; omega
          refine wpAnyH_takeAt (i := 4) (d := 118) (v := ?vb34) rfl rfl (by kernel_rfl) (by kernel_rfl) (by kernel_rfl) (fun _ _ _ h => h) (Or.inl ⟨by rfl, ?hyb34⟩) hHeld ?_
          case hyb34 =>
            intro W hSw
            clear hSw
            (go_simp; try with_reducible rfl)
          simp only [List.setIfInBounds_toArray, List.set_cons_zero, List.set_cons_succ]
          refine wpAnyH_takeAt (i := 5) (d := 119) (v := ?vb35) rfl rfl (by kernel_rfl) (by kernel_rfl) (by kernel_rfl) (fun _ _ _ h => h) (Or.inl ⟨by rfl, ?hyb35⟩) hHeld ?_
          case hyb35 =>
            intro W hSw
            clear hSw
            (go_simp; try with_reducible rfl)
          simp only [List.setIfInBounds_toArray, List.set_cons_zero, List.set_cons_succ]
          refine wpAnyH_takeAt (i := 6) (d := 120) (v := ?vb36) rfl rfl (by kernel_rfl) (by kernel_rfl) (by kernel_rfl) (fun _ _ _ h => h) (Or.inl ⟨by rfl, ?hyb36⟩) hHeld ?_
          case hyb36 =>
            intro W hSw
            obtain ⟨s0, s1, s2, s3, s4, s5⟩ := hSw.1.six
            (go_simp; try with_reducible rfl)
          simp only [List.setIfInBounds_toArray, List.set_cons_zero, List.set_cons_succ]
          refine wpAnyH_ready (rs := [7]) (by kernel_rfl) (by simp) (AllReadyH.cons rfl (fun K hK => ?_) AllReadyH.nil)
          go_simp
          refine (right_any X w2).mono ?_
          rintro e w9 ⟨rfl, hb9⟩
          have hHeld9 : Blk w9 (w.heap.size + 1) 38 X.cells ∧ ∃ y : Ent, Blk w9 w.heap.size 38 y.cells := ⟨hHeld.1.below hb9 hHeld.1.lt, hHeld.2.choose, hHeld.2.choose_spec.below hb9 hHeld.2.choose_spec.lt⟩
          have hl9 := hl2.trans (hb9.mono hl2.size)
          clear hl2 hHeld hb9 hg2
          dsimp only
          refine hK.out _ _ hHeld9 (fun hHeld => ?_)
          clear hK K hHeld9
          by_cases hRx : Right X
          · rw [decide_eq_true hRx]
            have HE : Hid (entryOf l = some X) := Lib.hid (by rw [HQ.out, if_pos ⟨hat, hRx⟩])
            refine wpAnyH_takeAt (i := 8) (d := 122) (v := ?vc38) rfl rfl (by kernel_rfl) (by kernel_rfl) (by kernel_rfl) (fun _ _ _ h => h) (Or.inl ⟨by rfl, ?hyc38⟩) hHeld ?_
            case hyc38 =>
              intro W hSw
              clear hSw
              (go_simp; try with_reducible rfl)
            simp only [List.setIfInBounds_toArray, List.set_cons_zero, List.set_cons_succ]
            refine wpAnyH_ready (rs := [9]) (by kernel_rfl) (by simp) (AllReadyH.cons rfl (fun K hK => ?_) AllReadyH.nil)
            obtain ⟨hx2, y, hy2⟩ := hHeld
            obtain ⟨s0, s1, s2, s3, s4, s5⟩ := hy2.six
            have y0 := hy2.frozen 0
            have y1 := hy2.frozen 1
            have y2 := hy2.frozen 2
            have y3 := hy2.frozen 3
            have y4 := hy2.frozen 4
            have y5 := hy2.frozen 5
            have HS := six_set hy2 X
            have HF := six_far hx2 (p1 := w.heap.size) (by omega) X
            have HLW := six_low hl9 (Nat.le_refl _) X
            go_simp
            refine hK.out _ _ ⟨HF, X, HS⟩ (fun hHeld => ?_)
            clear hK K s0 s1 s2 s3 s4 s5 y0 y1 y2 y3 y4 y5 hx2 hy2 HF
            generalize ((((((w9.setCell ⟨w.heap.size, 0, none⟩ (.int .i64 X.epoch)).setCell ⟨w.heap.size, 1, none⟩ (.int .i64 X.id)).setCell ⟨w.heap.size, 2, none⟩ (.int .i64 X.num)).setCell ⟨w.heap.size, 3, none⟩ (.int .i64 X.seq)).setCell ⟨w.heap.size, 4, none⟩ (.int .i64 X.kind)).setCell ⟨w.heap.size, 5, none⟩ (.int .i64 X.value)) = w3 at *
            refine wpAnyH_ready (rs := [10]) (by kernel_rfl) (by simp) (AllReadyH.cons rfl (fun K hK => ?_) AllReadyH.nil)
            go_simp
            refine hK.out _ _ hHeld (fun hHeld => ?_)
            clear hK K
            refine wpAnyH_done (by kernel_rfl) ?_ _
            obtain ⟨s0, s1, s2, s3, s4, s5⟩ := HS.six
            clear HS hHeld
            go_wp2_with fail
            refine bodyPost_ret (v := .tuple #[X.val, .bool true]) ?_ rfl ⟨HLW, by rw [HE.out]⟩
            simp [results, Try.results51, go_sem, s0, s1, s2, s3, s4, s5, Ent.val, Ent.cells]
          · rw [decide_eq_false hRx]
            have HE : Hid (entryOf l = none) := Lib.hid (by rw [HQ.out, if_neg (fun h => hRx h.2)])
            refine wpAnyH_takeAt (i := 8) (d := 122) (v := ?vd38) rfl rfl (by kernel_rfl) (by kernel_rfl) (by kernel_rfl) (fun _ _ _ h => h) (Or.inl ⟨by rfl, ?hyd38⟩) hHeld ?_
            case hyd38 =>
              intro W hSw
              clear hSw
              (go_simp; try with_reducible rfl)
            simp only [List.setIfInBounds_toArray, List.set_cons_zero, List.set_cons_succ]
            refine wpAnyH_ready (rs := [9]) (by kernel_rfl) (by simp) (AllReadyH.cons rfl (fun K hK => ?_) AllReadyH.nil)
            obtain ⟨hx2, y, hy2⟩ := hHeld
            obtain ⟨s0, s1, s2, s3, s4, s5⟩ := hy2.six
            have y0 := hy2.frozen 0
            have y1 := hy2.frozen 1
            have y2 := hy2.frozen 2
            have y3 := hy2.frozen 3
            have y4 := hy2.frozen 4
            have y5 := hy2.frozen 5
            have HS := six_set hy2 X
            have HF := six_far hx2 (p1 := w.heap.size) (by omega) X
            have HLW := six_low hl9 (Nat.le_refl _) X
            go_simp
            refine hK.out _ _ ⟨HF, X, HS⟩ (fun hHeld => ?_)
            clear hK K s0 s1 s2 s3 s4 s5 y0 y1 y2 y3 y4 y5 hx2 hy2 HF
            generalize ((((((w9.setCell ⟨w.heap.size, 0, none⟩ (.int .i64 X.epoch)).setCell ⟨w.heap.size, 1, none⟩ (.int .i64 X.id)).setCell ⟨w.heap.size, 2, none⟩ (.int .i64 X.num)).setCell ⟨w.heap.size, 3, none⟩ (.int .i64 X.seq)).setCell ⟨w.heap.size, 4, none⟩ (.int .i64 X.kind)).setCell ⟨w.heap.size, 5, none⟩ (.int .i64 X.value)) = w3 at *
            refine wpAnyH_ready (rs := [10]) (by kernel_rfl) (by simp) (AllReadyH.cons rfl (fun K hK => ?_) AllReadyH.nil)
            go_simp
            refine hK.out _ _ hHeld (fun hHeld => ?_)
            clear hK K
            refine wpAnyH_done (by kernel_rfl) ?_ _
            obtain ⟨s0, s1, s2, s3, s4, s5⟩ := HS.six
            clear HS hHeld
            go_wp2_with fail
            refine bodyPost_ret (v := .tuple #[X.val, .bool false]) ?_ rfl ⟨HLW, by rw [HE.out]; exact ⟨X, rfl⟩⟩
            simp [results, Try.results51, go_sem, s0, s1, s2, s3, s4, s5, Ent.val, Ent.cells]
        · have bat : ((((j : Int) + 1 + 1) : Int) == (n : Int)) = false := by rw [beq_eq_false_iff_ne]; omega
          have HE : Hid (entryOf l = none) := Lib.hid (by rw [HQ.out, if_neg (fun h => hat h.1)])
          refine wpAnyH_takeAt (i := 4) (d := 118) (v := ?ve34) rfl rfl (by kernel_rfl) (by kernel_rfl) (by kernel_rfl) (fun _ _ _ h => h) (Or.inl ⟨by rfl, ?hye34⟩) hHeld ?_
          case hye34 =>
            intro W hSw
            clear hSw
            (go_simp; try with_reducible rfl)
          simp only [List.setIfInBounds_toArray, List.set_cons_zero, List.set_cons_succ]
          refine wpAnyH_takeAt (i := 5) (d := 119) (v := ?ve35) rfl rfl (by kernel_rfl) (by kernel_rfl) (by kernel_rfl) (fun _ _ _ h => h) (Or.inl ⟨by rfl, ?hye35⟩) hHeld ?_
          case hye35 =>
            intro W hSw
            clear hSw
            (go_simp; try with_reducible rfl)
          simp only [List.setIfInBounds_toArray, List.set_cons_zero, List.set_cons_succ]
          refine wpAnyH_takeAt (i := 6) (d := 120) (v := undef) rfl rfl (by kernel_rfl) (by kernel_rfl) (by kernel_rfl) (fun _ _ _ h => h) (Or.inr ⟨by rfl, rfl⟩) hHeld ?_
          simp only [List.setIfInBounds_toArray, List.set_cons_zero, List.set_cons_succ]
          refine wpAnyH_takeAt (i := 7) (d := 121) (v := undef) rfl rfl (by kernel_rfl) (by kernel_rfl) (by kernel_rfl) (fun _ _ _ h => h) (Or.inr ⟨by rfl, rfl⟩) hHeld ?_
          simp only [List.setIfInBounds_toArray, List.set_cons_zero, List.set_cons_succ]
          refine wpAnyH_takeAt (i := 8) (d := 122) (v := ?vf38) rfl rfl (by kernel_rfl) (by kernel_rfl) (by kernel_rfl) (fun _ _ _ h => h) (Or.inl ⟨by rfl, ?hyf38⟩) hHeld ?_
          case hyf38 =>
            intro W hSw
            clear hSw
            (go_simp; try with_reducible rfl)
          simp only [List.setIfInBounds_toArray, List.set_cons_zero, List.set_cons_succ]
          refine wpAnyH_ready (rs := [9]) (by kernel_rfl) (by simp) (AllReadyH.cons rfl (fun K hK => ?_) AllReadyH.nil)
          obtain ⟨hx2, y, hy2⟩ := hHeld
          obtain ⟨s0, s1, s2, s3, s4, s5⟩ := hy2.six
          have y0 := hy2.frozen 0
          have y1 := hy2.frozen 1
          have y2 := hy2.frozen 2
          have y3 := hy2.frozen 3
          have y4 := hy2.frozen 4
          have y5 := hy2.frozen 5
          have HS := six_set hy2 X
          have HF := six_far hx2 (p1 := w.heap.size) (by omega) X
          have HLW := six_low hl2 (Nat.le_refl _) X
          go_simp
          refine hK.out _ _ ⟨HF, X, HS⟩ (fun hHeld => ?_)
          clear hK K s0 s1 s2 s3 s4 s5 y0 y1 y2 y3 y4 y5 hx2 hy2 HF
          generalize ((((((w2.setCell ⟨w.heap.size, 0, none⟩ (.int .i64 X.epoch)).setCell ⟨w.heap.size, 1, none⟩ (.int .i64 X.id)).setCell ⟨w.heap.size, 2, none⟩ (.int .i64 X.num)).setCell ⟨w.heap.size, 3, none⟩ (.int .i64 X.seq)).setCell ⟨w.heap.size, 4, none⟩ (.int .i64 X.kind)).setCell ⟨w.heap.size, 5, none⟩ (.int .i64 X.value)) = w3 at *
          refine wpAnyH_ready (rs := [10]) (by kernel_rfl) (by simp) (AllReadyH.cons rfl (fun K hK => ?_) AllReadyH.nil)
          go_simp
          refine hK.out _ _ hHeld (fun hHeld => ?_)
          clear hK K
          refine wpAnyH_done (by kernel_rfl) ?_ _
          obtain ⟨s0, s1, s2, s3, s4, s5⟩ := HS.six
          clear HS hHeld
          go_wp2_with fail
          refine bodyPost_ret (v := .tuple #[X.val, .bool false]) ?_ rfl ⟨HLW, by rw [HE.out]; exact ⟨X, rfl⟩⟩
          simp [results, Try.results51, go_sem, s0, s1, s2, s3, s4, s5, Ent.val, Ent.cells]
end Go.Proofs.Ytickdpgfiianjaa
