/-
  Where epochs begin, as the document says it; whether two lists of starts are the same. Conditions: bounds.
-/
import Derived.Test.YtabbkghnijebpaaStarts2
namespace Go.Proofs.Ytabbkghnijebpaa
open Go.RowKit Go.Shelf
/-- What is known behind a call that answers starts in new memory. -/
def NewS (w : World) (E : Nat → Int) (l : List Nat) (e : Ending) (w' : World) : Prop := ∃ A c, e = .returned (.slice A l.length c) ∧ Sts w' (fun b => b < w.heap.size) A l.length E l ∧ l.length ≤ c ∧ c ≤ maxLen ∧ Below w.heap.size w w'
theorem starts_grow {w wr W w9 : World} {v v9 : Value} {E : Nat → Int} {l : List Nat} {i : Nat} (hb : Below w.heap.size w wr) (hbW : Below wr.heap.size wr W) (hlow : ∀ g, v.ownBlock = some g → w.heap.size ≤ g) (h1 : OwnK w9 63 2 v9 (l.map (stA E) ++ [stA E i])) (h2 : Grew v W v9 w9) :
    OwnS w9 v9 E (l ++ [i]) ∧ (∀ g, v9.ownBlock = some g → w.heap.size ≤ g) ∧ Below w.heap.size w w9 := by
  have hs := hb.size
  have hs2 := hbW.size
  refine ⟨OwnS.snoc h1, fun g e => ?_, (hb.trans (hbW.mono hs)).trans ((h2.turn (S := fun b => v.ownBlock = some b) (fun g e => e)).below (by omega) (fun b e => hlow b e))⟩
  rcases h2.2 g e with h | h
  · exact hlow g h
  · omega
set_option maxRecDepth 100000 in
set_option maxHeartbeats 4000000 in
theorem refStarts_any {w : World} {X : Nat → Prop} {A : Option Addr} {n c : Nat} {f : Nat → Int × Int} (h : Lg w X A n f) (hc : n ≤ 1000000) : Calls Try.prog 17 #[.slice A n c] w (NewS w (fun i => (f i).1) (starts (fun i => (f i).1) n)) := by
  have HH := Lib.hid h
  clear h
  go_enter Try.func17, Try.ntmps17
  go_wp2_with fail
  go_loopw [3, 4] (fun v i wr => ∃ k : Nat, k ≤ n ∧ i = .int .i64 k ∧ OwnS wr v (fun i => (f i).1) (starts (fun i => (f i).1) k) ∧ (∀ g, v.ownBlock = some g → w.heap.size ≤ g) ∧ Below w.heap.size w wr) (fun _ i _ => n - (intOf i).toNat)
  case atStart => exact ⟨0, by omega, rfl, OwnK.nil _ 63 2, fun g e => (by cases e), Below.refl _ _⟩
  case round =>
    obtain ⟨k, hk, rfl, ho, hlow, hb⟩ := hrel
    obtain ⟨Av, cv, rfl, hv1, hv2⟩ := ho.form
    by_cases hlt : k < n
    case neg =>
      have hd1 : decide (k < n) = false := by simpa using hlt
      obtain rfl : k = n := by omega
      have HO := Lib.hid ho
      have HL := Lib.hid hlow
      clear ho hlow
      go_wp2_with fail
      go_ret
      exact ⟨Av, cv, rfl, OwnS.sts HO.out (fun g e hx => by have := HL.out g e; omega), hv1, hv2, hb⟩
    case pos =>
    have hsl := starts_len (fun i => (f i).1) k
    have HSL := Lib.hid hsl
    clear hsl
    have HO := Lib.hid ho
    have HL := Lib.hid hlow
    have HB := Lib.hid hb
    clear ho hlow hb
    generalize hq : (starts (fun i => (f i).1) k).length = q at *
    have HQ := Lib.hid hq
    rcases Nat.eq_zero_or_pos k with h0 | h0
    · subst h0
      obtain ⟨ad, rfl, hl, -, c0, -⟩ := (HH.out.below HB.out).at_ hlt
      have c0' : wr.cell? ad = some (.int .i64 (f 0).1) := by simpa [Addr.add] using c0
      have HN : Hid (starts (fun i => (f i).1) (0 + 1) = starts (fun i => (f i).1) 0 ++ [0]) := Lib.hid (starts_yes (.inl rfl))
      clear hq c0
      go_wp2_with fail
      go_quiet (fail)
      go_wp2_with (at_builtin; refine stop ?_)
      refine Stop.go (wpList_append_k el28 _ (by rfl) _ _ (by rfl) (.slice Av q cv) _ (by rfl) (OwnK.alloc (OwnK.keepB HO.out (fun _ _ => rfl)) _) No _ 1 _ [stA (fun i => (f i).1) 0] (by rfl) (rd_one (wr.drewN nq) 63 (stA (fun i => (f i).1) 0) rfl (by simp [stA, Value.oneCell']) (fun h => h)) (by simp; have := HSL.out; have := HQ.out; omega) (by omega) ?_)
      intro v9 w9 ho9 hg9
      obtain ⟨r1, r2, r3⟩ := starts_grow HB.out (((Below.refl wr.heap.size wr) |> (below_drewN · nq)).alloc (Nat.le_refl _) _) HL.out ho9 hg9
      have HR1 := Lib.hid r1
      have HR2 := Lib.hid r2
      have HR3 := Lib.hid r3
      clear ho9 hg9 r1 r2 r3
      go_wp2_with fail
      go_roundw
      case rel => exact ⟨0 + 1, by omega, by go_num, by rw [HN.out]; exact HR1.out, HR2.out, HR3.out⟩
      case measure => simp [intOf]; omega
    obtain ⟨m, rfl⟩ : ∃ m, k = m + 1 := ⟨k - 1, by omega⟩
    obtain ⟨ad, rfl, hl, -, c0, -⟩ := (HH.out.below HB.out).at_ hlt
    obtain ⟨ad', had, -, -, d0, -⟩ := (HH.out.below HB.out).at_ (k := m) (by omega)
    injection had with had
    subst had
    have hz1 : (((m : Int) + 1) == 0) = false := by rw [beq_eq_false_iff_ne]; omega
    have hz2 : ((((m + 1 : Nat)) : Int) == 0) = false := by rw [beq_eq_false_iff_ne]; omega
    by_cases hne : (f (m + 1)).1 = (f m).1
    case pos =>
      have hq3 : ((f (m + 1)).1 == (f m).1) = true := by simpa using hne
      have HN : Hid (starts (fun i => (f i).1) (m + 1 + 1) = starts (fun i => (f i).1) (m + 1)) := Lib.hid (starts_no (fun h => by
        rcases h with h | h
        · omega
        · exact h hne))
      have HO2 : Hid (∀ nq, OwnS (wr.drewN nq) (.slice Av q cv) (fun i => (f i).1) (starts (fun i => (f i).1) (m + 1))) := Lib.hid (fun nq => OwnK.keepB HO.out (fun _ _ => rfl))
      clear hq
      go_wp2_with fail
      go_quiet (fail)
      go_wp2_with fail
      go_roundw
      case rel => exact ⟨m + 1 + 1, by omega, by go_num, by rw [HN.out]; exact HO2.out _, HL.out, below_drewN HB.out _⟩
      case measure => simp [intOf]; omega
    case neg =>
      have hq3 : ((f (m + 1)).1 == (f m).1) = false := by simpa using hne
      have HN : Hid (starts (fun i => (f i).1) (m + 1 + 1) = starts (fun i => (f i).1) (m + 1) ++ [m + 1]) := Lib.hid (starts_yes (.inr hne))
      clear hq hne
      go_wp2_with fail
      go_quiet (fail)
      go_wp2_with (at_builtin; refine stop ?_)
      refine Stop.go (wpList_append_k el28 _ (by rfl) _ _ (by rfl) (.slice Av q cv) _ (by rfl) (OwnK.alloc (OwnK.keepB HO.out (fun _ _ => rfl)) _) No _ 1 _ [stA (fun i => (f i).1) (m + 1)] (by rfl) (rd_one (wr.drewN nq) 63 (stA (fun i => (f i).1) (m + 1)) rfl (by simp [stA, Value.oneCell']) (fun h => h)) (by simp; have := HSL.out; have := HQ.out; omega) (by omega) ?_)
      intro v9 w9 ho9 hg9
      obtain ⟨r1, r2, r3⟩ := starts_grow HB.out (((Below.refl wr.heap.size wr) |> (below_drewN · nq)).alloc (Nat.le_refl _) _) HL.out ho9 hg9
      have HR1 := Lib.hid r1
      have HR2 := Lib.hid r2
      have HR3 := Lib.hid r3
      clear ho9 hg9 r1 r2 r3
      go_wp2_with fail
      go_roundw
      case rel => exact ⟨(m + 1) + 1, by omega, by go_num, by rw [HN.out]; exact HR1.out, HR2.out, HR3.out⟩
      case measure => simp [intOf]; omega
end Go.Proofs.Ytabbkghnijebpaa
