/-
  The document's open transactions of an ID. Conditions: at most 5000 entries.
-/
import Derived.Test.YtafgcafhgnfegaaRefB
import Derived.Test.YtafgcafhgnfegaaSame
import Derived.Test.YtafgcafhgnfegaaTold
namespace Go.Proofs.Ytafgcafhgnfegaa
open Go.RowKit Go.Maps
set_option linter.unusedVariables false
section
variable {w w' : World} {X : Nat → Prop} {A : Option Addr} {n c : Nat} {l : List Ent} {e : Ent}
theorem op_take (mk : Int → Bool) (id : Int) {k : Nat} (h : l[k]? = some e) : op mk id (l.take (k + 1)) = if e.id = id ∧ e.kind = 1 ∧ mk e.num = false ∧ e.num ∉ keys (op mk id (l.take k)) then op mk id (l.take k) ++ [(e.num, k)] else op mk id (l.take k) := by
  have : l.take (k + 1) = l.take k ++ [e] := by rw [List.take_add_one, h]; rfl
  have hk : (l.take k).length = k := by
    have := (List.getElem?_eq_some_iff.1 h).1
    rw [List.length_take]; omega
  rw [this, op_snoc, hk]
theorem op_len (mk : Int → Bool) (id : Int) (l : List Ent) : (op mk id l).length ≤ l.length := by
  induction l using snoc_induction with
  | h0 => exact Nat.le_refl _
  | h1 l e ih =>
    rw [op_snoc]
    split <;> simp <;> omega
/-- A new slice of open transactions. -/
def NewO (w : World) (o : List (Int × Nat)) (r : Ending) (w' : World) : Prop :=
  ∃ A c, r = .returned (.slice A o.length c) ∧ OwnK w' 54 2 (.slice A o.length c) (opsOf o) ∧ (∀ b, Value.ownBlock (.slice A o.length c) = some b → w.heap.size ≤ b) ∧ Below w.heap.size w w'
/-- Between two rounds. -/
def OpI (w : World) (o : List (Int × Nat)) (v : Value) (W : World) : Prop := OwnK W 54 2 v (opsOf o) ∧ (∀ b, v.ownBlock = some b → w.heap.size ≤ b) ∧ Below w.heap.size w W
theorem OpI.low {o : List (Int × Nat)} {v : Value} {W W' : World} (h : OpI w o v W) (hb : Below W.heap.size W W') : OpI w o v W' := ⟨h.1.below hb, h.2.1, h.2.2.trans (hb.mono h.2.2.size)⟩
theorem keys_take_succ {o : List (Int × Nat)} {j : Nat} {p : Int × Nat} (h : o[j]? = some p) (k : Int) : k ∈ keys (o.take (j + 1)) ↔ k ∈ keys (o.take j) ∨ p.1 = k := by
  rw [List.take_add_one, h]
  unfold keys
  simp only [Option.toList_some, List.map_append, List.map_cons, List.map_nil, List.mem_append, List.mem_singleton]
  exact ⟨fun q => q.imp id Eq.symm, fun q => q.imp id Eq.symm⟩
set_option maxRecDepth 100000 in
set_option maxHeartbeats 4000000 in
theorem refOpens_any (h : Rd w X 6 A n (cellsOf l)) (hn : n ≤ 5000) (id : Int) : Calls Try.prog 46 #[.slice A n c, .int .i64 id] w (NewO w (opens l id)) := by
  have HLEN := Lib.hid h.lenE
  have HH := Lib.hid h
  clear h
  go_enter Try.func46, Try.ntmps46
  go_wp2_with fail
  go_loopw [5, 6] (fun v i wv => ∃ k : Nat, k ≤ n ∧ i = .int .i64 k ∧ OpI w (op (isMk l id) id (l.take k)) v wv) (fun _ i _ => n - (iOf i).toNat)
  case atStart => exact ⟨0, by omega, rfl, OwnK.nil _ 54 2, fun b eb => (by cases eb), Below.refl _ _⟩
  case round =>
    obtain ⟨k, hk, rfl, hI⟩ := hrel
    obtain ⟨Av, cv, rfl, hv1, hv2⟩ := hI.1.formO
    have HI := Lib.hid hI
    clear hI
    by_cases hlt : k < n
    case neg =>
      have hd1 : decide (k < n) = false := by simpa using hlt
      have H : Hid (op (isMk l id) id (l.take k) = opens l id) := Lib.hid (by rw [List.take_of_length_le (by have := HLEN.out; omega)]; rfl)
      go_wp2_with fail
      go_ret
      have hi := HI.out
      rw [H.out] at hi
      exact ⟨Av, cv, by rw [H.out]; rfl, hi.1, hi.2.1, hi.2.2⟩
    case pos =>
    obtain ⟨e, he⟩ : ∃ e, l[k]? = some e := ⟨_, List.getElem?_eq_getElem (by rw [HLEN.out]; exact hlt)⟩
    obtain ⟨ad, rfl, hadl, -, c0, c1, c2, c3, c4, c5⟩ := (HH.out.below HI.out.2.2).ent he
    have hd1 : decide (k < n) = true := by simpa using hlt
    have HN := Lib.hid (op_take (isMk l id) id he)
    have hol : (op (isMk l id) id (l.take k)).length ≤ 5000 := by have := op_len (isMk l id) id (l.take k); rw [List.length_take] at this; omega
    have HBE : Hid (Below wr.heap.size wr (wr.alloc (.cells #[.int .i64 e.epoch, .int .i64 e.id, .int .i64 e.num, .int .i64 e.seq, .int .i64 e.kind, .int .i64 e.value] 26))) := Lib.hid ((Below.refl _ _).alloc (Nat.le_refl _) _)
    have hmk := marked_any (c := c) ((HH.out.below HI.out.2.2).below HBE.out) (by omega) id e.num
    clear he
    generalize ho' : op (isMk l id) id (l.take (k + 1)) = o' at *
    generalize op (isMk l id) id (l.take k) = o at *
    have HO' := Lib.hid ho'
    clear ho'
    have stay : ¬ (e.id = id ∧ e.kind = 1 ∧ isMk l id e.num = false ∧ e.num ∉ keys o) → ∀ q, Hid (OpI w o' (.slice Av o.length cv) ((wr.alloc (.cells #[.int .i64 e.epoch, .int .i64 e.id, .int .i64 e.num, .int .i64 e.seq, .int .i64 e.kind, .int .i64 e.value] 26)).drewN q)) := fun z q => Lib.hid (by
      rw [HN.out, if_neg z]
      exact (HI.out.low HBE.out).low (below_drewN (Below.refl _ _) q))
    by_cases h1 : e.id = id
    case neg =>
      have b1 := nen h1
      have HS := stay (fun q => h1 q.1) 0
      clear stay h1 hmk
      go_wp2_with fail
      go_roundw
      case rel => exact ⟨k + 1, by omega, by go_num, by rw [HO'.out]; exact HS.out⟩
      case measure => simp [iOf]; omega
    case pos =>
    have b1 := eqn h1
    have H1 := Lib.hid h1
    clear h1
    by_cases h2 : e.kind = 1
    case neg =>
      have b2 := nen h2
      have HS := stay (fun q => h2 q.2.1) 0
      clear stay h2 hmk
      go_wp2_with fail
      go_roundw
      case rel => exact ⟨k + 1, by omega, by go_num, by rw [HO'.out]; exact HS.out⟩
      case measure => simp [iOf]; omega
    case pos =>
    have b2 := eqn h2
    have H2 := Lib.hid h2
    clear h2
    by_cases h3 : isMk l id e.num = true
    case pos =>
      have HS := stay (fun q => by rw [h3] at q; exact absurd q.2.2.1 (by simp)) 0
      rw [h3] at hmk
      clear stay h3
      go_wp2_with fail
      refine hmk.mono ?_
      rintro r w2 ⟨rfl, rfl⟩
      clear hmk
      go_wp2_with fail
      go_roundw
      case rel => exact ⟨k + 1, by omega, by go_num, by rw [HO'.out]; exact HS.out⟩
      case measure => simp [iOf]; omega
    case neg =>
    have h3' : isMk l id e.num = false := by simpa using h3
    have H3 := Lib.hid h3'
    rw [h3'] at hmk
    clear h3 h3'
    go_wp2_with fail
    refine hmk.mono ?_
    rintro r w2 ⟨rfl, rfl⟩
    clear hmk
    have hI5 := HI.out.low HBE.out
    have hB5 := Blk.new wr 26 #[.int .i64 e.epoch, .int .i64 e.id, .int .i64 e.num, .int .i64 e.seq, .int .i64 e.kind, .int .i64 e.value]
    clear c0 c1 c2 c3 c4 c5
    go_wp2_with fail
    generalize wr.alloc (.cells #[.int .i64 e.epoch, .int .i64 e.id, .int .i64 e.num, .int .i64 e.seq, .int .i64 e.kind, .int .i64 e.value] 26) = w5 at *
    generalize wr.heap.size = z5 at *
    have HI5 := Lib.hid hI5
    have HB5 := Lib.hid hB5
    have HST := Lib.hid stay
    clear hI5 hB5 stay
    go_loopw [8, 9] (fun t j wv => ∃ i q : Nat, i ≤ o.length ∧ j = .int .i64 i ∧ t = .bool (decide (e.num ∈ keys (o.take i))) ∧ wv = w5.drewN q) (fun _ j _ => o.length - (iOf j).toNat)
    case atStart => exact ⟨0, 0, by omega, rfl, by simp [keys], rfl⟩
    case round =>
      obtain ⟨i, q, hi, rfl, rfl, rfl⟩ := hrel
      by_cases hli : i < o.length
      case pos =>
        obtain ⟨p, hp⟩ : ∃ p, o[i]? = some p := ⟨_, List.getElem?_eq_getElem hli⟩
        have hd2 : decide (i < o.length) = true := by simpa using hli
        have HK := Lib.hid (keys_take_succ hp e.num)
        by_cases hth : e.num ∈ keys (o.take i)
        case pos =>
          have HD : Hid (decide (e.num ∈ keys (o.take (i + 1))) = true) := Lib.hid (decide_eq_true (HK.out.2 (.inl hth)))
          rw [decide_eq_true hth]
          clear hth hp
          go_wp2_with fail
          go_quiet (fail)
          go_wp2_with fail
          go_roundw
          case rel => exact ⟨i + 1, _, by omega, by go_num, by rw [HD.out], rfl⟩
          case measure => simp [iOf]; omega
        case neg =>
          rw [decide_eq_false hth]
          have hrd := HI5.out.1.rd (X := No) (fun _ _ h => h)
          obtain ⟨a5, e5, -, -, r0, r1⟩ := hrd.load (i := i) (cs := opA p) (by unfold opsOf; rw [List.getElem?_map, hp]; rfl)
          have r0 := r0 (.int .i64 p.1) rfl
          obtain ⟨s0, s1, s2, s3, s4, s5⟩ := HB5.out.six'
          subst e5
          by_cases hpe : p.1 = e.num
          case pos =>
            have HD : Hid (decide (e.num ∈ keys (o.take (i + 1))) = true) := Lib.hid (decide_eq_true (HK.out.2 (.inr hpe)))
            have hpb := eqb hpe
            clear hth hp hpe hrd
            go_wp2_with fail
            go_quiet (fail)
            go_wp2_with fail
            go_roundw
            case rel => exact ⟨i + 1, _, by omega, by go_num, by rw [HD.out], (by first | rfl | rw [World.drewN_drewN])⟩
            case measure => simp [iOf]; omega
          case neg =>
            have HD : Hid (decide (e.num ∈ keys (o.take (i + 1))) = false) := Lib.hid (decide_eq_false (fun q => (HK.out.1 q).elim hth hpe))
            have hpb := neb hpe
            clear hth hp hpe hrd
            go_wp2_with fail
            go_quiet (fail)
            go_wp2_with fail
            go_roundw
            case rel => exact ⟨i + 1, _, by omega, by go_num, by rw [HD.out], (by first | rfl | rw [World.drewN_drewN])⟩
            case measure => simp [iOf]; omega
      case neg =>
        have hd2 : decide (i < o.length) = false := by simpa using hli
        obtain rfl : i = o.length := by omega
        rw [List.take_length]
        by_cases hth : e.num ∈ keys o
        case pos =>
          rw [decide_eq_true hth]
          have HS := HST.out (fun z => z.2.2.2 hth) q
          clear hth
          go_wp2_with fail
          go_roundw
          case rel => exact ⟨k + 1, by omega, by go_num, by rw [HO'.out]; exact HS.out⟩
          case measure => simp [iOf]; omega
        case neg =>
          rw [decide_eq_false hth]
          have HN' : Hid (o' = o ++ [(e.num, k)]) := Lib.hid (by rw [HN.out, if_pos ⟨H1.out, H2.out, H3.out, hth⟩])
          obtain ⟨s0, s1, s2, s3, s4, s5⟩ := (show Blk (w5.drewN q) z5 26 #[.int .i64 e.epoch, .int .i64 e.id, .int .i64 e.num, .int .i64 e.seq, .int .i64 e.kind, .int .i64 e.value] from HB5.out).six'
          have HIq := Lib.hid (HI5.out.low (below_drewN (Below.refl _ _) q))
          clear hth
          generalize w5.drewN q = w6 at *
          go_wp2_with (at_builtin; refine stop ?_)
          refine Stop.go (wpList_append_k el39 _ (by rfl) _ _ (by rfl) (.slice Av o.length cv) (opsOf o) (by rfl) (HIq.out.1.alloc _) No _ 1 _ [opA (e.num, k)] (by rfl) (rd_one w6 54 (opA (e.num, k)) rfl (by simp [opA, Value.oneCell']) (fun h => h)) (by simp [opsOf]; omega) (by omega) ?_)
          intro v9 w9 ho9 hg9
          have HF : Hid (OpI w o' v9 w9) := Lib.hid (by
            rw [HN'.out]
            refine ⟨by unfold opsOf at ho9 ⊢; rw [List.map_append]; exact ho9, fun b eb => ?_, ?_⟩
            · rcases hg9.2 b eb with h | h
              · exact HIq.out.2.1 b h
              · have := HIq.out.2.2.size; simp at h; omega
            · exact below_grew (HIq.out.2.2.alloc HIq.out.2.2.size _) hg9 HIq.out.2.1 (Nat.le_trans HIq.out.2.2.size (by simp)))
          clear ho9 hg9 s0 s1 s2 s3 s4 s5
          go_wp2_with fail
          go_roundw
          case rel => exact ⟨k + 1, by omega, by go_num, by rw [HO'.out]; exact HF.out⟩
          case measure => simp [iOf]; omega
end
end Go.Proofs.Ytafgcafhgnfegaa
