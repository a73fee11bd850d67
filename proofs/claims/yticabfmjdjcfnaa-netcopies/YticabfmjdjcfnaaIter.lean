/-
  net.messages.inOrder: the messages by their numbers, rising, one by one. Conditions: at most 1000000 messages.
-/
import Derived.Test.YticabfmjdjcfnaaTurns
import Derived.Test.YticabfmjdjcfnaaOpen
import Derived.Shelf.Abstract
import Derived.OwnWalkIn
import Derived.TacticsInMore
namespace Go.Proofs.Yticabfmjdjcfnaa
open Go.RowKit Go.Shelf
attribute [local go_sem] Oper.semAt_some
theorem mf : ∀ (fn : Fn) (bs : Array Value) (w : World), (Instr.makeFunc fn #[] bs).run Try.prog w = .ok (.func fn #[] bs) w := fun fn bs w => by
  rfl
theorem inOrder_any (m : Nat) (w : World) : Calls Try.prog 36 #[.map (some m)] w fun e w' => e = .returned (.func (.func 47) #[] #[.pointer (some ⟨w.heap.size, 0, none⟩)]) ∧ w.alloc (.cells #[.map (some m)] 69) = w' := by
  have hmf := mf
  go_enter Try.func36, Try.ntmps36
  go_wp2_with fail
  go_ret
  exact ⟨rfl, rfl⟩
theorem OwnN.keep {w w' : World} {v : Value} {ns : List Int} {S : Nat → Prop} (h : OwnN w v ns) (ht : Turn S w w') (hS : ∀ g, v.ownBlock = some g → ¬ S g) : OwnN w' v ns := h.keepB fun g e => ht.block g (h.lt e) (hS g e)
theorem numbers_form {w : World} {X : Nat → Prop} {m : Nat} {l : Row} (h : NM w X m l) :
    Calls Try.prog 48 #[.map (some m)] w fun e w' => ∃ A c, e = .returned (.slice A l.length c) ∧ c ≤ maxLen ∧ OwnN w' (.slice A l.length c) (l.map (·.1)) ∧ (∀ r, Value.ownBlock (.slice A l.length c) = some r → w.heap.size ≤ r) ∧ Below w.heap.size w w' := by
  refine (numbers_any h).mono ?_
  rintro e w' ⟨v, rfl, hrow, hnew, hb⟩
  obtain ⟨A, q, c, rfl, hq, hqc, hcm⟩ := hrow.form
  rw [List.length_map] at hq
  subst hq
  exact ⟨A, c, rfl, hcm, hrow, hnew, hb⟩
/-- What is handed on: the number, the message. -/
def VMsg (X : Nat → Prop) (l : Row) (k : Nat) (x : Array Value) (W : World) : Prop := ∃ p v, l[k]? = some p ∧ x = #[.int .i64 p.1, v] ∧ MsgV W X p.2 v
/-- What a round may turn. -/
def Mine2 (T : Nat → Prop) (B : Nat) : Nat → Prop := fun b => T b ∨ two B b
set_option maxRecDepth 100000 in
set_option maxHeartbeats 4000000 in
theorem iter_in (n : Nat) (hn : 1 ≤ n) (bx m : Nat) (l : Row) (X T : Nat → Prop) (w : World) (hc : w.cell? ⟨bx, 0, none⟩ = some (.map (some m))) (hM : NM w X m l) (hT : ∀ b, T b → b ≠ bx ∧ b ≠ m ∧ X b) (hTl : ∀ b, T b → b < w.heap.size) :
    SeqV (Turn No) Fence.wide n Try.prog 47 #[.pointer (some ⟨bx, 0, none⟩)] (VMsg X l) l.length (fun _ => Turn (Mine2 T w.heap.size)) w := fun lr J Jx W hW hsz hJ hJx hY h0 => by
  have hbx := block_lt_of_cell hc
  have hml := hM.lt
  have hlen := hM.len
  have hrs := hM.rises
  have hcW := (hW.cell (p := ⟨bx, 0, none⟩) hbx (fun h => h)).trans hc
  have hMW : NM W X m l := hM.keep hW (fun _ _ h => h.elim) (fun h => h)
  have hnum := callsIn_wide (n := n - 1) |>.2 (numbers_form hMW)
  have hfS : Fence.wide.fn 48 := trivial
  refine callsIn_of_wp Try.func47 rfl trivial ?_ rfl
  simp only [Try.ntmps47, List.size_toArray, List.length_cons, List.length_nil, Nat.reduceAdd, Nat.reduceSub, Array.replicate_succ, Array.replicate_zero, List.push_toArray, List.append_toArray, List.nil_append, List.cons_append]
  have HY := Lib.hid hY
  have HJ := Lib.hid hJ
  have HJX := Lib.hid hJx
  have HM := Lib.hid hM
  have HC := Lib.hid hc
  have HT := Lib.hid hT
  have HTL := Lib.hid hTl
  have HWT := Lib.hid hW
  have HR := Lib.hid hrs
  clear hY hJ hJx hW hc hM hMW hrs hT hTl
  gi_wp2_with (gi_at_call 48; refine hnum.mono ?_; rintro e W1 ⟨A, c, rfl, hcm, hrow, hnew, hb1⟩)
  have h1 : J 0 W1 := HJ.out 0 _ _ h0 (Turn.of_below hb1 No)
  have hTk : Turn (Mine2 T w.heap.size) w W1 := (HWT.out.mono (fun _ _ e => e.elim)).trans (Turn.of_below hb1 (Mine2 T w.heap.size)) (fun _ _ e => e)
  unfold maxLen at hcm
  clear hnum hcW h0
  gi_loopw [8] (fun i wr => ∃ k : Nat, k ≤ l.length ∧ i = .int .i64 k ∧ J k wr ∧ Turn (Mine2 T w.heap.size) w wr ∧ OwnN wr (.slice A l.length c) (l.map (·.1))) (fun i _ => l.length - (intOf i).toNat)
  case atStart => exact ⟨0, by omega, rfl, h1, hTk, hrow⟩
  case round =>
    obtain ⟨k, hk, rfl, hJs, hkr, hro⟩ := hrel
    clear h1 hTk hrow
    by_cases hlt : k < l.length
    · obtain ⟨r, rfl, hrl, hcell⟩ := hro.at_ (i := k) (by rw [List.length_map]; exact hlt)
      have hcell' : wr.cell? ⟨r, k, none⟩ = some (.int .i64 l[k].1) := by rw [hcell, List.getElem_map]
      have hcl : wr.cell? ((⟨r, 0, none⟩ : Addr).add k) = some (.int .i64 l[k].1) := by
        have hadd : (⟨r, 0, none⟩ : Addr).add k = ⟨r, k, none⟩ := by unfold Addr.add; split <;> simp_all
        rw [hadd]; exact hcell'
      have hcb : wr.cell? ⟨bx, 0, none⟩ = some (.map (some m)) := (hkr.cell (p := ⟨bx, 0, none⟩) hbx (fun e => by
        rcases e with e | e | e
        · exact (HT.out _ e).1 rfl
        · exact absurd e (by show ¬ bx = _; omega)
        · exact absurd e (by show ¬ bx = _; omega))).trans HC.out
      have hMr : NM wr X m l := HM.out.keep hkr (fun b hb e => by
        rcases e with e | e | e
        · exact (HT.out _ e).2.2
        · omega
        · omega) (fun e => by
        rcases e with e | e | e
        · exact (HT.out _ e).2.1 rfl
        · omega
        · omega)
      obtain ⟨v, hlook, hmv⟩ := hMr.look (find_at HR.out hlt)
      have hV : VMsg X l k #[.int .i64 l[k].1, v] wr := ⟨l[k], v, List.getElem?_eq_getElem hlt, rfl, hmv⟩
      obtain ⟨fn, tmps, assign, body, hy, hR⟩ := HY.out k _ _ hJs hlt hV
      clear hcell hMr hmv hV
      generalize l[k].1 = num at *
      gi_wp2
      refine hR.mono ?_
      rintro e W' (⟨rfl, hJ', hk'⟩ | ⟨rfl, hJ', -⟩)
      · have hro' : OwnN W' (.slice (some ⟨r, 0, none⟩) l.length c) (l.map (·.1)) := hro.keep hk' (fun g e e' => by
          have h2 := hnew g e
          rcases e' with e' | e' | e'
          · have := HTL.out _ e'
            omega
          · omega
          · omega)
        clear hy hcell' hcl hcb hlook
        gi_wp2
        go_roundw
        case rel => exact ⟨k + 1, by omega, by go_num, hJ', hkr.trans hk' (fun _ _ e => e), hro'⟩
        case measure => simp [intOf]; omega
      · clear hy hcell' hcl hcb hlook
        gi_wp2
        refine bodyPost_ret (results_none rfl _ _ _) rfl ?_
        exact ⟨⟨_, rfl⟩, .inr ⟨k, hlt, hJ'⟩⟩
    · have hd1 : decide (k < l.length) = false := by simp; omega
      gi_wp2
      go_end0
      exact ⟨⟨_, rfl⟩, .inl (by rw [show l.length = k from by omega]; exact hJs)⟩
end Go.Proofs.Yticabfmjdjcfnaa
