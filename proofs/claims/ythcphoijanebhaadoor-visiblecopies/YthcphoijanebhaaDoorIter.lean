/-
  The iterator over a log: what it hands on. Conditions: at most 1000000 entries.
-/
import Derived.Test.YthcphoijanebhaaDoorTurns
import Derived.Test.YthcphoijanebhaaDoorNote2
import Derived.RecoverIn
import Derived.LoopIn
namespace Go.Proofs.YthcphoijanebhaaDoor
open Go.RowKit Go.Shelf
attribute [local go_sem] Oper.semAt_some
def iOf : Value → Int | .int _ q => q | _ => 0
theorem log_all (A : Option Addr) (n c : Nat) (w : World) : Calls Tryd.prog 78 #[.slice A n c] w fun e w' => e = .returned (.func (.func 90) #[] #[.pointer (some ⟨w.heap.size, 0, none⟩)]) ∧ w.alloc (.cells #[.slice A n c] 100) = w' := by
  go_enter Tryd.func78, Tryd.ntmps78
  go_wp2_with fail
  go_ret
  exact ⟨rfl, rfl⟩
/-- The entries lie as they lay. -/
def KeepL (A : Option Addr) (B : Nat) (W W' : World) : Prop := W.heap.size ≤ W'.heap.size ∧ ∀ ad, A = some ad → ad.block < B → W'.heap[ad.block]? = W.heap[ad.block]?
theorem Rd.keepL {w w' : World} {X : Nat → Prop} {A : Option Addr} {k n B : Nat} {css : List (Array Value)} (h : Rd w X k A n css) (hk : KeepL A B w w') (hB : 0 < n → ∀ ad, A = some ad → ad.block < B) : Rd w' X k A n css :=
  ⟨h.1, h.2.1, fun hn => by
    obtain ⟨ad, e, hb, hx, hc⟩ := h.2.2 hn
    exact ⟨ad, e, Nat.lt_of_lt_of_le hb hk.1, hx, fun j u hu => (World.cell?_of_block (a := ad.add j) (by rw [block_of_add]; exact hk.2 ad e (hB hn ad e))).trans (hc j u hu)⟩⟩
theorem cellsOf_at {l : List Ent} {k : Nat} {e : Ent} (h : l[k]? = some e) : (cellsOf l)[k]? = some e.cells := by unfold cellsOf; rw [List.getElem?_map, h]; rfl
/-- The cells of the entry at place k, in the form in which a load asks for them. -/
theorem Rd.ent {w : World} {X : Nat → Prop} {n : Nat} {A : Option Addr} {l : List Ent} (h : Rd w X 6 A n (cellsOf l)) {k : Nat} {e : Ent} (hk : l[k]? = some e) : ∃ ad, A = some ad ∧ ad.block < w.heap.size ∧ ¬ X ad.block ∧
    w.cell? (ad.add (k * 6)) = some (.int .i64 e.epoch) ∧ w.cell? ⟨(ad.add (k * 6)).block, (ad.add (k * 6)).off + 1, none⟩ = some (.int .i64 e.id) ∧ w.cell? ⟨(ad.add (k * 6)).block, (ad.add (k * 6)).off + 2, none⟩ = some (.int .i64 e.num) ∧
    w.cell? ⟨(ad.add (k * 6)).block, (ad.add (k * 6)).off + 3, none⟩ = some (.int .i64 e.seq) ∧ w.cell? ⟨(ad.add (k * 6)).block, (ad.add (k * 6)).off + 4, none⟩ = some (.int .i64 e.kind) ∧ w.cell? ⟨(ad.add (k * 6)).block, (ad.add (k * 6)).off + 5, none⟩ = some (.int .i64 e.value) := by
  obtain ⟨ad, e1, h1, h2, h3, h4⟩ := h.load (cellsOf_at hk)
  exact ⟨ad, e1, h1, h2, h3 _ rfl, h4 0 _ rfl, h4 1 _ rfl, h4 2 _ rfl, h4 3 _ rfl, h4 4 _ rfl⟩
theorem Rd.lenE {w : World} {X : Nat → Prop} {n : Nat} {A : Option Addr} {l : List Ent} (h : Rd w X 6 A n (cellsOf l)) : l.length = n := by have := h.1; simpa [cellsOf] using this
/-- What is handed on. -/
def encE (l : List Ent) (k : Nat) : Array Value := #[.int .i64 (k : Int), (l.getD k .none_).val]
theorem encE_at {l : List Ent} {k : Nat} {e : Ent} (h : l[k]? = some e) : encE l k = #[.int .i64 (k : Int), .agg #[.int .i64 e.epoch, .int .i64 e.id, .int .i64 e.num, .int .i64 e.seq, .int .i64 e.kind, .int .i64 e.value]] := by unfold encE; rw [List.getD_eq_getElem?_getD, h]; rfl
set_option maxRecDepth 100000 in
set_option maxHeartbeats 4000000 in
theorem all_in (nf : Nat) (hnf : 1 ≤ nf) (bx : Nat) {X : Nat → Prop} (A : Option Addr) (n c : Nat) (l : List Ent) (w : World) (hcx : w.cell? ⟨bx, 0, none⟩ = some (.slice A n c)) (hl : Rd w X 6 A n (cellsOf l)) (hn : n ≤ 1000000) (B0 : Nat) (hB0 : 0 < n → ∀ ad, A = some ad → ad.block < B0) :
    SeqN Fence.wide nf Tryd.prog 90 #[.pointer (some ⟨bx, 0, none⟩)] (encE l) n (KeepL A B0) w := fun lo J Jx W hW hJ hJx hY h0 => by
  have hcW := (hW.cell (p := ⟨bx, 0, none⟩) (block_lt_of_cell hcx) (fun h => h)).trans hcx
  have hlW := hl.keep hW (fun _ _ h => h.elim)
  have hlen := hl.lenE
  have HBK := Lib.hid hB0
  refine callsIn_of_wp Tryd.func90 rfl trivial ?_ rfl
  simp only [Tryd.ntmps90, List.size_toArray, List.length_cons, List.length_nil, Nat.reduceAdd, Nat.reduceSub, Array.replicate_succ, Array.replicate_zero, List.push_toArray, List.append_toArray, List.nil_append, List.cons_append]
  have HY := Lib.hid hY
  have HJ := Lib.hid hJ
  have HJX := Lib.hid hJx
  have HLW := Lib.hid hlW
  have HLEN := Lib.hid hlen
  clear hY hJ hJx hW hcx hl hlW hB0 hlen
  gi_wp2
  gi_loopw [7] (fun i wr => ∃ k : Nat, k ≤ n ∧ i = .int .i64 k ∧ J k wr ∧ KeepL A B0 W wr) (fun i _ => n - (iOf i).toNat)
  case atStart => exact ⟨0, by omega, rfl, h0, Nat.le_refl _, fun _ _ _ => rfl⟩
  case round =>
    obtain ⟨k, hk, rfl, hJs, hkr⟩ := hrel
    have HK := Lib.hid hkr
    have HJS := Lib.hid hJs
    clear hkr hJs
    by_cases hlt : k < n
    case neg =>
      have hd1 : decide (k < n) = false := by simpa using hlt
      obtain rfl : k = n := by omega
      gi_wp2
      go_end0
      exact ⟨⟨_, rfl⟩, .inl HJS.out⟩
    case pos =>
    obtain ⟨e, he⟩ : ∃ e, l[k]? = some e := ⟨_, List.getElem?_eq_getElem (by rw [HLEN.out]; exact hlt)⟩
    obtain ⟨ad, rfl, hadl, -, c0, c1, c2, c3, c4, c5⟩ := (HLW.out.keepL HK.out HBK.out).ent he
    have HJ2 := Lib.hid (HJ.out _ _ _ HJS.out (turn_alloc wr (.cells #[.int .i64 e.epoch, .int .i64 e.id, .int .i64 e.num, .int .i64 e.seq, .int .i64 e.kind, .int .i64 e.value] 45) No))
    have HK2 : Hid (KeepL (some ad) B0 wr (wr.alloc (.cells #[.int .i64 e.epoch, .int .i64 e.id, .int .i64 e.num, .int .i64 e.seq, .int .i64 e.kind, .int .i64 e.value] 45))) := Lib.hid ⟨by simp, fun x e _ => by injection e with e; subst e; exact Below.heap_alloc wr _ _ hadl⟩
    have HE := Lib.hid (encE_at he)
    obtain ⟨fn, tmps, assign, body, hy, hR⟩ := HY.out _ _ HJ2.out hlt
    rw [HE.out] at hy
    have hd1 : decide (k < n) = true := by simpa using hlt
    clear he
    gi_wp2
    refine hR.mono ?_
    rintro r W' (⟨rfl, hJ', hk'⟩ | ⟨rfl, hJ'⟩)
    · have HJ3 := Lib.hid hJ'
      have HK3 := Lib.hid hk'
      clear hy hJ' hk' hR c0 c1 c2 c3 c4 c5
      gi_wp2
      go_roundw
      case rel => exact ⟨k + 1, by omega, by go_num, HJ3.out, Nat.le_trans (Nat.le_trans HK.out.1 HK2.out.1) HK3.out.1, fun x e hb => ((HK3.out.2 x e hb).trans (HK2.out.2 x e hb)).trans (HK.out.2 x e hb)⟩
      case measure => simp [iOf]; omega
    · have HJ3 := Lib.hid hJ'
      clear hy hJ' hR c0 c1 c2 c3 c4 c5
      gi_wp2
      refine bodyPost_ret (results_none rfl _ _ _) rfl ?_
      exact ⟨⟨_, rfl⟩, .inr ⟨_, hlt, HJ3.out⟩⟩
end Go.Proofs.YthcphoijanebhaaDoor
