/-
  The iterator over a map of open transactions, by their firsts. Conditions: at most 5000 keys.
-/
import Derived.Test.YtafgcafhgnfegaaByValue
namespace Go.Proofs.Ytafgcafhgnfegaa
open Go.RowKit Go.Maps Go.Shelf
attribute [local go_sem] Oper.semAt_some
set_option linter.unusedVariables false
section
variable {w w' : World} {m : Nat} {o : List (Int × Nat)}
/-- What is known behind byValue. -/
def ByP (w : World) (m : Nat) (o : List (Int × Nat)) (e : Ending) (w' : World) : Prop :=
  ∃ b3 A c, e = .returned (.func (.func 68) #[] #[.pointer (some ⟨b3, 0, none⟩), .pointer (some ⟨w.heap.size, 0, none⟩)]) ∧ w'.cell? ⟨b3, 0, none⟩ = some (.slice A o.length c) ∧ w'.cell? ⟨w.heap.size, 0, none⟩ = some (.map (some m)) ∧
    Rd w' (fun b => b < w.heap.size) 1 A o.length (keyRow o) ∧ Below w.heap.size w w'
set_option maxRecDepth 100000 in
set_option maxHeartbeats 1000000 in
theorem byValue_any {n : Nat} (h : OM w m o) (ho : Ordered o n) : Calls Try.prog 51 #[.map (some m)] w (ByP w m o) := by
  have HH := Lib.hid h
  have HO := Lib.hid ho
  have hk : ∀ W : World, Calls Try.prog 65 #[.map (some m)] W fun e w' => e = .returned (.func (.func 77) #[] #[.pointer (some ⟨W.heap.size, 0, none⟩)]) ∧ w' = W.alloc (.cells #[.map (some m)] 71) := fun W =>
    callsIn_wide.1 (AnyZI.keys_in (ρ := Try.keys65_ren) Try.keys65 Fence.wide 5 trivial rfl (some m) W)
  clear h ho
  go_enter Try.func51, Try.ntmps51
  go_wp2_with fail
  refine (hk _).mono ?_
  rintro e w2 ⟨rfl, hw2⟩
  have hb1 : (w.alloc (.cells #[.map (some m)] 71)).cell? ⟨w.heap.size, 0, none⟩ = some (.map (some m)) := (Blk.new w 71 _).cell 0
  have hz1 : (w.alloc (.cells #[.map (some m)] 71)).heap.size = w.heap.size + 1 := by simp
  have hc1 : w2.cell? ⟨w.heap.size, 0, none⟩ = some (.map (some m)) := by rw [hw2]; exact (World.cell?_alloc_lt _ _ ⟨w.heap.size, 0, none⟩ (by simp)).trans hb1
  have hc2 : w2.cell? ⟨(w.alloc (.cells #[.map (some m)] 71)).heap.size, 0, none⟩ = some (.map (some m)) := by rw [hw2]; exact (Blk.new _ 71 _).cell 0
  have hb02 : Below w.heap.size w w2 := by rw [hw2]; exact ((Below.refl _ _).alloc (Nat.le_refl _) _).alloc (by simp) _
  rw [hz1] at hc2
  have hcall := sorted_any (HH.out.keepB (hb02.block _ HH.out.lt)) HO.out hc1 hc2
  have HB2 := Lib.hid hb02
  have HC1 := Lib.hid hc1
  have hz2 : w2.heap.size = w.heap.size + 2 := by rw [hw2]; simp
  have HZ2 := Lib.hid hz2
  clear hw2 hb1 hb02 hk hz2 hz1 hc2
  go_wp2_with fail
  refine hcall.mono ?_
  rintro e w3 ⟨A, c, rfl, hr, hb⟩
  have hb03 := HB2.out.trans (hb.mono HB2.out.size)
  have hlt : w.heap.size < w2.heap.size := by have := HZ2.out; omega
  have HF : Hid (ByP w m o (.returned (.func (.func 68) #[] #[.pointer (some ⟨w3.heap.size, 0, none⟩), .pointer (some ⟨w.heap.size, 0, none⟩)])) (w3.alloc (.cells #[.slice A o.length c] 59))) := Lib.hid
    ⟨_, A, c, rfl, (Blk.new w3 59 #[.slice A o.length c]).cell 0, (World.cell?_alloc_lt w3 _ ⟨w.heap.size, 0, none⟩ (by show w.heap.size < w3.heap.size; have := hb.size; omega)).trans ((hb.cell (p := ⟨w.heap.size, 0, none⟩) hlt).trans HC1.out), (hr.wide (fun b _ h => by show b < w2.heap.size; have : b < w.heap.size := h; omega)).alloc _, hb03.alloc hb03.size _⟩
  clear hcall hr hb hb03 hc1
  go_wp2_with fail
  go_ret
  exact HF.out
/-- The map, its box and the keys' row lie as they lay. -/
def KeepV (A : Option Addr) (b1 m B : Nat) (W W' : World) : Prop := W.heap.size ≤ W'.heap.size ∧ W'.heap[m]? = W.heap[m]? ∧ W'.heap[b1]? = W.heap[b1]? ∧ ∀ ad, A = some ad → ad.block < B → W'.heap[ad.block]? = W.heap[ad.block]?
theorem KeepV.refl (A : Option Addr) (b1 m B : Nat) (W : World) : KeepV A b1 m B W W := ⟨Nat.le_refl _, rfl, rfl, fun _ _ _ => rfl⟩
theorem KeepV.trans {A : Option Addr} {b1 m B : Nat} {W W1 W2 : World} (h : KeepV A b1 m B W W1) (k : KeepV A b1 m B W1 W2) : KeepV A b1 m B W W2 := ⟨Nat.le_trans h.1 k.1, k.2.1.trans h.2.1, k.2.2.1.trans h.2.2.1, fun ad e hb => (k.2.2.2 ad e hb).trans (h.2.2.2 ad e hb)⟩
/-- What is handed on. -/
def encO (o : List (Int × Nat)) (k : Nat) : Array Value := #[.int .i64 (o.getD k (0, 0)).1, .int .i64 ((o.getD k (0, 0)).2 : Int)]
theorem encO_at {k : Nat} {p : Int × Nat} (h : o[k]? = some p) : encO o k = #[.int .i64 p.1, .int .i64 (p.2 : Int)] := by unfold encO; rw [List.getD_eq_getElem?_getD, h]; rfl
theorem Rd.keepV {X : Nat → Prop} {k n b1 B : Nat} {A : Option Addr} {css : List (Array Value)} (h : Rd w X k A n css) (hk : KeepV A b1 m B w w') (hB : 0 < n → ∀ ad, A = some ad → ad.block < B) : Rd w' X k A n css :=
  ⟨h.1, h.2.1, fun hn => by
    obtain ⟨ad, e, hb, hx, hc⟩ := h.2.2 hn
    exact ⟨ad, e, Nat.lt_of_lt_of_le hb hk.1, hx, fun j u hu => (World.cell?_of_block (a := ad.add j) (by rw [block_of_add]; exact hk.2.2.2 ad e (hB hn ad e))).trans (hc j u hu)⟩⟩
set_option maxRecDepth 100000 in
set_option maxHeartbeats 4000000 in
theorem by_in (nf : Nat) (hnf : 1 ≤ nf) (b3 b1 : Nat) {X : Nat → Prop} (A : Option Addr) (c : Nat) (hc3 : w.cell? ⟨b3, 0, none⟩ = some (.slice A o.length c)) (hc1 : w.cell? ⟨b1, 0, none⟩ = some (.map (some m))) (hr : Rd w X 1 A o.length (keyRow o)) (hm : OM w m o) (B0 : Nat) (hB0 : 0 < o.length → ∀ ad, A = some ad → ad.block < B0) :
    SeqN Fence.wide nf Try.prog 68 #[.pointer (some ⟨b3, 0, none⟩), .pointer (some ⟨b1, 0, none⟩)] (encO o) o.length (KeepV A b1 m B0) w := fun lo J Jx W hW hJ hJx hY h0 => by
  have hcW := (hW.cell (p := ⟨b3, 0, none⟩) (block_lt_of_cell hc3) (fun h => h)).trans hc3
  have hcW1 := (hW.cell (p := ⟨b1, 0, none⟩) (block_lt_of_cell hc1) (fun h => h)).trans hc1
  have hrW := hr.keep hW (fun _ _ h => h.elim)
  have hmW := hm.keepB (hW.block m hm.lt (fun h => h))
  have hlen := hm.2.2.1
  refine callsIn_of_wp Try.func68 rfl trivial ?_ rfl
  simp only [Try.ntmps68, List.size_toArray, List.length_cons, List.length_nil, Nat.reduceAdd, Nat.reduceSub, Array.replicate_succ, Array.replicate_zero, List.push_toArray, List.append_toArray, List.nil_append, List.cons_append]
  have HB0 := Lib.hid hB0
  clear hB0
  have HY := Lib.hid hY
  have HJ := Lib.hid hJ
  have HJX := Lib.hid hJx
  have HRW := Lib.hid hrW
  have HMW := Lib.hid hmW
  have HCW1 := Lib.hid hcW1
  clear hY hJ hJx hW hc3 hc1 hr hrW hm hmW hcW1
  gi_wp2
  gi_loopw [8] (fun i wr => ∃ k : Nat, k ≤ o.length ∧ i = .int .i64 k ∧ J k wr ∧ KeepV A b1 m B0 W wr) (fun i _ => o.length - (iOf i).toNat)
  case atStart => exact ⟨0, by omega, rfl, h0, KeepV.refl _ _ _ _ _⟩
  case round =>
    obtain ⟨k, hk, rfl, hJs, hkr⟩ := hrel
    have HK := Lib.hid hkr
    have HJS := Lib.hid hJs
    clear hkr hJs
    by_cases hlt : k < o.length
    case neg =>
      have hd1 : decide (k < o.length) = false := by simpa using hlt
      obtain rfl : k = o.length := by omega
      gi_wp2
      go_end0
      exact ⟨⟨_, rfl⟩, .inl HJS.out⟩
    case pos =>
    obtain ⟨p, hp⟩ : ∃ p, o[k]? = some p := ⟨_, List.getElem?_eq_getElem hlt⟩
    obtain ⟨ad, rfl, hcell⟩ := (HRW.out.keepV HK.out HB0.out).one (i := k) (v := .int .i64 p.1) (by unfold keyRow; rw [List.getElem?_map, hp]; rfl)
    have hmk := HMW.out.keepB HK.out.2.1
    have hc1k : wr.cell? ⟨b1, 0, none⟩ = some (.map (some m)) := (World.cell?_of_block (a := ⟨b1, 0, none⟩) HK.out.2.2.1).trans HCW1.out
    have hlook := hmk.look (hmk.2.2.2 p (List.mem_of_getElem? hp))
    rw [mem_find hmk.2.1 (show (p.1, p.2) ∈ o from List.mem_of_getElem? hp)] at hlook
    simp only [Option.getD_some] at hlook
    have HE := Lib.hid (encO_at hp)
    obtain ⟨fn, tmps, assign, body, hy, hR⟩ := HY.out _ _ HJS.out hlt
    rw [HE.out] at hy
    have hd1 : decide (k < o.length) = true := by simpa using hlt
    clear hp hmk
    gi_wp2
    refine hR.mono ?_
    rintro r W' (⟨rfl, hJ', hk'⟩ | ⟨rfl, hJ'⟩)
    · have HJ3 := Lib.hid hJ'
      have HK3 := Lib.hid hk'
      clear hy hJ' hk' hR hcell hc1k hlook
      gi_wp2
      go_roundw
      case rel => exact ⟨k + 1, by omega, by go_num, HJ3.out, HK.out.trans HK3.out⟩
      case measure => simp [iOf]; omega
    · have HJ3 := Lib.hid hJ'
      clear hy hJ' hR hcell hc1k hlook
      gi_wp2
      refine bodyPost_ret (results_none rfl _ _ _) rfl ?_
      exact ⟨⟨_, rfl⟩, .inr ⟨_, hlt, HJ3.out⟩⟩
end
end Go.Proofs.Ytafgcafhgnfegaa
