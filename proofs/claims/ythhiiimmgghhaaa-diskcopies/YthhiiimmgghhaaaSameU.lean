/-
  Files that are the same. Conditions: bounds.
-/
import Derived.Test.YthhiiimmgghhaaaSameT
namespace Go.Proofs.Ythhiiimmgghhaaa
open Go.RowKit
set_option maxRecDepth 100000 in
set_option maxHeartbeats 4000000 in
theorem eq77_yes {w : World} {S1 S2 : Nat → Prop} {m1 m2 b1 b2 : Nat} {l : FL} (h1 : FM w S1 m1 l) (h2 : FM w S2 m2 l) (c1 : w.cell? ⟨b1, 0, none⟩ = some (.map (some m1))) (c2 : w.cell? ⟨b2, 0, none⟩ = some (.map (some m2))) {n : Bs} (hn : n.length ≤ maxLen) :
    Calls Try.prog 77 #[.string (str n), .string (str n), .pointer (some ⟨b1, 0, none⟩), .pointer (some ⟨b2, 0, none⟩)] w fun e w' => e = .returned (.bool true) ∧ w = w' := by
  obtain ⟨v1, k1, o1, -⟩ := h1.look hn
  obtain ⟨v2, k2, o2, -⟩ := h2.look hn
  obtain ⟨A1, q1, r1, rfl, -, -, -⟩ := o1.form
  obtain ⟨A2, q2, r2, rfl, -, -, -⟩ := o2.form
  have HE := Lib.hid (equal_any A1 q1 r1 _ A2 q2 r2 _ No No w (o1.bys (fun _ _ h => h)) (o2.bys (fun _ _ h => h)))
  have hbe : ((str n).toList == (str n).toList) = true := by simp
  clear h1 h2 o1 o2
  go_enter Try.func77, Try.ntmps77
  go_wp2_with (go_at_call 78; refine HE.out.mono ?_; rintro e w' ⟨rfl, rfl⟩)
  go_ret
  exact ⟨by simp, rfl⟩
set_option maxRecDepth 100000 in
set_option maxHeartbeats 4000000 in
theorem alikeS_yes {w : World} {A B : Option Addr} {n c k : Nat} {ns : List Bs} {b1 b2 : Nat} (ha : OwnS w (.slice A n c) ns) (hb : OwnS w (.slice B n k) ns) (hn : n ≤ 1000000000)
    (hf : ∀ x ∈ ns, Calls Try.prog 77 #[.string (str x), .string (str x), .pointer (some ⟨b1, 0, none⟩), .pointer (some ⟨b2, 0, none⟩)] w fun e w' => e = .returned (.bool true) ∧ w = w') :
    Calls Try.prog 76 #[.slice A n c, .slice B n k, .func (.func 77) #[] #[.pointer (some ⟨b1, 0, none⟩), .pointer (some ⟨b2, 0, none⟩)]] w fun e w' => e = .returned (.bool true) ∧ w = w' := by
  have HA := Lib.hid ha
  have HB := Lib.hid hb
  have HF := Lib.hid hf
  have HL : Hid (n = ns.length) := Lib.hid (by obtain ⟨A', q', c', e, hq, _⟩ := ha.form; cases e; exact hq)
  clear ha hb hf
  go_enter Try.func76, Try.ntmps76
  go_wp2_with fail
  go_loopw [7, 8, 16] (fun _ _ i wr => ∃ k : Nat, k ≤ n ∧ i = .int .i64 k ∧ w = wr) (fun _ _ i _ => n - (intOf i).toNat)
  case atStart => exact ⟨0, by omega, rfl, rfl⟩
  case round =>
    obtain ⟨j, hj, rfl, rfl⟩ := hrel
    by_cases hlt : j < n
    case neg =>
      have hd1 : decide (j < n) = false := by simpa using hlt
      go_wp2_with fail
      go_ret
      exact ⟨rfl, (by first | rfl | trivial)⟩
    case pos =>
    have hjl : j < ns.length := by have := HL.out; omega
    obtain ⟨g1, rfl, hg1, x1⟩ := HA.out.at_ hjl
    obtain ⟨g2, rfl, hg2, x2⟩ := HB.out.at_ hjl
    have HC := Lib.hid (HF.out ns[j] (List.getElem_mem hjl))
    go_wp2_with fail
    refine HC.out.mono ?_
    rintro e w' ⟨rfl, rfl⟩
    go_wp2_with fail
    exact ⟨⟨j + 1, by omega, by go_num, (by first | rfl | trivial)⟩, by simp [intOf]; omega⟩
theorem FM.name_len {w : World} {S : Nat → Prop} {m : Nat} {l : FL} (h : FM w S m l) {p : Bs × Bs} (hp : p ∈ l) : p.1.length ≤ 24 := by
  obtain ⟨vs, h1, h2, h3, h4, h5, h6, h7⟩ := h
  exact (h6 p.1 p.2 (find_of_mem h2 hp)).1
set_option maxRecDepth 100000 in
set_option maxHeartbeats 4000000 in
theorem sameF_yes {w : World} {S1 S2 : Nat → Prop} {m1 m2 : Nat} {u1 u2 : Int} {l : FL} (h1 : FM w S1 m1 l) (h2 : FM w S2 m2 l) : Calls Try.prog 58 #[.agg #[.map (some m1), .int .i64 u1], .agg #[.map (some m2), .int .i64 u2]] w fun e w' => e = .returned (.bool true) ∧ Below w.heap.size w w' := by
  have H1 := Lib.hid h1
  have H2 := Lib.hid h2
  have hlen := h1.len
  clear h1 h2
  go_enter Try.func58, Try.ntmps58
  have k1 : Blk ((w.alloc (.cells #[.map (some m1), .int .i64 u1] 78)).alloc (.cells #[.map (some m2), .int .i64 u2] 78)) w.heap.size 78 #[.map (some m1), .int .i64 u1] := (Blk.new _ _ _).alloc _
  have k2 : Blk ((w.alloc (.cells #[.map (some m1), .int .i64 u1] 78)).alloc (.cells #[.map (some m2), .int .i64 u2] 78)) (w.heap.size + 1) 78 #[.map (some m2), .int .i64 u2] := by
    have := Blk.new (w.alloc (.cells #[.map (some m1), .int .i64 u1] 78)) 78 #[.map (some m2), .int .i64 u2]
    rwa [World.size_alloc] at this
  have hb0 : Below w.heap.size w ((w.alloc (.cells #[.map (some m1), .int .i64 u1] 78)).alloc (.cells #[.map (some m2), .int .i64 u2] 78)) := ((Below.refl _ _).alloc (Nat.le_refl _) _).alloc (by simp) _
  go_wp2_with fail
  generalize (w.alloc (.cells #[.map (some m1), .int .i64 u1] 78)).alloc (.cells #[.map (some m2), .int .i64 u2] 78) = w1 at *
  refine (names_any (H1.out.keep (T := No) (Turn.of_below hb0 No) (fun _ _ h => h)) w.heap.size 0 (k1.cell 0)).mono ?_
  rintro e w2 ⟨v2, rfl, ho2, -, hb2⟩
  have hbw2 := hb0.trans (hb2.mono hb0.size)
  go_wp2_with fail
  refine (names_any (H2.out.keep (T := No) (Turn.of_below hbw2 No) (fun _ _ h => h)) (w.heap.size + 1) 0 ((k2.below hb2 k2.lt).cell 0)).mono ?_
  rintro e w3 ⟨v3, rfl, ho3, -, hb3⟩
  have hbw3 := hbw2.trans (hb3.mono hbw2.size)
  have ho2' : OwnS w3 v2 (l.map (·.1)) := ho2.keepB (fun g e => hb3.block g (ho2.lt e))
  obtain ⟨A2, q2, c2, rfl, hq2, -, -⟩ := ho2'.form
  obtain ⟨A3, q3, c3, rfl, hq3, -, -⟩ := ho3.form
  obtain rfl : q3 = q2 := by omega
  have k13 := (k1.below hb2 k1.lt).below hb3 (k1.below hb2 k1.lt).lt
  have k23 := (k2.below hb2 k2.lt).below hb3 (k2.below hb2 k2.lt).lt
  have f1 : w3.cell? ⟨w.heap.size, 0, none⟩ = some (.map (some m1)) := k13.cell 0
  have f2 : w3.cell? ⟨w.heap.size + 1, 0, none⟩ = some (.map (some m2)) := k23.cell 0
  have hq : q3 ≤ 1000000000 := by rw [List.length_map] at hq2; omega
  have F1 := H1.out.keep (T := No) (Turn.of_below hbw3 No) (fun _ _ h => h)
  have F2 := H2.out.keep (T := No) (Turn.of_below hbw3 No) (fun _ _ h => h)
  have hnl : ∀ x ∈ l.map (·.1), x.length ≤ maxLen := fun x hx => by
    obtain ⟨y, hy, rfl⟩ := List.mem_map.1 hx
    have := H1.out.name_len hy
    unfold maxLen
    omega
  have HC := Lib.hid (alikeS_yes (c := c2) (k := c3) (b1 := w.heap.size) (b2 := w.heap.size + 1) ho2' ho3 hq (fun x hx => eq77_yes F1 F2 f1 f2 (hnl x hx)))
  clear ho2 ho2' ho3 k1 k2 k13 k23 f1 f2 F1 F2 hnl hq2 hq3
  go_wp2_with fail
  refine HC.out.mono ?_
  rintro e w' ⟨rfl, rfl⟩
  go_wp2_with fail
  go_ret
  exact ⟨rfl, hbw3⟩
end Go.Proofs.Ythhiiimmgghhaaa
