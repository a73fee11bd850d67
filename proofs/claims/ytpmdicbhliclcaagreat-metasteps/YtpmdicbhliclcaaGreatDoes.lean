/-
  A call of the law: by the controller, and by the document. Conditions: a controller as it is between two calls.
-/
import Derived.Test.YtpmdicbhliclcaaGreatNear
import Derived.Test.YtpmdicbhliclcaaGreatRef40
import Derived.Test.YtpmdicbhliclcaaGreatMElect
import Derived.Test.YtpmdicbhliclcaaGreatMAlter
import Derived.Test.YtpmdicbhliclcaaGreatMAdd
import Derived.Test.YtpmdicbhliclcaaGreatMEnd
import Derived.Test.YtpmdicbhliclcaaGreatMMarked
namespace Go.Proofs.YtpmdicbhliclcaaGreat
open Go.RowKit Go.Maps
set_option linter.unusedVariables false
set_option linter.unusedSimpArgs false
/-- A controller and the document's, side by side. -/
structure Pl (w : World) (g : Nat) (M : Mt) (v : Value) (S Y : Nat → Prop) : Prop where
  mm : Mm w S g M
  rf : Rf w (fun z => S z ∨ Y z) M v
  lt : ∀ b, S b → b < w.heap.size
  yl : ∀ b, Y b → b < w.heap.size
theorem Mm.sg {w : World} {S : Nat → Prop} {g : Nat} {M : Mt} (h : Mm w S g M) : S g := by
  obtain ⟨_, _, _, h, _⟩ := h
  exact h
/-- What comes of an act that is meant. -/
def Mt.does (M : Mt) (y : Ac) (V : List Int) : Mt :=
  if y.kind = 1 then (if M.fenceE y.a = 0 then M.fenceTo M.np y.a else M)
  else if y.kind = 2 then (if M.regE y.a = 0 then { M with lives := setAt M.lives y.a.toNat true } else M)
  else if y.kind = 3 then (if M.electE y.a y.b y.flag = 0 then M.setV y.a.toNat ((M.views y.a.toNat).elect y.b) else M)
  else if y.kind = 4 then (if M.alterE y.a y.b y.n y.o V = 0 then M.setV y.a.toNat ((M.views y.a.toNat).alter V) else M)
  else if y.kind = 5 then (if M.initE y.a = 0 then M.setW y.a.toNat (M.wrs y.a.toNat).begin else M)
  else if y.kind = 6 then (if M.addE y.a y.n y.b = 0 then M.setW y.a.toNat ((M.wrs y.a.toNat).add y.b) else M)
  else if y.kind = 7 then (if M.endE y.a y.n y.o = 0 then M.setW y.a.toNat ((M.wrs y.a.toNat).end_ y.flag y.o) else M)
  else if y.kind = 8 then (if M.markedE y.a y.n y.b = 0 then M.setW y.a.toNat ((M.wrs y.a.toNat).mark y.b) else M)
  else M
def Mt.step (M : Mt) (x : Ac) (V : List Int) : Mt := M.does (M.near x) V
theorem Mt.ok.does {M : Mt} (h : M.ok) (y : Ac) (V : List Int) : (M.does y V).ok := by
  unfold Mt.does
  have hn := h.np
  split
  · split
    · rename_i h0
      unfold Mt.fenceE at h0
      by_cases hin : 0 ≤ y.a ∧ y.a < (M.nb : Int)
      · rw [if_neg (fun q => q hin)] at h0
        have hno : M.ends M.np y.a = false := by
          cases he : M.ends M.np y.a with
          | false => rfl
          | true => rw [he] at h0; simp at h0
        refine ⟨h.nb, h.np, h.ni, fun p hp => ?_, h.wr⟩
        show (if p < M.np then (M.views p).fence y.a else M.views p).ok M.nb
        rw [if_pos (show p < M.np from hp)]
        refine (h.vw p hp).fence (fun hm => ?_)
        have h1 := (h.vw p hp).v1
        rcases Decidable.em ((M.views p).version = 2147483647) with e | e
        · have := Mt.ends_of (show p < M.np from hp) hm e
          rw [hno] at this
          cases this
        · omega
      · rw [if_pos hin] at h0; omega
    · exact h
  split
  · split
    · exact h.live
    · exact h
  split
  · split
    · rename_i h0
      unfold Mt.electE at h0
      by_cases hin : (0 ≤ y.a ∧ y.a < (M.np : Int)) ∧ 0 ≤ y.b ∧ y.b < (M.nb : Int)
      · rw [if_neg (fun q => q hin)] at h0
        refine h.view ((h.vw _ (by omega)).elect hin.2 (fun e => ?_))
        rw [if_pos e] at h0
        split at h0
        · omega
        · split at h0 <;> omega
      · rw [if_pos hin] at h0; omega
    · exact h
  split
  · split
    · rename_i h0
      unfold Mt.alterE at h0
      by_cases hin : (0 ≤ y.a ∧ y.a < (M.np : Int)) ∧ Rise V M.nb ∧ y.b ∈ V
      · rw [if_neg (fun q => q hin)] at h0
        refine h.view ((h.vw _ (by omega)).alter hin.2.1 (List.ne_nil_of_mem hin.2.2) (fun e => ?_))
        rw [if_pos e] at h0
        split at h0
        · omega
        · split at h0 <;> omega
      · rw [if_pos hin] at h0; omega
    · exact h
  split
  · split
    · rename_i h0
      unfold Mt.initE at h0
      by_cases hin : 0 ≤ y.a ∧ y.a < (M.ni : Int)
      · rw [if_neg (fun q => q hin)] at h0
        refine h.writer ((h.wr _ (by omega)).begin (fun e => ?_))
        rw [if_pos e] at h0
        split at h0 <;> omega
      · rw [if_pos hin] at h0; omega
    · exact h
  split
  · split
    · rename_i h0
      unfold Mt.addE at h0
      by_cases hin : (0 ≤ y.a ∧ y.a < (M.ni : Int)) ∧ 0 ≤ y.b ∧ y.b < (M.np : Int)
      · rw [if_neg (fun q => q hin)] at h0
        refine h.writer ((h.wr _ (by omega)).add hin.2 (fun e1 e2 => ?_))
        rw [if_pos (c := (M.wrs y.a.toNat).state = 1 ∧ (M.wrs y.a.toNat).num = 2147483647) ⟨e1, e2⟩] at h0
        split at h0
        · omega
        · split at h0 <;> omega
      · rw [if_pos hin] at h0; omega
    · exact h
  split
  · split
    · rename_i h0
      unfold Mt.endE at h0
      by_cases hin : (0 ≤ y.a ∧ y.a < (M.ni : Int)) ∧ y.o ≤ 2147483647 ∧ (M.wrs y.a.toNat).offset ≤ y.o
      · have ho := (h.wr y.a.toNat (by omega)).o0
        exact h.writer ((h.wr _ (by omega)).end_ (by omega))
      · rw [if_pos hin] at h0; omega
    · exact h
  split
  · split
    · rename_i h0
      unfold Mt.markedE at h0
      by_cases hin : (0 ≤ y.a ∧ y.a < (M.ni : Int)) ∧ 0 ≤ y.b ∧ y.b < (M.np : Int)
      · rw [if_neg (fun q => q hin)] at h0
        refine h.writer ((h.wr _ (by omega)).mark ?_)
        cases hw : (M.wrs y.a.toNat).wants y.n y.b with
        | false => rw [if_pos hw] at h0; omega
        | true => exact (of_decide_eq_true hw).1
      · rw [if_pos hin] at h0; omega
    · exact h
  exact h
theorem do_of {w V0 V1 V2 : World} {S Y : Nat → Prop} {g rx : Nat} {M' : Mt} {v' : Value} (hS : ∀ b, S b → b < w.heap.size) (hY : ∀ b, Y b → b < w.heap.size) (hb : Below w.heap.size w V0) (hd : Did V0 S g M' V1) (hr : Rf V0 (fun z => (S z ∨ Y z) ∨ z = rx) M' v') (h1 : w.heap.size ≤ rx) (h2 : rx < V0.heap.size) (ht : Turn (fun z => z = rx) V1 V2) :
    ∃ S', Pl V2 g M' v' S' Y ∧ (∀ b, b < w.heap.size → S' b → S b) ∧ Turn S w V2 := by
  have hsz : w.heap.size ≤ V2.heap.size := Nat.le_trans hb.size (Nat.le_trans hd.2.size ht.size)
  have hm2 : Mm V2 (fun b => S b ∨ V0.heap.size ≤ b) g M' := hd.1.keep ht (fun b hb e => by
    rcases hb with q | q
    · have := hS b q; omega
    · omega)
  refine ⟨fun b => (S b ∨ V0.heap.size ≤ b) ∧ b < V2.heap.size, ⟨hm2.tight, ?_, fun b q => q.2, fun b q => Nat.lt_of_lt_of_le (hY b q) hsz⟩, fun b hb0 q => q.1.elim id (fun q => by have := hb.size; omega), ((Turn.of_below hb S).trans hd.2 (fun _ _ e => e)).trans (S' := fun z => z = rx) ht (fun b hb0 e => by omega)⟩
  have hr0 : Rf V0 (fun z => ((S z ∨ V0.heap.size ≤ z) ∨ Y z) ∨ z = rx) M' v' := hr.wide (fun b hb0 e => by
    rcases e with ((q | q) | q) | q
    · exact .inl (.inl q)
    · omega
    · exact .inl (.inr q)
    · exact .inr q)
  exact ((hr0.keep hd.2 (fun b _ e => .inl (.inl (.inl e)))).keep ht (fun b _ e => .inr e)).wide (fun b _ e => .inl (e.imp_left (fun q => q.1)))
/-- What the law's call answers. -/
def DoP (w : World) (S Y : Nat → Prop) (g : Nat) (M' : Mt) (r : Ending) (w' : World) : Prop :=
  ∃ v' S', r = .returned (.tuple #[v', .bool true]) ∧ Pl w' g M' v' S' Y ∧ (∀ b, b < w.heap.size → S' b → S b) ∧ Turn S w w'
/-- The blocks of the law's call. -/
structure DoI (w W : World) (m a z : Array Value) : Prop where
  low : Below w.heap.size w W
  gb : Blk W w.heap.size 36 m
  ab : Blk W (w.heap.size + 1) 43 a
  rx : Blk W (w.heap.size + 2) 36 z
theorem DoI.below {w W W1 : World} {m a z : Array Value} (h : DoI w W m a z) (hb : Below W.heap.size W W1) : DoI w W1 m a z := ⟨h.low.trans (hb.mono h.low.size), h.gb.below hb h.gb.lt, h.ab.below hb h.ab.lt, h.rx.below hb h.rx.lt⟩
section
variable {w w' : World} {S X Y : Nat → Prop} {g : Nat} {M : Mt} {v : Value} {x : Int} {r : Ending}
theorem RegP.me (h : RegP w S g M x r w') (hg : S g) : MeP w S g M { M with lives := setAt M.lives x.toNat true } (M.regE x) (.int .i64 (M.regE x)) r w' := by
  rcases h with ⟨h1, rfl, h3, h4⟩ | ⟨b, rfl, h2, rfl, h4, h5⟩
  · have e : M.regE x = 2 := by unfold Mt.regE; exact if_pos h1
    rw [e]
    exact ⟨rfl, by rw [if_neg (by decide)]; exact Did.of_below h3 h4⟩
  · have e : M.regE (b : Int) = 0 := by unfold Mt.regE; exact if_neg (fun q => q ⟨by omega, by omega⟩)
    rw [e]
    refine ⟨rfl, ?_⟩
    rw [if_pos rfl]
    simp only [Int.toNat_natCast]
    exact ⟨h4.wide (fun _ q => .inl q), h5.mono (fun b _ q => q ▸ hg)⟩
theorem InitP.me (h : InitP w S g M x r w') (hg : S g) : MeP w S g M (M.setW x.toNat (M.wrs x.toNat).begin) (M.initE x) (.tuple #[.int .i64 (M.initN x), .int .i64 (M.initF x)]) r w' := by
  rcases h with ⟨h1, rfl, h3, h4⟩ | ⟨h1, p, rfl, h2, rfl, h4, h5⟩
  · obtain ⟨e1, e2⟩ := Mt.init_err (M := M) (x := x) rfl h1
    rw [e1, e2]
    exact ⟨rfl, by rw [if_neg h1]; exact Did.of_below h3 h4⟩
  · refine ⟨?_, ?_⟩
    · unfold Mt.initN Mt.initF
      rw [if_pos h1, if_pos h1]
      simp only [Int.toNat_natCast]
      by_cases h2 : (M.wrs p).state = 2
      · rw [if_pos h2, if_pos h2, if_pos h2]
      · rw [if_neg h2, if_neg h2, if_neg h2]
    · rw [if_pos h1]
      simp only [Int.toNat_natCast]
      exact ⟨h4.wide (fun _ q => .inl q), h5.mono (fun b _ q => q ▸ hg)⟩
set_option maxRecDepth 100000 in
set_option maxHeartbeats 16000000 in
theorem does_any (h : Pl w g M v S Y) (hk : M.ok) (x : Ac) {L : Option Addr} {ll lk : Nat} {V : List Int} (hl : Rd w (fun z => S z ∨ Y z) 1 L ll (intsOf V)) (hll : ll ≤ 1000000) : Calls Tryz.prog 18 #[.pointer (some ⟨g, 0, none⟩), v, .agg (aArr x (.slice L ll lk))] w (DoP w S Y g (M.step x V)) := by
  have hrf := h.rf
  obtain ⟨A1, A2, A3, c1, c2, c3, rs, rfl, hR⟩ := h.rf
  obtain ⟨M1, hM1⟩ : ∃ M1, M.step x V = M1 := ⟨_, rfl⟩
  rw [hM1]
  have HM1 := Lib.hid hM1
  have HI : Hid (DoI w (((w.alloc (.cells #[.int .i64 (M.nb : Int), .int .i64 (M.np : Int), .int .i64 (M.ni : Int), .slice A1 M.nb c1, .slice A2 M.np c2, .slice A3 M.ni c3] 36)).alloc (.cells #[.int .i64 x.kind, .int .i64 x.a, .int .i64 x.b, .int .i64 x.n, .int .i64 x.o, .bool x.flag, .bool x.near, .slice L ll lk] 43)).alloc (.cells #[.int .i64 0, .int .i64 0, .int .i64 0, .slice none 0 0, .slice none 0 0, .slice none 0 0] 36)) #[.int .i64 (M.nb : Int), .int .i64 (M.np : Int), .int .i64 (M.ni : Int), .slice A1 M.nb c1, .slice A2 M.np c2, .slice A3 M.ni c3] #[.int .i64 x.kind, .int .i64 x.a, .int .i64 x.b, .int .i64 x.n, .int .i64 x.o, .bool x.flag, .bool x.near, .slice L ll lk] #[.int .i64 0, .int .i64 0, .int .i64 0, .slice none 0 0, .slice none 0 0, .slice none 0 0]) := Lib.hid ⟨(((Below.refl w.heap.size w).alloc (Nat.le_refl _) (.cells #[.int .i64 (M.nb : Int), .int .i64 (M.np : Int), .int .i64 (M.ni : Int), .slice A1 M.nb c1, .slice A2 M.np c2, .slice A3 M.ni c3] 36)).alloc (le_alloc (Nat.le_refl _) _) (.cells #[.int .i64 x.kind, .int .i64 x.a, .int .i64 x.b, .int .i64 x.n, .int .i64 x.o, .bool x.flag, .bool x.near, .slice L ll lk] 43)).alloc (le_alloc (le_alloc (Nat.le_refl _) _) _) (.cells #[.int .i64 0, .int .i64 0, .int .i64 0, .slice none 0 0, .slice none 0 0, .slice none 0 0] 36), ((Blk.new w 36 _).alloc _).alloc _, (blk_new (w.alloc (.cells #[.int .i64 (M.nb : Int), .int .i64 (M.np : Int), .int .i64 (M.ni : Int), .slice A1 M.nb c1, .slice A2 M.np c2, .slice A3 M.ni c3] 36)) 43 _ (by simp)).alloc _, blk_new ((w.alloc (.cells #[.int .i64 (M.nb : Int), .int .i64 (M.np : Int), .int .i64 (M.ni : Int), .slice A1 M.nb c1, .slice A2 M.np c2, .slice A3 M.ni c3] 36)).alloc (.cells #[.int .i64 x.kind, .int .i64 x.a, .int .i64 x.b, .int .i64 x.n, .int .i64 x.o, .bool x.flag, .bool x.near, .slice L ll lk] 43)) 36 _ (by simp)⟩
  have HS := Lib.hid h.lt
  have HY := Lib.hid h.yl
  have HM := Lib.hid h.mm
  have HK := Lib.hid hk
  have HL := Lib.hid (And.intro hl hll)
  have HRX : Hid (Rf w (fun z => (S z ∨ Y z) ∨ z = (w.heap.size + 2)) M (.agg #[.int .i64 (M.nb : Int), .int .i64 (M.np : Int), .int .i64 (M.ni : Int), .slice A1 M.nb c1, .slice A2 M.np c2, .slice A3 M.ni c3])) := Lib.hid (hrf.wide (fun z hz e => e.elim id (fun e => by omega)))
  have HLX : Hid (Rd w (fun z => (S z ∨ Y z) ∨ z = (w.heap.size + 2)) 1 L ll (intsOf V)) := Lib.hid (hl.wide (fun z hz e => e.elim id (fun e => by omega)))
  clear h hk hl hll hR hrf hM1
  unfold aArr
  go_enter Tryz.func18, Tryz.ntmps18
  go_upto_region 1 with fail
  generalize hw2 : (((w.alloc (.cells #[.int .i64 (M.nb : Int), .int .i64 (M.np : Int), .int .i64 (M.ni : Int), .slice A1 M.nb c1, .slice A2 M.np c2, .slice A3 M.ni c3] 36)).alloc (.cells #[.int .i64 x.kind, .int .i64 x.a, .int .i64 x.b, .int .i64 x.n, .int .i64 x.o, .bool x.flag, .bool x.near, .slice L ll lk] 43)).alloc (.cells #[.int .i64 0, .int .i64 0, .int .i64 0, .slice none 0 0, .slice none 0 0, .slice none 0 0] 36)) = w2 at *
  clear hw2
  go_wp2_with (with_reducible refine at_load 43 rfl ?_)
  refine Stop.go (wpList_load_blk (by rfl) 43 _ (by rfl) (w.heap.size + 1) (by rfl) 43 _ HI.out.ab _ und43 (by rfl) (by kernel_rfl) ?_)
  go_wp2_with (with_reducible refine at_load 36 rfl ?_)
  refine Stop.go (wpList_load_blk (by rfl) 36 _ (by rfl) w.heap.size (by rfl) 36 _ HI.out.gb _ und36 (by rfl) (by kernel_rfl) ?_)
  have hnear := near39_any (HRX.out.below HI.out.low) x L ll lk
  obtain ⟨y, hy⟩ : ∃ y, M.near x = y := ⟨_, rfl⟩
  rw [hy] at hnear
  have HMS : Hid (M.does y V = M1) := Lib.hid (by rw [← HM1.out, ← hy]; rfl)
  clear hy
  go_wp2_with fail
  refine hnear.mono ?_
  rintro r w3 ⟨rfl, hb3⟩
  have HI3 := Lib.hid (HI.out.below hb3)
  clear hnear hb3 HI
  go_wp2_with (with_reducible refine at_store 43 rfl ?_)
  refine Stop.go (wpList_store_blk (by rfl) (by rfl) 43 _ _ (by rfl) (w.heap.size + 1) _ #[.int .i64 y.kind, .int .i64 y.a, .int .i64 y.b, .int .i64 y.n, .int .i64 y.o, .bool y.flag, .bool y.near, .slice L ll lk] (by rfl) (by rfl) 43 HI3.out.ab (by rfl) (by kernel_rfl) (by simp [Value.oneCell']) ?_)
  intro w4 hB4 hg4 hs4
  have hT4 : Turn (fun z => z = (w.heap.size + 1)) w3 w4 := Turn.of_grown hg4 (fun r e => by injection e with e; exact e.symm)
  have HI4 : Hid (DoI w w4 #[.int .i64 (M.nb : Int), .int .i64 (M.np : Int), .int .i64 (M.ni : Int), .slice A1 M.nb c1, .slice A2 M.np c2, .slice A3 M.ni c3] #[.int .i64 y.kind, .int .i64 y.a, .int .i64 y.b, .int .i64 y.n, .int .i64 y.o, .bool y.flag, .bool y.near, .slice L ll lk] #[.int .i64 0, .int .i64 0, .int .i64 0, .slice none 0 0, .slice none 0 0, .slice none 0 0]) := Lib.hid ⟨HI3.out.low.trans (hT4.below HI3.out.low.size (fun z e => by omega)), HI3.out.gb.keep hT4 (by omega), hB4, HI3.out.rx.keep hT4 (by omega)⟩
  clear hB4 hg4 hs4 hT4 HI3
  have HXX : Hid (∀ W : World, w.heap.size ≤ W.heap.size → (w.heap.size + 2) < W.heap.size → ∀ z, ((S z ∨ Y z) ∨ z = (w.heap.size + 2)) → z < W.heap.size) := Lib.hid (fun W h1 h2 z e => e.elim (fun e => Nat.lt_of_lt_of_le (e.elim (HS.out z) (HY.out z)) h1) (fun e => e ▸ h2))
  have a0 : w4.cell? ⟨(w.heap.size + 1), 0, none⟩ = some (.int .i64 y.kind) := HI4.out.ab.cell 0
  by_cases h1 : y.kind = 1
  case pos =>
    have e1 := eqb h1
    have HKD := Lib.hid h1
    clear h1
    have a1 : w4.cell? ⟨(w.heap.size + 1), 1, none⟩ = some (.int .i64 y.a) := HI4.out.ab.cell 1
    go_wp2_with (with_reducible refine at_load 36 rfl ?_)
    refine Stop.go (wpList_load_blk (by rfl) 36 _ (by rfl) w.heap.size (by rfl) 36 _ HI4.out.gb _ und36 (by rfl) (by kernel_rfl) ?_)
    have hrx9 := HRX.out.below HI4.out.low
    have hxx9 := HXX.out _ HI4.out.low.size HI4.out.rx.lt
    have hcall := fence40_any hrx9 hxx9 HK.out y.a
    clear hrx9 hxx9
    go_wp2_with fail
    refine hcall.mono ?_
    rintro r w7 ⟨v7, rfl, hrf, hb7⟩
    have HI7 := Lib.hid (HI4.out.below hb7)
    have hrf7 := hrf
    obtain ⟨B1, B2, B3, d1, d2, d3, rs7, e7, hR7⟩ := hrf
    have hc7 : v7 = .agg #[.int .i64 (M.nb : Int), .int .i64 (M.np : Int), .int .i64 (M.ni : Int), .slice B1 M.nb d1, .slice B2 M.np d2, .slice B3 M.ni d3] := by rw [e7]; split <;> rfl
    subst hc7
    have HRF := Lib.hid hrf7
    clear hcall hrf7 hR7 hb7 e7 a1 a0
    go_wp2_with (with_reducible refine at_store 36 rfl ?_)
    refine Stop.go (wpList_store_blk (by rfl) (by rfl) 36 _ _ (by rfl) w7.heap.size _ #[.int .i64 (M.nb : Int), .int .i64 (M.np : Int), .int .i64 (M.ni : Int), .slice B1 M.nb d1, .slice B2 M.np d2, .slice B3 M.ni d3] (by rfl) (by rfl) 36 (Blk.new w7 36 #[.int .i64 0, .int .i64 0, .int .i64 0, .slice none 0 0, .slice none 0 0, .slice none 0 0]) (by rfl) (by kernel_rfl) (by simp [Value.oneCell']) ?_)
    intro w8 hB8 hg8 hs8
    have hb8 : Below w7.heap.size w7 w8 := below_grown ((Below.refl w7.heap.size w7).alloc (Nat.le_refl _) (.cells #[.int .i64 0, .int .i64 0, .int .i64 0, .slice none 0 0, .slice none 0 0, .slice none 0 0] 36)) hg8 (Nat.le_refl _) (Nat.le_refl _)
    have HI8 := Lib.hid (HI7.out.below hb8)
    have HR8 := Lib.hid (HRF.out.below hb8)
    have HO8 := Lib.hid hB8
    have HOX : Hid (w.heap.size + 3 ≤ w7.heap.size) := Lib.hid (by have := HI7.out.rx.lt; omega)
    clear hB8 hg8 hs8 hb8 HI7 HRF
    generalize w7.heap.size = ox at *
    go_upto_region 5 with fail
    refine wp_region_np ?_
    refine wp_region_held_drew (S := fun W => Blk W ox 36 #[.int .i64 (M.nb : Int), .int .i64 (M.np : Int), .int .i64 (M.ni : Int), .slice B1 M.nb d1, .slice B2 M.np d2, .slice B3 M.ni d3] ∧ Blk W (w.heap.size + 1) 43 #[.int .i64 y.kind, .int .i64 y.a, .int .i64 y.b, .int .i64 y.n, .int .i64 y.o, .bool y.flag, .bool y.near, .slice L ll lk]) (by kernel_rfl) (show (fun W => Blk W ox 36 #[.int .i64 (M.nb : Int), .int .i64 (M.np : Int), .int .i64 (M.ni : Int), .slice B1 M.nb d1, .slice B2 M.np d2, .slice B3 M.ni d3] ∧ Blk W (w.heap.size + 1) 43 #[.int .i64 y.kind, .int .i64 y.a, .int .i64 y.b, .int .i64 y.n, .int .i64 y.o, .bool y.flag, .bool y.near, .slice L ll lk]) w8.drew from ⟨HO8.out.drew, HI8.out.ab.drew⟩) (fun hHeld => ?_)
    have hlow : Below w.heap.size w w8.drew := HI8.out.low.drew
    have hr0 := HR8.out.below (Below.refl _ _).drew
    have hrxb := HI8.out.rx.drew
    generalize hv0 : w8.drew = V0 at *
    clear hv0
    refine wpAnyH_takeAt (i := 0) (d := 44) (v := ?vq0x) rfl rfl (by kernel_rfl) (by kernel_rfl) (by kernel_rfl) (fun _ _ _ h => h) (Or.inl ⟨by rfl, ?hyq0x⟩) hHeld ?_
    case hyq0x =>
      intro W hSw
      obtain ⟨ko, ka⟩ := hSw; have q0 : W.cell? ⟨ox, 0, none⟩ = some (.int .i64 (M.nb : Int)) := ko.cell 0; have q1 : W.cell? ⟨ox, 1, none⟩ = some (.int .i64 (M.np : Int)) := ko.cell 1; have q2 : W.cell? ⟨ox, 2, none⟩ = some (.int .i64 (M.ni : Int)) := ko.cell 2; have q3 : W.cell? ⟨ox, 3, none⟩ = some (.slice B1 M.nb d1) := ko.cell 3; have q4 : W.cell? ⟨ox, 4, none⟩ = some (.slice B2 M.np d2) := ko.cell 4; have q5 : W.cell? ⟨ox, 5, none⟩ = some (.slice B3 M.ni d3) := ko.cell 5; have s0 : W.cell? ⟨(w.heap.size + 1), 0, none⟩ = some (.int .i64 y.kind) := ka.cell 0; have s1 : W.cell? ⟨(w.heap.size + 1), 1, none⟩ = some (.int .i64 y.a) := ka.cell 1; have s2 : W.cell? ⟨(w.heap.size + 1), 2, none⟩ = some (.int .i64 y.b) := ka.cell 2; have s3 : W.cell? ⟨(w.heap.size + 1), 3, none⟩ = some (.int .i64 y.n) := ka.cell 3; have s4 : W.cell? ⟨(w.heap.size + 1), 4, none⟩ = some (.int .i64 y.o) := ka.cell 4; have s5 : W.cell? ⟨(w.heap.size + 1), 5, none⟩ = some (.bool y.flag) := ka.cell 5; have s6 : W.cell? ⟨(w.heap.size + 1), 6, none⟩ = some (.bool y.near) := ka.cell 6; have s7 : W.cell? ⟨(w.heap.size + 1), 7, none⟩ = some (.slice L ll lk) := ka.cell 7; clear ko ka
      (go_simp; try with_reducible rfl)
    simp only [List.setIfInBounds_toArray, List.set_cons_zero, List.set_cons_succ]
    refine wpAnyH_takeAt (i := 1) (d := 45) (v := ?vq1x) rfl rfl (by kernel_rfl) (by kernel_rfl) (by kernel_rfl) (fun _ _ _ h => h) (Or.inl ⟨by rfl, ?hyq1x⟩) hHeld ?_
    case hyq1x =>
      intro W hSw
      clear hSw
      (go_simp; try with_reducible rfl)
    simp only [List.setIfInBounds_toArray, List.set_cons_zero, List.set_cons_succ]
    refine wpAnyH_takeAt (i := 2) (d := 46) (v := ?vq2x) rfl rfl (by kernel_rfl) (by kernel_rfl) (by kernel_rfl) (fun _ _ _ h => h) (Or.inl ⟨by rfl, ?hyq2x⟩) hHeld ?_
    case hyq2x =>
      intro W hSw
      clear hSw
      (go_simp; try with_reducible rfl)
    simp only [List.setIfInBounds_toArray, List.set_cons_zero, List.set_cons_succ]
    refine wpAnyH_takeAt (i := 3) (d := 47) (v := ?vq3x) rfl rfl (by kernel_rfl) (by kernel_rfl) (by kernel_rfl) (fun _ _ _ h => h) (Or.inl ⟨by rfl, ?hyq3x⟩) hHeld ?_
    case hyq3x =>
      intro W hSw
      obtain ⟨ko, ka⟩ := hSw; have q0 : W.cell? ⟨ox, 0, none⟩ = some (.int .i64 (M.nb : Int)) := ko.cell 0; have q1 : W.cell? ⟨ox, 1, none⟩ = some (.int .i64 (M.np : Int)) := ko.cell 1; have q2 : W.cell? ⟨ox, 2, none⟩ = some (.int .i64 (M.ni : Int)) := ko.cell 2; have q3 : W.cell? ⟨ox, 3, none⟩ = some (.slice B1 M.nb d1) := ko.cell 3; have q4 : W.cell? ⟨ox, 4, none⟩ = some (.slice B2 M.np d2) := ko.cell 4; have q5 : W.cell? ⟨ox, 5, none⟩ = some (.slice B3 M.ni d3) := ko.cell 5; have s0 : W.cell? ⟨(w.heap.size + 1), 0, none⟩ = some (.int .i64 y.kind) := ka.cell 0; have s1 : W.cell? ⟨(w.heap.size + 1), 1, none⟩ = some (.int .i64 y.a) := ka.cell 1; have s2 : W.cell? ⟨(w.heap.size + 1), 2, none⟩ = some (.int .i64 y.b) := ka.cell 2; have s3 : W.cell? ⟨(w.heap.size + 1), 3, none⟩ = some (.int .i64 y.n) := ka.cell 3; have s4 : W.cell? ⟨(w.heap.size + 1), 4, none⟩ = some (.int .i64 y.o) := ka.cell 4; have s5 : W.cell? ⟨(w.heap.size + 1), 5, none⟩ = some (.bool y.flag) := ka.cell 5; have s6 : W.cell? ⟨(w.heap.size + 1), 6, none⟩ = some (.bool y.near) := ka.cell 6; have s7 : W.cell? ⟨(w.heap.size + 1), 7, none⟩ = some (.slice L ll lk) := ka.cell 7; clear ko ka
      (go_simp; try with_reducible rfl)
    simp only [List.setIfInBounds_toArray, List.set_cons_zero, List.set_cons_succ]
    refine wpAnyH_takeAt (i := 5) (d := 49) (v := ?vq4x) rfl rfl (by kernel_rfl) (by kernel_rfl) (by kernel_rfl) (fun _ _ _ h => h) (Or.inl ⟨by rfl, ?hyq4x⟩) hHeld ?_
    case hyq4x =>
      intro W hSw
      clear hSw
      (go_simp; try with_reducible rfl)
    simp only [List.setIfInBounds_toArray, List.set_cons_zero, List.set_cons_succ]
    refine wpAnyH_ready (rs := [4]) (by kernel_rfl) (by simp) (AllReadyH.cons rfl (fun K hK => ?_) AllReadyH.nil)
    go_simp
    have hmm := HM.out.below hlow
    refine (fence28_any hmm HK.out y.a).mono ?_
    intro r V1 hme
    obtain ⟨rfl, hdid⟩ := hme
    dsimp only
    have hHeld2 : (fun W => Blk W ox 36 #[.int .i64 (M.nb : Int), .int .i64 (M.np : Int), .int .i64 (M.ni : Int), .slice B1 M.nb d1, .slice B2 M.np d2, .slice B3 M.ni d3] ∧ Blk W (w.heap.size + 1) 43 #[.int .i64 y.kind, .int .i64 y.a, .int .i64 y.b, .int .i64 y.n, .int .i64 y.o, .bool y.flag, .bool y.near, .slice L ll lk]) V1 := ⟨hHeld.1.keep hdid.2 (fun e => by have := HS.out _ e; have := HOX.out; omega), hHeld.2.keep hdid.2 (fun e => by have := HS.out _ e; omega)⟩
    have hrx1 : Blk V1 (w.heap.size + 2) 36 #[.int .i64 0, .int .i64 0, .int .i64 0, .slice none 0 0, .slice none 0 0, .slice none 0 0] := hrxb.keep hdid.2 (fun e => by have := HS.out _ e; omega)
    refine hK.out _ _ hHeld2 (fun hHeld => ?_)
    clear hK K hHeld2
    try simp only [List.setIfInBounds_toArray, List.set_cons_zero, List.set_cons_succ]
    refine wpAnyH_takeAt (i := 6) (d := 50) (v := ?vq5x) rfl rfl (by kernel_rfl) (by kernel_rfl) (by kernel_rfl) (fun _ _ _ h => h) (Or.inl ⟨by rfl, ?hyq5x⟩) hHeld ?_
    case hyq5x =>
      intro W hSw
      clear hSw
      (go_simp; try with_reducible rfl)
    simp only [List.setIfInBounds_toArray, List.set_cons_zero, List.set_cons_succ]
    refine wpAnyH_ready (rs := [7]) (by kernel_rfl) (by simp) (AllReadyH.cons rfl (fun K hK => ?_) AllReadyH.nil)
    refine step_store_blk (by rfl) rfl 36 _ _ rfl (w.heap.size + 2) _ #[.int .i64 (M.nb : Int), .int .i64 (M.np : Int), .int .i64 (M.ni : Int), .slice B1 M.nb d1, .slice B2 M.np d2, .slice B3 M.ni d3] rfl rfl 36 hrx1 rfl (by kernel_rfl) (by simp [Value.oneCell']) ?_
    intro V2 hB2 hg2 hs2
    have HB2 := Lib.hid hB2
    have hT2 : Turn (fun z => z = (w.heap.size + 2)) V1 V2 := Turn.of_grown hg2 (fun r e => by injection e with e; exact e.symm)
    have hM9 : (if M.fenceE y.a = 0 then M.fenceTo M.np y.a else M) = M1 := by
      rw [← HMS.out]
      unfold Mt.does
      rw [if_pos HKD.out]
    have HF : Hid (∃ S', Pl V2 g M1 (.agg #[.int .i64 (M.nb : Int), .int .i64 (M.np : Int), .int .i64 (M.ni : Int), .slice B1 M.nb d1, .slice B2 M.np d2, .slice B3 M.ni d3]) S' Y ∧ (∀ b, b < w.heap.size → S' b → S b) ∧ Turn S w V2) := Lib.hid (do_of HS.out HY.out hlow (hM9 ▸ hdid) (hM9 ▸ hr0) (by omega) hrxb.lt hT2)
    have hHeld2 : (fun W => Blk W ox 36 #[.int .i64 (M.nb : Int), .int .i64 (M.np : Int), .int .i64 (M.ni : Int), .slice B1 M.nb d1, .slice B2 M.np d2, .slice B3 M.ni d3] ∧ Blk W (w.heap.size + 1) 43 #[.int .i64 y.kind, .int .i64 y.a, .int .i64 y.b, .int .i64 y.n, .int .i64 y.o, .bool y.flag, .bool y.near, .slice L ll lk]) V2 := ⟨hHeld.1.keep hT2 (fun e => by have := HOX.out; omega), hHeld.2.keep hT2 (fun e => by omega)⟩
    refine hK.out _ _ hHeld2 (fun hHeld => ?_)
    clear hK K hHeld2 hT2 hM9 hB2 hg2 hs2
    try simp only [List.setIfInBounds_toArray, List.set_cons_zero, List.set_cons_succ]
    refine wpAnyH_takeAt (i := 8) (d := 7) (v := ?vq6x) rfl rfl (by kernel_rfl) (by kernel_rfl) (by kernel_rfl) (fun _ _ _ h => h) (Or.inl ⟨by rfl, ?hyq6x⟩) hHeld ?_
    case hyq6x =>
      intro W hSw
      clear hSw
      (go_simp; try with_reducible rfl)
    simp only [List.setIfInBounds_toArray, List.set_cons_zero, List.set_cons_succ]
    refine wpAnyH_done (by kernel_rfl) ?_ _
    clear hHeld
    go_wp2_with fail
    refine bodyPost_ret (results_ct (by rfl) _ _ (w.heap.size + 2) 36 _ (0, 0) _ (by rfl) HB2.out und36 (by rfl) (by kernel_rfl) (by rfl)) rfl ?_
    obtain ⟨S', k1, k2, k3⟩ := HF.out
    exact ⟨_, S', rfl, k1, k2, k3⟩
  case neg =>
  have e1 := neb h1
  by_cases h2 : y.kind = 2
  case pos =>
    have e2 := eqb h2
    have HKD := Lib.hid h2
    clear h2
    have a1 : w4.cell? ⟨(w.heap.size + 1), 1, none⟩ = some (.int .i64 y.a) := HI4.out.ab.cell 1
    go_wp2_with (with_reducible refine at_load 36 rfl ?_)
    refine Stop.go (wpList_load_blk (by rfl) 36 _ (by rfl) w.heap.size (by rfl) 36 _ HI4.out.gb _ und36 (by rfl) (by kernel_rfl) ?_)
    have hrx9 := HRX.out.below HI4.out.low
    have hxx9 := HXX.out _ HI4.out.low.size HI4.out.rx.lt
    have hcall := reg41_any hrx9 hxx9 HK.out y.a
    clear hrx9 hxx9
    go_wp2_with fail
    refine hcall.mono ?_
    rintro r w7 ⟨v7, rfl, hrf, hb7⟩
    have HI7 := Lib.hid (HI4.out.below hb7)
    have hrf7 := hrf
    obtain ⟨B1, B2, B3, d1, d2, d3, rs7, e7, hR7⟩ := hrf
    have hc7 : v7 = .agg #[.int .i64 (M.nb : Int), .int .i64 (M.np : Int), .int .i64 (M.ni : Int), .slice B1 M.nb d1, .slice B2 M.np d2, .slice B3 M.ni d3] := by rw [e7]; split <;> rfl
    subst hc7
    have HRF := Lib.hid hrf7
    clear hcall hrf7 hR7 hb7 e7 a1 a0
    go_wp2_with (with_reducible refine at_store 36 rfl ?_)
    refine Stop.go (wpList_store_blk (by rfl) (by rfl) 36 _ _ (by rfl) w7.heap.size _ #[.int .i64 (M.nb : Int), .int .i64 (M.np : Int), .int .i64 (M.ni : Int), .slice B1 M.nb d1, .slice B2 M.np d2, .slice B3 M.ni d3] (by rfl) (by rfl) 36 (Blk.new w7 36 #[.int .i64 0, .int .i64 0, .int .i64 0, .slice none 0 0, .slice none 0 0, .slice none 0 0]) (by rfl) (by kernel_rfl) (by simp [Value.oneCell']) ?_)
    intro w8 hB8 hg8 hs8
    have hb8 : Below w7.heap.size w7 w8 := below_grown ((Below.refl w7.heap.size w7).alloc (Nat.le_refl _) (.cells #[.int .i64 0, .int .i64 0, .int .i64 0, .slice none 0 0, .slice none 0 0, .slice none 0 0] 36)) hg8 (Nat.le_refl _) (Nat.le_refl _)
    have HI8 := Lib.hid (HI7.out.below hb8)
    have HR8 := Lib.hid (HRF.out.below hb8)
    have HO8 := Lib.hid hB8
    have HOX : Hid (w.heap.size + 3 ≤ w7.heap.size) := Lib.hid (by have := HI7.out.rx.lt; omega)
    clear hB8 hg8 hs8 hb8 HI7 HRF
    generalize w7.heap.size = ox at *
    go_upto_region 8 with fail
    refine wp_region_np ?_
    refine wp_region_held_drew (S := fun W => Blk W ox 36 #[.int .i64 (M.nb : Int), .int .i64 (M.np : Int), .int .i64 (M.ni : Int), .slice B1 M.nb d1, .slice B2 M.np d2, .slice B3 M.ni d3] ∧ Blk W (w.heap.size + 1) 43 #[.int .i64 y.kind, .int .i64 y.a, .int .i64 y.b, .int .i64 y.n, .int .i64 y.o, .bool y.flag, .bool y.near, .slice L ll lk]) (by kernel_rfl) (show (fun W => Blk W ox 36 #[.int .i64 (M.nb : Int), .int .i64 (M.np : Int), .int .i64 (M.ni : Int), .slice B1 M.nb d1, .slice B2 M.np d2, .slice B3 M.ni d3] ∧ Blk W (w.heap.size + 1) 43 #[.int .i64 y.kind, .int .i64 y.a, .int .i64 y.b, .int .i64 y.n, .int .i64 y.o, .bool y.flag, .bool y.near, .slice L ll lk]) w8.drew from ⟨HO8.out.drew, HI8.out.ab.drew⟩) (fun hHeld => ?_)
    have hlow : Below w.heap.size w w8.drew := HI8.out.low.drew
    have hr0 := HR8.out.below (Below.refl _ _).drew
    have hrxb := HI8.out.rx.drew
    generalize hv0 : w8.drew = V0 at *
    clear hv0
    refine wpAnyH_takeAt (i := 0) (d := 60) (v := ?vq7x) rfl rfl (by kernel_rfl) (by kernel_rfl) (by kernel_rfl) (fun _ _ _ h => h) (Or.inl ⟨by rfl, ?hyq7x⟩) hHeld ?_
    case hyq7x =>
      intro W hSw
      obtain ⟨ko, ka⟩ := hSw; have q0 : W.cell? ⟨ox, 0, none⟩ = some (.int .i64 (M.nb : Int)) := ko.cell 0; have q1 : W.cell? ⟨ox, 1, none⟩ = some (.int .i64 (M.np : Int)) := ko.cell 1; have q2 : W.cell? ⟨ox, 2, none⟩ = some (.int .i64 (M.ni : Int)) := ko.cell 2; have q3 : W.cell? ⟨ox, 3, none⟩ = some (.slice B1 M.nb d1) := ko.cell 3; have q4 : W.cell? ⟨ox, 4, none⟩ = some (.slice B2 M.np d2) := ko.cell 4; have q5 : W.cell? ⟨ox, 5, none⟩ = some (.slice B3 M.ni d3) := ko.cell 5; have s0 : W.cell? ⟨(w.heap.size + 1), 0, none⟩ = some (.int .i64 y.kind) := ka.cell 0; have s1 : W.cell? ⟨(w.heap.size + 1), 1, none⟩ = some (.int .i64 y.a) := ka.cell 1; have s2 : W.cell? ⟨(w.heap.size + 1), 2, none⟩ = some (.int .i64 y.b) := ka.cell 2; have s3 : W.cell? ⟨(w.heap.size + 1), 3, none⟩ = some (.int .i64 y.n) := ka.cell 3; have s4 : W.cell? ⟨(w.heap.size + 1), 4, none⟩ = some (.int .i64 y.o) := ka.cell 4; have s5 : W.cell? ⟨(w.heap.size + 1), 5, none⟩ = some (.bool y.flag) := ka.cell 5; have s6 : W.cell? ⟨(w.heap.size + 1), 6, none⟩ = some (.bool y.near) := ka.cell 6; have s7 : W.cell? ⟨(w.heap.size + 1), 7, none⟩ = some (.slice L ll lk) := ka.cell 7; clear ko ka
      (go_simp; try with_reducible rfl)
    simp only [List.setIfInBounds_toArray, List.set_cons_zero, List.set_cons_succ]
    refine wpAnyH_takeAt (i := 1) (d := 61) (v := ?vq8x) rfl rfl (by kernel_rfl) (by kernel_rfl) (by kernel_rfl) (fun _ _ _ h => h) (Or.inl ⟨by rfl, ?hyq8x⟩) hHeld ?_
    case hyq8x =>
      intro W hSw
      clear hSw
      (go_simp; try with_reducible rfl)
    simp only [List.setIfInBounds_toArray, List.set_cons_zero, List.set_cons_succ]
    refine wpAnyH_takeAt (i := 2) (d := 62) (v := ?vq9x) rfl rfl (by kernel_rfl) (by kernel_rfl) (by kernel_rfl) (fun _ _ _ h => h) (Or.inl ⟨by rfl, ?hyq9x⟩) hHeld ?_
    case hyq9x =>
      intro W hSw
      clear hSw
      (go_simp; try with_reducible rfl)
    simp only [List.setIfInBounds_toArray, List.set_cons_zero, List.set_cons_succ]
    refine wpAnyH_takeAt (i := 3) (d := 63) (v := ?vq10x) rfl rfl (by kernel_rfl) (by kernel_rfl) (by kernel_rfl) (fun _ _ _ h => h) (Or.inl ⟨by rfl, ?hyq10x⟩) hHeld ?_
    case hyq10x =>
      intro W hSw
      obtain ⟨ko, ka⟩ := hSw; have q0 : W.cell? ⟨ox, 0, none⟩ = some (.int .i64 (M.nb : Int)) := ko.cell 0; have q1 : W.cell? ⟨ox, 1, none⟩ = some (.int .i64 (M.np : Int)) := ko.cell 1; have q2 : W.cell? ⟨ox, 2, none⟩ = some (.int .i64 (M.ni : Int)) := ko.cell 2; have q3 : W.cell? ⟨ox, 3, none⟩ = some (.slice B1 M.nb d1) := ko.cell 3; have q4 : W.cell? ⟨ox, 4, none⟩ = some (.slice B2 M.np d2) := ko.cell 4; have q5 : W.cell? ⟨ox, 5, none⟩ = some (.slice B3 M.ni d3) := ko.cell 5; have s0 : W.cell? ⟨(w.heap.size + 1), 0, none⟩ = some (.int .i64 y.kind) := ka.cell 0; have s1 : W.cell? ⟨(w.heap.size + 1), 1, none⟩ = some (.int .i64 y.a) := ka.cell 1; have s2 : W.cell? ⟨(w.heap.size + 1), 2, none⟩ = some (.int .i64 y.b) := ka.cell 2; have s3 : W.cell? ⟨(w.heap.size + 1), 3, none⟩ = some (.int .i64 y.n) := ka.cell 3; have s4 : W.cell? ⟨(w.heap.size + 1), 4, none⟩ = some (.int .i64 y.o) := ka.cell 4; have s5 : W.cell? ⟨(w.heap.size + 1), 5, none⟩ = some (.bool y.flag) := ka.cell 5; have s6 : W.cell? ⟨(w.heap.size + 1), 6, none⟩ = some (.bool y.near) := ka.cell 6; have s7 : W.cell? ⟨(w.heap.size + 1), 7, none⟩ = some (.slice L ll lk) := ka.cell 7; clear ko ka
      (go_simp; try with_reducible rfl)
    simp only [List.setIfInBounds_toArray, List.set_cons_zero, List.set_cons_succ]
    refine wpAnyH_takeAt (i := 5) (d := 65) (v := ?vq11x) rfl rfl (by kernel_rfl) (by kernel_rfl) (by kernel_rfl) (fun _ _ _ h => h) (Or.inl ⟨by rfl, ?hyq11x⟩) hHeld ?_
    case hyq11x =>
      intro W hSw
      clear hSw
      (go_simp; try with_reducible rfl)
    simp only [List.setIfInBounds_toArray, List.set_cons_zero, List.set_cons_succ]
    refine wpAnyH_ready (rs := [4]) (by kernel_rfl) (by simp) (AllReadyH.cons rfl (fun K hK => ?_) AllReadyH.nil)
    go_simp
    have hmm := HM.out.below hlow
    refine ((register_any hmm HK.out.nb y.a).mono (fun _ _ q => q.me HM.out.sg)).mono ?_
    intro r V1 hme
    obtain ⟨rfl, hdid⟩ := hme
    dsimp only
    have hHeld2 : (fun W => Blk W ox 36 #[.int .i64 (M.nb : Int), .int .i64 (M.np : Int), .int .i64 (M.ni : Int), .slice B1 M.nb d1, .slice B2 M.np d2, .slice B3 M.ni d3] ∧ Blk W (w.heap.size + 1) 43 #[.int .i64 y.kind, .int .i64 y.a, .int .i64 y.b, .int .i64 y.n, .int .i64 y.o, .bool y.flag, .bool y.near, .slice L ll lk]) V1 := ⟨hHeld.1.keep hdid.2 (fun e => by have := HS.out _ e; have := HOX.out; omega), hHeld.2.keep hdid.2 (fun e => by have := HS.out _ e; omega)⟩
    have hrx1 : Blk V1 (w.heap.size + 2) 36 #[.int .i64 0, .int .i64 0, .int .i64 0, .slice none 0 0, .slice none 0 0, .slice none 0 0] := hrxb.keep hdid.2 (fun e => by have := HS.out _ e; omega)
    refine hK.out _ _ hHeld2 (fun hHeld => ?_)
    clear hK K hHeld2
    try simp only [List.setIfInBounds_toArray, List.set_cons_zero, List.set_cons_succ]
    refine wpAnyH_takeAt (i := 6) (d := 66) (v := ?vq12x) rfl rfl (by kernel_rfl) (by kernel_rfl) (by kernel_rfl) (fun _ _ _ h => h) (Or.inl ⟨by rfl, ?hyq12x⟩) hHeld ?_
    case hyq12x =>
      intro W hSw
      clear hSw
      (go_simp; try with_reducible rfl)
    simp only [List.setIfInBounds_toArray, List.set_cons_zero, List.set_cons_succ]
    refine wpAnyH_ready (rs := [7]) (by kernel_rfl) (by simp) (AllReadyH.cons rfl (fun K hK => ?_) AllReadyH.nil)
    refine step_store_blk (by rfl) rfl 36 _ _ rfl (w.heap.size + 2) _ #[.int .i64 (M.nb : Int), .int .i64 (M.np : Int), .int .i64 (M.ni : Int), .slice B1 M.nb d1, .slice B2 M.np d2, .slice B3 M.ni d3] rfl rfl 36 hrx1 rfl (by kernel_rfl) (by simp [Value.oneCell']) ?_
    intro V2 hB2 hg2 hs2
    have HB2 := Lib.hid hB2
    have hT2 : Turn (fun z => z = (w.heap.size + 2)) V1 V2 := Turn.of_grown hg2 (fun r e => by injection e with e; exact e.symm)
    have hM9 : (if M.regE y.a = 0 then { M with lives := setAt M.lives y.a.toNat true } else M) = M1 := by
      rw [← HMS.out]
      unfold Mt.does
      rw [if_neg (show ¬ y.kind = 1 by have := HKD.out; omega)]; rw [if_pos HKD.out]
    have HF : Hid (∃ S', Pl V2 g M1 (.agg #[.int .i64 (M.nb : Int), .int .i64 (M.np : Int), .int .i64 (M.ni : Int), .slice B1 M.nb d1, .slice B2 M.np d2, .slice B3 M.ni d3]) S' Y ∧ (∀ b, b < w.heap.size → S' b → S b) ∧ Turn S w V2) := Lib.hid (do_of HS.out HY.out hlow (hM9 ▸ hdid) (hM9 ▸ hr0) (by omega) hrxb.lt hT2)
    have hHeld2 : (fun W => Blk W ox 36 #[.int .i64 (M.nb : Int), .int .i64 (M.np : Int), .int .i64 (M.ni : Int), .slice B1 M.nb d1, .slice B2 M.np d2, .slice B3 M.ni d3] ∧ Blk W (w.heap.size + 1) 43 #[.int .i64 y.kind, .int .i64 y.a, .int .i64 y.b, .int .i64 y.n, .int .i64 y.o, .bool y.flag, .bool y.near, .slice L ll lk]) V2 := ⟨hHeld.1.keep hT2 (fun e => by have := HOX.out; omega), hHeld.2.keep hT2 (fun e => by omega)⟩
    refine hK.out _ _ hHeld2 (fun hHeld => ?_)
    clear hK K hHeld2 hT2 hM9 hB2 hg2 hs2
    try simp only [List.setIfInBounds_toArray, List.set_cons_zero, List.set_cons_succ]
    refine wpAnyH_takeAt (i := 8) (d := 7) (v := ?vq13x) rfl rfl (by kernel_rfl) (by kernel_rfl) (by kernel_rfl) (fun _ _ _ h => h) (Or.inl ⟨by rfl, ?hyq13x⟩) hHeld ?_
    case hyq13x =>
      intro W hSw
      clear hSw
      (go_simp; try with_reducible rfl)
    simp only [List.setIfInBounds_toArray, List.set_cons_zero, List.set_cons_succ]
    refine wpAnyH_done (by kernel_rfl) ?_ _
    clear hHeld
    go_wp2_with fail
    refine bodyPost_ret (results_ct (by rfl) _ _ (w.heap.size + 2) 36 _ (0, 0) _ (by rfl) HB2.out und36 (by rfl) (by kernel_rfl) (by rfl)) rfl ?_
    obtain ⟨S', k1, k2, k3⟩ := HF.out
    exact ⟨_, S', rfl, k1, k2, k3⟩
  case neg =>
  have e2 := neb h2
  by_cases h3 : y.kind = 3
  case pos =>
    have e3 := eqb h3
    have HKD := Lib.hid h3
    clear h3
    have a1 : w4.cell? ⟨(w.heap.size + 1), 1, none⟩ = some (.int .i64 y.a) := HI4.out.ab.cell 1
    have a2 : w4.cell? ⟨(w.heap.size + 1), 2, none⟩ = some (.int .i64 y.b) := HI4.out.ab.cell 2
    have a5 : w4.cell? ⟨(w.heap.size + 1), 5, none⟩ = some (.bool y.flag) := HI4.out.ab.cell 5
    go_wp2_with (with_reducible refine at_load 36 rfl ?_)
    refine Stop.go (wpList_load_blk (by rfl) 36 _ (by rfl) w.heap.size (by rfl) 36 _ HI4.out.gb _ und36 (by rfl) (by kernel_rfl) ?_)
    have hrx9 := HRX.out.below HI4.out.low
    have hxx9 := HXX.out _ HI4.out.low.size HI4.out.rx.lt
    have hcall := elect42_any hrx9 hxx9 HK.out y.a y.b y.flag
    clear hrx9 hxx9
    go_wp2_with fail
    refine hcall.mono ?_
    rintro r w7 ⟨v7, rfl, hrf, hb7⟩
    have HI7 := Lib.hid (HI4.out.below hb7)
    have hrf7 := hrf
    obtain ⟨B1, B2, B3, d1, d2, d3, rs7, e7, hR7⟩ := hrf
    have hc7 : v7 = .agg #[.int .i64 (M.nb : Int), .int .i64 (M.np : Int), .int .i64 (M.ni : Int), .slice B1 M.nb d1, .slice B2 M.np d2, .slice B3 M.ni d3] := by rw [e7]; split <;> rfl
    subst hc7
    have HRF := Lib.hid hrf7
    clear hcall hrf7 hR7 hb7 e7 a1 a2 a5 a0
    go_wp2_with (with_reducible refine at_store 36 rfl ?_)
    refine Stop.go (wpList_store_blk (by rfl) (by rfl) 36 _ _ (by rfl) w7.heap.size _ #[.int .i64 (M.nb : Int), .int .i64 (M.np : Int), .int .i64 (M.ni : Int), .slice B1 M.nb d1, .slice B2 M.np d2, .slice B3 M.ni d3] (by rfl) (by rfl) 36 (Blk.new w7 36 #[.int .i64 0, .int .i64 0, .int .i64 0, .slice none 0 0, .slice none 0 0, .slice none 0 0]) (by rfl) (by kernel_rfl) (by simp [Value.oneCell']) ?_)
    intro w8 hB8 hg8 hs8
    have hb8 : Below w7.heap.size w7 w8 := below_grown ((Below.refl w7.heap.size w7).alloc (Nat.le_refl _) (.cells #[.int .i64 0, .int .i64 0, .int .i64 0, .slice none 0 0, .slice none 0 0, .slice none 0 0] 36)) hg8 (Nat.le_refl _) (Nat.le_refl _)
    have HI8 := Lib.hid (HI7.out.below hb8)
    have HR8 := Lib.hid (HRF.out.below hb8)
    have HO8 := Lib.hid hB8
    have HOX : Hid (w.heap.size + 3 ≤ w7.heap.size) := Lib.hid (by have := HI7.out.rx.lt; omega)
    clear hB8 hg8 hs8 hb8 HI7 HRF
    generalize w7.heap.size = ox at *
    go_upto_region 11 with fail
    refine wp_region_np ?_
    refine wp_region_held_drew (S := fun W => Blk W ox 36 #[.int .i64 (M.nb : Int), .int .i64 (M.np : Int), .int .i64 (M.ni : Int), .slice B1 M.nb d1, .slice B2 M.np d2, .slice B3 M.ni d3] ∧ Blk W (w.heap.size + 1) 43 #[.int .i64 y.kind, .int .i64 y.a, .int .i64 y.b, .int .i64 y.n, .int .i64 y.o, .bool y.flag, .bool y.near, .slice L ll lk]) (by kernel_rfl) (show (fun W => Blk W ox 36 #[.int .i64 (M.nb : Int), .int .i64 (M.np : Int), .int .i64 (M.ni : Int), .slice B1 M.nb d1, .slice B2 M.np d2, .slice B3 M.ni d3] ∧ Blk W (w.heap.size + 1) 43 #[.int .i64 y.kind, .int .i64 y.a, .int .i64 y.b, .int .i64 y.n, .int .i64 y.o, .bool y.flag, .bool y.near, .slice L ll lk]) w8.drew from ⟨HO8.out.drew, HI8.out.ab.drew⟩) (fun hHeld => ?_)
    have hlow : Below w.heap.size w w8.drew := HI8.out.low.drew
    have hr0 := HR8.out.below (Below.refl _ _).drew
    have hrxb := HI8.out.rx.drew
    generalize hv0 : w8.drew = V0 at *
    clear hv0
    refine wpAnyH_takeAt (i := 0) (d := 80) (v := ?vq14x) rfl rfl (by kernel_rfl) (by kernel_rfl) (by kernel_rfl) (fun _ _ _ h => h) (Or.inl ⟨by rfl, ?hyq14x⟩) hHeld ?_
    case hyq14x =>
      intro W hSw
      obtain ⟨ko, ka⟩ := hSw; have q0 : W.cell? ⟨ox, 0, none⟩ = some (.int .i64 (M.nb : Int)) := ko.cell 0; have q1 : W.cell? ⟨ox, 1, none⟩ = some (.int .i64 (M.np : Int)) := ko.cell 1; have q2 : W.cell? ⟨ox, 2, none⟩ = some (.int .i64 (M.ni : Int)) := ko.cell 2; have q3 : W.cell? ⟨ox, 3, none⟩ = some (.slice B1 M.nb d1) := ko.cell 3; have q4 : W.cell? ⟨ox, 4, none⟩ = some (.slice B2 M.np d2) := ko.cell 4; have q5 : W.cell? ⟨ox, 5, none⟩ = some (.slice B3 M.ni d3) := ko.cell 5; have s0 : W.cell? ⟨(w.heap.size + 1), 0, none⟩ = some (.int .i64 y.kind) := ka.cell 0; have s1 : W.cell? ⟨(w.heap.size + 1), 1, none⟩ = some (.int .i64 y.a) := ka.cell 1; have s2 : W.cell? ⟨(w.heap.size + 1), 2, none⟩ = some (.int .i64 y.b) := ka.cell 2; have s3 : W.cell? ⟨(w.heap.size + 1), 3, none⟩ = some (.int .i64 y.n) := ka.cell 3; have s4 : W.cell? ⟨(w.heap.size + 1), 4, none⟩ = some (.int .i64 y.o) := ka.cell 4; have s5 : W.cell? ⟨(w.heap.size + 1), 5, none⟩ = some (.bool y.flag) := ka.cell 5; have s6 : W.cell? ⟨(w.heap.size + 1), 6, none⟩ = some (.bool y.near) := ka.cell 6; have s7 : W.cell? ⟨(w.heap.size + 1), 7, none⟩ = some (.slice L ll lk) := ka.cell 7; clear ko ka
      (go_simp; try with_reducible rfl)
    simp only [List.setIfInBounds_toArray, List.set_cons_zero, List.set_cons_succ]
    refine wpAnyH_takeAt (i := 1) (d := 81) (v := ?vq15x) rfl rfl (by kernel_rfl) (by kernel_rfl) (by kernel_rfl) (fun _ _ _ h => h) (Or.inl ⟨by rfl, ?hyq15x⟩) hHeld ?_
    case hyq15x =>
      intro W hSw
      clear hSw
      (go_simp; try with_reducible rfl)
    simp only [List.setIfInBounds_toArray, List.set_cons_zero, List.set_cons_succ]
    refine wpAnyH_takeAt (i := 2) (d := 82) (v := ?vq16x) rfl rfl (by kernel_rfl) (by kernel_rfl) (by kernel_rfl) (fun _ _ _ h => h) (Or.inl ⟨by rfl, ?hyq16x⟩) hHeld ?_
    case hyq16x =>
      intro W hSw
      clear hSw
      (go_simp; try with_reducible rfl)
    simp only [List.setIfInBounds_toArray, List.set_cons_zero, List.set_cons_succ]
    refine wpAnyH_takeAt (i := 3) (d := 83) (v := ?vq17x) rfl rfl (by kernel_rfl) (by kernel_rfl) (by kernel_rfl) (fun _ _ _ h => h) (Or.inl ⟨by rfl, ?hyq17x⟩) hHeld ?_
    case hyq17x =>
      intro W hSw
      obtain ⟨ko, ka⟩ := hSw; have q0 : W.cell? ⟨ox, 0, none⟩ = some (.int .i64 (M.nb : Int)) := ko.cell 0; have q1 : W.cell? ⟨ox, 1, none⟩ = some (.int .i64 (M.np : Int)) := ko.cell 1; have q2 : W.cell? ⟨ox, 2, none⟩ = some (.int .i64 (M.ni : Int)) := ko.cell 2; have q3 : W.cell? ⟨ox, 3, none⟩ = some (.slice B1 M.nb d1) := ko.cell 3; have q4 : W.cell? ⟨ox, 4, none⟩ = some (.slice B2 M.np d2) := ko.cell 4; have q5 : W.cell? ⟨ox, 5, none⟩ = some (.slice B3 M.ni d3) := ko.cell 5; have s0 : W.cell? ⟨(w.heap.size + 1), 0, none⟩ = some (.int .i64 y.kind) := ka.cell 0; have s1 : W.cell? ⟨(w.heap.size + 1), 1, none⟩ = some (.int .i64 y.a) := ka.cell 1; have s2 : W.cell? ⟨(w.heap.size + 1), 2, none⟩ = some (.int .i64 y.b) := ka.cell 2; have s3 : W.cell? ⟨(w.heap.size + 1), 3, none⟩ = some (.int .i64 y.n) := ka.cell 3; have s4 : W.cell? ⟨(w.heap.size + 1), 4, none⟩ = some (.int .i64 y.o) := ka.cell 4; have s5 : W.cell? ⟨(w.heap.size + 1), 5, none⟩ = some (.bool y.flag) := ka.cell 5; have s6 : W.cell? ⟨(w.heap.size + 1), 6, none⟩ = some (.bool y.near) := ka.cell 6; have s7 : W.cell? ⟨(w.heap.size + 1), 7, none⟩ = some (.slice L ll lk) := ka.cell 7; clear ko ka
      (go_simp; try with_reducible rfl)
    simp only [List.setIfInBounds_toArray, List.set_cons_zero, List.set_cons_succ]
    refine wpAnyH_takeAt (i := 4) (d := 84) (v := ?vq18x) rfl rfl (by kernel_rfl) (by kernel_rfl) (by kernel_rfl) (fun _ _ _ h => h) (Or.inl ⟨by rfl, ?hyq18x⟩) hHeld ?_
    case hyq18x =>
      intro W hSw
      clear hSw
      (go_simp; try with_reducible rfl)
    simp only [List.setIfInBounds_toArray, List.set_cons_zero, List.set_cons_succ]
    refine wpAnyH_takeAt (i := 5) (d := 85) (v := ?vq19x) rfl rfl (by kernel_rfl) (by kernel_rfl) (by kernel_rfl) (fun _ _ _ h => h) (Or.inl ⟨by rfl, ?hyq19x⟩) hHeld ?_
    case hyq19x =>
      intro W hSw
      obtain ⟨ko, ka⟩ := hSw; have q0 : W.cell? ⟨ox, 0, none⟩ = some (.int .i64 (M.nb : Int)) := ko.cell 0; have q1 : W.cell? ⟨ox, 1, none⟩ = some (.int .i64 (M.np : Int)) := ko.cell 1; have q2 : W.cell? ⟨ox, 2, none⟩ = some (.int .i64 (M.ni : Int)) := ko.cell 2; have q3 : W.cell? ⟨ox, 3, none⟩ = some (.slice B1 M.nb d1) := ko.cell 3; have q4 : W.cell? ⟨ox, 4, none⟩ = some (.slice B2 M.np d2) := ko.cell 4; have q5 : W.cell? ⟨ox, 5, none⟩ = some (.slice B3 M.ni d3) := ko.cell 5; have s0 : W.cell? ⟨(w.heap.size + 1), 0, none⟩ = some (.int .i64 y.kind) := ka.cell 0; have s1 : W.cell? ⟨(w.heap.size + 1), 1, none⟩ = some (.int .i64 y.a) := ka.cell 1; have s2 : W.cell? ⟨(w.heap.size + 1), 2, none⟩ = some (.int .i64 y.b) := ka.cell 2; have s3 : W.cell? ⟨(w.heap.size + 1), 3, none⟩ = some (.int .i64 y.n) := ka.cell 3; have s4 : W.cell? ⟨(w.heap.size + 1), 4, none⟩ = some (.int .i64 y.o) := ka.cell 4; have s5 : W.cell? ⟨(w.heap.size + 1), 5, none⟩ = some (.bool y.flag) := ka.cell 5; have s6 : W.cell? ⟨(w.heap.size + 1), 6, none⟩ = some (.bool y.near) := ka.cell 6; have s7 : W.cell? ⟨(w.heap.size + 1), 7, none⟩ = some (.slice L ll lk) := ka.cell 7; clear ko ka
      (go_simp; try with_reducible rfl)
    simp only [List.setIfInBounds_toArray, List.set_cons_zero, List.set_cons_succ]
    refine wpAnyH_takeAt (i := 6) (d := 86) (v := ?vq20x) rfl rfl (by kernel_rfl) (by kernel_rfl) (by kernel_rfl) (fun _ _ _ h => h) (Or.inl ⟨by rfl, ?hyq20x⟩) hHeld ?_
    case hyq20x =>
      intro W hSw
      clear hSw
      (go_simp; try with_reducible rfl)
    simp only [List.setIfInBounds_toArray, List.set_cons_zero, List.set_cons_succ]
    refine wpAnyH_takeAt (i := 7) (d := 87) (v := ?vq21x) rfl rfl (by kernel_rfl) (by kernel_rfl) (by kernel_rfl) (fun _ _ _ h => h) (Or.inl ⟨by rfl, ?hyq21x⟩) hHeld ?_
    case hyq21x =>
      intro W hSw
      obtain ⟨ko, ka⟩ := hSw; have q0 : W.cell? ⟨ox, 0, none⟩ = some (.int .i64 (M.nb : Int)) := ko.cell 0; have q1 : W.cell? ⟨ox, 1, none⟩ = some (.int .i64 (M.np : Int)) := ko.cell 1; have q2 : W.cell? ⟨ox, 2, none⟩ = some (.int .i64 (M.ni : Int)) := ko.cell 2; have q3 : W.cell? ⟨ox, 3, none⟩ = some (.slice B1 M.nb d1) := ko.cell 3; have q4 : W.cell? ⟨ox, 4, none⟩ = some (.slice B2 M.np d2) := ko.cell 4; have q5 : W.cell? ⟨ox, 5, none⟩ = some (.slice B3 M.ni d3) := ko.cell 5; have s0 : W.cell? ⟨(w.heap.size + 1), 0, none⟩ = some (.int .i64 y.kind) := ka.cell 0; have s1 : W.cell? ⟨(w.heap.size + 1), 1, none⟩ = some (.int .i64 y.a) := ka.cell 1; have s2 : W.cell? ⟨(w.heap.size + 1), 2, none⟩ = some (.int .i64 y.b) := ka.cell 2; have s3 : W.cell? ⟨(w.heap.size + 1), 3, none⟩ = some (.int .i64 y.n) := ka.cell 3; have s4 : W.cell? ⟨(w.heap.size + 1), 4, none⟩ = some (.int .i64 y.o) := ka.cell 4; have s5 : W.cell? ⟨(w.heap.size + 1), 5, none⟩ = some (.bool y.flag) := ka.cell 5; have s6 : W.cell? ⟨(w.heap.size + 1), 6, none⟩ = some (.bool y.near) := ka.cell 6; have s7 : W.cell? ⟨(w.heap.size + 1), 7, none⟩ = some (.slice L ll lk) := ka.cell 7; clear ko ka
      (go_simp; try with_reducible rfl)
    simp only [List.setIfInBounds_toArray, List.set_cons_zero, List.set_cons_succ]
    refine wpAnyH_takeAt (i := 9) (d := 89) (v := ?vq22x) rfl rfl (by kernel_rfl) (by kernel_rfl) (by kernel_rfl) (fun _ _ _ h => h) (Or.inl ⟨by rfl, ?hyq22x⟩) hHeld ?_
    case hyq22x =>
      intro W hSw
      clear hSw
      (go_simp; try with_reducible rfl)
    simp only [List.setIfInBounds_toArray, List.set_cons_zero, List.set_cons_succ]
    refine wpAnyH_ready (rs := [8]) (by kernel_rfl) (by simp) (AllReadyH.cons rfl (fun K hK => ?_) AllReadyH.nil)
    go_simp
    have hmm := HM.out.below hlow
    refine (elect30_any hmm HK.out y.a y.b y.flag).mono ?_
    intro r V1 hme
    obtain ⟨rfl, hdid⟩ := hme
    dsimp only
    have hHeld2 : (fun W => Blk W ox 36 #[.int .i64 (M.nb : Int), .int .i64 (M.np : Int), .int .i64 (M.ni : Int), .slice B1 M.nb d1, .slice B2 M.np d2, .slice B3 M.ni d3] ∧ Blk W (w.heap.size + 1) 43 #[.int .i64 y.kind, .int .i64 y.a, .int .i64 y.b, .int .i64 y.n, .int .i64 y.o, .bool y.flag, .bool y.near, .slice L ll lk]) V1 := ⟨hHeld.1.keep hdid.2 (fun e => by have := HS.out _ e; have := HOX.out; omega), hHeld.2.keep hdid.2 (fun e => by have := HS.out _ e; omega)⟩
    have hrx1 : Blk V1 (w.heap.size + 2) 36 #[.int .i64 0, .int .i64 0, .int .i64 0, .slice none 0 0, .slice none 0 0, .slice none 0 0] := hrxb.keep hdid.2 (fun e => by have := HS.out _ e; omega)
    refine hK.out _ _ hHeld2 (fun hHeld => ?_)
    clear hK K hHeld2
    try simp only [List.setIfInBounds_toArray, List.set_cons_zero, List.set_cons_succ]
    refine wpAnyH_takeAt (i := 10) (d := 90) (v := ?vq23x) rfl rfl (by kernel_rfl) (by kernel_rfl) (by kernel_rfl) (fun _ _ _ h => h) (Or.inl ⟨by rfl, ?hyq23x⟩) hHeld ?_
    case hyq23x =>
      intro W hSw
      clear hSw
      (go_simp; try with_reducible rfl)
    simp only [List.setIfInBounds_toArray, List.set_cons_zero, List.set_cons_succ]
    refine wpAnyH_ready (rs := [11]) (by kernel_rfl) (by simp) (AllReadyH.cons rfl (fun K hK => ?_) AllReadyH.nil)
    refine step_store_blk (by rfl) rfl 36 _ _ rfl (w.heap.size + 2) _ #[.int .i64 (M.nb : Int), .int .i64 (M.np : Int), .int .i64 (M.ni : Int), .slice B1 M.nb d1, .slice B2 M.np d2, .slice B3 M.ni d3] rfl rfl 36 hrx1 rfl (by kernel_rfl) (by simp [Value.oneCell']) ?_
    intro V2 hB2 hg2 hs2
    have HB2 := Lib.hid hB2
    have hT2 : Turn (fun z => z = (w.heap.size + 2)) V1 V2 := Turn.of_grown hg2 (fun r e => by injection e with e; exact e.symm)
    have hM9 : (if M.electE y.a y.b y.flag = 0 then M.setV y.a.toNat ((M.views y.a.toNat).elect y.b) else M) = M1 := by
      rw [← HMS.out]
      unfold Mt.does
      rw [if_neg (show ¬ y.kind = 1 by have := HKD.out; omega)]; rw [if_neg (show ¬ y.kind = 2 by have := HKD.out; omega)]; rw [if_pos HKD.out]
    have HF : Hid (∃ S', Pl V2 g M1 (.agg #[.int .i64 (M.nb : Int), .int .i64 (M.np : Int), .int .i64 (M.ni : Int), .slice B1 M.nb d1, .slice B2 M.np d2, .slice B3 M.ni d3]) S' Y ∧ (∀ b, b < w.heap.size → S' b → S b) ∧ Turn S w V2) := Lib.hid (do_of HS.out HY.out hlow (hM9 ▸ hdid) (hM9 ▸ hr0) (by omega) hrxb.lt hT2)
    have hHeld2 : (fun W => Blk W ox 36 #[.int .i64 (M.nb : Int), .int .i64 (M.np : Int), .int .i64 (M.ni : Int), .slice B1 M.nb d1, .slice B2 M.np d2, .slice B3 M.ni d3] ∧ Blk W (w.heap.size + 1) 43 #[.int .i64 y.kind, .int .i64 y.a, .int .i64 y.b, .int .i64 y.n, .int .i64 y.o, .bool y.flag, .bool y.near, .slice L ll lk]) V2 := ⟨hHeld.1.keep hT2 (fun e => by have := HOX.out; omega), hHeld.2.keep hT2 (fun e => by omega)⟩
    refine hK.out _ _ hHeld2 (fun hHeld => ?_)
    clear hK K hHeld2 hT2 hM9 hB2 hg2 hs2
    try simp only [List.setIfInBounds_toArray, List.set_cons_zero, List.set_cons_succ]
    refine wpAnyH_takeAt (i := 12) (d := 7) (v := ?vq24x) rfl rfl (by kernel_rfl) (by kernel_rfl) (by kernel_rfl) (fun _ _ _ h => h) (Or.inl ⟨by rfl, ?hyq24x⟩) hHeld ?_
    case hyq24x =>
      intro W hSw
      clear hSw
      (go_simp; try with_reducible rfl)
    simp only [List.setIfInBounds_toArray, List.set_cons_zero, List.set_cons_succ]
    refine wpAnyH_done (by kernel_rfl) ?_ _
    clear hHeld
    go_wp2_with fail
    refine bodyPost_ret (results_ct (by rfl) _ _ (w.heap.size + 2) 36 _ (0, 0) _ (by rfl) HB2.out und36 (by rfl) (by kernel_rfl) (by rfl)) rfl ?_
    obtain ⟨S', k1, k2, k3⟩ := HF.out
    exact ⟨_, S', rfl, k1, k2, k3⟩
  case neg =>
  have e3 := neb h3
  by_cases h4 : y.kind = 4
  case pos =>
    have e4 := eqb h4
    have HKD := Lib.hid h4
    clear h4
    have a1 : w4.cell? ⟨(w.heap.size + 1), 1, none⟩ = some (.int .i64 y.a) := HI4.out.ab.cell 1
    have a2 : w4.cell? ⟨(w.heap.size + 1), 2, none⟩ = some (.int .i64 y.b) := HI4.out.ab.cell 2
    have a3 : w4.cell? ⟨(w.heap.size + 1), 3, none⟩ = some (.int .i64 y.n) := HI4.out.ab.cell 3
    have a4 : w4.cell? ⟨(w.heap.size + 1), 4, none⟩ = some (.int .i64 y.o) := HI4.out.ab.cell 4
    have a7 : w4.cell? ⟨(w.heap.size + 1), 7, none⟩ = some (.slice L ll lk) := HI4.out.ab.cell 7
    go_wp2_with (with_reducible refine at_load 36 rfl ?_)
    refine Stop.go (wpList_load_blk (by rfl) 36 _ (by rfl) w.heap.size (by rfl) 36 _ HI4.out.gb _ und36 (by rfl) (by kernel_rfl) ?_)
    have hrx9 := HRX.out.below HI4.out.low
    have hxx9 := HXX.out _ HI4.out.low.size HI4.out.rx.lt
    have hcall := alter43_any (k := lk) hrx9 hxx9 HK.out (HLX.out.below HI4.out.low) HL.out.2 y.a y.b y.n y.o
    clear hrx9 hxx9
    go_wp2_with fail
    refine hcall.mono ?_
    rintro r w7 ⟨v7, rfl, hrf, hb7⟩
    have HI7 := Lib.hid (HI4.out.below hb7)
    have hrf7 := hrf
    obtain ⟨B1, B2, B3, d1, d2, d3, rs7, e7, hR7⟩ := hrf
    have hc7 : v7 = .agg #[.int .i64 (M.nb : Int), .int .i64 (M.np : Int), .int .i64 (M.ni : Int), .slice B1 M.nb d1, .slice B2 M.np d2, .slice B3 M.ni d3] := by rw [e7]; split <;> rfl
    subst hc7
    have HRF := Lib.hid hrf7
    clear hcall hrf7 hR7 hb7 e7 a1 a2 a3 a4 a7 a0
    go_wp2_with (with_reducible refine at_store 36 rfl ?_)
    refine Stop.go (wpList_store_blk (by rfl) (by rfl) 36 _ _ (by rfl) w7.heap.size _ #[.int .i64 (M.nb : Int), .int .i64 (M.np : Int), .int .i64 (M.ni : Int), .slice B1 M.nb d1, .slice B2 M.np d2, .slice B3 M.ni d3] (by rfl) (by rfl) 36 (Blk.new w7 36 #[.int .i64 0, .int .i64 0, .int .i64 0, .slice none 0 0, .slice none 0 0, .slice none 0 0]) (by rfl) (by kernel_rfl) (by simp [Value.oneCell']) ?_)
    intro w8 hB8 hg8 hs8
    have hb8 : Below w7.heap.size w7 w8 := below_grown ((Below.refl w7.heap.size w7).alloc (Nat.le_refl _) (.cells #[.int .i64 0, .int .i64 0, .int .i64 0, .slice none 0 0, .slice none 0 0, .slice none 0 0] 36)) hg8 (Nat.le_refl _) (Nat.le_refl _)
    have HI8 := Lib.hid (HI7.out.below hb8)
    have HR8 := Lib.hid (HRF.out.below hb8)
    have HO8 := Lib.hid hB8
    have HOX : Hid (w.heap.size + 3 ≤ w7.heap.size) := Lib.hid (by have := HI7.out.rx.lt; omega)
    clear hB8 hg8 hs8 hb8 HI7 HRF
    generalize w7.heap.size = ox at *
    go_upto_region 14 with fail
    refine wp_region_np ?_
    refine wp_region_held_drew (S := fun W => Blk W ox 36 #[.int .i64 (M.nb : Int), .int .i64 (M.np : Int), .int .i64 (M.ni : Int), .slice B1 M.nb d1, .slice B2 M.np d2, .slice B3 M.ni d3] ∧ Blk W (w.heap.size + 1) 43 #[.int .i64 y.kind, .int .i64 y.a, .int .i64 y.b, .int .i64 y.n, .int .i64 y.o, .bool y.flag, .bool y.near, .slice L ll lk]) (by kernel_rfl) (show (fun W => Blk W ox 36 #[.int .i64 (M.nb : Int), .int .i64 (M.np : Int), .int .i64 (M.ni : Int), .slice B1 M.nb d1, .slice B2 M.np d2, .slice B3 M.ni d3] ∧ Blk W (w.heap.size + 1) 43 #[.int .i64 y.kind, .int .i64 y.a, .int .i64 y.b, .int .i64 y.n, .int .i64 y.o, .bool y.flag, .bool y.near, .slice L ll lk]) w8.drew from ⟨HO8.out.drew, HI8.out.ab.drew⟩) (fun hHeld => ?_)
    have hlow : Below w.heap.size w w8.drew := HI8.out.low.drew
    have hr0 := HR8.out.below (Below.refl _ _).drew
    have hrxb := HI8.out.rx.drew
    generalize hv0 : w8.drew = V0 at *
    clear hv0
    refine wpAnyH_takeAt (i := 0) (d := 109) (v := ?vq25x) rfl rfl (by kernel_rfl) (by kernel_rfl) (by kernel_rfl) (fun _ _ _ h => h) (Or.inl ⟨by rfl, ?hyq25x⟩) hHeld ?_
    case hyq25x =>
      intro W hSw
      obtain ⟨ko, ka⟩ := hSw; have q0 : W.cell? ⟨ox, 0, none⟩ = some (.int .i64 (M.nb : Int)) := ko.cell 0; have q1 : W.cell? ⟨ox, 1, none⟩ = some (.int .i64 (M.np : Int)) := ko.cell 1; have q2 : W.cell? ⟨ox, 2, none⟩ = some (.int .i64 (M.ni : Int)) := ko.cell 2; have q3 : W.cell? ⟨ox, 3, none⟩ = some (.slice B1 M.nb d1) := ko.cell 3; have q4 : W.cell? ⟨ox, 4, none⟩ = some (.slice B2 M.np d2) := ko.cell 4; have q5 : W.cell? ⟨ox, 5, none⟩ = some (.slice B3 M.ni d3) := ko.cell 5; have s0 : W.cell? ⟨(w.heap.size + 1), 0, none⟩ = some (.int .i64 y.kind) := ka.cell 0; have s1 : W.cell? ⟨(w.heap.size + 1), 1, none⟩ = some (.int .i64 y.a) := ka.cell 1; have s2 : W.cell? ⟨(w.heap.size + 1), 2, none⟩ = some (.int .i64 y.b) := ka.cell 2; have s3 : W.cell? ⟨(w.heap.size + 1), 3, none⟩ = some (.int .i64 y.n) := ka.cell 3; have s4 : W.cell? ⟨(w.heap.size + 1), 4, none⟩ = some (.int .i64 y.o) := ka.cell 4; have s5 : W.cell? ⟨(w.heap.size + 1), 5, none⟩ = some (.bool y.flag) := ka.cell 5; have s6 : W.cell? ⟨(w.heap.size + 1), 6, none⟩ = some (.bool y.near) := ka.cell 6; have s7 : W.cell? ⟨(w.heap.size + 1), 7, none⟩ = some (.slice L ll lk) := ka.cell 7; clear ko ka
      (go_simp; try with_reducible rfl)
    simp only [List.setIfInBounds_toArray, List.set_cons_zero, List.set_cons_succ]
    refine wpAnyH_takeAt (i := 1) (d := 110) (v := ?vq26x) rfl rfl (by kernel_rfl) (by kernel_rfl) (by kernel_rfl) (fun _ _ _ h => h) (Or.inl ⟨by rfl, ?hyq26x⟩) hHeld ?_
    case hyq26x =>
      intro W hSw
      clear hSw
      (go_simp; try with_reducible rfl)
    simp only [List.setIfInBounds_toArray, List.set_cons_zero, List.set_cons_succ]
    refine wpAnyH_takeAt (i := 2) (d := 111) (v := ?vq27x) rfl rfl (by kernel_rfl) (by kernel_rfl) (by kernel_rfl) (fun _ _ _ h => h) (Or.inl ⟨by rfl, ?hyq27x⟩) hHeld ?_
    case hyq27x =>
      intro W hSw
      clear hSw
      (go_simp; try with_reducible rfl)
    simp only [List.setIfInBounds_toArray, List.set_cons_zero, List.set_cons_succ]
    refine wpAnyH_takeAt (i := 3) (d := 112) (v := ?vq28x) rfl rfl (by kernel_rfl) (by kernel_rfl) (by kernel_rfl) (fun _ _ _ h => h) (Or.inl ⟨by rfl, ?hyq28x⟩) hHeld ?_
    case hyq28x =>
      intro W hSw
      obtain ⟨ko, ka⟩ := hSw; have q0 : W.cell? ⟨ox, 0, none⟩ = some (.int .i64 (M.nb : Int)) := ko.cell 0; have q1 : W.cell? ⟨ox, 1, none⟩ = some (.int .i64 (M.np : Int)) := ko.cell 1; have q2 : W.cell? ⟨ox, 2, none⟩ = some (.int .i64 (M.ni : Int)) := ko.cell 2; have q3 : W.cell? ⟨ox, 3, none⟩ = some (.slice B1 M.nb d1) := ko.cell 3; have q4 : W.cell? ⟨ox, 4, none⟩ = some (.slice B2 M.np d2) := ko.cell 4; have q5 : W.cell? ⟨ox, 5, none⟩ = some (.slice B3 M.ni d3) := ko.cell 5; have s0 : W.cell? ⟨(w.heap.size + 1), 0, none⟩ = some (.int .i64 y.kind) := ka.cell 0; have s1 : W.cell? ⟨(w.heap.size + 1), 1, none⟩ = some (.int .i64 y.a) := ka.cell 1; have s2 : W.cell? ⟨(w.heap.size + 1), 2, none⟩ = some (.int .i64 y.b) := ka.cell 2; have s3 : W.cell? ⟨(w.heap.size + 1), 3, none⟩ = some (.int .i64 y.n) := ka.cell 3; have s4 : W.cell? ⟨(w.heap.size + 1), 4, none⟩ = some (.int .i64 y.o) := ka.cell 4; have s5 : W.cell? ⟨(w.heap.size + 1), 5, none⟩ = some (.bool y.flag) := ka.cell 5; have s6 : W.cell? ⟨(w.heap.size + 1), 6, none⟩ = some (.bool y.near) := ka.cell 6; have s7 : W.cell? ⟨(w.heap.size + 1), 7, none⟩ = some (.slice L ll lk) := ka.cell 7; clear ko ka
      (go_simp; try with_reducible rfl)
    simp only [List.setIfInBounds_toArray, List.set_cons_zero, List.set_cons_succ]
    refine wpAnyH_takeAt (i := 4) (d := 113) (v := ?vq29x) rfl rfl (by kernel_rfl) (by kernel_rfl) (by kernel_rfl) (fun _ _ _ h => h) (Or.inl ⟨by rfl, ?hyq29x⟩) hHeld ?_
    case hyq29x =>
      intro W hSw
      clear hSw
      (go_simp; try with_reducible rfl)
    simp only [List.setIfInBounds_toArray, List.set_cons_zero, List.set_cons_succ]
    refine wpAnyH_takeAt (i := 5) (d := 114) (v := ?vq30x) rfl rfl (by kernel_rfl) (by kernel_rfl) (by kernel_rfl) (fun _ _ _ h => h) (Or.inl ⟨by rfl, ?hyq30x⟩) hHeld ?_
    case hyq30x =>
      intro W hSw
      obtain ⟨ko, ka⟩ := hSw; have q0 : W.cell? ⟨ox, 0, none⟩ = some (.int .i64 (M.nb : Int)) := ko.cell 0; have q1 : W.cell? ⟨ox, 1, none⟩ = some (.int .i64 (M.np : Int)) := ko.cell 1; have q2 : W.cell? ⟨ox, 2, none⟩ = some (.int .i64 (M.ni : Int)) := ko.cell 2; have q3 : W.cell? ⟨ox, 3, none⟩ = some (.slice B1 M.nb d1) := ko.cell 3; have q4 : W.cell? ⟨ox, 4, none⟩ = some (.slice B2 M.np d2) := ko.cell 4; have q5 : W.cell? ⟨ox, 5, none⟩ = some (.slice B3 M.ni d3) := ko.cell 5; have s0 : W.cell? ⟨(w.heap.size + 1), 0, none⟩ = some (.int .i64 y.kind) := ka.cell 0; have s1 : W.cell? ⟨(w.heap.size + 1), 1, none⟩ = some (.int .i64 y.a) := ka.cell 1; have s2 : W.cell? ⟨(w.heap.size + 1), 2, none⟩ = some (.int .i64 y.b) := ka.cell 2; have s3 : W.cell? ⟨(w.heap.size + 1), 3, none⟩ = some (.int .i64 y.n) := ka.cell 3; have s4 : W.cell? ⟨(w.heap.size + 1), 4, none⟩ = some (.int .i64 y.o) := ka.cell 4; have s5 : W.cell? ⟨(w.heap.size + 1), 5, none⟩ = some (.bool y.flag) := ka.cell 5; have s6 : W.cell? ⟨(w.heap.size + 1), 6, none⟩ = some (.bool y.near) := ka.cell 6; have s7 : W.cell? ⟨(w.heap.size + 1), 7, none⟩ = some (.slice L ll lk) := ka.cell 7; clear ko ka
      (go_simp; try with_reducible rfl)
    simp only [List.setIfInBounds_toArray, List.set_cons_zero, List.set_cons_succ]
    refine wpAnyH_takeAt (i := 6) (d := 115) (v := ?vq31x) rfl rfl (by kernel_rfl) (by kernel_rfl) (by kernel_rfl) (fun _ _ _ h => h) (Or.inl ⟨by rfl, ?hyq31x⟩) hHeld ?_
    case hyq31x =>
      intro W hSw
      clear hSw
      (go_simp; try with_reducible rfl)
    simp only [List.setIfInBounds_toArray, List.set_cons_zero, List.set_cons_succ]
    refine wpAnyH_takeAt (i := 7) (d := 116) (v := ?vq32x) rfl rfl (by kernel_rfl) (by kernel_rfl) (by kernel_rfl) (fun _ _ _ h => h) (Or.inl ⟨by rfl, ?hyq32x⟩) hHeld ?_
    case hyq32x =>
      intro W hSw
      obtain ⟨ko, ka⟩ := hSw; have q0 : W.cell? ⟨ox, 0, none⟩ = some (.int .i64 (M.nb : Int)) := ko.cell 0; have q1 : W.cell? ⟨ox, 1, none⟩ = some (.int .i64 (M.np : Int)) := ko.cell 1; have q2 : W.cell? ⟨ox, 2, none⟩ = some (.int .i64 (M.ni : Int)) := ko.cell 2; have q3 : W.cell? ⟨ox, 3, none⟩ = some (.slice B1 M.nb d1) := ko.cell 3; have q4 : W.cell? ⟨ox, 4, none⟩ = some (.slice B2 M.np d2) := ko.cell 4; have q5 : W.cell? ⟨ox, 5, none⟩ = some (.slice B3 M.ni d3) := ko.cell 5; have s0 : W.cell? ⟨(w.heap.size + 1), 0, none⟩ = some (.int .i64 y.kind) := ka.cell 0; have s1 : W.cell? ⟨(w.heap.size + 1), 1, none⟩ = some (.int .i64 y.a) := ka.cell 1; have s2 : W.cell? ⟨(w.heap.size + 1), 2, none⟩ = some (.int .i64 y.b) := ka.cell 2; have s3 : W.cell? ⟨(w.heap.size + 1), 3, none⟩ = some (.int .i64 y.n) := ka.cell 3; have s4 : W.cell? ⟨(w.heap.size + 1), 4, none⟩ = some (.int .i64 y.o) := ka.cell 4; have s5 : W.cell? ⟨(w.heap.size + 1), 5, none⟩ = some (.bool y.flag) := ka.cell 5; have s6 : W.cell? ⟨(w.heap.size + 1), 6, none⟩ = some (.bool y.near) := ka.cell 6; have s7 : W.cell? ⟨(w.heap.size + 1), 7, none⟩ = some (.slice L ll lk) := ka.cell 7; clear ko ka
      (go_simp; try with_reducible rfl)
    simp only [List.setIfInBounds_toArray, List.set_cons_zero, List.set_cons_succ]
    refine wpAnyH_takeAt (i := 8) (d := 117) (v := ?vq33x) rfl rfl (by kernel_rfl) (by kernel_rfl) (by kernel_rfl) (fun _ _ _ h => h) (Or.inl ⟨by rfl, ?hyq33x⟩) hHeld ?_
    case hyq33x =>
      intro W hSw
      clear hSw
      (go_simp; try with_reducible rfl)
    simp only [List.setIfInBounds_toArray, List.set_cons_zero, List.set_cons_succ]
    refine wpAnyH_takeAt (i := 9) (d := 118) (v := ?vq34x) rfl rfl (by kernel_rfl) (by kernel_rfl) (by kernel_rfl) (fun _ _ _ h => h) (Or.inl ⟨by rfl, ?hyq34x⟩) hHeld ?_
    case hyq34x =>
      intro W hSw
      obtain ⟨ko, ka⟩ := hSw; have q0 : W.cell? ⟨ox, 0, none⟩ = some (.int .i64 (M.nb : Int)) := ko.cell 0; have q1 : W.cell? ⟨ox, 1, none⟩ = some (.int .i64 (M.np : Int)) := ko.cell 1; have q2 : W.cell? ⟨ox, 2, none⟩ = some (.int .i64 (M.ni : Int)) := ko.cell 2; have q3 : W.cell? ⟨ox, 3, none⟩ = some (.slice B1 M.nb d1) := ko.cell 3; have q4 : W.cell? ⟨ox, 4, none⟩ = some (.slice B2 M.np d2) := ko.cell 4; have q5 : W.cell? ⟨ox, 5, none⟩ = some (.slice B3 M.ni d3) := ko.cell 5; have s0 : W.cell? ⟨(w.heap.size + 1), 0, none⟩ = some (.int .i64 y.kind) := ka.cell 0; have s1 : W.cell? ⟨(w.heap.size + 1), 1, none⟩ = some (.int .i64 y.a) := ka.cell 1; have s2 : W.cell? ⟨(w.heap.size + 1), 2, none⟩ = some (.int .i64 y.b) := ka.cell 2; have s3 : W.cell? ⟨(w.heap.size + 1), 3, none⟩ = some (.int .i64 y.n) := ka.cell 3; have s4 : W.cell? ⟨(w.heap.size + 1), 4, none⟩ = some (.int .i64 y.o) := ka.cell 4; have s5 : W.cell? ⟨(w.heap.size + 1), 5, none⟩ = some (.bool y.flag) := ka.cell 5; have s6 : W.cell? ⟨(w.heap.size + 1), 6, none⟩ = some (.bool y.near) := ka.cell 6; have s7 : W.cell? ⟨(w.heap.size + 1), 7, none⟩ = some (.slice L ll lk) := ka.cell 7; clear ko ka
      (go_simp; try with_reducible rfl)
    simp only [List.setIfInBounds_toArray, List.set_cons_zero, List.set_cons_succ]
    refine wpAnyH_takeAt (i := 10) (d := 119) (v := ?vq35x) rfl rfl (by kernel_rfl) (by kernel_rfl) (by kernel_rfl) (fun _ _ _ h => h) (Or.inl ⟨by rfl, ?hyq35x⟩) hHeld ?_
    case hyq35x =>
      intro W hSw
      clear hSw
      (go_simp; try with_reducible rfl)
    simp only [List.setIfInBounds_toArray, List.set_cons_zero, List.set_cons_succ]
    refine wpAnyH_takeAt (i := 11) (d := 120) (v := ?vq36x) rfl rfl (by kernel_rfl) (by kernel_rfl) (by kernel_rfl) (fun _ _ _ h => h) (Or.inl ⟨by rfl, ?hyq36x⟩) hHeld ?_
    case hyq36x =>
      intro W hSw
      obtain ⟨ko, ka⟩ := hSw; have q0 : W.cell? ⟨ox, 0, none⟩ = some (.int .i64 (M.nb : Int)) := ko.cell 0; have q1 : W.cell? ⟨ox, 1, none⟩ = some (.int .i64 (M.np : Int)) := ko.cell 1; have q2 : W.cell? ⟨ox, 2, none⟩ = some (.int .i64 (M.ni : Int)) := ko.cell 2; have q3 : W.cell? ⟨ox, 3, none⟩ = some (.slice B1 M.nb d1) := ko.cell 3; have q4 : W.cell? ⟨ox, 4, none⟩ = some (.slice B2 M.np d2) := ko.cell 4; have q5 : W.cell? ⟨ox, 5, none⟩ = some (.slice B3 M.ni d3) := ko.cell 5; have s0 : W.cell? ⟨(w.heap.size + 1), 0, none⟩ = some (.int .i64 y.kind) := ka.cell 0; have s1 : W.cell? ⟨(w.heap.size + 1), 1, none⟩ = some (.int .i64 y.a) := ka.cell 1; have s2 : W.cell? ⟨(w.heap.size + 1), 2, none⟩ = some (.int .i64 y.b) := ka.cell 2; have s3 : W.cell? ⟨(w.heap.size + 1), 3, none⟩ = some (.int .i64 y.n) := ka.cell 3; have s4 : W.cell? ⟨(w.heap.size + 1), 4, none⟩ = some (.int .i64 y.o) := ka.cell 4; have s5 : W.cell? ⟨(w.heap.size + 1), 5, none⟩ = some (.bool y.flag) := ka.cell 5; have s6 : W.cell? ⟨(w.heap.size + 1), 6, none⟩ = some (.bool y.near) := ka.cell 6; have s7 : W.cell? ⟨(w.heap.size + 1), 7, none⟩ = some (.slice L ll lk) := ka.cell 7; clear ko ka
      (go_simp; try with_reducible rfl)
    simp only [List.setIfInBounds_toArray, List.set_cons_zero, List.set_cons_succ]
    refine wpAnyH_takeAt (i := 13) (d := 122) (v := ?vq37x) rfl rfl (by kernel_rfl) (by kernel_rfl) (by kernel_rfl) (fun _ _ _ h => h) (Or.inl ⟨by rfl, ?hyq37x⟩) hHeld ?_
    case hyq37x =>
      intro W hSw
      clear hSw
      (go_simp; try with_reducible rfl)
    simp only [List.setIfInBounds_toArray, List.set_cons_zero, List.set_cons_succ]
    refine wpAnyH_ready (rs := [12]) (by kernel_rfl) (by simp) (AllReadyH.cons rfl (fun K hK => ?_) AllReadyH.nil)
    go_simp
    have hmm := HM.out.below hlow
    refine (alter31_any (k := lk) hmm HK.out (HL.out.1.below hlow) HL.out.2 y.a y.b y.n y.o).mono ?_
    intro r V1 hme
    obtain ⟨rfl, hdid⟩ := hme
    dsimp only
    have hHeld2 : (fun W => Blk W ox 36 #[.int .i64 (M.nb : Int), .int .i64 (M.np : Int), .int .i64 (M.ni : Int), .slice B1 M.nb d1, .slice B2 M.np d2, .slice B3 M.ni d3] ∧ Blk W (w.heap.size + 1) 43 #[.int .i64 y.kind, .int .i64 y.a, .int .i64 y.b, .int .i64 y.n, .int .i64 y.o, .bool y.flag, .bool y.near, .slice L ll lk]) V1 := ⟨hHeld.1.keep hdid.2 (fun e => by have := HS.out _ e; have := HOX.out; omega), hHeld.2.keep hdid.2 (fun e => by have := HS.out _ e; omega)⟩
    have hrx1 : Blk V1 (w.heap.size + 2) 36 #[.int .i64 0, .int .i64 0, .int .i64 0, .slice none 0 0, .slice none 0 0, .slice none 0 0] := hrxb.keep hdid.2 (fun e => by have := HS.out _ e; omega)
    refine hK.out _ _ hHeld2 (fun hHeld => ?_)
    clear hK K hHeld2
    try simp only [List.setIfInBounds_toArray, List.set_cons_zero, List.set_cons_succ]
    refine wpAnyH_takeAt (i := 14) (d := 123) (v := ?vq38x) rfl rfl (by kernel_rfl) (by kernel_rfl) (by kernel_rfl) (fun _ _ _ h => h) (Or.inl ⟨by rfl, ?hyq38x⟩) hHeld ?_
    case hyq38x =>
      intro W hSw
      clear hSw
      (go_simp; try with_reducible rfl)
    simp only [List.setIfInBounds_toArray, List.set_cons_zero, List.set_cons_succ]
    refine wpAnyH_ready (rs := [15]) (by kernel_rfl) (by simp) (AllReadyH.cons rfl (fun K hK => ?_) AllReadyH.nil)
    refine step_store_blk (by rfl) rfl 36 _ _ rfl (w.heap.size + 2) _ #[.int .i64 (M.nb : Int), .int .i64 (M.np : Int), .int .i64 (M.ni : Int), .slice B1 M.nb d1, .slice B2 M.np d2, .slice B3 M.ni d3] rfl rfl 36 hrx1 rfl (by kernel_rfl) (by simp [Value.oneCell']) ?_
    intro V2 hB2 hg2 hs2
    have HB2 := Lib.hid hB2
    have hT2 : Turn (fun z => z = (w.heap.size + 2)) V1 V2 := Turn.of_grown hg2 (fun r e => by injection e with e; exact e.symm)
    have hM9 : (if M.alterE y.a y.b y.n y.o V = 0 then M.setV y.a.toNat ((M.views y.a.toNat).alter V) else M) = M1 := by
      rw [← HMS.out]
      unfold Mt.does
      rw [if_neg (show ¬ y.kind = 1 by have := HKD.out; omega)]; rw [if_neg (show ¬ y.kind = 2 by have := HKD.out; omega)]; rw [if_neg (show ¬ y.kind = 3 by have := HKD.out; omega)]; rw [if_pos HKD.out]
    have HF : Hid (∃ S', Pl V2 g M1 (.agg #[.int .i64 (M.nb : Int), .int .i64 (M.np : Int), .int .i64 (M.ni : Int), .slice B1 M.nb d1, .slice B2 M.np d2, .slice B3 M.ni d3]) S' Y ∧ (∀ b, b < w.heap.size → S' b → S b) ∧ Turn S w V2) := Lib.hid (do_of HS.out HY.out hlow (hM9 ▸ hdid) (hM9 ▸ hr0) (by omega) hrxb.lt hT2)
    have hHeld2 : (fun W => Blk W ox 36 #[.int .i64 (M.nb : Int), .int .i64 (M.np : Int), .int .i64 (M.ni : Int), .slice B1 M.nb d1, .slice B2 M.np d2, .slice B3 M.ni d3] ∧ Blk W (w.heap.size + 1) 43 #[.int .i64 y.kind, .int .i64 y.a, .int .i64 y.b, .int .i64 y.n, .int .i64 y.o, .bool y.flag, .bool y.near, .slice L ll lk]) V2 := ⟨hHeld.1.keep hT2 (fun e => by have := HOX.out; omega), hHeld.2.keep hT2 (fun e => by omega)⟩
    refine hK.out _ _ hHeld2 (fun hHeld => ?_)
    clear hK K hHeld2 hT2 hM9 hB2 hg2 hs2
    try simp only [List.setIfInBounds_toArray, List.set_cons_zero, List.set_cons_succ]
    refine wpAnyH_takeAt (i := 16) (d := 7) (v := ?vq39x) rfl rfl (by kernel_rfl) (by kernel_rfl) (by kernel_rfl) (fun _ _ _ h => h) (Or.inl ⟨by rfl, ?hyq39x⟩) hHeld ?_
    case hyq39x =>
      intro W hSw
      clear hSw
      (go_simp; try with_reducible rfl)
    simp only [List.setIfInBounds_toArray, List.set_cons_zero, List.set_cons_succ]
    refine wpAnyH_done (by kernel_rfl) ?_ _
    clear hHeld
    go_wp2_with fail
    refine bodyPost_ret (results_ct (by rfl) _ _ (w.heap.size + 2) 36 _ (0, 0) _ (by rfl) HB2.out und36 (by rfl) (by kernel_rfl) (by rfl)) rfl ?_
    obtain ⟨S', k1, k2, k3⟩ := HF.out
    exact ⟨_, S', rfl, k1, k2, k3⟩
  case neg =>
  have e4 := neb h4
  by_cases h5 : y.kind = 5
  case pos =>
    have e5 := eqb h5
    have HKD := Lib.hid h5
    clear h5
    have a1 : w4.cell? ⟨(w.heap.size + 1), 1, none⟩ = some (.int .i64 y.a) := HI4.out.ab.cell 1
    go_wp2_with (with_reducible refine at_load 36 rfl ?_)
    refine Stop.go (wpList_load_blk (by rfl) 36 _ (by rfl) w.heap.size (by rfl) 36 _ HI4.out.gb _ und36 (by rfl) (by kernel_rfl) ?_)
    have hrx9 := HRX.out.below HI4.out.low
    have hxx9 := HXX.out _ HI4.out.low.size HI4.out.rx.lt
    have hcall := init44_any hrx9 hxx9 HK.out y.a
    clear hrx9 hxx9
    go_wp2_with fail
    refine hcall.mono ?_
    rintro r w7 ⟨v7, rfl, hrf, hb7⟩
    have HI7 := Lib.hid (HI4.out.below hb7)
    have hrf7 := hrf
    obtain ⟨B1, B2, B3, d1, d2, d3, rs7, e7, hR7⟩ := hrf
    have hc7 : v7 = .agg #[.int .i64 (M.nb : Int), .int .i64 (M.np : Int), .int .i64 (M.ni : Int), .slice B1 M.nb d1, .slice B2 M.np d2, .slice B3 M.ni d3] := by rw [e7]; split <;> rfl
    subst hc7
    have HRF := Lib.hid hrf7
    clear hcall hrf7 hR7 hb7 e7 a1 a0
    go_wp2_with (with_reducible refine at_store 36 rfl ?_)
    refine Stop.go (wpList_store_blk (by rfl) (by rfl) 36 _ _ (by rfl) w7.heap.size _ #[.int .i64 (M.nb : Int), .int .i64 (M.np : Int), .int .i64 (M.ni : Int), .slice B1 M.nb d1, .slice B2 M.np d2, .slice B3 M.ni d3] (by rfl) (by rfl) 36 (Blk.new w7 36 #[.int .i64 0, .int .i64 0, .int .i64 0, .slice none 0 0, .slice none 0 0, .slice none 0 0]) (by rfl) (by kernel_rfl) (by simp [Value.oneCell']) ?_)
    intro w8 hB8 hg8 hs8
    have hb8 : Below w7.heap.size w7 w8 := below_grown ((Below.refl w7.heap.size w7).alloc (Nat.le_refl _) (.cells #[.int .i64 0, .int .i64 0, .int .i64 0, .slice none 0 0, .slice none 0 0, .slice none 0 0] 36)) hg8 (Nat.le_refl _) (Nat.le_refl _)
    have HI8 := Lib.hid (HI7.out.below hb8)
    have HR8 := Lib.hid (HRF.out.below hb8)
    have HO8 := Lib.hid hB8
    have HOX : Hid (w.heap.size + 3 ≤ w7.heap.size) := Lib.hid (by have := HI7.out.rx.lt; omega)
    clear hB8 hg8 hs8 hb8 HI7 HRF
    generalize w7.heap.size = ox at *
    have a1 : w8.cell? ⟨(w.heap.size + 1), 1, none⟩ = some (.int .i64 y.a) := HI8.out.ab.cell 1
    have hmm := HM.out.below HI8.out.low
    have hmc := (init_any hmm HK.out.nb.1 HK.out.ni.2 (fun p hp => ⟨(HK.out.wr p hp).s0, (HK.out.wr p hp).s1⟩) y.a).mono (fun _ _ q => q.me HM.out.sg)
    go_wp2_with fail
    refine hmc.mono ?_
    intro r V1 hme
    obtain ⟨rfl, hdid⟩ := hme
    have HDID := Lib.hid hdid
    have HO1 := Lib.hid (HO8.out.keep hdid.2 (fun e => by have := HS.out _ e; have := HOX.out; omega))
    have HRX1 : Hid (Blk V1 (w.heap.size + 2) 36 #[.int .i64 0, .int .i64 0, .int .i64 0, .slice none 0 0, .slice none 0 0, .slice none 0 0]) := Lib.hid (HI8.out.rx.keep hdid.2 (fun e => by have := HS.out _ e; omega))
    clear hmc hmm hdid a1
    go_wp2_with (with_reducible refine at_load 36 rfl ?_)
    refine Stop.go (wpList_load_blk (by rfl) 36 _ (by rfl) ox (by rfl) 36 _ HO1.out _ und36 (by rfl) (by kernel_rfl) ?_)
    go_wp2_with (with_reducible refine at_store 36 rfl ?_)
    refine Stop.go (wpList_store_blk (by rfl) (by rfl) 36 _ _ (by rfl) (w.heap.size + 2) _ #[.int .i64 (M.nb : Int), .int .i64 (M.np : Int), .int .i64 (M.ni : Int), .slice B1 M.nb d1, .slice B2 M.np d2, .slice B3 M.ni d3] (by rfl) (by rfl) 36 HRX1.out (by rfl) (by kernel_rfl) (by simp [Value.oneCell']) ?_)
    intro V2 hB2 hg2 hs2
    have HB2 := Lib.hid hB2
    have hT2 : Turn (fun z => z = (w.heap.size + 2)) V1 V2 := Turn.of_grown hg2 (fun r e => by injection e with e; exact e.symm)
    have hM9 : (if M.initE y.a = 0 then M.setW y.a.toNat (M.wrs y.a.toNat).begin else M) = M1 := by
      rw [← HMS.out]
      unfold Mt.does
      rw [if_neg (show ¬ y.kind = 1 by have := HKD.out; omega)]; rw [if_neg (show ¬ y.kind = 2 by have := HKD.out; omega)]; rw [if_neg (show ¬ y.kind = 3 by have := HKD.out; omega)]; rw [if_neg (show ¬ y.kind = 4 by have := HKD.out; omega)]; rw [if_pos HKD.out]
    have HF : Hid (∃ S', Pl V2 g M1 (.agg #[.int .i64 (M.nb : Int), .int .i64 (M.np : Int), .int .i64 (M.ni : Int), .slice B1 M.nb d1, .slice B2 M.np d2, .slice B3 M.ni d3]) S' Y ∧ (∀ b, b < w.heap.size → S' b → S b) ∧ Turn S w V2) := Lib.hid (do_of HS.out HY.out HI8.out.low (hM9 ▸ HDID.out) (hM9 ▸ HR8.out) (by omega) HI8.out.rx.lt hT2)
    clear hT2 hM9 hB2 hg2 hs2
    go_wp2_with fail
    refine bodyPost_ret (results_ct (by rfl) _ _ (w.heap.size + 2) 36 _ (0, 0) _ (by rfl) HB2.out und36 (by rfl) (by kernel_rfl) (by rfl)) rfl ?_
    obtain ⟨S', k1, k2, k3⟩ := HF.out
    exact ⟨_, S', rfl, k1, k2, k3⟩
  case neg =>
  have e5 := neb h5
  by_cases h6 : y.kind = 6
  case pos =>
    have e6 := eqb h6
    have HKD := Lib.hid h6
    clear h6
    have a1 : w4.cell? ⟨(w.heap.size + 1), 1, none⟩ = some (.int .i64 y.a) := HI4.out.ab.cell 1
    have a3 : w4.cell? ⟨(w.heap.size + 1), 3, none⟩ = some (.int .i64 y.n) := HI4.out.ab.cell 3
    have a2 : w4.cell? ⟨(w.heap.size + 1), 2, none⟩ = some (.int .i64 y.b) := HI4.out.ab.cell 2
    go_wp2_with (with_reducible refine at_load 36 rfl ?_)
    refine Stop.go (wpList_load_blk (by rfl) 36 _ (by rfl) w.heap.size (by rfl) 36 _ HI4.out.gb _ und36 (by rfl) (by kernel_rfl) ?_)
    have hrx9 := HRX.out.below HI4.out.low
    have hxx9 := HXX.out _ HI4.out.low.size HI4.out.rx.lt
    have hcall := add45_any hrx9 hxx9 HK.out y.a y.n y.b
    clear hrx9 hxx9
    go_wp2_with fail
    refine hcall.mono ?_
    rintro r w7 ⟨v7, rfl, hrf, hb7⟩
    have HI7 := Lib.hid (HI4.out.below hb7)
    have hrf7 := hrf
    obtain ⟨B1, B2, B3, d1, d2, d3, rs7, e7, hR7⟩ := hrf
    have hc7 : v7 = .agg #[.int .i64 (M.nb : Int), .int .i64 (M.np : Int), .int .i64 (M.ni : Int), .slice B1 M.nb d1, .slice B2 M.np d2, .slice B3 M.ni d3] := by rw [e7]; split <;> rfl
    subst hc7
    have HRF := Lib.hid hrf7
    clear hcall hrf7 hR7 hb7 e7 a1 a3 a2 a0
    go_wp2_with (with_reducible refine at_store 36 rfl ?_)
    refine Stop.go (wpList_store_blk (by rfl) (by rfl) 36 _ _ (by rfl) w7.heap.size _ #[.int .i64 (M.nb : Int), .int .i64 (M.np : Int), .int .i64 (M.ni : Int), .slice B1 M.nb d1, .slice B2 M.np d2, .slice B3 M.ni d3] (by rfl) (by rfl) 36 (Blk.new w7 36 #[.int .i64 0, .int .i64 0, .int .i64 0, .slice none 0 0, .slice none 0 0, .slice none 0 0]) (by rfl) (by kernel_rfl) (by simp [Value.oneCell']) ?_)
    intro w8 hB8 hg8 hs8
    have hb8 : Below w7.heap.size w7 w8 := below_grown ((Below.refl w7.heap.size w7).alloc (Nat.le_refl _) (.cells #[.int .i64 0, .int .i64 0, .int .i64 0, .slice none 0 0, .slice none 0 0, .slice none 0 0] 36)) hg8 (Nat.le_refl _) (Nat.le_refl _)
    have HI8 := Lib.hid (HI7.out.below hb8)
    have HR8 := Lib.hid (HRF.out.below hb8)
    have HO8 := Lib.hid hB8
    have HOX : Hid (w.heap.size + 3 ≤ w7.heap.size) := Lib.hid (by have := HI7.out.rx.lt; omega)
    clear hB8 hg8 hs8 hb8 HI7 HRF
    generalize w7.heap.size = ox at *
    have a1 : w8.cell? ⟨(w.heap.size + 1), 1, none⟩ = some (.int .i64 y.a) := HI8.out.ab.cell 1
    have a3 : w8.cell? ⟨(w.heap.size + 1), 3, none⟩ = some (.int .i64 y.n) := HI8.out.ab.cell 3
    have a2 : w8.cell? ⟨(w.heap.size + 1), 2, none⟩ = some (.int .i64 y.b) := HI8.out.ab.cell 2
    have hmm := HM.out.below HI8.out.low
    have hmc := (show Calls Tryz.prog 25 #[.pointer (some ⟨g, 0, none⟩), .int .i64 y.a, .int .i64 y.n, .int .i64 y.b] w8 (MeP w8 S g M (M.setW y.a.toNat ((M.wrs y.a.toNat).add y.b)) (M.addE y.a y.n y.b) (.tuple #[.int .i64 (M.addN y.a y.n y.b), .int .i64 (M.addE y.a y.n y.b)])) from add25_any hmm HK.out y.a y.n y.b)
    go_wp2_with fail
    refine hmc.mono ?_
    intro r V1 hme
    obtain ⟨rfl, hdid⟩ := hme
    have HDID := Lib.hid hdid
    have HO1 := Lib.hid (HO8.out.keep hdid.2 (fun e => by have := HS.out _ e; have := HOX.out; omega))
    have HRX1 : Hid (Blk V1 (w.heap.size + 2) 36 #[.int .i64 0, .int .i64 0, .int .i64 0, .slice none 0 0, .slice none 0 0, .slice none 0 0]) := Lib.hid (HI8.out.rx.keep hdid.2 (fun e => by have := HS.out _ e; omega))
    clear hmc hmm hdid a1 a3 a2
    go_wp2_with (with_reducible refine at_load 36 rfl ?_)
    refine Stop.go (wpList_load_blk (by rfl) 36 _ (by rfl) ox (by rfl) 36 _ HO1.out _ und36 (by rfl) (by kernel_rfl) ?_)
    go_wp2_with (with_reducible refine at_store 36 rfl ?_)
    refine Stop.go (wpList_store_blk (by rfl) (by rfl) 36 _ _ (by rfl) (w.heap.size + 2) _ #[.int .i64 (M.nb : Int), .int .i64 (M.np : Int), .int .i64 (M.ni : Int), .slice B1 M.nb d1, .slice B2 M.np d2, .slice B3 M.ni d3] (by rfl) (by rfl) 36 HRX1.out (by rfl) (by kernel_rfl) (by simp [Value.oneCell']) ?_)
    intro V2 hB2 hg2 hs2
    have HB2 := Lib.hid hB2
    have hT2 : Turn (fun z => z = (w.heap.size + 2)) V1 V2 := Turn.of_grown hg2 (fun r e => by injection e with e; exact e.symm)
    have hM9 : (if M.addE y.a y.n y.b = 0 then M.setW y.a.toNat ((M.wrs y.a.toNat).add y.b) else M) = M1 := by
      rw [← HMS.out]
      unfold Mt.does
      rw [if_neg (show ¬ y.kind = 1 by have := HKD.out; omega)]; rw [if_neg (show ¬ y.kind = 2 by have := HKD.out; omega)]; rw [if_neg (show ¬ y.kind = 3 by have := HKD.out; omega)]; rw [if_neg (show ¬ y.kind = 4 by have := HKD.out; omega)]; rw [if_neg (show ¬ y.kind = 5 by have := HKD.out; omega)]; rw [if_pos HKD.out]
    have HF : Hid (∃ S', Pl V2 g M1 (.agg #[.int .i64 (M.nb : Int), .int .i64 (M.np : Int), .int .i64 (M.ni : Int), .slice B1 M.nb d1, .slice B2 M.np d2, .slice B3 M.ni d3]) S' Y ∧ (∀ b, b < w.heap.size → S' b → S b) ∧ Turn S w V2) := Lib.hid (do_of HS.out HY.out HI8.out.low (hM9 ▸ HDID.out) (hM9 ▸ HR8.out) (by omega) HI8.out.rx.lt hT2)
    clear hT2 hM9 hB2 hg2 hs2
    go_wp2_with fail
    refine bodyPost_ret (results_ct (by rfl) _ _ (w.heap.size + 2) 36 _ (0, 0) _ (by rfl) HB2.out und36 (by rfl) (by kernel_rfl) (by rfl)) rfl ?_
    obtain ⟨S', k1, k2, k3⟩ := HF.out
    exact ⟨_, S', rfl, k1, k2, k3⟩
  case neg =>
  have e6 := neb h6
  by_cases h7 : y.kind = 7
  case pos =>
    have e7 := eqb h7
    have HKD := Lib.hid h7
    clear h7
    have a1 : w4.cell? ⟨(w.heap.size + 1), 1, none⟩ = some (.int .i64 y.a) := HI4.out.ab.cell 1
    have a3 : w4.cell? ⟨(w.heap.size + 1), 3, none⟩ = some (.int .i64 y.n) := HI4.out.ab.cell 3
    have a5 : w4.cell? ⟨(w.heap.size + 1), 5, none⟩ = some (.bool y.flag) := HI4.out.ab.cell 5
    have a4 : w4.cell? ⟨(w.heap.size + 1), 4, none⟩ = some (.int .i64 y.o) := HI4.out.ab.cell 4
    go_wp2_with (with_reducible refine at_load 36 rfl ?_)
    refine Stop.go (wpList_load_blk (by rfl) 36 _ (by rfl) w.heap.size (by rfl) 36 _ HI4.out.gb _ und36 (by rfl) (by kernel_rfl) ?_)
    have hrx9 := HRX.out.below HI4.out.low
    have hxx9 := HXX.out _ HI4.out.low.size HI4.out.rx.lt
    have hcall := end46_any hrx9 hxx9 HK.out y.a y.n y.flag y.o
    clear hrx9 hxx9
    go_wp2_with fail
    refine hcall.mono ?_
    rintro r w7 ⟨v7, rfl, hrf, hb7⟩
    have HI7 := Lib.hid (HI4.out.below hb7)
    have hrf7 := hrf
    obtain ⟨B1, B2, B3, d1, d2, d3, rs7, e7, hR7⟩ := hrf
    have hc7 : v7 = .agg #[.int .i64 (M.nb : Int), .int .i64 (M.np : Int), .int .i64 (M.ni : Int), .slice B1 M.nb d1, .slice B2 M.np d2, .slice B3 M.ni d3] := by rw [e7]; split <;> rfl
    subst hc7
    have HRF := Lib.hid hrf7
    clear hcall hrf7 hR7 hb7 e7 a1 a3 a5 a4 a0
    go_wp2_with (with_reducible refine at_store 36 rfl ?_)
    refine Stop.go (wpList_store_blk (by rfl) (by rfl) 36 _ _ (by rfl) w7.heap.size _ #[.int .i64 (M.nb : Int), .int .i64 (M.np : Int), .int .i64 (M.ni : Int), .slice B1 M.nb d1, .slice B2 M.np d2, .slice B3 M.ni d3] (by rfl) (by rfl) 36 (Blk.new w7 36 #[.int .i64 0, .int .i64 0, .int .i64 0, .slice none 0 0, .slice none 0 0, .slice none 0 0]) (by rfl) (by kernel_rfl) (by simp [Value.oneCell']) ?_)
    intro w8 hB8 hg8 hs8
    have hb8 : Below w7.heap.size w7 w8 := below_grown ((Below.refl w7.heap.size w7).alloc (Nat.le_refl _) (.cells #[.int .i64 0, .int .i64 0, .int .i64 0, .slice none 0 0, .slice none 0 0, .slice none 0 0] 36)) hg8 (Nat.le_refl _) (Nat.le_refl _)
    have HI8 := Lib.hid (HI7.out.below hb8)
    have HR8 := Lib.hid (HRF.out.below hb8)
    have HO8 := Lib.hid hB8
    have HOX : Hid (w.heap.size + 3 ≤ w7.heap.size) := Lib.hid (by have := HI7.out.rx.lt; omega)
    clear hB8 hg8 hs8 hb8 HI7 HRF
    generalize w7.heap.size = ox at *
    go_upto_region 25 with fail
    refine wp_region_np ?_
    refine wp_region_held_drew (S := fun W => Blk W ox 36 #[.int .i64 (M.nb : Int), .int .i64 (M.np : Int), .int .i64 (M.ni : Int), .slice B1 M.nb d1, .slice B2 M.np d2, .slice B3 M.ni d3] ∧ Blk W (w.heap.size + 1) 43 #[.int .i64 y.kind, .int .i64 y.a, .int .i64 y.b, .int .i64 y.n, .int .i64 y.o, .bool y.flag, .bool y.near, .slice L ll lk]) (by kernel_rfl) (show (fun W => Blk W ox 36 #[.int .i64 (M.nb : Int), .int .i64 (M.np : Int), .int .i64 (M.ni : Int), .slice B1 M.nb d1, .slice B2 M.np d2, .slice B3 M.ni d3] ∧ Blk W (w.heap.size + 1) 43 #[.int .i64 y.kind, .int .i64 y.a, .int .i64 y.b, .int .i64 y.n, .int .i64 y.o, .bool y.flag, .bool y.near, .slice L ll lk]) w8.drew from ⟨HO8.out.drew, HI8.out.ab.drew⟩) (fun hHeld => ?_)
    have hlow : Below w.heap.size w w8.drew := HI8.out.low.drew
    have hr0 := HR8.out.below (Below.refl _ _).drew
    have hrxb := HI8.out.rx.drew
    generalize hv0 : w8.drew = V0 at *
    clear hv0
    refine wpAnyH_takeAt (i := 0) (d := 199) (v := ?vq40x) rfl rfl (by kernel_rfl) (by kernel_rfl) (by kernel_rfl) (fun _ _ _ h => h) (Or.inl ⟨by rfl, ?hyq40x⟩) hHeld ?_
    case hyq40x =>
      intro W hSw
      obtain ⟨ko, ka⟩ := hSw; have q0 : W.cell? ⟨ox, 0, none⟩ = some (.int .i64 (M.nb : Int)) := ko.cell 0; have q1 : W.cell? ⟨ox, 1, none⟩ = some (.int .i64 (M.np : Int)) := ko.cell 1; have q2 : W.cell? ⟨ox, 2, none⟩ = some (.int .i64 (M.ni : Int)) := ko.cell 2; have q3 : W.cell? ⟨ox, 3, none⟩ = some (.slice B1 M.nb d1) := ko.cell 3; have q4 : W.cell? ⟨ox, 4, none⟩ = some (.slice B2 M.np d2) := ko.cell 4; have q5 : W.cell? ⟨ox, 5, none⟩ = some (.slice B3 M.ni d3) := ko.cell 5; have s0 : W.cell? ⟨(w.heap.size + 1), 0, none⟩ = some (.int .i64 y.kind) := ka.cell 0; have s1 : W.cell? ⟨(w.heap.size + 1), 1, none⟩ = some (.int .i64 y.a) := ka.cell 1; have s2 : W.cell? ⟨(w.heap.size + 1), 2, none⟩ = some (.int .i64 y.b) := ka.cell 2; have s3 : W.cell? ⟨(w.heap.size + 1), 3, none⟩ = some (.int .i64 y.n) := ka.cell 3; have s4 : W.cell? ⟨(w.heap.size + 1), 4, none⟩ = some (.int .i64 y.o) := ka.cell 4; have s5 : W.cell? ⟨(w.heap.size + 1), 5, none⟩ = some (.bool y.flag) := ka.cell 5; have s6 : W.cell? ⟨(w.heap.size + 1), 6, none⟩ = some (.bool y.near) := ka.cell 6; have s7 : W.cell? ⟨(w.heap.size + 1), 7, none⟩ = some (.slice L ll lk) := ka.cell 7; clear ko ka
      (go_simp; try with_reducible rfl)
    simp only [List.setIfInBounds_toArray, List.set_cons_zero, List.set_cons_succ]
    refine wpAnyH_takeAt (i := 1) (d := 200) (v := ?vq41x) rfl rfl (by kernel_rfl) (by kernel_rfl) (by kernel_rfl) (fun _ _ _ h => h) (Or.inl ⟨by rfl, ?hyq41x⟩) hHeld ?_
    case hyq41x =>
      intro W hSw
      clear hSw
      (go_simp; try with_reducible rfl)
    simp only [List.setIfInBounds_toArray, List.set_cons_zero, List.set_cons_succ]
    refine wpAnyH_takeAt (i := 2) (d := 201) (v := ?vq42x) rfl rfl (by kernel_rfl) (by kernel_rfl) (by kernel_rfl) (fun _ _ _ h => h) (Or.inl ⟨by rfl, ?hyq42x⟩) hHeld ?_
    case hyq42x =>
      intro W hSw
      clear hSw
      (go_simp; try with_reducible rfl)
    simp only [List.setIfInBounds_toArray, List.set_cons_zero, List.set_cons_succ]
    refine wpAnyH_takeAt (i := 3) (d := 202) (v := ?vq43x) rfl rfl (by kernel_rfl) (by kernel_rfl) (by kernel_rfl) (fun _ _ _ h => h) (Or.inl ⟨by rfl, ?hyq43x⟩) hHeld ?_
    case hyq43x =>
      intro W hSw
      obtain ⟨ko, ka⟩ := hSw; have q0 : W.cell? ⟨ox, 0, none⟩ = some (.int .i64 (M.nb : Int)) := ko.cell 0; have q1 : W.cell? ⟨ox, 1, none⟩ = some (.int .i64 (M.np : Int)) := ko.cell 1; have q2 : W.cell? ⟨ox, 2, none⟩ = some (.int .i64 (M.ni : Int)) := ko.cell 2; have q3 : W.cell? ⟨ox, 3, none⟩ = some (.slice B1 M.nb d1) := ko.cell 3; have q4 : W.cell? ⟨ox, 4, none⟩ = some (.slice B2 M.np d2) := ko.cell 4; have q5 : W.cell? ⟨ox, 5, none⟩ = some (.slice B3 M.ni d3) := ko.cell 5; have s0 : W.cell? ⟨(w.heap.size + 1), 0, none⟩ = some (.int .i64 y.kind) := ka.cell 0; have s1 : W.cell? ⟨(w.heap.size + 1), 1, none⟩ = some (.int .i64 y.a) := ka.cell 1; have s2 : W.cell? ⟨(w.heap.size + 1), 2, none⟩ = some (.int .i64 y.b) := ka.cell 2; have s3 : W.cell? ⟨(w.heap.size + 1), 3, none⟩ = some (.int .i64 y.n) := ka.cell 3; have s4 : W.cell? ⟨(w.heap.size + 1), 4, none⟩ = some (.int .i64 y.o) := ka.cell 4; have s5 : W.cell? ⟨(w.heap.size + 1), 5, none⟩ = some (.bool y.flag) := ka.cell 5; have s6 : W.cell? ⟨(w.heap.size + 1), 6, none⟩ = some (.bool y.near) := ka.cell 6; have s7 : W.cell? ⟨(w.heap.size + 1), 7, none⟩ = some (.slice L ll lk) := ka.cell 7; clear ko ka
      (go_simp; try with_reducible rfl)
    simp only [List.setIfInBounds_toArray, List.set_cons_zero, List.set_cons_succ]
    refine wpAnyH_takeAt (i := 4) (d := 203) (v := ?vq44x) rfl rfl (by kernel_rfl) (by kernel_rfl) (by kernel_rfl) (fun _ _ _ h => h) (Or.inl ⟨by rfl, ?hyq44x⟩) hHeld ?_
    case hyq44x =>
      intro W hSw
      clear hSw
      (go_simp; try with_reducible rfl)
    simp only [List.setIfInBounds_toArray, List.set_cons_zero, List.set_cons_succ]
    refine wpAnyH_takeAt (i := 5) (d := 204) (v := ?vq45x) rfl rfl (by kernel_rfl) (by kernel_rfl) (by kernel_rfl) (fun _ _ _ h => h) (Or.inl ⟨by rfl, ?hyq45x⟩) hHeld ?_
    case hyq45x =>
      intro W hSw
      obtain ⟨ko, ka⟩ := hSw; have q0 : W.cell? ⟨ox, 0, none⟩ = some (.int .i64 (M.nb : Int)) := ko.cell 0; have q1 : W.cell? ⟨ox, 1, none⟩ = some (.int .i64 (M.np : Int)) := ko.cell 1; have q2 : W.cell? ⟨ox, 2, none⟩ = some (.int .i64 (M.ni : Int)) := ko.cell 2; have q3 : W.cell? ⟨ox, 3, none⟩ = some (.slice B1 M.nb d1) := ko.cell 3; have q4 : W.cell? ⟨ox, 4, none⟩ = some (.slice B2 M.np d2) := ko.cell 4; have q5 : W.cell? ⟨ox, 5, none⟩ = some (.slice B3 M.ni d3) := ko.cell 5; have s0 : W.cell? ⟨(w.heap.size + 1), 0, none⟩ = some (.int .i64 y.kind) := ka.cell 0; have s1 : W.cell? ⟨(w.heap.size + 1), 1, none⟩ = some (.int .i64 y.a) := ka.cell 1; have s2 : W.cell? ⟨(w.heap.size + 1), 2, none⟩ = some (.int .i64 y.b) := ka.cell 2; have s3 : W.cell? ⟨(w.heap.size + 1), 3, none⟩ = some (.int .i64 y.n) := ka.cell 3; have s4 : W.cell? ⟨(w.heap.size + 1), 4, none⟩ = some (.int .i64 y.o) := ka.cell 4; have s5 : W.cell? ⟨(w.heap.size + 1), 5, none⟩ = some (.bool y.flag) := ka.cell 5; have s6 : W.cell? ⟨(w.heap.size + 1), 6, none⟩ = some (.bool y.near) := ka.cell 6; have s7 : W.cell? ⟨(w.heap.size + 1), 7, none⟩ = some (.slice L ll lk) := ka.cell 7; clear ko ka
      (go_simp; try with_reducible rfl)
    simp only [List.setIfInBounds_toArray, List.set_cons_zero, List.set_cons_succ]
    refine wpAnyH_takeAt (i := 6) (d := 205) (v := ?vq46x) rfl rfl (by kernel_rfl) (by kernel_rfl) (by kernel_rfl) (fun _ _ _ h => h) (Or.inl ⟨by rfl, ?hyq46x⟩) hHeld ?_
    case hyq46x =>
      intro W hSw
      clear hSw
      (go_simp; try with_reducible rfl)
    simp only [List.setIfInBounds_toArray, List.set_cons_zero, List.set_cons_succ]
    refine wpAnyH_takeAt (i := 7) (d := 206) (v := ?vq47x) rfl rfl (by kernel_rfl) (by kernel_rfl) (by kernel_rfl) (fun _ _ _ h => h) (Or.inl ⟨by rfl, ?hyq47x⟩) hHeld ?_
    case hyq47x =>
      intro W hSw
      obtain ⟨ko, ka⟩ := hSw; have q0 : W.cell? ⟨ox, 0, none⟩ = some (.int .i64 (M.nb : Int)) := ko.cell 0; have q1 : W.cell? ⟨ox, 1, none⟩ = some (.int .i64 (M.np : Int)) := ko.cell 1; have q2 : W.cell? ⟨ox, 2, none⟩ = some (.int .i64 (M.ni : Int)) := ko.cell 2; have q3 : W.cell? ⟨ox, 3, none⟩ = some (.slice B1 M.nb d1) := ko.cell 3; have q4 : W.cell? ⟨ox, 4, none⟩ = some (.slice B2 M.np d2) := ko.cell 4; have q5 : W.cell? ⟨ox, 5, none⟩ = some (.slice B3 M.ni d3) := ko.cell 5; have s0 : W.cell? ⟨(w.heap.size + 1), 0, none⟩ = some (.int .i64 y.kind) := ka.cell 0; have s1 : W.cell? ⟨(w.heap.size + 1), 1, none⟩ = some (.int .i64 y.a) := ka.cell 1; have s2 : W.cell? ⟨(w.heap.size + 1), 2, none⟩ = some (.int .i64 y.b) := ka.cell 2; have s3 : W.cell? ⟨(w.heap.size + 1), 3, none⟩ = some (.int .i64 y.n) := ka.cell 3; have s4 : W.cell? ⟨(w.heap.size + 1), 4, none⟩ = some (.int .i64 y.o) := ka.cell 4; have s5 : W.cell? ⟨(w.heap.size + 1), 5, none⟩ = some (.bool y.flag) := ka.cell 5; have s6 : W.cell? ⟨(w.heap.size + 1), 6, none⟩ = some (.bool y.near) := ka.cell 6; have s7 : W.cell? ⟨(w.heap.size + 1), 7, none⟩ = some (.slice L ll lk) := ka.cell 7; clear ko ka
      (go_simp; try with_reducible rfl)
    simp only [List.setIfInBounds_toArray, List.set_cons_zero, List.set_cons_succ]
    refine wpAnyH_takeAt (i := 8) (d := 207) (v := ?vq48x) rfl rfl (by kernel_rfl) (by kernel_rfl) (by kernel_rfl) (fun _ _ _ h => h) (Or.inl ⟨by rfl, ?hyq48x⟩) hHeld ?_
    case hyq48x =>
      intro W hSw
      clear hSw
      (go_simp; try with_reducible rfl)
    simp only [List.setIfInBounds_toArray, List.set_cons_zero, List.set_cons_succ]
    refine wpAnyH_takeAt (i := 9) (d := 208) (v := ?vq49x) rfl rfl (by kernel_rfl) (by kernel_rfl) (by kernel_rfl) (fun _ _ _ h => h) (Or.inl ⟨by rfl, ?hyq49x⟩) hHeld ?_
    case hyq49x =>
      intro W hSw
      obtain ⟨ko, ka⟩ := hSw; have q0 : W.cell? ⟨ox, 0, none⟩ = some (.int .i64 (M.nb : Int)) := ko.cell 0; have q1 : W.cell? ⟨ox, 1, none⟩ = some (.int .i64 (M.np : Int)) := ko.cell 1; have q2 : W.cell? ⟨ox, 2, none⟩ = some (.int .i64 (M.ni : Int)) := ko.cell 2; have q3 : W.cell? ⟨ox, 3, none⟩ = some (.slice B1 M.nb d1) := ko.cell 3; have q4 : W.cell? ⟨ox, 4, none⟩ = some (.slice B2 M.np d2) := ko.cell 4; have q5 : W.cell? ⟨ox, 5, none⟩ = some (.slice B3 M.ni d3) := ko.cell 5; have s0 : W.cell? ⟨(w.heap.size + 1), 0, none⟩ = some (.int .i64 y.kind) := ka.cell 0; have s1 : W.cell? ⟨(w.heap.size + 1), 1, none⟩ = some (.int .i64 y.a) := ka.cell 1; have s2 : W.cell? ⟨(w.heap.size + 1), 2, none⟩ = some (.int .i64 y.b) := ka.cell 2; have s3 : W.cell? ⟨(w.heap.size + 1), 3, none⟩ = some (.int .i64 y.n) := ka.cell 3; have s4 : W.cell? ⟨(w.heap.size + 1), 4, none⟩ = some (.int .i64 y.o) := ka.cell 4; have s5 : W.cell? ⟨(w.heap.size + 1), 5, none⟩ = some (.bool y.flag) := ka.cell 5; have s6 : W.cell? ⟨(w.heap.size + 1), 6, none⟩ = some (.bool y.near) := ka.cell 6; have s7 : W.cell? ⟨(w.heap.size + 1), 7, none⟩ = some (.slice L ll lk) := ka.cell 7; clear ko ka
      (go_simp; try with_reducible rfl)
    simp only [List.setIfInBounds_toArray, List.set_cons_zero, List.set_cons_succ]
    refine wpAnyH_takeAt (i := 11) (d := 210) (v := ?vq50x) rfl rfl (by kernel_rfl) (by kernel_rfl) (by kernel_rfl) (fun _ _ _ h => h) (Or.inl ⟨by rfl, ?hyq50x⟩) hHeld ?_
    case hyq50x =>
      intro W hSw
      clear hSw
      (go_simp; try with_reducible rfl)
    simp only [List.setIfInBounds_toArray, List.set_cons_zero, List.set_cons_succ]
    refine wpAnyH_ready (rs := [10]) (by kernel_rfl) (by simp) (AllReadyH.cons rfl (fun K hK => ?_) AllReadyH.nil)
    go_simp
    have hmm := HM.out.below hlow
    refine (end26_any hmm HK.out y.a y.n y.flag y.o).mono ?_
    intro r V1 hme
    obtain ⟨rfl, hdid⟩ := hme
    dsimp only
    have hHeld2 : (fun W => Blk W ox 36 #[.int .i64 (M.nb : Int), .int .i64 (M.np : Int), .int .i64 (M.ni : Int), .slice B1 M.nb d1, .slice B2 M.np d2, .slice B3 M.ni d3] ∧ Blk W (w.heap.size + 1) 43 #[.int .i64 y.kind, .int .i64 y.a, .int .i64 y.b, .int .i64 y.n, .int .i64 y.o, .bool y.flag, .bool y.near, .slice L ll lk]) V1 := ⟨hHeld.1.keep hdid.2 (fun e => by have := HS.out _ e; have := HOX.out; omega), hHeld.2.keep hdid.2 (fun e => by have := HS.out _ e; omega)⟩
    have hrx1 : Blk V1 (w.heap.size + 2) 36 #[.int .i64 0, .int .i64 0, .int .i64 0, .slice none 0 0, .slice none 0 0, .slice none 0 0] := hrxb.keep hdid.2 (fun e => by have := HS.out _ e; omega)
    refine hK.out _ _ hHeld2 (fun hHeld => ?_)
    clear hK K hHeld2
    try simp only [List.setIfInBounds_toArray, List.set_cons_zero, List.set_cons_succ]
    refine wpAnyH_takeAt (i := 12) (d := 211) (v := ?vq51x) rfl rfl (by kernel_rfl) (by kernel_rfl) (by kernel_rfl) (fun _ _ _ h => h) (Or.inl ⟨by rfl, ?hyq51x⟩) hHeld ?_
    case hyq51x =>
      intro W hSw
      clear hSw
      (go_simp; try with_reducible rfl)
    simp only [List.setIfInBounds_toArray, List.set_cons_zero, List.set_cons_succ]
    refine wpAnyH_ready (rs := [13]) (by kernel_rfl) (by simp) (AllReadyH.cons rfl (fun K hK => ?_) AllReadyH.nil)
    refine step_store_blk (by rfl) rfl 36 _ _ rfl (w.heap.size + 2) _ #[.int .i64 (M.nb : Int), .int .i64 (M.np : Int), .int .i64 (M.ni : Int), .slice B1 M.nb d1, .slice B2 M.np d2, .slice B3 M.ni d3] rfl rfl 36 hrx1 rfl (by kernel_rfl) (by simp [Value.oneCell']) ?_
    intro V2 hB2 hg2 hs2
    have HB2 := Lib.hid hB2
    have hT2 : Turn (fun z => z = (w.heap.size + 2)) V1 V2 := Turn.of_grown hg2 (fun r e => by injection e with e; exact e.symm)
    have hM9 : (if M.endE y.a y.n y.o = 0 then M.setW y.a.toNat ((M.wrs y.a.toNat).end_ y.flag y.o) else M) = M1 := by
      rw [← HMS.out]
      unfold Mt.does
      rw [if_neg (show ¬ y.kind = 1 by have := HKD.out; omega)]; rw [if_neg (show ¬ y.kind = 2 by have := HKD.out; omega)]; rw [if_neg (show ¬ y.kind = 3 by have := HKD.out; omega)]; rw [if_neg (show ¬ y.kind = 4 by have := HKD.out; omega)]; rw [if_neg (show ¬ y.kind = 5 by have := HKD.out; omega)]; rw [if_neg (show ¬ y.kind = 6 by have := HKD.out; omega)]; rw [if_pos HKD.out]
    have HF : Hid (∃ S', Pl V2 g M1 (.agg #[.int .i64 (M.nb : Int), .int .i64 (M.np : Int), .int .i64 (M.ni : Int), .slice B1 M.nb d1, .slice B2 M.np d2, .slice B3 M.ni d3]) S' Y ∧ (∀ b, b < w.heap.size → S' b → S b) ∧ Turn S w V2) := Lib.hid (do_of HS.out HY.out hlow (hM9 ▸ hdid) (hM9 ▸ hr0) (by omega) hrxb.lt hT2)
    have hHeld2 : (fun W => Blk W ox 36 #[.int .i64 (M.nb : Int), .int .i64 (M.np : Int), .int .i64 (M.ni : Int), .slice B1 M.nb d1, .slice B2 M.np d2, .slice B3 M.ni d3] ∧ Blk W (w.heap.size + 1) 43 #[.int .i64 y.kind, .int .i64 y.a, .int .i64 y.b, .int .i64 y.n, .int .i64 y.o, .bool y.flag, .bool y.near, .slice L ll lk]) V2 := ⟨hHeld.1.keep hT2 (fun e => by have := HOX.out; omega), hHeld.2.keep hT2 (fun e => by omega)⟩
    refine hK.out _ _ hHeld2 (fun hHeld => ?_)
    clear hK K hHeld2 hT2 hM9 hB2 hg2 hs2
    try simp only [List.setIfInBounds_toArray, List.set_cons_zero, List.set_cons_succ]
    refine wpAnyH_takeAt (i := 14) (d := 7) (v := ?vq52x) rfl rfl (by kernel_rfl) (by kernel_rfl) (by kernel_rfl) (fun _ _ _ h => h) (Or.inl ⟨by rfl, ?hyq52x⟩) hHeld ?_
    case hyq52x =>
      intro W hSw
      clear hSw
      (go_simp; try with_reducible rfl)
    simp only [List.setIfInBounds_toArray, List.set_cons_zero, List.set_cons_succ]
    refine wpAnyH_done (by kernel_rfl) ?_ _
    clear hHeld
    go_wp2_with fail
    refine bodyPost_ret (results_ct (by rfl) _ _ (w.heap.size + 2) 36 _ (0, 0) _ (by rfl) HB2.out und36 (by rfl) (by kernel_rfl) (by rfl)) rfl ?_
    obtain ⟨S', k1, k2, k3⟩ := HF.out
    exact ⟨_, S', rfl, k1, k2, k3⟩
  case neg =>
  have e7 := neb h7
  by_cases h8 : y.kind = 8
  case pos =>
    have e8 := eqb h8
    have HKD := Lib.hid h8
    clear h8
    have a1 : w4.cell? ⟨(w.heap.size + 1), 1, none⟩ = some (.int .i64 y.a) := HI4.out.ab.cell 1
    have a3 : w4.cell? ⟨(w.heap.size + 1), 3, none⟩ = some (.int .i64 y.n) := HI4.out.ab.cell 3
    have a2 : w4.cell? ⟨(w.heap.size + 1), 2, none⟩ = some (.int .i64 y.b) := HI4.out.ab.cell 2
    go_wp2_with (with_reducible refine at_load 36 rfl ?_)
    refine Stop.go (wpList_load_blk (by rfl) 36 _ (by rfl) w.heap.size (by rfl) 36 _ HI4.out.gb _ und36 (by rfl) (by kernel_rfl) ?_)
    have hrx9 := HRX.out.below HI4.out.low
    have hxx9 := HXX.out _ HI4.out.low.size HI4.out.rx.lt
    have hcall := marked47_any hrx9 hxx9 HK.out y.a y.n y.b
    clear hrx9 hxx9
    go_wp2_with fail
    refine hcall.mono ?_
    rintro r w7 ⟨v7, rfl, hrf, hb7⟩
    have HI7 := Lib.hid (HI4.out.below hb7)
    have hrf7 := hrf
    obtain ⟨B1, B2, B3, d1, d2, d3, rs7, e7, hR7⟩ := hrf
    have hc7 : v7 = .agg #[.int .i64 (M.nb : Int), .int .i64 (M.np : Int), .int .i64 (M.ni : Int), .slice B1 M.nb d1, .slice B2 M.np d2, .slice B3 M.ni d3] := by rw [e7]; split <;> rfl
    subst hc7
    have HRF := Lib.hid hrf7
    clear hcall hrf7 hR7 hb7 e7 a1 a3 a2 a0
    go_wp2_with (with_reducible refine at_store 36 rfl ?_)
    refine Stop.go (wpList_store_blk (by rfl) (by rfl) 36 _ _ (by rfl) w7.heap.size _ #[.int .i64 (M.nb : Int), .int .i64 (M.np : Int), .int .i64 (M.ni : Int), .slice B1 M.nb d1, .slice B2 M.np d2, .slice B3 M.ni d3] (by rfl) (by rfl) 36 (Blk.new w7 36 #[.int .i64 0, .int .i64 0, .int .i64 0, .slice none 0 0, .slice none 0 0, .slice none 0 0]) (by rfl) (by kernel_rfl) (by simp [Value.oneCell']) ?_)
    intro w8 hB8 hg8 hs8
    have hb8 : Below w7.heap.size w7 w8 := below_grown ((Below.refl w7.heap.size w7).alloc (Nat.le_refl _) (.cells #[.int .i64 0, .int .i64 0, .int .i64 0, .slice none 0 0, .slice none 0 0, .slice none 0 0] 36)) hg8 (Nat.le_refl _) (Nat.le_refl _)
    have HI8 := Lib.hid (HI7.out.below hb8)
    have HR8 := Lib.hid (HRF.out.below hb8)
    have HO8 := Lib.hid hB8
    have HOX : Hid (w.heap.size + 3 ≤ w7.heap.size) := Lib.hid (by have := HI7.out.rx.lt; omega)
    clear hB8 hg8 hs8 hb8 HI7 HRF
    generalize w7.heap.size = ox at *
    go_upto_region 28 with fail
    refine wp_region_np ?_
    refine wp_region_held_drew (S := fun W => Blk W ox 36 #[.int .i64 (M.nb : Int), .int .i64 (M.np : Int), .int .i64 (M.ni : Int), .slice B1 M.nb d1, .slice B2 M.np d2, .slice B3 M.ni d3] ∧ Blk W (w.heap.size + 1) 43 #[.int .i64 y.kind, .int .i64 y.a, .int .i64 y.b, .int .i64 y.n, .int .i64 y.o, .bool y.flag, .bool y.near, .slice L ll lk]) (by kernel_rfl) (show (fun W => Blk W ox 36 #[.int .i64 (M.nb : Int), .int .i64 (M.np : Int), .int .i64 (M.ni : Int), .slice B1 M.nb d1, .slice B2 M.np d2, .slice B3 M.ni d3] ∧ Blk W (w.heap.size + 1) 43 #[.int .i64 y.kind, .int .i64 y.a, .int .i64 y.b, .int .i64 y.n, .int .i64 y.o, .bool y.flag, .bool y.near, .slice L ll lk]) w8.drew from ⟨HO8.out.drew, HI8.out.ab.drew⟩) (fun hHeld => ?_)
    have hlow : Below w.heap.size w w8.drew := HI8.out.low.drew
    have hr0 := HR8.out.below (Below.refl _ _).drew
    have hrxb := HI8.out.rx.drew
    generalize hv0 : w8.drew = V0 at *
    clear hv0
    refine wpAnyH_takeAt (i := 0) (d := 225) (v := ?vq53x) rfl rfl (by kernel_rfl) (by kernel_rfl) (by kernel_rfl) (fun _ _ _ h => h) (Or.inl ⟨by rfl, ?hyq53x⟩) hHeld ?_
    case hyq53x =>
      intro W hSw
      obtain ⟨ko, ka⟩ := hSw; have q0 : W.cell? ⟨ox, 0, none⟩ = some (.int .i64 (M.nb : Int)) := ko.cell 0; have q1 : W.cell? ⟨ox, 1, none⟩ = some (.int .i64 (M.np : Int)) := ko.cell 1; have q2 : W.cell? ⟨ox, 2, none⟩ = some (.int .i64 (M.ni : Int)) := ko.cell 2; have q3 : W.cell? ⟨ox, 3, none⟩ = some (.slice B1 M.nb d1) := ko.cell 3; have q4 : W.cell? ⟨ox, 4, none⟩ = some (.slice B2 M.np d2) := ko.cell 4; have q5 : W.cell? ⟨ox, 5, none⟩ = some (.slice B3 M.ni d3) := ko.cell 5; have s0 : W.cell? ⟨(w.heap.size + 1), 0, none⟩ = some (.int .i64 y.kind) := ka.cell 0; have s1 : W.cell? ⟨(w.heap.size + 1), 1, none⟩ = some (.int .i64 y.a) := ka.cell 1; have s2 : W.cell? ⟨(w.heap.size + 1), 2, none⟩ = some (.int .i64 y.b) := ka.cell 2; have s3 : W.cell? ⟨(w.heap.size + 1), 3, none⟩ = some (.int .i64 y.n) := ka.cell 3; have s4 : W.cell? ⟨(w.heap.size + 1), 4, none⟩ = some (.int .i64 y.o) := ka.cell 4; have s5 : W.cell? ⟨(w.heap.size + 1), 5, none⟩ = some (.bool y.flag) := ka.cell 5; have s6 : W.cell? ⟨(w.heap.size + 1), 6, none⟩ = some (.bool y.near) := ka.cell 6; have s7 : W.cell? ⟨(w.heap.size + 1), 7, none⟩ = some (.slice L ll lk) := ka.cell 7; clear ko ka
      (go_simp; try with_reducible rfl)
    simp only [List.setIfInBounds_toArray, List.set_cons_zero, List.set_cons_succ]
    refine wpAnyH_takeAt (i := 1) (d := 226) (v := ?vq54x) rfl rfl (by kernel_rfl) (by kernel_rfl) (by kernel_rfl) (fun _ _ _ h => h) (Or.inl ⟨by rfl, ?hyq54x⟩) hHeld ?_
    case hyq54x =>
      intro W hSw
      clear hSw
      (go_simp; try with_reducible rfl)
    simp only [List.setIfInBounds_toArray, List.set_cons_zero, List.set_cons_succ]
    refine wpAnyH_takeAt (i := 2) (d := 227) (v := ?vq55x) rfl rfl (by kernel_rfl) (by kernel_rfl) (by kernel_rfl) (fun _ _ _ h => h) (Or.inl ⟨by rfl, ?hyq55x⟩) hHeld ?_
    case hyq55x =>
      intro W hSw
      clear hSw
      (go_simp; try with_reducible rfl)
    simp only [List.setIfInBounds_toArray, List.set_cons_zero, List.set_cons_succ]
    refine wpAnyH_takeAt (i := 3) (d := 228) (v := ?vq56x) rfl rfl (by kernel_rfl) (by kernel_rfl) (by kernel_rfl) (fun _ _ _ h => h) (Or.inl ⟨by rfl, ?hyq56x⟩) hHeld ?_
    case hyq56x =>
      intro W hSw
      obtain ⟨ko, ka⟩ := hSw; have q0 : W.cell? ⟨ox, 0, none⟩ = some (.int .i64 (M.nb : Int)) := ko.cell 0; have q1 : W.cell? ⟨ox, 1, none⟩ = some (.int .i64 (M.np : Int)) := ko.cell 1; have q2 : W.cell? ⟨ox, 2, none⟩ = some (.int .i64 (M.ni : Int)) := ko.cell 2; have q3 : W.cell? ⟨ox, 3, none⟩ = some (.slice B1 M.nb d1) := ko.cell 3; have q4 : W.cell? ⟨ox, 4, none⟩ = some (.slice B2 M.np d2) := ko.cell 4; have q5 : W.cell? ⟨ox, 5, none⟩ = some (.slice B3 M.ni d3) := ko.cell 5; have s0 : W.cell? ⟨(w.heap.size + 1), 0, none⟩ = some (.int .i64 y.kind) := ka.cell 0; have s1 : W.cell? ⟨(w.heap.size + 1), 1, none⟩ = some (.int .i64 y.a) := ka.cell 1; have s2 : W.cell? ⟨(w.heap.size + 1), 2, none⟩ = some (.int .i64 y.b) := ka.cell 2; have s3 : W.cell? ⟨(w.heap.size + 1), 3, none⟩ = some (.int .i64 y.n) := ka.cell 3; have s4 : W.cell? ⟨(w.heap.size + 1), 4, none⟩ = some (.int .i64 y.o) := ka.cell 4; have s5 : W.cell? ⟨(w.heap.size + 1), 5, none⟩ = some (.bool y.flag) := ka.cell 5; have s6 : W.cell? ⟨(w.heap.size + 1), 6, none⟩ = some (.bool y.near) := ka.cell 6; have s7 : W.cell? ⟨(w.heap.size + 1), 7, none⟩ = some (.slice L ll lk) := ka.cell 7; clear ko ka
      (go_simp; try with_reducible rfl)
    simp only [List.setIfInBounds_toArray, List.set_cons_zero, List.set_cons_succ]
    refine wpAnyH_takeAt (i := 4) (d := 229) (v := ?vq57x) rfl rfl (by kernel_rfl) (by kernel_rfl) (by kernel_rfl) (fun _ _ _ h => h) (Or.inl ⟨by rfl, ?hyq57x⟩) hHeld ?_
    case hyq57x =>
      intro W hSw
      clear hSw
      (go_simp; try with_reducible rfl)
    simp only [List.setIfInBounds_toArray, List.set_cons_zero, List.set_cons_succ]
    refine wpAnyH_takeAt (i := 5) (d := 230) (v := ?vq58x) rfl rfl (by kernel_rfl) (by kernel_rfl) (by kernel_rfl) (fun _ _ _ h => h) (Or.inl ⟨by rfl, ?hyq58x⟩) hHeld ?_
    case hyq58x =>
      intro W hSw
      obtain ⟨ko, ka⟩ := hSw; have q0 : W.cell? ⟨ox, 0, none⟩ = some (.int .i64 (M.nb : Int)) := ko.cell 0; have q1 : W.cell? ⟨ox, 1, none⟩ = some (.int .i64 (M.np : Int)) := ko.cell 1; have q2 : W.cell? ⟨ox, 2, none⟩ = some (.int .i64 (M.ni : Int)) := ko.cell 2; have q3 : W.cell? ⟨ox, 3, none⟩ = some (.slice B1 M.nb d1) := ko.cell 3; have q4 : W.cell? ⟨ox, 4, none⟩ = some (.slice B2 M.np d2) := ko.cell 4; have q5 : W.cell? ⟨ox, 5, none⟩ = some (.slice B3 M.ni d3) := ko.cell 5; have s0 : W.cell? ⟨(w.heap.size + 1), 0, none⟩ = some (.int .i64 y.kind) := ka.cell 0; have s1 : W.cell? ⟨(w.heap.size + 1), 1, none⟩ = some (.int .i64 y.a) := ka.cell 1; have s2 : W.cell? ⟨(w.heap.size + 1), 2, none⟩ = some (.int .i64 y.b) := ka.cell 2; have s3 : W.cell? ⟨(w.heap.size + 1), 3, none⟩ = some (.int .i64 y.n) := ka.cell 3; have s4 : W.cell? ⟨(w.heap.size + 1), 4, none⟩ = some (.int .i64 y.o) := ka.cell 4; have s5 : W.cell? ⟨(w.heap.size + 1), 5, none⟩ = some (.bool y.flag) := ka.cell 5; have s6 : W.cell? ⟨(w.heap.size + 1), 6, none⟩ = some (.bool y.near) := ka.cell 6; have s7 : W.cell? ⟨(w.heap.size + 1), 7, none⟩ = some (.slice L ll lk) := ka.cell 7; clear ko ka
      (go_simp; try with_reducible rfl)
    simp only [List.setIfInBounds_toArray, List.set_cons_zero, List.set_cons_succ]
    refine wpAnyH_takeAt (i := 6) (d := 231) (v := ?vq59x) rfl rfl (by kernel_rfl) (by kernel_rfl) (by kernel_rfl) (fun _ _ _ h => h) (Or.inl ⟨by rfl, ?hyq59x⟩) hHeld ?_
    case hyq59x =>
      intro W hSw
      clear hSw
      (go_simp; try with_reducible rfl)
    simp only [List.setIfInBounds_toArray, List.set_cons_zero, List.set_cons_succ]
    refine wpAnyH_takeAt (i := 7) (d := 232) (v := ?vq60x) rfl rfl (by kernel_rfl) (by kernel_rfl) (by kernel_rfl) (fun _ _ _ h => h) (Or.inl ⟨by rfl, ?hyq60x⟩) hHeld ?_
    case hyq60x =>
      intro W hSw
      obtain ⟨ko, ka⟩ := hSw; have q0 : W.cell? ⟨ox, 0, none⟩ = some (.int .i64 (M.nb : Int)) := ko.cell 0; have q1 : W.cell? ⟨ox, 1, none⟩ = some (.int .i64 (M.np : Int)) := ko.cell 1; have q2 : W.cell? ⟨ox, 2, none⟩ = some (.int .i64 (M.ni : Int)) := ko.cell 2; have q3 : W.cell? ⟨ox, 3, none⟩ = some (.slice B1 M.nb d1) := ko.cell 3; have q4 : W.cell? ⟨ox, 4, none⟩ = some (.slice B2 M.np d2) := ko.cell 4; have q5 : W.cell? ⟨ox, 5, none⟩ = some (.slice B3 M.ni d3) := ko.cell 5; have s0 : W.cell? ⟨(w.heap.size + 1), 0, none⟩ = some (.int .i64 y.kind) := ka.cell 0; have s1 : W.cell? ⟨(w.heap.size + 1), 1, none⟩ = some (.int .i64 y.a) := ka.cell 1; have s2 : W.cell? ⟨(w.heap.size + 1), 2, none⟩ = some (.int .i64 y.b) := ka.cell 2; have s3 : W.cell? ⟨(w.heap.size + 1), 3, none⟩ = some (.int .i64 y.n) := ka.cell 3; have s4 : W.cell? ⟨(w.heap.size + 1), 4, none⟩ = some (.int .i64 y.o) := ka.cell 4; have s5 : W.cell? ⟨(w.heap.size + 1), 5, none⟩ = some (.bool y.flag) := ka.cell 5; have s6 : W.cell? ⟨(w.heap.size + 1), 6, none⟩ = some (.bool y.near) := ka.cell 6; have s7 : W.cell? ⟨(w.heap.size + 1), 7, none⟩ = some (.slice L ll lk) := ka.cell 7; clear ko ka
      (go_simp; try with_reducible rfl)
    simp only [List.setIfInBounds_toArray, List.set_cons_zero, List.set_cons_succ]
    refine wpAnyH_takeAt (i := 9) (d := 234) (v := ?vq61x) rfl rfl (by kernel_rfl) (by kernel_rfl) (by kernel_rfl) (fun _ _ _ h => h) (Or.inl ⟨by rfl, ?hyq61x⟩) hHeld ?_
    case hyq61x =>
      intro W hSw
      clear hSw
      (go_simp; try with_reducible rfl)
    simp only [List.setIfInBounds_toArray, List.set_cons_zero, List.set_cons_succ]
    refine wpAnyH_ready (rs := [8]) (by kernel_rfl) (by simp) (AllReadyH.cons rfl (fun K hK => ?_) AllReadyH.nil)
    go_simp
    have hmm := HM.out.below hlow
    refine (marked32_any hmm HK.out y.a y.n y.b).mono ?_
    intro r V1 hme
    obtain ⟨rfl, hdid⟩ := hme
    dsimp only
    have hHeld2 : (fun W => Blk W ox 36 #[.int .i64 (M.nb : Int), .int .i64 (M.np : Int), .int .i64 (M.ni : Int), .slice B1 M.nb d1, .slice B2 M.np d2, .slice B3 M.ni d3] ∧ Blk W (w.heap.size + 1) 43 #[.int .i64 y.kind, .int .i64 y.a, .int .i64 y.b, .int .i64 y.n, .int .i64 y.o, .bool y.flag, .bool y.near, .slice L ll lk]) V1 := ⟨hHeld.1.keep hdid.2 (fun e => by have := HS.out _ e; have := HOX.out; omega), hHeld.2.keep hdid.2 (fun e => by have := HS.out _ e; omega)⟩
    have hrx1 : Blk V1 (w.heap.size + 2) 36 #[.int .i64 0, .int .i64 0, .int .i64 0, .slice none 0 0, .slice none 0 0, .slice none 0 0] := hrxb.keep hdid.2 (fun e => by have := HS.out _ e; omega)
    refine hK.out _ _ hHeld2 (fun hHeld => ?_)
    clear hK K hHeld2
    try simp only [List.setIfInBounds_toArray, List.set_cons_zero, List.set_cons_succ]
    refine wpAnyH_takeAt (i := 10) (d := 235) (v := ?vq62x) rfl rfl (by kernel_rfl) (by kernel_rfl) (by kernel_rfl) (fun _ _ _ h => h) (Or.inl ⟨by rfl, ?hyq62x⟩) hHeld ?_
    case hyq62x =>
      intro W hSw
      clear hSw
      (go_simp; try with_reducible rfl)
    simp only [List.setIfInBounds_toArray, List.set_cons_zero, List.set_cons_succ]
    refine wpAnyH_ready (rs := [11]) (by kernel_rfl) (by simp) (AllReadyH.cons rfl (fun K hK => ?_) AllReadyH.nil)
    refine step_store_blk (by rfl) rfl 36 _ _ rfl (w.heap.size + 2) _ #[.int .i64 (M.nb : Int), .int .i64 (M.np : Int), .int .i64 (M.ni : Int), .slice B1 M.nb d1, .slice B2 M.np d2, .slice B3 M.ni d3] rfl rfl 36 hrx1 rfl (by kernel_rfl) (by simp [Value.oneCell']) ?_
    intro V2 hB2 hg2 hs2
    have HB2 := Lib.hid hB2
    have hT2 : Turn (fun z => z = (w.heap.size + 2)) V1 V2 := Turn.of_grown hg2 (fun r e => by injection e with e; exact e.symm)
    have hM9 : (if M.markedE y.a y.n y.b = 0 then M.setW y.a.toNat ((M.wrs y.a.toNat).mark y.b) else M) = M1 := by
      rw [← HMS.out]
      unfold Mt.does
      rw [if_neg (show ¬ y.kind = 1 by have := HKD.out; omega)]; rw [if_neg (show ¬ y.kind = 2 by have := HKD.out; omega)]; rw [if_neg (show ¬ y.kind = 3 by have := HKD.out; omega)]; rw [if_neg (show ¬ y.kind = 4 by have := HKD.out; omega)]; rw [if_neg (show ¬ y.kind = 5 by have := HKD.out; omega)]; rw [if_neg (show ¬ y.kind = 6 by have := HKD.out; omega)]; rw [if_neg (show ¬ y.kind = 7 by have := HKD.out; omega)]; rw [if_pos HKD.out]
    have HF : Hid (∃ S', Pl V2 g M1 (.agg #[.int .i64 (M.nb : Int), .int .i64 (M.np : Int), .int .i64 (M.ni : Int), .slice B1 M.nb d1, .slice B2 M.np d2, .slice B3 M.ni d3]) S' Y ∧ (∀ b, b < w.heap.size → S' b → S b) ∧ Turn S w V2) := Lib.hid (do_of HS.out HY.out hlow (hM9 ▸ hdid) (hM9 ▸ hr0) (by omega) hrxb.lt hT2)
    have hHeld2 : (fun W => Blk W ox 36 #[.int .i64 (M.nb : Int), .int .i64 (M.np : Int), .int .i64 (M.ni : Int), .slice B1 M.nb d1, .slice B2 M.np d2, .slice B3 M.ni d3] ∧ Blk W (w.heap.size + 1) 43 #[.int .i64 y.kind, .int .i64 y.a, .int .i64 y.b, .int .i64 y.n, .int .i64 y.o, .bool y.flag, .bool y.near, .slice L ll lk]) V2 := ⟨hHeld.1.keep hT2 (fun e => by have := HOX.out; omega), hHeld.2.keep hT2 (fun e => by omega)⟩
    refine hK.out _ _ hHeld2 (fun hHeld => ?_)
    clear hK K hHeld2 hT2 hM9 hB2 hg2 hs2
    try simp only [List.setIfInBounds_toArray, List.set_cons_zero, List.set_cons_succ]
    refine wpAnyH_takeAt (i := 12) (d := 7) (v := ?vq63x) rfl rfl (by kernel_rfl) (by kernel_rfl) (by kernel_rfl) (fun _ _ _ h => h) (Or.inl ⟨by rfl, ?hyq63x⟩) hHeld ?_
    case hyq63x =>
      intro W hSw
      clear hSw
      (go_simp; try with_reducible rfl)
    simp only [List.setIfInBounds_toArray, List.set_cons_zero, List.set_cons_succ]
    refine wpAnyH_done (by kernel_rfl) ?_ _
    clear hHeld
    go_wp2_with fail
    refine bodyPost_ret (results_ct (by rfl) _ _ (w.heap.size + 2) 36 _ (0, 0) _ (by rfl) HB2.out und36 (by rfl) (by kernel_rfl) (by rfl)) rfl ?_
    obtain ⟨S', k1, k2, k3⟩ := HF.out
    exact ⟨_, S', rfl, k1, k2, k3⟩
  case neg =>
  have e8 := neb h8
  have hM9 : M = M1 := by
    rw [← HMS.out]
    unfold Mt.does
    rw [if_neg h1, if_neg h2, if_neg h3, if_neg h4, if_neg h5, if_neg h6, if_neg h7, if_neg h8]
  have HM9 := Lib.hid hM9
  clear h1 h2 h3 h4 h5 h6 h7 h8 hM9
  go_wp2_with (with_reducible refine at_load 36 rfl ?_)
  refine Stop.go (wpList_load_blk (by rfl) 36 _ (by rfl) w.heap.size (by rfl) 36 _ HI4.out.gb _ und36 (by rfl) (by kernel_rfl) ?_)
  go_wp2_with (with_reducible refine at_store 36 rfl ?_)
  refine Stop.go (wpList_store_blk (by rfl) (by rfl) 36 _ _ (by rfl) (w.heap.size + 2) _ #[.int .i64 (M.nb : Int), .int .i64 (M.np : Int), .int .i64 (M.ni : Int), .slice A1 M.nb c1, .slice A2 M.np c2, .slice A3 M.ni c3] (by rfl) (by rfl) 36 HI4.out.rx (by rfl) (by kernel_rfl) (by simp [Value.oneCell']) ?_)
  intro V2 hB2 hg2 hs2
  have HB2 := Lib.hid hB2
  have hT2 : Turn (fun z => z = (w.heap.size + 2)) w4 V2 := Turn.of_grown hg2 (fun r e => by injection e with e; exact e.symm)
  have HF : Hid (∃ S', Pl V2 g M1 (.agg #[.int .i64 (M.nb : Int), .int .i64 (M.np : Int), .int .i64 (M.ni : Int), .slice A1 M.nb c1, .slice A2 M.np c2, .slice A3 M.ni c3]) S' Y ∧ (∀ b, b < w.heap.size → S' b → S b) ∧ Turn S w V2) := Lib.hid (by
    rw [← HM9.out]
    exact do_of HS.out HY.out HI4.out.low (Did.of_below (HM.out.below HI4.out.low) (Below.refl _ _)) (HRX.out.below HI4.out.low) (by omega) HI4.out.rx.lt hT2)
  clear hT2 hB2 hg2 hs2
  go_wp2_with fail
  refine bodyPost_ret (results_ct (by rfl) _ _ (w.heap.size + 2) 36 _ (0, 0) _ (by rfl) HB2.out und36 (by rfl) (by kernel_rfl) (by rfl)) rfl ?_
  obtain ⟨S', k1, k2, k3⟩ := HF.out
  exact ⟨_, S', rfl, k1, k2, k3⟩
end
end Go.Proofs.YtpmdicbhliclcaaGreat
