/-
  Steps for the walks of layer 2: bytes as strings, rows of the call's own, appends, slices, a law's slice of bytes. Conditions: fewer than 1000000 bytes on each side.
-/
import Derived.Test.YtickdpgfiianjaaApp
import Derived.Lib.SliceRun
import Derived.Lib.SlBytesConst
import Derived.BigQuiet
import Derived.Deep.QuietTactic
import Derived.Deep.RegionHeld3
import Derived.IntWalk
namespace Go.Proofs.Ytickdpgfiianjaa
open Go.RowKit
theorem le_alloc {base : Nat} {w : World} (h : base ≤ w.heap.size) (o : Obj) : base ≤ (w.alloc o).heap.size := Nat.le_trans h (by simp)
/-- The lowest k bytes of n, the lowest ahead. -/
def les : Nat → Nat → List UInt8
  | 0, _ => []
  | k + 1, n => UInt8.ofNat n :: les k (n / 256)
theorem les_snoc : ∀ k n : Nat, les (k + 1) n = les k n ++ [UInt8.ofNat (n / 256 ^ k)]
  | 0, n => by simp [les]
  | k + 1, n => by
    show UInt8.ofNat n :: les (k + 1) (n / 256) = UInt8.ofNat n :: les k (n / 256) ++ _
    rw [les_snoc k (n / 256), Nat.div_div_eq_div_mul, Nat.pow_succ, Nat.mul_comm 256]
    rfl
theorem length_les : ∀ k n : Nat, (les k n).length = k
  | 0, _ => rfl
  | k + 1, n => by show (les k (n / 256)).length + 1 = k + 1; rw [length_les]
theorem byteV_ofNat (q : Nat) : byteV (UInt8.ofNat q) = .int .u8 ((q : Int) % 256) := by
  unfold byteV
  rw [UInt8.toNat_ofNat']
  rfl
theorem bys_one (w : World) (q : Nat) (t : TypeId) (B : Nat) (hB : w.heap.size < B) : Bys (w.alloc (.cells #[.int .u8 ((q : Int) % 256)] t)) B (some ⟨w.heap.size, 0, none⟩) 1 [UInt8.ofNat q] := by
  refine ⟨rfl, fun _ => ⟨_, rfl, hB, fun j u hu => ?_⟩⟩
  rw [← byteV_ofNat]
  refine cell_one_new w (byteV (UInt8.ofNat q)) t j (byteV u) ?_
  match j, hu with
  | 0, hu => simp at hu; subst hu; rfl
  | j + 1, hu => simp at hu
/-- What is known behind a call that hands a row of its own back. -/
def Rowed (w : World) (base B : Nat) (l : List UInt8) (e : Ending) (w' : World) : Prop := ∃ v, e = .returned v ∧ Own w' base v l ∧ Below B w w'
/-- Bytes as a string. -/
def str (l : List UInt8) : ByteArray := ⟨l.toArray⟩
theorem conv_str (w : World) (B : Nat) (A : Option Addr) (n c : Nat) (l : List UInt8) (hr : Bys w B A n l) : (convert 22 9 (.slice A n c)).run Try.prog w = .ok (.string (str l)) w := by
  rw [run_convert_bytes_string w 22 9 5 A n c Try.underlying22 Try.underlying5 Try.underlying9]
  rcases A with _ | ad
  · have h0 : n = 0 := by
      rcases Nat.eq_zero_or_pos n with h0 | h0
      · exact h0
      · obtain ⟨ad, h, _⟩ := hr.2 h0
        cases h
    subst h0
    have hk : l = [] := List.eq_nil_of_length_eq_zero hr.1
    subst hk
    rfl
  · have hl : (loadCells ad n).run Try.prog w = .ok ((l.map fun x => (x.toNat : Int)).map (Value.int .u8)).toArray w := by
      have := run_loadCells_list (P := Try.prog) w ad ((l.map fun x => (x.toNat : Int)).map (Value.int .u8)) (fun j v hj => by
        rw [List.map_map, List.getElem?_map] at hj
        cases hx : l[j]? with
        | none => rw [hx] at hj; cases hj
        | some x =>
          rw [hx] at hj
          injection hj with hj
          subst hj
          have hlt : j < l.length := (List.getElem?_eq_some_iff.1 hx).1
          obtain ⟨ad', h, _, hc⟩ := hr.2 (by have := hr.1; omega)
          injection h with h
          subst h
          exact hc j x hx)
      simpa [hr.1] using this
    rw [run_bytesToString w _ n c _ hl, foldl_push_bytes]
    congr 2
    unfold str
    congr 1
    simp [ByteArray.empty, ByteArray.emptyWithCapacity]
    show [] ++ List.map ((fun n => UInt8.ofNat n.toNat) ∘ fun x : UInt8 => (x.toNat : Int)) l = l
    rw [List.nil_append]
    conv => rhs; rw [← List.map_id l]
    apply List.map_congr_left
    intro x _
    simp
theorem str_toList (l : List UInt8) : (str l).toList = l := ByteArray.toList_mk l
theorem own_empty (w : World) (base : Nat) (hb : base ≤ w.heap.size) : Own (w.alloc (.cells #[] 5)) base (.slice (some ⟨w.heap.size, 0, none⟩) 0 0) [] :=
  World.ownsRow_made w #[] 0 hb (by unfold maxLen; omega) rfl
theorem bys_lit (w : World) (l : List UInt8) (t : TypeId) (fr : Nat × Nat) (n B : Nat) (hn : l.length = n) (hB : w.heap.size < B) : Bys (w.alloc (.cells (l.map byteV).toArray t fr)) B (some ⟨w.heap.size, 0, none⟩) n l := by
  refine ⟨hn, fun _ => ⟨_, rfl, hB, fun j u hu => ?_⟩⟩
  have hadd : (⟨w.heap.size, 0, none⟩ : Addr).add j = ⟨w.heap.size, j, none⟩ := by unfold Addr.add; split <;> simp_all
  rw [hadd, cell_of_row _ _ j _ t fr (heap_alloc_new w _)]
  simp [hu]
theorem Own.cap {w : World} {base : Nat} {A : Option Addr} {n c : Nat} {l : List UInt8} (h : Own w base (.slice A n c) l) : n ≤ c ∧ c ≤ maxLen := by
  rcases h.2 with ⟨e, h0⟩ | ⟨g, cap, cur, e, _, _, h1, h2, _⟩
  · injection e with _ e2 e3; subst e2 e3; exact ⟨by omega, by unfold maxLen; omega⟩
  · injection e with _ e2 e3; subst e2 e3; exact ⟨h1, h2⟩
theorem lit_step (w : World) (base : Nat) (cs : Array Value) (l : List UInt8) (n : Nat) (hcs : cs = (l.map byteV).toArray) (hn : l.length = n) (fr : Nat × Nat) (hb : base ≤ w.heap.size) :
    Below base w (w.alloc (.cells cs 5 fr)) ∧ Bys (w.alloc (.cells cs 5 fr)) (w.alloc (.cells cs 5 fr)).heap.size (some ⟨w.heap.size, 0, none⟩) n l ∧ base ≤ (w.alloc (.cells cs 5 fr)).heap.size := by
  subst hcs
  exact ⟨(Below.refl _ _).alloc hb _, bys_lit w l 5 fr n _ hn (by simp), le_alloc hb _⟩
/-- What a law is told of a slice of integers that came in: it is nil; or it leads to a row of 'cap' cells, the numbers 'zs' (the first 'len' are its elements, the rest its spare room), each fitting its kind. -/
def IsRow (k : IntKind) (w : World) (a : Option Addr) (len cap : Nat) (zs : List Int) : Prop :=
  (a = none ∧ len = 0 ∧ cap = 0 ∧ zs = []) ∨
  ∃ x, a = some x ∧ len ≤ cap ∧ cap ≤ maxLen ∧ zs.length = cap ∧ (∀ i, i < zs.length → w.cell? (x.add i) = some (.int k (zs.getD i 0))) ∧ ∀ n ∈ zs, (Lit.int k n).wf = true
theorem IsRow.bys {w : World} {a : Option Addr} {len cap : Nat} {zs : List Int} (h : IsRow .u8 w a len cap zs) : ∃ l : List UInt8, Bys w w.heap.size a len l ∧ len ≤ cap ∧ cap ≤ maxLen := by
  rcases h with ⟨rfl, rfl, rfl, rfl⟩ | ⟨x, rfl, h1, h2, h3, h4, h5⟩
  · exact ⟨[], Bys.none_, Nat.le_refl _, by unfold maxLen; omega⟩
  · refine ⟨(zs.take len).map fun z => UInt8.ofNat z.toNat, ⟨by simp; omega, fun h0 => ⟨x, rfl, ?_, fun j u hu => ?_⟩⟩, h1, h2⟩
    · have := block_lt_of_cell (h4 0 (by omega))
      rwa [block_of_add] at this
    · rw [List.getElem?_map] at hu
      cases hz : (zs.take len)[j]? with
      | none => rw [hz] at hu; cases hu
      | some z =>
        rw [hz] at hu
        injection hu with hu
        subst hu
        rw [List.getElem?_take] at hz
        split at hz
        · have hj : j < zs.length := (List.getElem?_eq_some_iff.1 hz).1
          have hm : z ∈ zs := by rw [List.getElem?_eq_some_iff] at hz; obtain ⟨_, rfl⟩ := hz; exact List.getElem_mem _
          have hw := h5 z hm
          have hmin : IntKind.u8.min = 0 := rfl
          have hmax : IntKind.u8.max = 255 := rfl
          simp only [Lit.wf, Bool.and_eq_true, decide_eq_true_eq] at hw
          rw [h4 j hj]
          unfold byteV
          rw [UInt8.toNat_ofNat']
          rw [List.getD_eq_getElem?_getD, hz]
          have : ((z.toNat % 2 ^ 8 : Nat) : Int) = z := by omega
          rw [this]
          rfl
        · cases hz
/-- A place where the walk stands still. -/
def Stop (p : Prop) : Prop := p
theorem stop {p : Prop} (h : Stop p) : p := h
theorem Stop.go {p : Prop} (h : p) : Stop p := h
theorem wpList_append_want (w : World) {ops : Array Oper} {rest : List Oper} {o : Oper} {a : Act} {Q : Exit → Act → World → Prop} (hw : Region.wanted o (yielded ops a.tmps) = true) (s x : Operand)
    (ho : o.op = .call { callee := .builtin .append, args := #[s, x], argTypes := #[22, 22] })
    (base : Nat) (v : Value) (l : List UInt8) (hs : a.eval s = v) (hown : Own w base v l) (B : Nat) (A : Option Addr) (m c : Nat) (k : List UInt8) (hx : a.eval x = .slice A m c) (hr : Bys w B A m k)
    (hl : l.length < 1000000) (hm : m < 1000000) (hbase : base ≤ w.heap.size)
    (h : ∀ v' w', Own w' base v' (l ++ k) → Below base w w' → wpList Try.prog ops Q rest (a.put o.dst v') w') : wpList Try.prog ops Q (o :: rest) a w := by
  refine BigFrame.wpList_want hw fun K hK => ?_
  obtain ⟨v', w', hrun, h2, h3⟩ := run_append_bytes w base v l hown B A m c k hr o.type hl hm hbase
  unfold Oper.wp execOp
  simp only [ho, resolve, invoke, builtin, Sem.run_bind, Sem.run_pure, Result.andThen_ok, List.map_toArray, List.map_cons, List.map_nil, hs, hx, hrun]
  exact hK _ _ (h v' w' h2 h3)
/-- A copy: append([]byte{}, k...), the row of no bytes just laid. -/
theorem fresh {w : World} {B n : Nat} {A : Option Addr} {k : List UInt8} (hr : Bys w B A n k) (hB : B ≤ w.heap.size) :
    Own (w.alloc (.cells #[] 5)) w.heap.size (.slice (some ⟨w.heap.size, 0, none⟩) 0 0) [] ∧ Bys (w.alloc (.cells #[] 5)) B A n k ∧ Below w.heap.size w (w.alloc (.cells #[] 5)) ∧ w.heap.size ≤ (w.alloc (.cells #[] 5)).heap.size :=
  ⟨own_empty w _ (Nat.le_refl _), hr.alloc hB _, (Below.refl _ _).alloc (Nat.le_refl _) _, le_alloc (Nat.le_refl _) _⟩
/-- A row of the call's own, its length a letter. -/
theorem Own.form2 {w : World} {base : Nat} {v : Value} {l : List UInt8} (h : Own w base v l) : ∃ A q c, v = .slice A q c ∧ q = l.length := by
  obtain ⟨A, c, e, _⟩ := h.form
  exact ⟨A, _, c, e, rfl⟩
theorem i64_bounds {n : Int} (h : (Lit.int .i64 n).wf = true) : -9223372036854775808 ≤ n ∧ n ≤ 9223372036854775807 := by
  have hmin : IntKind.i64.min = -9223372036854775808 := rfl
  have hmax : IntKind.i64.max = 9223372036854775807 := rfl
  simp only [Lit.wf, Bool.and_eq_true, decide_eq_true_eq] at h
  omega
theorem slice_to (a : Option Addr) (n c k : Nat) (i : Int) (hi : i = (k : Int)) (hk : k ≤ c) (W : World) : (Instr.slice 22 (.slice a n c) none (some (.int .i64 i)) none).run Try.prog W = .ok (.slice a k c) W := by
  subst hi
  obtain ⟨j, hj, hz0, hz1, hz2⟩ := info_parts info5
  have ha : a.map (fun x : Addr => x.add 0) = a := by cases a <;> simp [Addr.add]
  simp [Instr.slice, run_underlying Try.underlying22, Instr.sliceBounds, Instr.sliceBound, asIntOf, hk, sizeOf, typeInfo, hj, ha]
theorem sliceAt_to (a : Option Addr) (n c k : Nat) (i : Int) (hi : i = (k : Int)) (hk : k ≤ c) (W : World) : (Instr.sliceAt 22 (.slice a n c) none (some (.int .i64 i)) none).run Try.prog W = .ok (.slice a k c) W := by
  rw [← slice_to a n c k i hi hk W]
  simp [Instr.sliceAt, run_underlying Try.underlying22]
theorem wpAnyH_takeAt {P : Program} {md : Region.Mode} {ops : Array Oper} {Q : Exit → Act → World → Prop} {S : World → Prop} {i d : Nat} {oi : Oper} {v : Value} {fuel : Nat} {listed : Array Bool} {a : Act} {w : World}
    (hi : ops[i]? = some oi) (hd : oi.dst = some d) (hs : Region.noSelect ops = true) (hf : Region.free md ops listed i = true) (hr : (Region.ready md ops listed).contains i = true)
    (hQ : ∀ c a w, Q (.panic c) (a.put (some d) v) w → Q (.panic c) a w) (hy : YieldsIf P ops S oi v a) (hS : S w)
    (h : wpAnyH P md ops Q S fuel (listed.setIfInBounds i true) { a with tmps := a.tmps.setIfInBounds d v } w) : wpAnyH P md ops Q S (fuel + 1) listed a w :=
  wpAnyH_take hi hs hf hr (by rw [hd]; exact hQ) hy hS (by rw [hd]; exact h)
/-- A region that is shown not to panic serves whatever the post says of a panic. -/
theorem wp_region_np {P : Program} {id : Nat} {ops : Array Oper} {b : Bool} {Q : Exit → Act → World → Prop} {a : Act} {w : World}
    (h : (Code.region id ops b).wp P (fun e a w => match e with | .panic _ => False | e => Q e a w) a w) : (Code.region id ops b).wp P Q a w :=
  Code.wp_mono (fun e a w h => by cases e <;> first | exact h | exact False.elim h) h
end Go.Proofs.Ytickdpgfiianjaa
