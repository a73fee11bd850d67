/-
  Files as a rising list of names and bytes, and what is done to them: plain mathematics. Nothing is assumed.
-/
namespace Go.Proofs.Ythhiiimmgghhaaa
abbrev Bs := List UInt8
abbrev FL := List (Bs × Bs)
/-- The bytes of a name. -/
def find : FL → Bs → Option Bs
  | [], _ => none
  | (m, c) :: r, k => if m = k then some c else find r k
/-- Bytes are put behind a file's. -/
def putF (n b : Bs) : FL → FL
  | [] => [(n, b)]
  | (m, c) :: r => if n < m then (n, b) :: (m, c) :: r else if m = n then (m, c ++ b) :: r else (m, c) :: putF n b r
def cutF (n : Bs) (k : Nat) (l : FL) : FL := l.map fun p => if p.1 = n then (p.1, p.2.take k) else p
def remF (n : Bs) (l : FL) : FL := l.filter fun p => !(p.1 == n)
def Rises (l : FL) : Prop := l.Pairwise fun p q => p.1 < q.1
def total (l : FL) : Nat := (l.map fun p => p.2.length).sum
def sizeF (l : FL) (n : Bs) : Nat := ((find l n).getD []).length

theorem lt_irrefl' (a : Bs) : ¬ a < a := List.lt_irrefl a
theorem lt_trans' {a b c : Bs} (h : a < b) (k : b < c) : a < c := List.lt_trans h k
theorem lt_asymm' {a b : Bs} (h : a < b) : ¬ b < a := fun k => lt_irrefl' a (lt_trans' h k)
theorem lt_tri (a b : Bs) : a < b ∨ a = b ∨ b < a := by
  by_cases h : a < b
  · exact .inl h
  · by_cases k : b < a
    · exact .inr (.inr k)
    · exact .inr (.inl (List.le_antisymm (List.not_lt.1 k) (List.not_lt.1 h)))

theorem find_none_of {l : FL} {n : Bs} (h : ∀ p ∈ l, p.1 ≠ n) : find l n = none := by
  induction l with
  | nil => rfl
  | cons p r ih =>
    obtain ⟨m, c⟩ := p
    unfold find
    rw [if_neg (h (m, c) (by simp)), ih (fun q hq => h q (by simp [hq]))]
theorem find_mem {l : FL} {n b : Bs} (h : find l n = some b) : (n, b) ∈ l := by
  induction l with
  | nil => cases h
  | cons p r ih =>
    obtain ⟨m, c⟩ := p
    unfold find at h
    by_cases e : m = n
    · rw [if_pos e] at h; injection h with h; subst h e; simp
    · rw [if_neg e] at h; simp [ih h]
theorem Rises.cons {p : Bs × Bs} {l : FL} (h : Rises (p :: l)) : (∀ q ∈ l, p.1 < q.1) ∧ Rises l := List.pairwise_cons.1 h
theorem find_of_mem {l : FL} (hr : Rises l) {n b : Bs} (h : (n, b) ∈ l) : find l n = some b := by
  induction l with
  | nil => cases h
  | cons p r ih =>
    obtain ⟨m, c⟩ := p
    obtain ⟨h1, h2⟩ := hr.cons
    unfold find
    rcases List.mem_cons.1 h with h | h
    · injection h with e1 e2; subst e1 e2; rw [if_pos rfl]
    · rw [if_neg (fun e => by have := h1 _ h; subst e; exact lt_irrefl' _ this)]; exact ih h2 h
theorem find_isSome {l : FL} {n : Bs} : (find l n).isSome = true ↔ n ∈ l.map (·.1) := by
  induction l with
  | nil => simp [find]
  | cons p r ih =>
    obtain ⟨m, c⟩ := p
    unfold find
    by_cases e : m = n
    · subst e; simp
    · rw [if_neg e, ih]; simp; intro h; exact absurd h.symm e

theorem find_put_same : ∀ (l : FL) (n b : Bs), Rises l → find (putF n b l) n = some ((find l n).getD [] ++ b)
  | [], n, b, _ => by simp [putF, find]
  | (m, c) :: r, n, b, hr => by
    obtain ⟨h1, h2⟩ := hr.cons
    unfold putF
    by_cases a : n < m
    · rw [if_pos a]
      have e1 : find ((m, c) :: r) n = none := find_none_of fun p hp e => by
        rcases List.mem_cons.1 hp with rfl | hp
        · subst e; exact lt_irrefl' _ a
        · have := h1 _ hp; subst e; exact lt_asymm' a this
      rw [e1]
      unfold find
      rw [if_pos rfl]
      simp
    · rw [if_neg a]
      by_cases e : m = n
      · subst e; rw [if_pos rfl]; simp [find]
      · rw [if_neg e]
        unfold find
        rw [if_neg e, if_neg e]
        exact find_put_same r n b h2
theorem find_put_other : ∀ (l : FL) (n b k : Bs), k ≠ n → find (putF n b l) k = find l k
  | [], n, b, k, h => by simp [putF, find, Ne.symm h]
  | (m, c) :: r, n, b, k, h => by
    unfold putF
    by_cases a : n < m
    · rw [if_pos a]
      conv => lhs; unfold find
      rw [if_neg (Ne.symm h)]
    · rw [if_neg a]
      by_cases e : m = n
      · subst e; rw [if_pos rfl]; unfold find; rw [if_neg (Ne.symm h), if_neg (Ne.symm h)]
      · rw [if_neg e]
        unfold find
        by_cases f : m = k
        · rw [if_pos f, if_pos f]
        · rw [if_neg f, if_neg f]; exact find_put_other r n b k h
theorem mem_put : ∀ (l : FL) (n b : Bs) (p : Bs × Bs), p ∈ putF n b l → p.1 = n ∨ p ∈ l
  | [], n, b, p, h => by simp [putF] at h; subst h; exact .inl rfl
  | (m, c) :: r, n, b, p, h => by
    unfold putF at h
    by_cases a : n < m
    · rw [if_pos a] at h
      rcases List.mem_cons.1 h with rfl | h
      · exact .inl rfl
      · exact .inr h
    · rw [if_neg a] at h
      by_cases e : m = n
      · rw [if_pos e] at h
        rcases List.mem_cons.1 h with rfl | h
        · exact .inl e
        · exact .inr (by simp [h])
      · rw [if_neg e] at h
        rcases List.mem_cons.1 h with rfl | h
        · exact .inr (by simp)
        · rcases mem_put r n b p h with h | h
          · exact .inl h
          · exact .inr (by simp [h])
theorem rises_put : ∀ (l : FL) (n b : Bs), Rises l → Rises (putF n b l)
  | [], n, b, _ => by simp [putF, Rises]
  | (m, c) :: r, n, b, hr => by
    obtain ⟨h1, h2⟩ := hr.cons
    unfold putF
    by_cases a : n < m
    · rw [if_pos a]
      refine List.pairwise_cons.2 ⟨fun q hq => ?_, hr⟩
      rcases List.mem_cons.1 hq with rfl | hq
      · exact a
      · exact lt_trans' a (h1 q hq)
    · rw [if_neg a]
      by_cases e : m = n
      · rw [if_pos e]; exact List.pairwise_cons.2 ⟨h1, h2⟩
      · rw [if_neg e]
        refine List.pairwise_cons.2 ⟨fun q hq => ?_, rises_put r n b h2⟩
        rcases mem_put r n b q hq with h | h
        · rcases lt_tri m n with g | g | g
          · show m < q.1; rw [h]; exact g
          · exact absurd g e
          · exact absurd g a
        · exact h1 q h
theorem find_cut : ∀ (l : FL) (n : Bs) (k : Nat) (m : Bs), find (cutF n k l) m = if m = n then (find l m).map (·.take k) else find l m
  | [], n, k, m => by simp [cutF, find]
  | (a, c) :: r, n, k, m => by
    have ih := find_cut r n k m
    show find ((if a = n then (a, c.take k) else (a, c)) :: cutF n k r) m = _
    by_cases e : a = n
    · rw [if_pos e]
      unfold find
      by_cases f : a = m
      · have g : m = n := f ▸ e
        rw [if_pos f, if_pos f, if_pos g]; rfl
      · rw [if_neg f, if_neg f, ih]
    · rw [if_neg e]
      unfold find
      by_cases f : a = m
      · rw [if_pos f, if_pos f, if_neg (fun g => e (f.trans g))]
      · rw [if_neg f, if_neg f, ih]
theorem map_fst_cut (l : FL) (n : Bs) (k : Nat) : (cutF n k l).map (·.1) = l.map (·.1) := by
  unfold cutF
  rw [List.map_map]
  apply List.map_congr_left
  intro p _
  show (if p.1 = n then (p.1, p.2.take k) else p).1 = p.1
  split <;> rfl
theorem rises_iff (l : FL) : Rises l ↔ (l.map (·.1)).Pairwise (· < ·) := by unfold Rises; rw [List.pairwise_map]
theorem rises_cut {l : FL} (h : Rises l) (n : Bs) (k : Nat) : Rises (cutF n k l) := by
  rw [rises_iff, map_fst_cut, ← rises_iff]; exact h
theorem find_rem : ∀ (l : FL) (n m : Bs), find (remF n l) m = if m = n then none else find l m
  | [], n, m => by simp [remF, find]
  | (a, c) :: r, n, m => by
    have ih := find_rem r n m
    unfold remF at ih ⊢
    by_cases e : a = n
    · subst e
      rw [List.filter_cons_of_neg (by simp), ih]
      by_cases f : m = a
      · rw [if_pos f, if_pos f]
      · rw [if_neg f, if_neg f]; conv => rhs; unfold find
        rw [if_neg (Ne.symm f)]
    · rw [List.filter_cons_of_pos (by simp [e])]
      unfold find
      by_cases f : a = m
      · rw [if_pos f, if_pos f, if_neg (fun g => e (f.trans g))]
      · rw [if_neg f, if_neg f, ih]
theorem rises_rem {l : FL} (h : Rises l) (n : Bs) : Rises (remF n l) := List.Pairwise.filter _ h
/-- Rising lists that tell the same of each name are the same. -/
theorem ext_of_find : ∀ {l l' : FL}, Rises l → Rises l' → (∀ k, find l k = find l' k) → l = l'
  | [], [], _, _, _ => rfl
  | [], (m, c) :: r, _, _, h => by have := h m; simp [find] at this
  | (m, c) :: r, [], _, _, h => by have := h m; simp [find] at this
  | (m, c) :: r, (m', c') :: r', hl, hl', h => by
    obtain ⟨h1, h2⟩ := hl.cons
    obtain ⟨h1', h2'⟩ := hl'.cons
    have em : m = m' := by
      rcases lt_tri m m' with g | g | g
      · have hm := h m
        rw [find_none_of (l := (m', c') :: r') fun p hp e => by
          rcases List.mem_cons.1 hp with rfl | hp
          · subst e; exact lt_irrefl' _ g
          · have := h1' _ hp; subst e; exact lt_asymm' g this] at hm
        simp [find] at hm
      · exact g
      · have hm := h m'
        rw [find_none_of (l := (m, c) :: r) fun p hp e => by
          rcases List.mem_cons.1 hp with rfl | hp
          · subst e; exact lt_irrefl' _ g
          · have := h1 _ hp; subst e; exact lt_asymm' g this] at hm
        simp [find] at hm
    subst em
    have ec : c = c' := by have := h m; simp [find] at this; exact this
    subst ec
    congr 1
    refine ext_of_find h2 h2' fun k => ?_
    by_cases e : m = k
    · subst e
      rw [find_none_of fun p hp e => by have := h1 _ hp; subst e; exact lt_irrefl' _ this, find_none_of fun p hp e => by have := h1' _ hp; subst e; exact lt_irrefl' _ this]
    · have := h k
      unfold find at this
      rwa [if_neg e, if_neg e] at this
theorem total_cons (p : Bs × Bs) (l : FL) : total (p :: l) = p.2.length + total l := by simp [total]
theorem total_put : ∀ (l : FL) (n b : Bs), total (putF n b l) = total l + b.length
  | [], n, b => by simp [putF, total]
  | (m, c) :: r, n, b => by
    unfold putF
    by_cases a : n < m
    · rw [if_pos a]; rw [total_cons]; show b.length + _ = _; omega
    · rw [if_neg a]
      by_cases e : m = n
      · rw [if_pos e]; rw [total_cons, total_cons]; show (c ++ b).length + _ = c.length + _ + _; rw [List.length_append]; omega
      · rw [if_neg e, total_cons, total_cons, total_put r n b]; omega
theorem find_le_total : ∀ (l : FL) (n b : Bs), find l n = some b → b.length ≤ total l
  | [], n, b, h => by cases h
  | (m, c) :: r, n, b, h => by
    unfold find at h
    rw [total_cons]
    by_cases e : m = n
    · rw [if_pos e] at h; injection h with h; subst h; show c.length ≤ c.length + _; omega
    · rw [if_neg e] at h; have := find_le_total r n b h; show _ ≤ c.length + _; omega
theorem cutF_none {l : FL} {n : Bs} (k : Nat) (h : ∀ p ∈ l, p.1 ≠ n) : cutF n k l = l := by
  unfold cutF
  conv => rhs; rw [← List.map_id l]
  apply List.map_congr_left
  intro p hp
  rw [if_neg (h p hp)]; rfl
theorem total_cut : ∀ (l : FL) (n : Bs) (k : Nat) (b : Bs), Rises l → find l n = some b → k ≤ b.length → total (cutF n k l) + (b.length - k) = total l
  | [], n, k, b, _, h, _ => by cases h
  | (m, c) :: r, n, k, b, hr, h, hk => by
    obtain ⟨h1, h2⟩ := hr.cons
    unfold find at h
    show total ((if m = n then (m, c.take k) else (m, c)) :: cutF n k r) + _ = _
    by_cases e : m = n
    · rw [if_pos e] at h ⊢; injection h with h; subst h
      rw [cutF_none k fun p hp g => by have := h1 _ hp; rw [g, ← e] at this; exact lt_irrefl' _ this]
      rw [total_cons, total_cons]
      show (c.take k).length + _ + _ = c.length + _
      rw [List.length_take]; omega
    · rw [if_neg e] at h ⊢; rw [total_cons, total_cons, ← total_cut r n k b h2 h hk]; omega
theorem remF_none {l : FL} {n : Bs} (h : ∀ p ∈ l, p.1 ≠ n) : remF n l = l := List.filter_eq_self.2 fun p hp => by simp [h p hp]
theorem total_rem : ∀ (l : FL) (n b : Bs), Rises l → find l n = some b → total (remF n l) + b.length = total l
  | [], n, b, _, h => by cases h
  | (m, c) :: r, n, b, hr, h => by
    obtain ⟨h1, h2⟩ := hr.cons
    unfold find at h
    by_cases e : m = n
    · rw [if_pos e] at h; injection h with h; subst h
      have : remF n ((m, c) :: r) = remF n r := by unfold remF; rw [List.filter_cons_of_neg (by simp [e])]
      rw [this, remF_none fun p hp g => by have := h1 _ hp; rw [g, ← e] at this; exact lt_irrefl' _ this]
      rw [total_cons]; show _ + c.length = c.length + _; omega
    · rw [if_neg e] at h
      have : remF n ((m, c) :: r) = (m, c) :: remF n r := by unfold remF; rw [List.filter_cons_of_pos (by simp [e])]
      rw [this, total_cons, total_cons, ← total_rem r n b h2 h]; omega
theorem length_put : ∀ (l : FL) (n b : Bs), (putF n b l).length ≤ l.length + 1
  | [], n, b => by simp [putF]
  | (m, c) :: r, n, b => by
    unfold putF
    by_cases a : n < m
    · rw [if_pos a]; simp
    · rw [if_neg a]
      by_cases e : m = n
      · rw [if_pos e]; simp
      · rw [if_neg e]; have := length_put r n b; simp; omega
theorem length_cut (l : FL) (n : Bs) (k : Nat) : (cutF n k l).length = l.length := by simp [cutF]
theorem length_rem (l : FL) (n : Bs) : (remF n l).length ≤ l.length := List.length_filter_le _ _

/-- What is done to a file. -/
inductive Th where
  | put (n b : Bs)
  | cut (n : Bs) (k : Nat)
  | rem (n : Bs)
deriving DecidableEq
def Th.on (t : Th) (l : FL) : FL := match t with
  | .put n b => putF n b l
  | .cut n k => cutF n k l
  | .rem n => remF n l
def Th.name : Th → Bs
  | .put n _ => n
  | .cut n _ => n
  | .rem n => n
def Th.bytes : Th → Bs
  | .put _ b => b
  | _ => []
def after (l : FL) (ts : List Th) : FL := ts.foldl (fun l t => t.on l) l
theorem after_nil (l : FL) : after l [] = l := rfl
theorem after_snoc (l : FL) (ts : List Th) (t : Th) : after l (ts ++ [t]) = t.on (after l ts) := by simp [after, List.foldl_append]
theorem after_cons (l : FL) (ts : List Th) (t : Th) : after l (t :: ts) = after (t.on l) ts := rfl
/-- May it be done to these files (a name is not too long, a file that is cut is there and as long; a file that is removed is there)? -/
def Th.can (t : Th) (l : FL) : Prop := match t with
  | .put n _ => n.length ≤ 24
  | .cut n k => ∃ b, find l n = some b ∧ k ≤ b.length
  | .rem n => ∃ b, find l n = some b
theorem rises_on (t : Th) {l : FL} (h : Rises l) : Rises (t.on l) := by
  cases t with
  | put n b => exact rises_put l n b h
  | cut n k => exact rises_cut h n k
  | rem n => exact rises_rem h n
theorem length_on (t : Th) (l : FL) : (t.on l).length ≤ l.length + 1 := by
  cases t with
  | put n b => exact length_put l n b
  | cut n k => show (cutF n k l).length ≤ _; rw [length_cut]; omega
  | rem n => have := length_rem l n; show (remF n l).length ≤ _; omega
theorem find_on_other (t : Th) (l : FL) {k : Bs} (h : k ≠ t.name) : find (t.on l) k = find l k := by
  cases t with
  | put n b => exact find_put_other l n b k h
  | cut n j => show find (cutF n j l) k = _; rw [find_cut]; exact if_neg h
  | rem n => show find (remF n l) k = _; rw [find_rem]; exact if_neg h
theorem rises_after : ∀ (ts : List Th) {l : FL}, Rises l → Rises (after l ts)
  | [], _, h => h
  | t :: ts, _, h => rises_after ts (rises_on t h)
theorem length_after : ∀ (ts : List Th) (l : FL), (after l ts).length ≤ l.length + ts.length
  | [], l => by simp [after]
  | t :: ts, l => by rw [after_cons]; have := length_after ts (t.on l); have := length_on t l; simp; omega
theorem find_after_other : ∀ (ts : List Th) (l : FL) {k : Bs}, (∀ t ∈ ts, k ≠ t.name) → find (after l ts) k = find l k
  | [], _, _, _ => rfl
  | t :: ts, l, k, h => by rw [after_cons, find_after_other ts _ (fun u hu => h u (by simp [hu])), find_on_other t l (h t (by simp))]
/-- All of them could be done, one behind the other, and at no time the files had more than room bytes. -/
def Fine (room : Nat) : FL → List Th → Prop
  | l, [] => total l ≤ room
  | l, t :: ts => total l ≤ room ∧ t.can l ∧ Fine room (t.on l) ts
theorem Fine.head {room : Nat} {l : FL} {ts : List Th} (h : Fine room l ts) : total l ≤ room := by
  cases ts with
  | nil => exact h
  | cons t ts => exact h.1
theorem Fine.snoc {room : Nat} : ∀ {ts : List Th} {l : FL} {t : Th}, Fine room l ts → t.can (after l ts) → total (t.on (after l ts)) ≤ room → Fine room l (ts ++ [t])
  | [], _, _, h, h1, h2 => ⟨h, h1, h2⟩
  | _ :: _, _, _, h, h1, h2 => ⟨h.1, h.2.1, Fine.snoc h.2.2 h1 h2⟩
theorem Fine.at_ {room : Nat} : ∀ {ts : List Th} {l : FL} (pre : List Th) {rest : List Th}, Fine room l ts → ts = pre ++ rest → Fine room (after l pre) rest
  | ts, l, [], rest, h, e => by simp at e; subst e; exact h
  | ts, l, t :: pre, rest, h, e => by
    subst e
    rw [after_cons]
    exact Fine.at_ pre h.2.2 rfl
theorem Fine.last {room : Nat} {l : FL} {ts : List Th} (h : Fine room l ts) : total (after l ts) ≤ room := (Fine.at_ ts (rest := []) h (by simp)).head
/-- A pick among 0 to n. -/
def pick (k : Int) (n : Nat) : Nat := (k % ((n : Int) + 1)).toNat
theorem pick_le (k : Int) (n : Nat) : pick k n ≤ n := by
  unfold pick
  have h1 := Int.emod_nonneg k (show (n : Int) + 1 ≠ 0 by omega)
  have h2 := Int.emod_lt_of_pos k (show (0 : Int) < (n : Int) + 1 by omega)
  omega
theorem pick_cast (k : Int) (n : Nat) : (pick k n : Int) = k % ((n : Int) + 1) := by
  unfold pick
  have h1 := Int.emod_nonneg k (show (n : Int) + 1 ≠ 0 by omega)
  omega
/-- How a disk stands: its room, what lasts, what waits. -/
structure St where
  room : Nat
  lasts : FL
  waits : List Th
def St.files (s : St) : FL := after s.lasts s.waits
def St.ok (s : St) : Prop := 1 ≤ s.room ∧ s.room ≤ 16777216 ∧ Rises s.lasts ∧ Fine s.room s.lasts s.waits
def St.size (s : St) : Nat := s.lasts.length + s.waits.length
/-- What a crash leaves of the next thing. -/
def torn (l : FL) (t : Th) (p : Int) : FL := if 0 < pick p t.bytes.length then putF t.name (t.bytes.take (pick p t.bytes.length)) l else l
def left (s : St) (keep tornP : Int) : FL :=
  let k := pick keep s.waits.length
  match s.waits[k]? with
  | none => after s.lasts (s.waits.take k)
  | some t => torn (after s.lasts (s.waits.take k)) t tornP
def St.crash (s : St) (keep tornP : Int) : St := ⟨s.room, left s keep tornP, []⟩
def St.flush (s : St) : St := ⟨s.room, s.files, []⟩
def St.done (s : St) (t : Th) : St := ⟨s.room, s.lasts, s.waits ++ [t]⟩
theorem St.files_done (s : St) (t : Th) : (s.done t).files = t.on s.files := after_snoc _ _ _
theorem St.ok.rises {s : St} (h : s.ok) : Rises s.files := rises_after _ h.2.2.1
theorem St.ok.total_le {s : St} (h : s.ok) : total s.files ≤ s.room := h.2.2.2.last
theorem St.ok.flush {s : St} (h : s.ok) : s.flush.ok := ⟨h.1, h.2.1, h.rises, h.total_le⟩
theorem St.ok.done {s : St} (h : s.ok) {t : Th} (h1 : t.can s.files) (h2 : total (t.on s.files) ≤ s.room) : (s.done t).ok := ⟨h.1, h.2.1, h.2.2.1, h.2.2.2.snoc h1 h2⟩
theorem St.files_len (s : St) : s.files.length ≤ s.size := length_after _ _
theorem St.size_done (s : St) (t : Th) : (s.done t).size = s.size + 1 := by simp [St.size, St.done]; omega
theorem St.size_flush (s : St) : s.flush.size ≤ s.size := by have := s.files_len; simpa [St.size, St.flush] using this
theorem torn_rises {l : FL} (h : Rises l) (t : Th) (p : Int) : Rises (torn l t p) := by
  unfold torn
  split
  · exact rises_put _ _ _ h
  · exact h
theorem left_rises {s : St} (h : s.ok) (k p : Int) : Rises (left s k p) := by
  unfold left
  simp only
  split
  · exact rises_after _ h.2.2.1
  · exact torn_rises (rises_after _ h.2.2.1) _ _
theorem torn_total {room : Nat} {l : FL} {t : Th} {ts : List Th} (h : Fine room l (t :: ts)) (p : Int) : total (torn l t p) ≤ room := by
  unfold torn
  by_cases h0 : 0 < pick p t.bytes.length
  · rw [if_pos h0]
    cases t with
    | put n b =>
      have h2 := h.2.2.head
      have e : total (Th.on (.put n b) l) = total l + b.length := total_put l n b
      rw [total_put]
      show total l + (b.take _).length ≤ room
      rw [List.length_take]
      omega
    | cut n k => have := pick_le p (Th.bytes (.cut n k)).length; simp [Th.bytes] at this h0; omega
    | rem n => have := pick_le p (Th.bytes (.rem n)).length; simp [Th.bytes] at this h0; omega
  · rw [if_neg h0]; exact h.1
theorem left_total {s : St} (h : s.ok) (k p : Int) : total (left s k p) ≤ s.room := by
  unfold left
  simp only
  split
  · exact (h.2.2.2.at_ (s.waits.take (pick k s.waits.length)) (rest := s.waits.drop (pick k s.waits.length)) (List.take_append_drop _ _).symm).head
  · rename_i t ht
    have hlt := (List.getElem?_eq_some_iff.1 ht).1
    have hd : s.waits.drop (pick k s.waits.length) = t :: s.waits.drop (pick k s.waits.length + 1) := by
      rw [List.drop_eq_getElem_cons hlt]; rw [List.getElem?_eq_getElem hlt] at ht; injection ht with ht; rw [ht]
    exact torn_total (ts := s.waits.drop (pick k s.waits.length + 1)) (by rw [← hd]; exact h.2.2.2.at_ (s.waits.take (pick k s.waits.length)) (List.take_append_drop _ _).symm) p
theorem St.ok.crash {s : St} (h : s.ok) (k p : Int) : (s.crash k p).ok := ⟨h.1, h.2.1, left_rises h k p, left_total h k p⟩
theorem left_len (s : St) (k p : Int) : (left s k p).length ≤ s.size := by
  unfold left
  simp only
  have h1 := length_after (s.waits.take (pick k s.waits.length)) s.lasts
  have h0 := pick_le k s.waits.length
  rw [List.length_take] at h1
  split
  · unfold St.size; omega
  · rename_i t ht
    have hlt := (List.getElem?_eq_some_iff.1 ht).1
    unfold torn St.size
    split
    · have := length_put (after s.lasts (s.waits.take (pick k s.waits.length))) t.name (t.bytes.take (pick p t.bytes.length)); omega
    · omega
end Go.Proofs.Ythhiiimmgghhaaa
