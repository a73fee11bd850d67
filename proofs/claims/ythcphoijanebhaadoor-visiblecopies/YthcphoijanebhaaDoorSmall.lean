/-
  Whether a table is there, what is told if something is so, whether another transaction is open, the epoch of a log. Nothing is assumed.
-/
import Derived.Test.YthcphoijanebhaaDoorTab
import Derived.Test.YthcphoijanebhaaDoorMay
namespace Go.Proofs.YthcphoijanebhaaDoor
open Go.RowKit Go.Maps
theorem there_yes {w : World} {g : Nat} (h : w.cell? ⟨g, 21, none⟩ = some (.bool true)) : Calls Tryd.prog 68 #[.pointer (some ⟨g, 0, none⟩)] w fun e w' => e = .returned (.bool true) ∧ w = w' := by
  go_enter Tryd.func68, Tryd.ntmps68
  go_wp2_with fail
  go_ret
  exact ⟨rfl, rfl⟩
theorem there_no (w : World) : Calls Tryd.prog 68 #[.pointer none] w fun e w' => e = .returned (.bool false) ∧ w = w' := by
  go_enter Tryd.func68, Tryd.ntmps68
  go_wp2_with fail
  go_ret
  exact ⟨rfl, rfl⟩
theorem when_any (b : Bool) (n : Int) (w : World) : Calls Tryd.prog 91 #[.bool b, .int .i64 n] w fun e w' => e = .returned (.int .i64 (if b = true then n else 0)) ∧ w = w' := by
  cases b
  · go_enter Tryd.func91, Tryd.ntmps91
    go_wp2_with fail
    go_ret
    exact ⟨rfl, rfl⟩
  · go_enter Tryd.func91, Tryd.ntmps91
    go_wp2_with fail
    go_ret
    exact ⟨rfl, rfl⟩
/-- Another transaction is open. -/
def other (l : List (Int × Nat)) (k : Int) : Bool := l.any fun p => decide (p.1 ≠ k)
theorem other_count {l : List (Int × Nat)} (h : l.Pairwise (fun a b => a.1 ≠ b.1)) (k : Int) : other l k = decide (0 < (l.length : Int) - (if k ∈ keys l then 1 else 0)) := by
  unfold other
  induction l with
  | nil => simp [keys]
  | cons p l ih =>
    rw [List.pairwise_cons] at h
    have ih := ih h.2
    rw [List.any_cons]
    by_cases e : p.1 = k
    · have hk : k ∈ keys (p :: l) := by simp [keys, e]
      have hn : k ∉ keys l := by
        intro q
        obtain ⟨z, hz, hz2⟩ := List.mem_map.1 q
        exact h.1 z hz (e.trans hz2.symm)
      rw [if_neg hn] at ih
      rw [if_pos hk, ih]
      simp [e]
    · have hd : decide (p.1 ≠ k) = true := by simpa using e
      rw [hd, Bool.true_or]
      symm
      rw [decide_eq_true_iff]
      by_cases hk : k ∈ keys (p :: l)
      · rw [if_pos hk]
        have : k ∈ keys l := by
          simp only [keys, List.map_cons, List.mem_cons] at hk
          rcases hk with q | q
          · exact absurd q.symm e
          · exact q
        have : 0 < l.length := by
          rcases l with _ | ⟨a, l⟩
          · cases this
          · simp
        simp; omega
      · rw [if_neg hk]; simp
set_option maxRecDepth 100000 in
set_option maxHeartbeats 1000000 in
theorem otherOpen_any {w : World} {g o m : Nat} {l : List (Int × Nat)} (hc : w.cell? ⟨g, o + 3, none⟩ = some (.map (some m))) (hm : OM w m l) {k : Int} (hk : In64 k) :
    Calls Tryd.prog 94 #[.pointer (some ⟨g, o, none⟩), .int .i64 k] w fun e w' => e = .returned (.bool (other l k)) ∧ w = w' := by
  have h1 := hm.len_
  have h2 := hm.look_ok hk
  have hl := hm.2.2.1
  have HO := Lib.hid (other_count hm.2.1 k)
  clear hm
  generalize (((find l k).getD 0 : Nat) : Int) = fi at h2
  by_cases e : k ∈ keys l
  · rw [decide_eq_true e] at h2
    have HO' : Hid (other l k = decide (0 < (l.length : Int) - 1)) := Lib.hid (by rw [HO.out, if_pos e])
    clear HO e
    go_enter Tryd.func94, Tryd.ntmps94
    go_wp2_with fail
    go_ret
    exact ⟨ret_bool (by rw [HO'.out]; exact decide_eq_decide.2 (by omega)), rfl⟩
  · rw [decide_eq_false e] at h2
    have HO' : Hid (other l k = decide (0 < (l.length : Int))) := Lib.hid (by rw [HO.out, if_neg e]; simp)
    clear HO e
    go_enter Tryd.func94, Tryd.ntmps94
    go_wp2_with fail
    go_ret
    exact ⟨ret_bool (by rw [HO'.out]; exact decide_eq_decide.2 (by omega)), rfl⟩
end Go.Proofs.YthcphoijanebhaaDoor
