/-
  Behind things: a crash of both; a slice of three things. Conditions: bounds.
-/
import Derived.Test.YthhiiimmgghhaaaPlayed
import Derived.Test.YthhiiimmgghhaaaRefCrash
namespace Go.Proofs.Ythhiiimmgghhaaa
open Go.RowKit
theorem RDk.ok.crash {d : RDk} (h : d.ok) (kp tn : Int) : (d.crash kp tn).ok := by
  refine ⟨h.1.crash kp tn, fun t ht => (by cases ht), ?_⟩
  have h1 := left_len d.st kp tn
  have h2 := h.2.2
  have e : (d.crash kp tn).st.size = (left d.st kp tn).length := by unfold RDk.crash RDk.st St.size; simp
  omega
theorem crash_size {d : RDk} (kp tn : Int) : (d.crash kp tn).st.size ≤ d.st.size := by
  have h1 := left_len d.st kp tn
  have e : (d.crash kp tn).st.size = (left d.st kp tn).length := by unfold RDk.crash RDk.st St.size; simp
  omega
theorem rd_new {k : Nat} (w : World) (css : List (Array Value)) (hs : Sized k css) (t : TypeId) : Rd (w.alloc (.cells (flatA css).toArray t)) No k (some ⟨w.heap.size, 0, none⟩) css.length css := by
  refine ⟨rfl, hs, fun _ => ⟨_, rfl, by simp, fun h => h, fun j u hu => ?_⟩⟩
  have hadd : (⟨w.heap.size, 0, none⟩ : Addr).add j = ⟨w.heap.size, j, none⟩ := by unfold Addr.add; split <;> simp_all
  rw [hadd, (Blk.new w t _).cell j]
  simpa using hu
theorem rts_three {w : World} {a0 a1 : Option Addr} {n0 c0 n1 c1 : Nat} {l0 l1 : Bs} (h0 : Bys w No a0 n0 l0) (h1 : Bys w No a1 n1 l1) (k0 : n0 ≤ c0) (m0 : c0 ≤ maxLen) (k1 : n1 ≤ c1) (m1 : c1 ≤ maxLen) :
    RTs (w.alloc (.cells #[.int .i64 0, .string ⟨#[97]⟩, .slice a0 n0 c0, .int .i64 0, .int .i64 3, .string ⟨#[]⟩, .slice none 0 0, .int .i64 0, .int .i64 0, .string ⟨#[97]⟩, .slice a1 n1 c1, .int .i64 0] 65)) No (some ⟨w.heap.size, 0, none⟩) 3 [⟨0, [97], l0, 0⟩, ⟨3, [], [], 0⟩, ⟨0, [97], l1, 0⟩] := by
  have hs : Sized 4 [#[.int .i64 0, .string ⟨#[97]⟩, .slice a0 n0 c0, .int .i64 0], #[.int .i64 3, .string ⟨#[]⟩, .slice none 0 0, .int .i64 0], #[.int .i64 0, .string ⟨#[97]⟩, .slice a1 n1 c1, .int .i64 0]] := by
    intro c hc
    simp at hc
    rcases hc with rfl | rfl | rfl <;> exact ⟨rfl, fun u hu => by simp at hu; rcases hu with rfl | rfl | rfl | rfl <;> rfl⟩
  refine ⟨_, rd_new w _ hs 65, rfl, fun i t cs e1 e2 => ?_⟩
  match i, e1, e2 with
  | 0, e1, e2 => simp at e1 e2; subst e1 e2; exact ⟨a0, n0, c0, rfl, h0.alloc _, k0, m0⟩
  | 1, e1, e2 => simp at e1 e2; subst e1 e2; exact ⟨none, 0, 0, rfl, Bys.none_, Nat.le_refl _, Nat.zero_le _⟩
  | 2, e1, e2 => simp at e1 e2; subst e1 e2; exact ⟨a1, n1, c1, rfl, h1.alloc _, k1, m1⟩
end Go.Proofs.Ythhiiimmgghhaaa
