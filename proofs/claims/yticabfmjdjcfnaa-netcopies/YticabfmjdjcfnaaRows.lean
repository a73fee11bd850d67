/-
  No cell of these rows narrows 'for every input' (looked for: loops, veiled, ifaces, maps, wideKeys, modest, calm, conditions, laid).
  DERIVED. THE GIVEN ROWS OF THIS SEAT. 6 by the template 'for every input the law returns true; each argument reads behind the call as it read before'; 0 by the template 'total and deterministic' (their statements: YticabfmjdjcfnaaTotals.lean).
  GIVEN WITH THE SEED: the statements are not yours to turn. If you find one false, say at which input.
  Laid BY PROGRAM, IN A SANDBOX (cutbox-rows.mjs): the forced cells as the released guide's own fill.sh prints them over the translation b572d8c41cc7102b… (all of the seat's roots in one cut). By AI agents, Wed Nov 11 2026. No macro, syntax, notation, axiom, sorry.
-/
import Derived.Test.YticabfmjdjcfnaaChecked
import GoSem.Claim
import GoSem.ClaimJoined
import GoSem.ClaimMapViews
import Derived.JoinedTies
import Derived.KernelRfl
namespace Go.Proofs.Yticabfmjdjcfnaa
/- THE CELL 'sum', in the pinned program and in every row, IS THE sha256 OF THE DUMP (.gsa) THAT YticabfmjdjcfnaaProg.lean LOADS. Nothing in Lean hashes anything: it is a label: what it is worth is what the hold of that sum in a sandbox is worth. -/
noncomputable def Try.pinned : Pinned := { name := "yticabfmjdjcfnaa", sum := "b572d8c41cc7102bc0ca2421ac97cbf013f7155ff5bdcda4a62f3e7ea88ec460", checked := Try.checked }
namespace Rows
def none {H : Type} : Left H := { results := [], args := [] }

/-- 'waystationlaw05.NetPlays': WHATEVER THE INPUT: true; the input reads as it did. -/
def netPlaysSpec : ChangeSpec := { name := "netPlays", fn := fun _ => fun
  | [d1, d2] => { results := [.lit (.bool true)], args := [d1, d2] }
  | _ => none }
def netPlaysRow : OpenClaim := { program := "yticabfmjdjcfnaa", sum := "b572d8c41cc7102bc0ca2421ac97cbf013f7155ff5bdcda4a62f3e7ea88ec460", func := "waystation/waystationlaw05.NetPlays", spec := "netPlays", inPlace := ["maps.clone"], unfollowed := true, recurses := true, apart := false }
def NetPlaysSaid : Prop := netPlaysRow.holds Try.pinned (OpenSpec.ofChange netPlaysSpec)

/-- ITS FALSE NEIGHBOUR: 'it returns false'. Refute it at one input. -/
def netPlaysWrong : ChangeSpec := { name := "netPlays", fn := fun _ => fun
  | [d1, d2] => { results := [.lit (.bool false)], args := [d1, d2] }
  | _ => none }
def NetPlaysWrongFalsely : Prop := netPlaysRow.holds Try.pinned (OpenSpec.ofChange netPlaysWrong)

/-- 'waystationlaw05.NetPicks': WHATEVER THE INPUT: true; the input reads as it did. -/
def netPicksSpec : ChangeSpec := { name := "netPicks", fn := fun _ => fun
  | [d1, d2] => { results := [.lit (.bool true)], args := [d1, d2] }
  | _ => none }
def netPicksRow : OpenClaim := { program := "yticabfmjdjcfnaa", sum := "b572d8c41cc7102bc0ca2421ac97cbf013f7155ff5bdcda4a62f3e7ea88ec460", func := "waystation/waystationlaw05.NetPicks", spec := "netPicks", inPlace := ["maps.clone"], unfollowed := true, recurses := true, apart := false }
def NetPicksSaid : Prop := netPicksRow.holds Try.pinned (OpenSpec.ofChange netPicksSpec)

/-- ITS FALSE NEIGHBOUR: 'it returns false'. Refute it at one input. -/
def netPicksWrong : ChangeSpec := { name := "netPicks", fn := fun _ => fun
  | [d1, d2] => { results := [.lit (.bool false)], args := [d1, d2] }
  | _ => none }
def NetPicksWrongFalsely : Prop := netPicksRow.holds Try.pinned (OpenSpec.ofChange netPicksWrong)

/-- 'waystationlaw05.NetCopies': WHATEVER THE INPUT: true; the input reads as it did. -/
def netCopiesSpec : ChangeSpec := { name := "netCopies", fn := fun _ => fun
  | [d1, d2, d3] => { results := [.lit (.bool true)], args := [d1, d2, d3] }
  | _ => none }
def netCopiesRow : OpenClaim := { program := "yticabfmjdjcfnaa", sum := "b572d8c41cc7102bc0ca2421ac97cbf013f7155ff5bdcda4a62f3e7ea88ec460", func := "waystation/waystationlaw05.NetCopies", spec := "netCopies", inPlace := ["maps.clone"], unfollowed := true, recurses := true, apart := false }
def NetCopiesSaid : Prop := netCopiesRow.holds Try.pinned (OpenSpec.ofChange netCopiesSpec)

/-- ITS FALSE NEIGHBOUR: 'it returns false'. Refute it at one input. -/
def netCopiesWrong : ChangeSpec := { name := "netCopies", fn := fun _ => fun
  | [d1, d2, d3] => { results := [.lit (.bool false)], args := [d1, d2, d3] }
  | _ => none }
def NetCopiesWrongFalsely : Prop := netCopiesRow.holds Try.pinned (OpenSpec.ofChange netCopiesWrong)

/-- 'waystationlaw05.NetPuts': WHATEVER THE INPUT: true; the input reads as it did. -/
def netPutsSpec : ChangeSpec := { name := "netPuts", fn := fun _ => fun
  | [d1, d2] => { results := [.lit (.bool true)], args := [d1, d2] }
  | _ => none }
def netPutsRow : OpenClaim := { program := "yticabfmjdjcfnaa", sum := "b572d8c41cc7102bc0ca2421ac97cbf013f7155ff5bdcda4a62f3e7ea88ec460", func := "waystation/waystationlaw05.NetPuts", spec := "netPuts", inPlace := ["maps.clone"], unfollowed := true, recurses := true, apart := false }
def NetPutsSaid : Prop := netPutsRow.holds Try.pinned (OpenSpec.ofChange netPutsSpec)

/-- ITS FALSE NEIGHBOUR: 'it returns false'. Refute it at one input. -/
def netPutsWrong : ChangeSpec := { name := "netPuts", fn := fun _ => fun
  | [d1, d2] => { results := [.lit (.bool false)], args := [d1, d2] }
  | _ => none }
def NetPutsWrongFalsely : Prop := netPutsRow.holds Try.pinned (OpenSpec.ofChange netPutsWrong)

/-- 'waystationlaw05.NetBounds': WHATEVER THE INPUT: true; the input reads as it did. -/
def netBoundsSpec : ChangeSpec := { name := "netBounds", fn := fun _ => fun
  | [] => { results := [.lit (.bool true)], args := [] }
  | _ => none }
def netBoundsRow : OpenClaim := { program := "yticabfmjdjcfnaa", sum := "b572d8c41cc7102bc0ca2421ac97cbf013f7155ff5bdcda4a62f3e7ea88ec460", func := "waystation/waystationlaw05.NetBounds", spec := "netBounds", unfollowed := true, recurses := true, apart := false }
def NetBoundsSaid : Prop := netBoundsRow.holds Try.pinned (OpenSpec.ofChange netBoundsSpec)

/-- ITS FALSE NEIGHBOUR: 'it returns false'. Refute it at one input. -/
def netBoundsWrong : ChangeSpec := { name := "netBounds", fn := fun _ => fun
  | [] => { results := [.lit (.bool false)], args := [] }
  | _ => none }
def NetBoundsWrongFalsely : Prop := netBoundsRow.holds Try.pinned (OpenSpec.ofChange netBoundsWrong)

/-- 'waystationlaw05.NetOnce': WHATEVER THE INPUT: true; the input reads as it did. -/
def netOnceSpec : ChangeSpec := { name := "netOnce", fn := fun _ => fun
  | [d1, d2] => { results := [.lit (.bool true)], args := [d1, d2] }
  | _ => none }
def netOnceRow : OpenClaim := { program := "yticabfmjdjcfnaa", sum := "b572d8c41cc7102bc0ca2421ac97cbf013f7155ff5bdcda4a62f3e7ea88ec460", func := "waystation/waystationlaw05.NetOnce", spec := "netOnce", unfollowed := true, recurses := true, apart := false }
def NetOnceSaid : Prop := netOnceRow.holds Try.pinned (OpenSpec.ofChange netOnceSpec)

/-- ITS FALSE NEIGHBOUR: 'it returns false'. Refute it at one input. -/
def netOnceWrong : ChangeSpec := { name := "netOnce", fn := fun _ => fun
  | [d1, d2] => { results := [.lit (.bool false)], args := [d1, d2] }
  | _ => none }
def NetOnceWrongFalsely : Prop := netOnceRow.holds Try.pinned (OpenSpec.ofChange netOnceWrong)

/- THE SECOND FORM. 'bulk': how many values and letters a reading holds, each counted each time it is reached (what is shared counts as often as it is met; a slice's spare places count too). A statement '..UptoSaid' is the law's where the arguments, and the package variables that the reading takes, are together of bulk at most 1048576: NARROWER than '..Said'. Prove '..Said' where nothing that the law and all that it calls make is longer than what came in: it says more and counts as full. Else prove '..UptoSaid'. A law counts once. -/
mutual
def uptoBulk {H : Type} : DataW H → Nat
  | .lit (.string bytes) => bytes.length + 1
  | .lit _ => 1
  | .nil => 1
  | .ptr d => uptoBulk d + 1
  | .slice elems spare => uptoBulkAll elems + uptoBulkAll spare + 1
  | .agg parts => uptoBulkAll parts + 1
  | .iface _ d => uptoBulk d + 1
  | .map entries => uptoBulkEntries entries + 1
  | .held _ => 1
def uptoBulkAll {H : Type} : List (DataW H) → Nat
  | [] => 0
  | d :: r => uptoBulk d + uptoBulkAll r
def uptoBulkEntries {H : Type} : List (Lit × DataW H) → Nat
  | [] => 0
  | x :: r => uptoBulkEntry x + uptoBulkEntries r
def uptoBulkEntry {H : Type} : Lit × DataW H → Nat
  | (.string bytes, d) => bytes.length + uptoBulk d + 1
  | (_, d) => uptoBulk d + 1
 end
def uptoSmall : (H : Type) → List (DataW H) → Bool := fun _ ds => decide (uptoBulkAll ds ≤ 1048576)
def OpenSpec.upto (s : _root_.Go.ChangeSpec) : _root_.Go.OpenSpec := { _root_.Go.OpenSpec.ofChange s with cond := some uptoSmall }

/-- 'waystationlaw05.NetPlays', WHERE WHAT IT READS IS OF BULK AT MOST 1048576: true; the input reads as it did. -/
def netPlaysUptoRow : OpenClaim := { program := "yticabfmjdjcfnaa", sum := "b572d8c41cc7102bc0ca2421ac97cbf013f7155ff5bdcda4a62f3e7ea88ec460", func := "waystation/waystationlaw05.NetPlays", spec := "netPlays", inPlace := ["maps.clone"], unfollowed := true, recurses := true, apart := false, narrowed := true }
def NetPlaysUptoSaid : Prop := netPlaysUptoRow.holds Try.pinned (OpenSpec.upto netPlaysSpec)

/-- 'waystationlaw05.NetPicks', WHERE WHAT IT READS IS OF BULK AT MOST 1048576: true; the input reads as it did. -/
def netPicksUptoRow : OpenClaim := { program := "yticabfmjdjcfnaa", sum := "b572d8c41cc7102bc0ca2421ac97cbf013f7155ff5bdcda4a62f3e7ea88ec460", func := "waystation/waystationlaw05.NetPicks", spec := "netPicks", inPlace := ["maps.clone"], unfollowed := true, recurses := true, apart := false, narrowed := true }
def NetPicksUptoSaid : Prop := netPicksUptoRow.holds Try.pinned (OpenSpec.upto netPicksSpec)

/-- 'waystationlaw05.NetCopies', WHERE WHAT IT READS IS OF BULK AT MOST 1048576: true; the input reads as it did. -/
def netCopiesUptoRow : OpenClaim := { program := "yticabfmjdjcfnaa", sum := "b572d8c41cc7102bc0ca2421ac97cbf013f7155ff5bdcda4a62f3e7ea88ec460", func := "waystation/waystationlaw05.NetCopies", spec := "netCopies", inPlace := ["maps.clone"], unfollowed := true, recurses := true, apart := false, narrowed := true }
def NetCopiesUptoSaid : Prop := netCopiesUptoRow.holds Try.pinned (OpenSpec.upto netCopiesSpec)

/-- 'waystationlaw05.NetPuts', WHERE WHAT IT READS IS OF BULK AT MOST 1048576: true; the input reads as it did. -/
def netPutsUptoRow : OpenClaim := { program := "yticabfmjdjcfnaa", sum := "b572d8c41cc7102bc0ca2421ac97cbf013f7155ff5bdcda4a62f3e7ea88ec460", func := "waystation/waystationlaw05.NetPuts", spec := "netPuts", inPlace := ["maps.clone"], unfollowed := true, recurses := true, apart := false, narrowed := true }
def NetPutsUptoSaid : Prop := netPutsUptoRow.holds Try.pinned (OpenSpec.upto netPutsSpec)

/-- 'waystationlaw05.NetBounds', WHERE WHAT IT READS IS OF BULK AT MOST 1048576: true; the input reads as it did. -/
def netBoundsUptoRow : OpenClaim := { program := "yticabfmjdjcfnaa", sum := "b572d8c41cc7102bc0ca2421ac97cbf013f7155ff5bdcda4a62f3e7ea88ec460", func := "waystation/waystationlaw05.NetBounds", spec := "netBounds", unfollowed := true, recurses := true, apart := false, narrowed := true }
def NetBoundsUptoSaid : Prop := netBoundsUptoRow.holds Try.pinned (OpenSpec.upto netBoundsSpec)

/-- 'waystationlaw05.NetOnce', WHERE WHAT IT READS IS OF BULK AT MOST 1048576: true; the input reads as it did. -/
def netOnceUptoRow : OpenClaim := { program := "yticabfmjdjcfnaa", sum := "b572d8c41cc7102bc0ca2421ac97cbf013f7155ff5bdcda4a62f3e7ea88ec460", func := "waystation/waystationlaw05.NetOnce", spec := "netOnce", unfollowed := true, recurses := true, apart := false, narrowed := true }
def NetOnceUptoSaid : Prop := netOnceUptoRow.holds Try.pinned (OpenSpec.upto netOnceSpec)

end Rows
end Go.Proofs.Yticabfmjdjcfnaa
