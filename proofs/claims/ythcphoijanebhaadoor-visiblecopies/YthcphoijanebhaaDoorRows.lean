/-
  NARROWER THAN 'FOR EVERY INPUT', by the rows' own cells (each row's printed sentence says how): VisibleViews: laid · VisibleGoods: laid · VisibleReads: laid · VisibleCopies: laid · VisibleAll: laid · VisibleEnds: laid · VisibleGrows: laid.
  DERIVED. THE GIVEN ROWS OF THIS SEAT. 7 by the template 'for every input the law returns true; each argument reads behind the call as it read before'; 0 by the template 'total and deterministic' (their statements: YthcphoijanebhaaDoorTotals.lean).
  GIVEN WITH THE SEED: the statements are not yours to turn. If you find one false, say at which input.
  Laid BY PROGRAM, IN A SANDBOX (cutbox-rows.mjs): the forced cells as the released guide's own fill.sh prints them over the translation e62af70d948c888d… (all of the seat's roots in one cut). By AI agents, Wed Nov 11 2026. No macro, syntax, notation, axiom, sorry.
-/
import Derived.Test.YthcphoijanebhaaDoorChecked
import GoSem.Claim
import GoSem.ClaimJoined
import GoSem.ClaimMapViews
import Derived.JoinedTies
import Derived.KernelRfl
namespace Go.Proofs.YthcphoijanebhaaDoor
/- THE CELL 'sum', in the pinned program and in every row, IS THE sha256 OF THE DUMP (.gsa) THAT YthcphoijanebhaaDoorProg.lean LOADS. Nothing in Lean hashes anything: it is a label: what it is worth is what the hold of that sum in a sandbox is worth. -/
noncomputable def Tryd.pinned : Pinned := { name := "ythcphoijanebhaadoor", sum := "e62af70d948c888d6ec7536b05b1fc2fb297e463bc3e058a1f882705acba8b4b", checked := Tryd.checked }
namespace Rows
def none {H : Type} : Left H := { results := [], args := [] }

/- WHAT THE LISTED PACKAGE-LEVEL VARIABLES READ AS WHEN THE CALL BEGINS. Each datum BY PROGRAM (the guide's laid-datum.mjs) off the statement by which the dump's own 'gosem.cut.vars' lays the variable. In a bare row this is a premise. The card (YthcphoijanebhaaDoorCards.lean) ties it to the program's text. -/
def laid_waystation_visible_nobodys {H : Type} : DataW H := .agg [.lit (.int .i64 (-1)), .lit (.int .i64 0)]

/-- 'waystationlaw09.VisibleViews': WHATEVER THE INPUT: true; the input reads as it did. -/
def visibleViewsSpec : ChangeSpec := { name := "visibleViews", fn := fun _ => fun
  | [d1, d2] => { results := [.lit (.bool true)], args := [d1, d2] }
  | _ => none }
def visibleViewsRow : OpenClaim := { program := "ythcphoijanebhaadoor", sum := "e62af70d948c888d6ec7536b05b1fc2fb297e463bc3e058a1f882705acba8b4b", func := "waystation/waystationlaw09.VisibleViews", spec := "visibleViews", unfollowed := true, recurses := true, named := ["waystation/visible.nobodys"], plainKeys := false, apart := false, laid := [("waystation/visible.nobodys", laid_waystation_visible_nobodys)] }
def VisibleViewsSaid : Prop := visibleViewsRow.holds Tryd.pinned (OpenSpec.ofChange visibleViewsSpec)

/-- ITS FALSE NEIGHBOUR: 'it returns false'. Refute it at one input. -/
def visibleViewsWrong : ChangeSpec := { name := "visibleViews", fn := fun _ => fun
  | [d1, d2] => { results := [.lit (.bool false)], args := [d1, d2] }
  | _ => none }
def VisibleViewsWrongFalsely : Prop := visibleViewsRow.holds Tryd.pinned (OpenSpec.ofChange visibleViewsWrong)

/-- 'waystationlaw09.VisibleGoods': WHATEVER THE INPUT: true; the input reads as it did. -/
def visibleGoodsSpec : ChangeSpec := { name := "visibleGoods", fn := fun _ => fun
  | [d] => { results := [.lit (.bool true)], args := [d] }
  | _ => none }
def visibleGoodsRow : OpenClaim := { program := "ythcphoijanebhaadoor", sum := "e62af70d948c888d6ec7536b05b1fc2fb297e463bc3e058a1f882705acba8b4b", func := "waystation/waystationlaw09.VisibleGoods", spec := "visibleGoods", unfollowed := true, recurses := true, named := ["waystation/visible.nobodys"], plainKeys := false, apart := false, laid := [("waystation/visible.nobodys", laid_waystation_visible_nobodys)] }
def VisibleGoodsSaid : Prop := visibleGoodsRow.holds Tryd.pinned (OpenSpec.ofChange visibleGoodsSpec)

/-- ITS FALSE NEIGHBOUR: 'it returns false'. Refute it at one input. -/
def visibleGoodsWrong : ChangeSpec := { name := "visibleGoods", fn := fun _ => fun
  | [d] => { results := [.lit (.bool false)], args := [d] }
  | _ => none }
def VisibleGoodsWrongFalsely : Prop := visibleGoodsRow.holds Tryd.pinned (OpenSpec.ofChange visibleGoodsWrong)

/-- 'waystationlaw09.VisibleReads': WHATEVER THE INPUT: true; the input reads as it did. -/
def visibleReadsSpec : ChangeSpec := { name := "visibleReads", fn := fun _ => fun
  | [d1, d2] => { results := [.lit (.bool true)], args := [d1, d2] }
  | _ => none }
def visibleReadsRow : OpenClaim := { program := "ythcphoijanebhaadoor", sum := "e62af70d948c888d6ec7536b05b1fc2fb297e463bc3e058a1f882705acba8b4b", func := "waystation/waystationlaw09.VisibleReads", spec := "visibleReads", inPlace := ["maps.clone"], unfollowed := true, recurses := true, named := ["waystation/visible.nobodys"], plainKeys := false, apart := false, laid := [("waystation/visible.nobodys", laid_waystation_visible_nobodys)] }
def VisibleReadsSaid : Prop := visibleReadsRow.holds Tryd.pinned (OpenSpec.ofChange visibleReadsSpec)

/-- ITS FALSE NEIGHBOUR: 'it returns false'. Refute it at one input. -/
def visibleReadsWrong : ChangeSpec := { name := "visibleReads", fn := fun _ => fun
  | [d1, d2] => { results := [.lit (.bool false)], args := [d1, d2] }
  | _ => none }
def VisibleReadsWrongFalsely : Prop := visibleReadsRow.holds Tryd.pinned (OpenSpec.ofChange visibleReadsWrong)

/-- 'waystationlaw09.VisibleCopies': WHATEVER THE INPUT: true; the input reads as it did. -/
def visibleCopiesSpec : ChangeSpec := { name := "visibleCopies", fn := fun _ => fun
  | [d1, d2, d3, d4] => { results := [.lit (.bool true)], args := [d1, d2, d3, d4] }
  | _ => none }
def visibleCopiesRow : OpenClaim := { program := "ythcphoijanebhaadoor", sum := "e62af70d948c888d6ec7536b05b1fc2fb297e463bc3e058a1f882705acba8b4b", func := "waystation/waystationlaw09.VisibleCopies", spec := "visibleCopies", inPlace := ["maps.clone"], unfollowed := true, recurses := true, named := ["waystation/visible.nobodys"], plainKeys := false, apart := false, laid := [("waystation/visible.nobodys", laid_waystation_visible_nobodys)] }
def VisibleCopiesSaid : Prop := visibleCopiesRow.holds Tryd.pinned (OpenSpec.ofChange visibleCopiesSpec)

/-- ITS FALSE NEIGHBOUR: 'it returns false'. Refute it at one input. -/
def visibleCopiesWrong : ChangeSpec := { name := "visibleCopies", fn := fun _ => fun
  | [d1, d2, d3, d4] => { results := [.lit (.bool false)], args := [d1, d2, d3, d4] }
  | _ => none }
def VisibleCopiesWrongFalsely : Prop := visibleCopiesRow.holds Tryd.pinned (OpenSpec.ofChange visibleCopiesWrong)

/-- 'waystationlaw09.VisibleAll': WHATEVER THE INPUT: true; the input reads as it did. -/
def visibleAllSpec : ChangeSpec := { name := "visibleAll", fn := fun _ => fun
  | [d] => { results := [.lit (.bool true)], args := [d] }
  | _ => none }
def visibleAllRow : OpenClaim := { program := "ythcphoijanebhaadoor", sum := "e62af70d948c888d6ec7536b05b1fc2fb297e463bc3e058a1f882705acba8b4b", func := "waystation/waystationlaw09.VisibleAll", spec := "visibleAll", unfollowed := true, recurses := true, named := ["waystation/visible.nobodys"], plainKeys := false, apart := false, laid := [("waystation/visible.nobodys", laid_waystation_visible_nobodys)] }
def VisibleAllSaid : Prop := visibleAllRow.holds Tryd.pinned (OpenSpec.ofChange visibleAllSpec)

/-- ITS FALSE NEIGHBOUR: 'it returns false'. Refute it at one input. -/
def visibleAllWrong : ChangeSpec := { name := "visibleAll", fn := fun _ => fun
  | [d] => { results := [.lit (.bool false)], args := [d] }
  | _ => none }
def VisibleAllWrongFalsely : Prop := visibleAllRow.holds Tryd.pinned (OpenSpec.ofChange visibleAllWrong)

/-- 'waystationlaw09.VisibleEnds': WHATEVER THE INPUT: true; the input reads as it did. -/
def visibleEndsSpec : ChangeSpec := { name := "visibleEnds", fn := fun _ => fun
  | [d1, d2] => { results := [.lit (.bool true)], args := [d1, d2] }
  | _ => none }
def visibleEndsRow : OpenClaim := { program := "ythcphoijanebhaadoor", sum := "e62af70d948c888d6ec7536b05b1fc2fb297e463bc3e058a1f882705acba8b4b", func := "waystation/waystationlaw09.VisibleEnds", spec := "visibleEnds", unfollowed := true, recurses := true, named := ["waystation/visible.nobodys"], plainKeys := false, apart := false, laid := [("waystation/visible.nobodys", laid_waystation_visible_nobodys)] }
def VisibleEndsSaid : Prop := visibleEndsRow.holds Tryd.pinned (OpenSpec.ofChange visibleEndsSpec)

/-- ITS FALSE NEIGHBOUR: 'it returns false'. Refute it at one input. -/
def visibleEndsWrong : ChangeSpec := { name := "visibleEnds", fn := fun _ => fun
  | [d1, d2] => { results := [.lit (.bool false)], args := [d1, d2] }
  | _ => none }
def VisibleEndsWrongFalsely : Prop := visibleEndsRow.holds Tryd.pinned (OpenSpec.ofChange visibleEndsWrong)

/-- 'waystationlaw09.VisibleGrows': WHATEVER THE INPUT: true; the input reads as it did. -/
def visibleGrowsSpec : ChangeSpec := { name := "visibleGrows", fn := fun _ => fun
  | [d1, d2] => { results := [.lit (.bool true)], args := [d1, d2] }
  | _ => none }
def visibleGrowsRow : OpenClaim := { program := "ythcphoijanebhaadoor", sum := "e62af70d948c888d6ec7536b05b1fc2fb297e463bc3e058a1f882705acba8b4b", func := "waystation/waystationlaw09.VisibleGrows", spec := "visibleGrows", unfollowed := true, recurses := true, named := ["waystation/visible.nobodys"], plainKeys := false, apart := false, laid := [("waystation/visible.nobodys", laid_waystation_visible_nobodys)] }
def VisibleGrowsSaid : Prop := visibleGrowsRow.holds Tryd.pinned (OpenSpec.ofChange visibleGrowsSpec)

/-- ITS FALSE NEIGHBOUR: 'it returns false'. Refute it at one input. -/
def visibleGrowsWrong : ChangeSpec := { name := "visibleGrows", fn := fun _ => fun
  | [d1, d2] => { results := [.lit (.bool false)], args := [d1, d2] }
  | _ => none }
def VisibleGrowsWrongFalsely : Prop := visibleGrowsRow.holds Tryd.pinned (OpenSpec.ofChange visibleGrowsWrong)

/- THE SECOND FORM. 'bulk': how many values and letters a reading holds, each counted each time it is reached (what is shared counts as often as it is met; a slice's spare places count too). A statement '..UptoSaid' is the law's where the arguments, and the package variables that the reading takes, are together of bulk at most 1048576: NARROWER than '..Said'. Prove '..Said' where nothing that the law and all that it calls make is longer than what came in: it says more and counts as full. Else prove '..UptoSaid'. A law counts once. -/
mutual
def uptoBulk {H : Type} : DataW H → Nat
  | .lit (.string bytes) => bytes.length + 1
  | .lit _ => 1
  | .nil => 1
  | .ptr d => uptoBulk d + 1
  | .slice elems spare => uptoBulkAll elems + uptoBulkAll spare + 1
  | .agg parts => uptoBulkAll parts + 1
  | .iface _ d => uptoBulk d + 1
  | .map entries => uptoBulkEntries entries + 1
  | .held _ => 1
def uptoBulkAll {H : Type} : List (DataW H) → Nat
  | [] => 0
  | d :: r => uptoBulk d + uptoBulkAll r
def uptoBulkEntries {H : Type} : List (Lit × DataW H) → Nat
  | [] => 0
  | x :: r => uptoBulkEntry x + uptoBulkEntries r
def uptoBulkEntry {H : Type} : Lit × DataW H → Nat
  | (.string bytes, d) => bytes.length + uptoBulk d + 1
  | (_, d) => uptoBulk d + 1
 end
def uptoSmall : (H : Type) → List (DataW H) → Bool := fun _ ds => decide (uptoBulkAll ds ≤ 1048576)
def OpenSpec.upto (s : _root_.Go.ChangeSpec) : _root_.Go.OpenSpec := { _root_.Go.OpenSpec.ofChange s with cond := some uptoSmall }

/-- 'waystationlaw09.VisibleViews', WHERE WHAT IT READS IS OF BULK AT MOST 1048576: true; the input reads as it did. -/
def visibleViewsUptoRow : OpenClaim := { program := "ythcphoijanebhaadoor", sum := "e62af70d948c888d6ec7536b05b1fc2fb297e463bc3e058a1f882705acba8b4b", func := "waystation/waystationlaw09.VisibleViews", spec := "visibleViews", unfollowed := true, recurses := true, named := ["waystation/visible.nobodys"], plainKeys := false, apart := false, laid := [("waystation/visible.nobodys", laid_waystation_visible_nobodys)], narrowed := true }
def VisibleViewsUptoSaid : Prop := visibleViewsUptoRow.holds Tryd.pinned (OpenSpec.upto visibleViewsSpec)

/-- 'waystationlaw09.VisibleGoods', WHERE WHAT IT READS IS OF BULK AT MOST 1048576: true; the input reads as it did. -/
def visibleGoodsUptoRow : OpenClaim := { program := "ythcphoijanebhaadoor", sum := "e62af70d948c888d6ec7536b05b1fc2fb297e463bc3e058a1f882705acba8b4b", func := "waystation/waystationlaw09.VisibleGoods", spec := "visibleGoods", unfollowed := true, recurses := true, named := ["waystation/visible.nobodys"], plainKeys := false, apart := false, laid := [("waystation/visible.nobodys", laid_waystation_visible_nobodys)], narrowed := true }
def VisibleGoodsUptoSaid : Prop := visibleGoodsUptoRow.holds Tryd.pinned (OpenSpec.upto visibleGoodsSpec)

/-- 'waystationlaw09.VisibleReads', WHERE WHAT IT READS IS OF BULK AT MOST 1048576: true; the input reads as it did. -/
def visibleReadsUptoRow : OpenClaim := { program := "ythcphoijanebhaadoor", sum := "e62af70d948c888d6ec7536b05b1fc2fb297e463bc3e058a1f882705acba8b4b", func := "waystation/waystationlaw09.VisibleReads", spec := "visibleReads", inPlace := ["maps.clone"], unfollowed := true, recurses := true, named := ["waystation/visible.nobodys"], plainKeys := false, apart := false, laid := [("waystation/visible.nobodys", laid_waystation_visible_nobodys)], narrowed := true }
def VisibleReadsUptoSaid : Prop := visibleReadsUptoRow.holds Tryd.pinned (OpenSpec.upto visibleReadsSpec)

/-- 'waystationlaw09.VisibleCopies', WHERE WHAT IT READS IS OF BULK AT MOST 1048576: true; the input reads as it did. -/
def visibleCopiesUptoRow : OpenClaim := { program := "ythcphoijanebhaadoor", sum := "e62af70d948c888d6ec7536b05b1fc2fb297e463bc3e058a1f882705acba8b4b", func := "waystation/waystationlaw09.VisibleCopies", spec := "visibleCopies", inPlace := ["maps.clone"], unfollowed := true, recurses := true, named := ["waystation/visible.nobodys"], plainKeys := false, apart := false, laid := [("waystation/visible.nobodys", laid_waystation_visible_nobodys)], narrowed := true }
def VisibleCopiesUptoSaid : Prop := visibleCopiesUptoRow.holds Tryd.pinned (OpenSpec.upto visibleCopiesSpec)

/-- 'waystationlaw09.VisibleAll', WHERE WHAT IT READS IS OF BULK AT MOST 1048576: true; the input reads as it did. -/
def visibleAllUptoRow : OpenClaim := { program := "ythcphoijanebhaadoor", sum := "e62af70d948c888d6ec7536b05b1fc2fb297e463bc3e058a1f882705acba8b4b", func := "waystation/waystationlaw09.VisibleAll", spec := "visibleAll", unfollowed := true, recurses := true, named := ["waystation/visible.nobodys"], plainKeys := false, apart := false, laid := [("waystation/visible.nobodys", laid_waystation_visible_nobodys)], narrowed := true }
def VisibleAllUptoSaid : Prop := visibleAllUptoRow.holds Tryd.pinned (OpenSpec.upto visibleAllSpec)

/-- 'waystationlaw09.VisibleEnds', WHERE WHAT IT READS IS OF BULK AT MOST 1048576: true; the input reads as it did. -/
def visibleEndsUptoRow : OpenClaim := { program := "ythcphoijanebhaadoor", sum := "e62af70d948c888d6ec7536b05b1fc2fb297e463bc3e058a1f882705acba8b4b", func := "waystation/waystationlaw09.VisibleEnds", spec := "visibleEnds", unfollowed := true, recurses := true, named := ["waystation/visible.nobodys"], plainKeys := false, apart := false, laid := [("waystation/visible.nobodys", laid_waystation_visible_nobodys)], narrowed := true }
def VisibleEndsUptoSaid : Prop := visibleEndsUptoRow.holds Tryd.pinned (OpenSpec.upto visibleEndsSpec)

/-- 'waystationlaw09.VisibleGrows', WHERE WHAT IT READS IS OF BULK AT MOST 1048576: true; the input reads as it did. -/
def visibleGrowsUptoRow : OpenClaim := { program := "ythcphoijanebhaadoor", sum := "e62af70d948c888d6ec7536b05b1fc2fb297e463bc3e058a1f882705acba8b4b", func := "waystation/waystationlaw09.VisibleGrows", spec := "visibleGrows", unfollowed := true, recurses := true, named := ["waystation/visible.nobodys"], plainKeys := false, apart := false, laid := [("waystation/visible.nobodys", laid_waystation_visible_nobodys)], narrowed := true }
def VisibleGrowsUptoSaid : Prop := visibleGrowsUptoRow.holds Tryd.pinned (OpenSpec.upto visibleGrowsSpec)

end Rows
end Go.Proofs.YthcphoijanebhaaDoor
