/-
  DERIVED. GIVEN WITH THE SEED: THE CARDS: each row of YthcphoijanebhaaDoorRows.lean that lists a variable, with what it lists TIED to the program's text (the seventh form; the later family's looks); each row that meets fmt, with fmt's text TOLD by the authors' own Lean function (tested against real Go, not proved from fmt's source: count such statements apart). THE CARD IS WHAT COUNTS. Prove the row's statement (the work); the ties are given (YthcphoijanebhaaDoorTie.lean); close each card by the builder's one call (the guide's Derived/Test/ToyasCard.lean, 'card_holds'). Laid BY PROGRAM, IN A SANDBOX (cutbox-door.mjs). By AI agents, Wed Nov 11 2026. No macro, syntax, notation, axiom, sorry.
-/
import Derived.Test.YthcphoijanebhaaDoorRows
import GoSem.ClaimSeven
namespace Go.Proofs.YthcphoijanebhaaDoor
namespace Rows

/-- THE TIED CARD OF 'waystationlaw09.VisibleViews'. -/
def visibleViewsCard : Claim7 := { stood := { row := visibleViewsRow, standIns := [], harness := (true, "e872fbbcbb45a318d4a21952f2d33522ec05cad25393f9b523959ddf34fff248"), looks := true }, kinds := [], alts := [], laidByText := true, laidKinds := [.data], laidTests := true, laidLooks := .later }
def VisibleViewsCardSaid : Prop := Claim7.holds Tryd.pinned (.plain (OpenSpec.ofChange visibleViewsSpec)) visibleViewsCard

/-- THE TIED CARD OF 'waystationlaw09.VisibleGoods'. -/
def visibleGoodsCard : Claim7 := { stood := { row := visibleGoodsRow, standIns := [], harness := (true, "e872fbbcbb45a318d4a21952f2d33522ec05cad25393f9b523959ddf34fff248"), looks := true }, kinds := [], alts := [], laidByText := true, laidKinds := [.data], laidTests := true, laidLooks := .later }
def VisibleGoodsCardSaid : Prop := Claim7.holds Tryd.pinned (.plain (OpenSpec.ofChange visibleGoodsSpec)) visibleGoodsCard

/-- THE TIED CARD OF 'waystationlaw09.VisibleReads'. -/
def visibleReadsCard : Claim7 := { stood := { row := visibleReadsRow, standIns := [], harness := (true, "e872fbbcbb45a318d4a21952f2d33522ec05cad25393f9b523959ddf34fff248"), looks := true }, kinds := [], alts := [], laidByText := true, laidKinds := [.data], laidTests := true, laidLooks := .later }
def VisibleReadsCardSaid : Prop := Claim7.holds Tryd.pinned (.plain (OpenSpec.ofChange visibleReadsSpec)) visibleReadsCard

/-- THE TIED CARD OF 'waystationlaw09.VisibleCopies'. -/
def visibleCopiesCard : Claim7 := { stood := { row := visibleCopiesRow, standIns := [], harness := (true, "e872fbbcbb45a318d4a21952f2d33522ec05cad25393f9b523959ddf34fff248"), looks := true }, kinds := [], alts := [], laidByText := true, laidKinds := [.data], laidTests := true, laidLooks := .later }
def VisibleCopiesCardSaid : Prop := Claim7.holds Tryd.pinned (.plain (OpenSpec.ofChange visibleCopiesSpec)) visibleCopiesCard

/-- THE TIED CARD OF 'waystationlaw09.VisibleAll'. -/
def visibleAllCard : Claim7 := { stood := { row := visibleAllRow, standIns := [], harness := (true, "e872fbbcbb45a318d4a21952f2d33522ec05cad25393f9b523959ddf34fff248"), looks := true }, kinds := [], alts := [], laidByText := true, laidKinds := [.data], laidTests := true, laidLooks := .later }
def VisibleAllCardSaid : Prop := Claim7.holds Tryd.pinned (.plain (OpenSpec.ofChange visibleAllSpec)) visibleAllCard

/-- THE TIED CARD OF 'waystationlaw09.VisibleEnds'. -/
def visibleEndsCard : Claim7 := { stood := { row := visibleEndsRow, standIns := [], harness := (true, "e872fbbcbb45a318d4a21952f2d33522ec05cad25393f9b523959ddf34fff248"), looks := true }, kinds := [], alts := [], laidByText := true, laidKinds := [.data], laidTests := true, laidLooks := .later }
def VisibleEndsCardSaid : Prop := Claim7.holds Tryd.pinned (.plain (OpenSpec.ofChange visibleEndsSpec)) visibleEndsCard

/-- THE TIED CARD OF 'waystationlaw09.VisibleGrows'. -/
def visibleGrowsCard : Claim7 := { stood := { row := visibleGrowsRow, standIns := [], harness := (true, "e872fbbcbb45a318d4a21952f2d33522ec05cad25393f9b523959ddf34fff248"), looks := true }, kinds := [], alts := [], laidByText := true, laidKinds := [.data], laidTests := true, laidLooks := .later }
def VisibleGrowsCardSaid : Prop := Claim7.holds Tryd.pinned (.plain (OpenSpec.ofChange visibleGrowsSpec)) visibleGrowsCard

/-- THE SECOND FORM's CARD OF 'waystationlaw09.VisibleViews'. -/
def visibleViewsUptoCard : Claim7 := { stood := { row := visibleViewsUptoRow, standIns := [], harness := (true, "e872fbbcbb45a318d4a21952f2d33522ec05cad25393f9b523959ddf34fff248"), looks := true }, kinds := [], alts := [], laidByText := true, laidKinds := [.data], laidTests := true, laidLooks := .later }
def VisibleViewsUptoCardSaid : Prop := Claim7.holds Tryd.pinned (.plain (OpenSpec.upto visibleViewsSpec)) visibleViewsUptoCard

/-- THE SECOND FORM's CARD OF 'waystationlaw09.VisibleGoods'. -/
def visibleGoodsUptoCard : Claim7 := { stood := { row := visibleGoodsUptoRow, standIns := [], harness := (true, "e872fbbcbb45a318d4a21952f2d33522ec05cad25393f9b523959ddf34fff248"), looks := true }, kinds := [], alts := [], laidByText := true, laidKinds := [.data], laidTests := true, laidLooks := .later }
def VisibleGoodsUptoCardSaid : Prop := Claim7.holds Tryd.pinned (.plain (OpenSpec.upto visibleGoodsSpec)) visibleGoodsUptoCard

/-- THE SECOND FORM's CARD OF 'waystationlaw09.VisibleReads'. -/
def visibleReadsUptoCard : Claim7 := { stood := { row := visibleReadsUptoRow, standIns := [], harness := (true, "e872fbbcbb45a318d4a21952f2d33522ec05cad25393f9b523959ddf34fff248"), looks := true }, kinds := [], alts := [], laidByText := true, laidKinds := [.data], laidTests := true, laidLooks := .later }
def VisibleReadsUptoCardSaid : Prop := Claim7.holds Tryd.pinned (.plain (OpenSpec.upto visibleReadsSpec)) visibleReadsUptoCard

/-- THE SECOND FORM's CARD OF 'waystationlaw09.VisibleCopies'. -/
def visibleCopiesUptoCard : Claim7 := { stood := { row := visibleCopiesUptoRow, standIns := [], harness := (true, "e872fbbcbb45a318d4a21952f2d33522ec05cad25393f9b523959ddf34fff248"), looks := true }, kinds := [], alts := [], laidByText := true, laidKinds := [.data], laidTests := true, laidLooks := .later }
def VisibleCopiesUptoCardSaid : Prop := Claim7.holds Tryd.pinned (.plain (OpenSpec.upto visibleCopiesSpec)) visibleCopiesUptoCard

/-- THE SECOND FORM's CARD OF 'waystationlaw09.VisibleAll'. -/
def visibleAllUptoCard : Claim7 := { stood := { row := visibleAllUptoRow, standIns := [], harness := (true, "e872fbbcbb45a318d4a21952f2d33522ec05cad25393f9b523959ddf34fff248"), looks := true }, kinds := [], alts := [], laidByText := true, laidKinds := [.data], laidTests := true, laidLooks := .later }
def VisibleAllUptoCardSaid : Prop := Claim7.holds Tryd.pinned (.plain (OpenSpec.upto visibleAllSpec)) visibleAllUptoCard

/-- THE SECOND FORM's CARD OF 'waystationlaw09.VisibleEnds'. -/
def visibleEndsUptoCard : Claim7 := { stood := { row := visibleEndsUptoRow, standIns := [], harness := (true, "e872fbbcbb45a318d4a21952f2d33522ec05cad25393f9b523959ddf34fff248"), looks := true }, kinds := [], alts := [], laidByText := true, laidKinds := [.data], laidTests := true, laidLooks := .later }
def VisibleEndsUptoCardSaid : Prop := Claim7.holds Tryd.pinned (.plain (OpenSpec.upto visibleEndsSpec)) visibleEndsUptoCard

/-- THE SECOND FORM's CARD OF 'waystationlaw09.VisibleGrows'. -/
def visibleGrowsUptoCard : Claim7 := { stood := { row := visibleGrowsUptoRow, standIns := [], harness := (true, "e872fbbcbb45a318d4a21952f2d33522ec05cad25393f9b523959ddf34fff248"), looks := true }, kinds := [], alts := [], laidByText := true, laidKinds := [.data], laidTests := true, laidLooks := .later }
def VisibleGrowsUptoCardSaid : Prop := Claim7.holds Tryd.pinned (.plain (OpenSpec.upto visibleGrowsSpec)) visibleGrowsUptoCard
end Rows
end Go.Proofs.YthcphoijanebhaaDoor
