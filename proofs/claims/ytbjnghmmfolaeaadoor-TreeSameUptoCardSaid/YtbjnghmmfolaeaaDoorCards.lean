/-
  DERIVED. GIVEN WITH THE SEED: THE CARDS: each row of YtbjnghmmfolaeaaDoorRows.lean that lists a variable, with what it lists TIED to the program's text (the seventh form; the later family's looks); each row that meets fmt, with fmt's text TOLD by the authors' own Lean function (tested against real Go, not proved from fmt's source: count such statements apart). THE CARD IS WHAT COUNTS. Prove the row's statement (the work); the ties are given (YtbjnghmmfolaeaaDoorTie.lean); close each card by the builder's one call (the guide's Derived/Test/ToyasCard.lean, 'card_holds'). Laid BY PROGRAM, IN A SANDBOX (cutbox-door.mjs). By AI agents, Wed Nov 11 2026. No macro, syntax, notation, axiom, sorry.
-/
import Derived.Test.YtbjnghmmfolaeaaDoorRows
import GoSem.ClaimSeven
namespace Go.Proofs.YtbjnghmmfolaeaaDoor
namespace Rows

/-- THE TIED CARD OF 'lustrumlaw08.PointBack'. -/
def pointBackCard : Claim7 := { stood := { row := pointBackRow, standIns := [], harness := (true, "57cd0c842ed0fb08db99a2d17477f82bda76df42fc004b44cd1c2056b261a86b"), looks := false }, kinds := [], alts := [], laidByText := true, laidKinds := [.data, .data, .data, .data], laidTests := true, laidLooks := .later }
def PointBackCardSaid : Prop := Claim7.holds Tryd.pinned (.plain (OpenSpec.ofChange pointBackSpec)) pointBackCard

/-- THE TIED CARD OF 'lustrumlaw08.PointUnits'. -/
def pointUnitsCard : Claim7 := { stood := { row := pointUnitsRow, standIns := [], harness := (true, "57cd0c842ed0fb08db99a2d17477f82bda76df42fc004b44cd1c2056b261a86b"), looks := false }, kinds := [], alts := [], laidByText := true, laidKinds := [.data, .data, .data, .data], laidTests := true, laidLooks := .later }
def PointUnitsCardSaid : Prop := Claim7.holds Tryd.pinned (.plain (OpenSpec.ofChange pointUnitsSpec)) pointUnitsCard

/-- THE TIED CARD OF 'lustrumlaw08.PointNear'. -/
def pointNearCard : Claim7 := { stood := { row := pointNearRow, standIns := [], harness := (true, "57cd0c842ed0fb08db99a2d17477f82bda76df42fc004b44cd1c2056b261a86b"), looks := false }, kinds := [], alts := [], laidByText := true, laidKinds := [.data, .data, .data, .data], laidTests := true, laidLooks := .later }
def PointNearCardSaid : Prop := Claim7.holds Tryd.pinned (.plain (OpenSpec.ofChange pointNearSpec)) pointNearCard

/-- THE TIED CARD OF 'lustrumlaw08.PointOnly'. -/
def pointOnlyCard : Claim7 := { stood := { row := pointOnlyRow, standIns := [], harness := (true, "57cd0c842ed0fb08db99a2d17477f82bda76df42fc004b44cd1c2056b261a86b"), looks := false }, kinds := [], alts := [], laidByText := true, laidKinds := [.data, .data, .data, .data], laidTests := true, laidLooks := .later }
def PointOnlyCardSaid : Prop := Claim7.holds Tryd.pinned (.plain (OpenSpec.ofChange pointOnlySpec)) pointOnlyCard

/-- THE TIED CARD OF 'lustrumlaw08.PointHidden'. -/
def pointHiddenCard : Claim7 := { stood := { row := pointHiddenRow, standIns := [], harness := (true, "57cd0c842ed0fb08db99a2d17477f82bda76df42fc004b44cd1c2056b261a86b"), looks := false }, kinds := [], alts := [], laidByText := true, laidKinds := [.data, .data, .data, .data], laidTests := true, laidLooks := .later }
def PointHiddenCardSaid : Prop := Claim7.holds Tryd.pinned (.plain (OpenSpec.ofChange pointHiddenSpec)) pointHiddenCard

/-- THE TIED CARD OF 'lustrumlaw10.TreeIs'. -/
def treeIsCard : Claim7 := { stood := { row := treeIsRow, standIns := [], harness := (true, "57cd0c842ed0fb08db99a2d17477f82bda76df42fc004b44cd1c2056b261a86b"), looks := false }, kinds := [], alts := [], laidByText := true, laidKinds := [.data], laidTests := true, laidLooks := .later }
def TreeIsCardSaid : Prop := Claim7.holds Tryd.pinned (.plain (OpenSpec.ofChange treeIsSpec)) treeIsCard

/-- THE TIED CARD OF 'lustrumlaw10.TreeMade'. -/
def treeMadeCard : Claim7 := { stood := { row := treeMadeRow, standIns := [], harness := (true, "57cd0c842ed0fb08db99a2d17477f82bda76df42fc004b44cd1c2056b261a86b"), looks := false }, kinds := [], alts := [], laidByText := true, laidKinds := [.data], laidTests := true, laidLooks := .later }
def TreeMadeCardSaid : Prop := Claim7.holds Tryd.pinned (.plain (OpenSpec.ofChange treeMadeSpec)) treeMadeCard

/-- THE TIED CARD OF 'lustrumlaw10.TreeCounts'. -/
def treeCountsCard : Claim7 := { stood := { row := treeCountsRow, standIns := [], harness := (true, "57cd0c842ed0fb08db99a2d17477f82bda76df42fc004b44cd1c2056b261a86b"), looks := false }, kinds := [], alts := [], laidByText := true, laidKinds := [.data], laidTests := true, laidLooks := .later }
def TreeCountsCardSaid : Prop := Claim7.holds Tryd.pinned (.plain (OpenSpec.ofChange treeCountsSpec)) treeCountsCard

/-- THE TIED CARD OF 'lustrumlaw10.TreeSame'. -/
def treeSameCard : Claim7 := { stood := { row := treeSameRow, standIns := [], harness := (true, "57cd0c842ed0fb08db99a2d17477f82bda76df42fc004b44cd1c2056b261a86b"), looks := false }, kinds := [], alts := [], laidByText := true, laidKinds := [.data], laidTests := true, laidLooks := .later }
def TreeSameCardSaid : Prop := Claim7.holds Tryd.pinned (.plain (OpenSpec.ofChange treeSameSpec)) treeSameCard

/-- THE TIED CARD OF 'lustrumlaw11.PrintIs'. -/
def printIsCard : Claim7 := { stood := { row := printIsRow, standIns := [], harness := (true, "57cd0c842ed0fb08db99a2d17477f82bda76df42fc004b44cd1c2056b261a86b"), looks := false }, kinds := [], alts := [], laidByText := true, laidKinds := [.data], laidTests := true, laidLooks := .later }
def PrintIsCardSaid : Prop := Claim7.holds Tryd.pinned (.plain (OpenSpec.ofChange printIsSpec)) printIsCard

/-- THE TIED CARD OF 'lustrumlaw11.PrintParts'. -/
def printPartsCard : Claim7 := { stood := { row := printPartsRow, standIns := [], harness := (true, "57cd0c842ed0fb08db99a2d17477f82bda76df42fc004b44cd1c2056b261a86b"), looks := false }, kinds := [], alts := [], laidByText := true, laidKinds := [.data], laidTests := true, laidLooks := .later }
def PrintPartsCardSaid : Prop := Claim7.holds Tryd.pinned (.plain (OpenSpec.ofChange printPartsSpec)) printPartsCard

/-- THE TIED CARD OF 'lustrumlaw11.PrintLex'. -/
def printLexCard : Claim7 := { stood := { row := printLexRow, standIns := [], harness := (true, "57cd0c842ed0fb08db99a2d17477f82bda76df42fc004b44cd1c2056b261a86b"), looks := false }, kinds := [], alts := [], laidByText := true, laidKinds := [.data], laidTests := true, laidLooks := .later }
def PrintLexCardSaid : Prop := Claim7.holds Tryd.pinned (.plain (OpenSpec.ofChange printLexSpec)) printLexCard

/-- THE TIED CARD OF 'lustrumlaw11.PrintApart'. -/
def printApartCard : Claim7 := { stood := { row := printApartRow, standIns := [], harness := (true, "57cd0c842ed0fb08db99a2d17477f82bda76df42fc004b44cd1c2056b261a86b"), looks := false }, kinds := [], alts := [], laidByText := true, laidKinds := [.data], laidTests := true, laidLooks := .later }
def PrintApartCardSaid : Prop := Claim7.holds Tryd.pinned (.plain (OpenSpec.ofChange printApartSpec)) printApartCard

/-- THE SECOND FORM's CARD OF 'lustrumlaw08.PointBack'. -/
def pointBackUptoCard : Claim7 := { stood := { row := pointBackUptoRow, standIns := [], harness := (true, "57cd0c842ed0fb08db99a2d17477f82bda76df42fc004b44cd1c2056b261a86b"), looks := false }, kinds := [], alts := [], laidByText := true, laidKinds := [.data, .data, .data, .data], laidTests := true, laidLooks := .later }
def PointBackUptoCardSaid : Prop := Claim7.holds Tryd.pinned (.plain (OpenSpec.upto pointBackSpec)) pointBackUptoCard

/-- THE SECOND FORM's CARD OF 'lustrumlaw08.PointUnits'. -/
def pointUnitsUptoCard : Claim7 := { stood := { row := pointUnitsUptoRow, standIns := [], harness := (true, "57cd0c842ed0fb08db99a2d17477f82bda76df42fc004b44cd1c2056b261a86b"), looks := false }, kinds := [], alts := [], laidByText := true, laidKinds := [.data, .data, .data, .data], laidTests := true, laidLooks := .later }
def PointUnitsUptoCardSaid : Prop := Claim7.holds Tryd.pinned (.plain (OpenSpec.upto pointUnitsSpec)) pointUnitsUptoCard

/-- THE SECOND FORM's CARD OF 'lustrumlaw08.PointNear'. -/
def pointNearUptoCard : Claim7 := { stood := { row := pointNearUptoRow, standIns := [], harness := (true, "57cd0c842ed0fb08db99a2d17477f82bda76df42fc004b44cd1c2056b261a86b"), looks := false }, kinds := [], alts := [], laidByText := true, laidKinds := [.data, .data, .data, .data], laidTests := true, laidLooks := .later }
def PointNearUptoCardSaid : Prop := Claim7.holds Tryd.pinned (.plain (OpenSpec.upto pointNearSpec)) pointNearUptoCard

/-- THE SECOND FORM's CARD OF 'lustrumlaw08.PointOnly'. -/
def pointOnlyUptoCard : Claim7 := { stood := { row := pointOnlyUptoRow, standIns := [], harness := (true, "57cd0c842ed0fb08db99a2d17477f82bda76df42fc004b44cd1c2056b261a86b"), looks := false }, kinds := [], alts := [], laidByText := true, laidKinds := [.data, .data, .data, .data], laidTests := true, laidLooks := .later }
def PointOnlyUptoCardSaid : Prop := Claim7.holds Tryd.pinned (.plain (OpenSpec.upto pointOnlySpec)) pointOnlyUptoCard

/-- THE SECOND FORM's CARD OF 'lustrumlaw08.PointHidden'. -/
def pointHiddenUptoCard : Claim7 := { stood := { row := pointHiddenUptoRow, standIns := [], harness := (true, "57cd0c842ed0fb08db99a2d17477f82bda76df42fc004b44cd1c2056b261a86b"), looks := false }, kinds := [], alts := [], laidByText := true, laidKinds := [.data, .data, .data, .data], laidTests := true, laidLooks := .later }
def PointHiddenUptoCardSaid : Prop := Claim7.holds Tryd.pinned (.plain (OpenSpec.upto pointHiddenSpec)) pointHiddenUptoCard

/-- THE SECOND FORM's CARD OF 'lustrumlaw10.TreeIs'. -/
def treeIsUptoCard : Claim7 := { stood := { row := treeIsUptoRow, standIns := [], harness := (true, "57cd0c842ed0fb08db99a2d17477f82bda76df42fc004b44cd1c2056b261a86b"), looks := false }, kinds := [], alts := [], laidByText := true, laidKinds := [.data], laidTests := true, laidLooks := .later }
def TreeIsUptoCardSaid : Prop := Claim7.holds Tryd.pinned (.plain (OpenSpec.upto treeIsSpec)) treeIsUptoCard

/-- THE SECOND FORM's CARD OF 'lustrumlaw10.TreeMade'. -/
def treeMadeUptoCard : Claim7 := { stood := { row := treeMadeUptoRow, standIns := [], harness := (true, "57cd0c842ed0fb08db99a2d17477f82bda76df42fc004b44cd1c2056b261a86b"), looks := false }, kinds := [], alts := [], laidByText := true, laidKinds := [.data], laidTests := true, laidLooks := .later }
def TreeMadeUptoCardSaid : Prop := Claim7.holds Tryd.pinned (.plain (OpenSpec.upto treeMadeSpec)) treeMadeUptoCard

/-- THE SECOND FORM's CARD OF 'lustrumlaw10.TreeCounts'. -/
def treeCountsUptoCard : Claim7 := { stood := { row := treeCountsUptoRow, standIns := [], harness := (true, "57cd0c842ed0fb08db99a2d17477f82bda76df42fc004b44cd1c2056b261a86b"), looks := false }, kinds := [], alts := [], laidByText := true, laidKinds := [.data], laidTests := true, laidLooks := .later }
def TreeCountsUptoCardSaid : Prop := Claim7.holds Tryd.pinned (.plain (OpenSpec.upto treeCountsSpec)) treeCountsUptoCard

/-- THE SECOND FORM's CARD OF 'lustrumlaw10.TreeSame'. -/
def treeSameUptoCard : Claim7 := { stood := { row := treeSameUptoRow, standIns := [], harness := (true, "57cd0c842ed0fb08db99a2d17477f82bda76df42fc004b44cd1c2056b261a86b"), looks := false }, kinds := [], alts := [], laidByText := true, laidKinds := [.data], laidTests := true, laidLooks := .later }
def TreeSameUptoCardSaid : Prop := Claim7.holds Tryd.pinned (.plain (OpenSpec.upto treeSameSpec)) treeSameUptoCard

/-- THE SECOND FORM's CARD OF 'lustrumlaw11.PrintIs'. -/
def printIsUptoCard : Claim7 := { stood := { row := printIsUptoRow, standIns := [], harness := (true, "57cd0c842ed0fb08db99a2d17477f82bda76df42fc004b44cd1c2056b261a86b"), looks := false }, kinds := [], alts := [], laidByText := true, laidKinds := [.data], laidTests := true, laidLooks := .later }
def PrintIsUptoCardSaid : Prop := Claim7.holds Tryd.pinned (.plain (OpenSpec.upto printIsSpec)) printIsUptoCard

/-- THE SECOND FORM's CARD OF 'lustrumlaw11.PrintParts'. -/
def printPartsUptoCard : Claim7 := { stood := { row := printPartsUptoRow, standIns := [], harness := (true, "57cd0c842ed0fb08db99a2d17477f82bda76df42fc004b44cd1c2056b261a86b"), looks := false }, kinds := [], alts := [], laidByText := true, laidKinds := [.data], laidTests := true, laidLooks := .later }
def PrintPartsUptoCardSaid : Prop := Claim7.holds Tryd.pinned (.plain (OpenSpec.upto printPartsSpec)) printPartsUptoCard

/-- THE SECOND FORM's CARD OF 'lustrumlaw11.PrintLex'. -/
def printLexUptoCard : Claim7 := { stood := { row := printLexUptoRow, standIns := [], harness := (true, "57cd0c842ed0fb08db99a2d17477f82bda76df42fc004b44cd1c2056b261a86b"), looks := false }, kinds := [], alts := [], laidByText := true, laidKinds := [.data], laidTests := true, laidLooks := .later }
def PrintLexUptoCardSaid : Prop := Claim7.holds Tryd.pinned (.plain (OpenSpec.upto printLexSpec)) printLexUptoCard

/-- THE SECOND FORM's CARD OF 'lustrumlaw11.PrintApart'. -/
def printApartUptoCard : Claim7 := { stood := { row := printApartUptoRow, standIns := [], harness := (true, "57cd0c842ed0fb08db99a2d17477f82bda76df42fc004b44cd1c2056b261a86b"), looks := false }, kinds := [], alts := [], laidByText := true, laidKinds := [.data], laidTests := true, laidLooks := .later }
def PrintApartUptoCardSaid : Prop := Claim7.holds Tryd.pinned (.plain (OpenSpec.upto printApartSpec)) printApartUptoCard
end Rows
end Go.Proofs.YtbjnghmmfolaeaaDoor
