/-
  DERIVED. GIVEN WITH THE SEED: THE CARDS: each row of YtjiikianmjmgcaaDoorRows.lean that lists a variable, with what it lists TIED to the program's text (the seventh form; the later family's looks); each row that meets fmt, with fmt's text TOLD by the authors' own Lean function (tested against real Go, not proved from fmt's source: count such statements apart). THE CARD IS WHAT COUNTS. Prove the row's statement (the work); the ties are given (YtjiikianmjmgcaaDoorTie.lean); close each card by the builder's one call (the guide's Derived/Test/ToyasCard.lean, 'card_holds'). Laid BY PROGRAM, IN A SANDBOX (cutbox-door.mjs). By AI agents, Wed Nov 11 2026. No macro, syntax, notation, axiom, sorry.
-/
import Derived.Test.YtjiikianmjmgcaaDoorRows
import GoSem.ClaimSeven
namespace Go.Proofs.YtjiikianmjmgcaaDoor
namespace Rows

/-- THE TIED CARD OF 'lustrumlaw08.PointOnly'. -/
def pointOnlyCard : Claim7 := { stood := { row := pointOnlyRow, standIns := [], harness := (true, "380c621db37fb95930e307104ce80cb8490d30aac5fc3480dd918002ba14281c"), looks := false }, kinds := [], alts := [], laidByText := true, laidKinds := [.data, .data, .data, .data], laidTests := true, laidLooks := .later }
def PointOnlyCardSaid : Prop := Claim7.holds Tryd.pinned (.plain (OpenSpec.ofChange pointOnlySpec)) pointOnlyCard

/-- THE TIED CARD OF 'lustrumlaw08.PointHidden'. -/
def pointHiddenCard : Claim7 := { stood := { row := pointHiddenRow, standIns := [], harness := (true, "380c621db37fb95930e307104ce80cb8490d30aac5fc3480dd918002ba14281c"), looks := false }, kinds := [], alts := [], laidByText := true, laidKinds := [.data, .data, .data, .data], laidTests := true, laidLooks := .later }
def PointHiddenCardSaid : Prop := Claim7.holds Tryd.pinned (.plain (OpenSpec.ofChange pointHiddenSpec)) pointHiddenCard

/-- THE TIED CARD OF 'lustrumlaw10.TreeIs'. -/
def treeIsCard : Claim7 := { stood := { row := treeIsRow, standIns := [], harness := (true, "380c621db37fb95930e307104ce80cb8490d30aac5fc3480dd918002ba14281c"), looks := false }, kinds := [], alts := [], laidByText := true, laidKinds := [.data], laidTests := true, laidLooks := .later }
def TreeIsCardSaid : Prop := Claim7.holds Tryd.pinned (.plain (OpenSpec.ofChange treeIsSpec)) treeIsCard

/-- THE TIED CARD OF 'lustrumlaw10.TreeMade'. -/
def treeMadeCard : Claim7 := { stood := { row := treeMadeRow, standIns := [], harness := (true, "380c621db37fb95930e307104ce80cb8490d30aac5fc3480dd918002ba14281c"), looks := false }, kinds := [], alts := [], laidByText := true, laidKinds := [.data], laidTests := true, laidLooks := .later }
def TreeMadeCardSaid : Prop := Claim7.holds Tryd.pinned (.plain (OpenSpec.ofChange treeMadeSpec)) treeMadeCard

/-- THE TIED CARD OF 'lustrumlaw10.TreeCounts'. -/
def treeCountsCard : Claim7 := { stood := { row := treeCountsRow, standIns := [], harness := (true, "380c621db37fb95930e307104ce80cb8490d30aac5fc3480dd918002ba14281c"), looks := false }, kinds := [], alts := [], laidByText := true, laidKinds := [.data], laidTests := true, laidLooks := .later }
def TreeCountsCardSaid : Prop := Claim7.holds Tryd.pinned (.plain (OpenSpec.ofChange treeCountsSpec)) treeCountsCard

/-- THE TIED CARD OF 'lustrumlaw11.PrintIs'. -/
def printIsCard : Claim7 := { stood := { row := printIsRow, standIns := [], harness := (true, "380c621db37fb95930e307104ce80cb8490d30aac5fc3480dd918002ba14281c"), looks := false }, kinds := [], alts := [], laidByText := true, laidKinds := [.data], laidTests := true, laidLooks := .later }
def PrintIsCardSaid : Prop := Claim7.holds Tryd.pinned (.plain (OpenSpec.ofChange printIsSpec)) printIsCard

/-- THE TIED CARD OF 'lustrumlaw11.PrintParts'. -/
def printPartsCard : Claim7 := { stood := { row := printPartsRow, standIns := [], harness := (true, "380c621db37fb95930e307104ce80cb8490d30aac5fc3480dd918002ba14281c"), looks := false }, kinds := [], alts := [], laidByText := true, laidKinds := [.data], laidTests := true, laidLooks := .later }
def PrintPartsCardSaid : Prop := Claim7.holds Tryd.pinned (.plain (OpenSpec.ofChange printPartsSpec)) printPartsCard

/-- THE TIED CARD OF 'lustrumlaw11.PrintLex'. -/
def printLexCard : Claim7 := { stood := { row := printLexRow, standIns := [], harness := (true, "380c621db37fb95930e307104ce80cb8490d30aac5fc3480dd918002ba14281c"), looks := false }, kinds := [], alts := [], laidByText := true, laidKinds := [.data], laidTests := true, laidLooks := .later }
def PrintLexCardSaid : Prop := Claim7.holds Tryd.pinned (.plain (OpenSpec.ofChange printLexSpec)) printLexCard

/-- THE TIED CARD OF 'lustrumlaw11.PrintApart'. -/
def printApartCard : Claim7 := { stood := { row := printApartRow, standIns := [], harness := (true, "380c621db37fb95930e307104ce80cb8490d30aac5fc3480dd918002ba14281c"), looks := false }, kinds := [], alts := [], laidByText := true, laidKinds := [.data], laidTests := true, laidLooks := .later }
def PrintApartCardSaid : Prop := Claim7.holds Tryd.pinned (.plain (OpenSpec.ofChange printApartSpec)) printApartCard

/-- THE SECOND FORM's CARD OF 'lustrumlaw08.PointOnly'. -/
def pointOnlyUptoCard : Claim7 := { stood := { row := pointOnlyUptoRow, standIns := [], harness := (true, "380c621db37fb95930e307104ce80cb8490d30aac5fc3480dd918002ba14281c"), looks := false }, kinds := [], alts := [], laidByText := true, laidKinds := [.data, .data, .data, .data], laidTests := true, laidLooks := .later }
def PointOnlyUptoCardSaid : Prop := Claim7.holds Tryd.pinned (.plain (OpenSpec.upto pointOnlySpec)) pointOnlyUptoCard

/-- THE SECOND FORM's CARD OF 'lustrumlaw08.PointHidden'. -/
def pointHiddenUptoCard : Claim7 := { stood := { row := pointHiddenUptoRow, standIns := [], harness := (true, "380c621db37fb95930e307104ce80cb8490d30aac5fc3480dd918002ba14281c"), looks := false }, kinds := [], alts := [], laidByText := true, laidKinds := [.data, .data, .data, .data], laidTests := true, laidLooks := .later }
def PointHiddenUptoCardSaid : Prop := Claim7.holds Tryd.pinned (.plain (OpenSpec.upto pointHiddenSpec)) pointHiddenUptoCard

/-- THE SECOND FORM's CARD OF 'lustrumlaw10.TreeIs'. -/
def treeIsUptoCard : Claim7 := { stood := { row := treeIsUptoRow, standIns := [], harness := (true, "380c621db37fb95930e307104ce80cb8490d30aac5fc3480dd918002ba14281c"), looks := false }, kinds := [], alts := [], laidByText := true, laidKinds := [.data], laidTests := true, laidLooks := .later }
def TreeIsUptoCardSaid : Prop := Claim7.holds Tryd.pinned (.plain (OpenSpec.upto treeIsSpec)) treeIsUptoCard

/-- THE SECOND FORM's CARD OF 'lustrumlaw10.TreeMade'. -/
def treeMadeUptoCard : Claim7 := { stood := { row := treeMadeUptoRow, standIns := [], harness := (true, "380c621db37fb95930e307104ce80cb8490d30aac5fc3480dd918002ba14281c"), looks := false }, kinds := [], alts := [], laidByText := true, laidKinds := [.data], laidTests := true, laidLooks := .later }
def TreeMadeUptoCardSaid : Prop := Claim7.holds Tryd.pinned (.plain (OpenSpec.upto treeMadeSpec)) treeMadeUptoCard

/-- THE SECOND FORM's CARD OF 'lustrumlaw10.TreeCounts'. -/
def treeCountsUptoCard : Claim7 := { stood := { row := treeCountsUptoRow, standIns := [], harness := (true, "380c621db37fb95930e307104ce80cb8490d30aac5fc3480dd918002ba14281c"), looks := false }, kinds := [], alts := [], laidByText := true, laidKinds := [.data], laidTests := true, laidLooks := .later }
def TreeCountsUptoCardSaid : Prop := Claim7.holds Tryd.pinned (.plain (OpenSpec.upto treeCountsSpec)) treeCountsUptoCard

/-- THE SECOND FORM's CARD OF 'lustrumlaw11.PrintIs'. -/
def printIsUptoCard : Claim7 := { stood := { row := printIsUptoRow, standIns := [], harness := (true, "380c621db37fb95930e307104ce80cb8490d30aac5fc3480dd918002ba14281c"), looks := false }, kinds := [], alts := [], laidByText := true, laidKinds := [.data], laidTests := true, laidLooks := .later }
def PrintIsUptoCardSaid : Prop := Claim7.holds Tryd.pinned (.plain (OpenSpec.upto printIsSpec)) printIsUptoCard

/-- THE SECOND FORM's CARD OF 'lustrumlaw11.PrintParts'. -/
def printPartsUptoCard : Claim7 := { stood := { row := printPartsUptoRow, standIns := [], harness := (true, "380c621db37fb95930e307104ce80cb8490d30aac5fc3480dd918002ba14281c"), looks := false }, kinds := [], alts := [], laidByText := true, laidKinds := [.data], laidTests := true, laidLooks := .later }
def PrintPartsUptoCardSaid : Prop := Claim7.holds Tryd.pinned (.plain (OpenSpec.upto printPartsSpec)) printPartsUptoCard

/-- THE SECOND FORM's CARD OF 'lustrumlaw11.PrintLex'. -/
def printLexUptoCard : Claim7 := { stood := { row := printLexUptoRow, standIns := [], harness := (true, "380c621db37fb95930e307104ce80cb8490d30aac5fc3480dd918002ba14281c"), looks := false }, kinds := [], alts := [], laidByText := true, laidKinds := [.data], laidTests := true, laidLooks := .later }
def PrintLexUptoCardSaid : Prop := Claim7.holds Tryd.pinned (.plain (OpenSpec.upto printLexSpec)) printLexUptoCard

/-- THE SECOND FORM's CARD OF 'lustrumlaw11.PrintApart'. -/
def printApartUptoCard : Claim7 := { stood := { row := printApartUptoRow, standIns := [], harness := (true, "380c621db37fb95930e307104ce80cb8490d30aac5fc3480dd918002ba14281c"), looks := false }, kinds := [], alts := [], laidByText := true, laidKinds := [.data], laidTests := true, laidLooks := .later }
def PrintApartUptoCardSaid : Prop := Claim7.holds Tryd.pinned (.plain (OpenSpec.upto printApartSpec)) printApartUptoCard
end Rows
end Go.Proofs.YtjiikianmjmgcaaDoor
