/-
  DERIVED. GIVEN WITH THE SEED: THE CARDS: each row of YtgmigeehfhkimaaDoorRows.lean that lists a variable, with what it lists TIED to the program's text (the seventh form; the later family's looks); each row that meets fmt, with fmt's text TOLD by the authors' own Lean function (tested against real Go, not proved from fmt's source: count such statements apart). THE CARD IS WHAT COUNTS. Prove the row's statement (the work); the ties are given (YtgmigeehfhkimaaDoorTie.lean); close each card by the builder's one call (the guide's Derived/Test/ToyasCard.lean, 'card_holds'). Laid BY PROGRAM, IN A SANDBOX (cutbox-door.mjs). By AI agents, Wed Nov 11 2026. No macro, syntax, notation, axiom, sorry.
-/
import Derived.Test.YtgmigeehfhkimaaDoorRows
import GoSem.ClaimSeven
namespace Go.Proofs.YtgmigeehfhkimaaDoor
namespace Rows

/-- THE TIED CARD OF 'lustrumlaw12.CanonIs'. -/
def canonIsCard : Claim7 := { stood := { row := canonIsRow, standIns := [], harness := (true, "d8f44be8b1fb0b3e8e2ae9224eea48ad731cb5529b69f4b225d85726eb2c53e6"), looks := true }, kinds := [], alts := [], laidByText := true, laidKinds := [.data], laidTests := true, laidLooks := .later }
def CanonIsCardSaid : Prop := Claim7.holds Tryd.pinned (.plain (OpenSpec.ofChange canonIsSpec)) canonIsCard

/-- THE TIED CARD OF 'lustrumlaw12.CanonOnce'. -/
def canonOnceCard : Claim7 := { stood := { row := canonOnceRow, standIns := [], harness := (true, "d8f44be8b1fb0b3e8e2ae9224eea48ad731cb5529b69f4b225d85726eb2c53e6"), looks := true }, kinds := [], alts := [], laidByText := true, laidKinds := [.data], laidTests := true, laidLooks := .later }
def CanonOnceCardSaid : Prop := Claim7.holds Tryd.pinned (.plain (OpenSpec.ofChange canonOnceSpec)) canonOnceCard

/-- THE TIED CARD OF 'lustrumlaw12.CanonOrder'. -/
def canonOrderCard : Claim7 := { stood := { row := canonOrderRow, standIns := [], harness := (true, "d8f44be8b1fb0b3e8e2ae9224eea48ad731cb5529b69f4b225d85726eb2c53e6"), looks := true }, kinds := [], alts := [], laidByText := true, laidKinds := [.data], laidTests := true, laidLooks := .later }
def CanonOrderCardSaid : Prop := Claim7.holds Tryd.pinned (.plain (OpenSpec.ofChange canonOrderSpec)) canonOrderCard

/-- THE TIED CARD OF 'lustrumlaw12.CanonParts'. -/
def canonPartsCard : Claim7 := { stood := { row := canonPartsRow, standIns := [], harness := (true, "d8f44be8b1fb0b3e8e2ae9224eea48ad731cb5529b69f4b225d85726eb2c53e6"), looks := true }, kinds := [], alts := [], laidByText := true, laidKinds := [.data], laidTests := true, laidLooks := .later }
def CanonPartsCardSaid : Prop := Claim7.holds Tryd.pinned (.plain (OpenSpec.ofChange canonPartsSpec)) canonPartsCard

/-- THE TIED CARD OF 'lustrumlaw12.CanonMore'. -/
def canonMoreCard : Claim7 := { stood := { row := canonMoreRow, standIns := [], harness := (true, "d8f44be8b1fb0b3e8e2ae9224eea48ad731cb5529b69f4b225d85726eb2c53e6"), looks := true }, kinds := [], alts := [], laidByText := true, laidKinds := [.data], laidTests := true, laidLooks := .later }
def CanonMoreCardSaid : Prop := Claim7.holds Tryd.pinned (.plain (OpenSpec.ofChange canonMoreSpec)) canonMoreCard

/-- THE SECOND FORM's CARD OF 'lustrumlaw12.CanonIs'. -/
def canonIsUptoCard : Claim7 := { stood := { row := canonIsUptoRow, standIns := [], harness := (true, "d8f44be8b1fb0b3e8e2ae9224eea48ad731cb5529b69f4b225d85726eb2c53e6"), looks := true }, kinds := [], alts := [], laidByText := true, laidKinds := [.data], laidTests := true, laidLooks := .later }
def CanonIsUptoCardSaid : Prop := Claim7.holds Tryd.pinned (.plain (OpenSpec.upto canonIsSpec)) canonIsUptoCard

/-- THE SECOND FORM's CARD OF 'lustrumlaw12.CanonOnce'. -/
def canonOnceUptoCard : Claim7 := { stood := { row := canonOnceUptoRow, standIns := [], harness := (true, "d8f44be8b1fb0b3e8e2ae9224eea48ad731cb5529b69f4b225d85726eb2c53e6"), looks := true }, kinds := [], alts := [], laidByText := true, laidKinds := [.data], laidTests := true, laidLooks := .later }
def CanonOnceUptoCardSaid : Prop := Claim7.holds Tryd.pinned (.plain (OpenSpec.upto canonOnceSpec)) canonOnceUptoCard

/-- THE SECOND FORM's CARD OF 'lustrumlaw12.CanonOrder'. -/
def canonOrderUptoCard : Claim7 := { stood := { row := canonOrderUptoRow, standIns := [], harness := (true, "d8f44be8b1fb0b3e8e2ae9224eea48ad731cb5529b69f4b225d85726eb2c53e6"), looks := true }, kinds := [], alts := [], laidByText := true, laidKinds := [.data], laidTests := true, laidLooks := .later }
def CanonOrderUptoCardSaid : Prop := Claim7.holds Tryd.pinned (.plain (OpenSpec.upto canonOrderSpec)) canonOrderUptoCard

/-- THE SECOND FORM's CARD OF 'lustrumlaw12.CanonParts'. -/
def canonPartsUptoCard : Claim7 := { stood := { row := canonPartsUptoRow, standIns := [], harness := (true, "d8f44be8b1fb0b3e8e2ae9224eea48ad731cb5529b69f4b225d85726eb2c53e6"), looks := true }, kinds := [], alts := [], laidByText := true, laidKinds := [.data], laidTests := true, laidLooks := .later }
def CanonPartsUptoCardSaid : Prop := Claim7.holds Tryd.pinned (.plain (OpenSpec.upto canonPartsSpec)) canonPartsUptoCard

/-- THE SECOND FORM's CARD OF 'lustrumlaw12.CanonMore'. -/
def canonMoreUptoCard : Claim7 := { stood := { row := canonMoreUptoRow, standIns := [], harness := (true, "d8f44be8b1fb0b3e8e2ae9224eea48ad731cb5529b69f4b225d85726eb2c53e6"), looks := true }, kinds := [], alts := [], laidByText := true, laidKinds := [.data], laidTests := true, laidLooks := .later }
def CanonMoreUptoCardSaid : Prop := Claim7.holds Tryd.pinned (.plain (OpenSpec.upto canonMoreSpec)) canonMoreUptoCard
end Rows
end Go.Proofs.YtgmigeehfhkimaaDoor
