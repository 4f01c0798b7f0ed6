/-
  DERIVED. GIVEN WITH THE SEED: THE CARDS: each row of YtmklpimaemogcaaGreatDoorRows.lean that lists a variable, with what it lists TIED to the program's text (the seventh form; the later family's looks); each row that meets fmt, with fmt's text TOLD by the authors' own Lean function (tested against real Go, not proved from fmt's source: count such statements apart). THE CARD IS WHAT COUNTS. Prove the row's statement (the work); the ties are given (YtmklpimaemogcaaGreatDoorTie.lean); close each card by the builder's one call (the guide's Derived/Test/ToyasCard.lean, 'card_holds'). Laid BY PROGRAM, IN A SANDBOX (cutbox-door.mjs). By AI agents, Wed Nov 11 2026. No macro, syntax, notation, axiom, sorry.
-/
import Derived.Test.YtmklpimaemogcaaGreatDoorRows
import GoSem.ClaimSeven
namespace Go.Proofs.YtmklpimaemogcaaGreatDoor
namespace Rows

/-- THE TIED CARD OF 'lustrumlaw15.DenoteSane'. -/
def denoteSaneCard : Claim7 := { stood := { row := denoteSaneRow, standIns := [], harness := (true, "1c39a7a6700fcab1389d0034742192750cf4b5d9180eb5dee34ebae7160899f2"), looks := true }, kinds := [], alts := [], laidByText := true, laidKinds := [.data, .data, .data, .data], laidTests := true, laidLooks := .later }
def DenoteSaneCardSaid : Prop := Claim7.holds Tryz.pinned (.plain (OpenSpec.ofChange denoteSaneSpec)) denoteSaneCard

/-- THE TIED CARD OF 'lustrumlaw15.DenoteList'. -/
def denoteListCard : Claim7 := { stood := { row := denoteListRow, standIns := [], harness := (true, "1c39a7a6700fcab1389d0034742192750cf4b5d9180eb5dee34ebae7160899f2"), looks := true }, kinds := [], alts := [], laidByText := true, laidKinds := [.data, .data, .data, .data], laidTests := true, laidLooks := .later }
def DenoteListCardSaid : Prop := Claim7.holds Tryz.pinned (.plain (OpenSpec.ofChange denoteListSpec)) denoteListCard

/-- THE TIED CARD OF 'lustrumlaw15.DenotePoint'. -/
def denotePointCard : Claim7 := { stood := { row := denotePointRow, standIns := [], harness := (true, "1c39a7a6700fcab1389d0034742192750cf4b5d9180eb5dee34ebae7160899f2"), looks := true }, kinds := [], alts := [], laidByText := true, laidKinds := [.data, .data, .data, .data], laidTests := true, laidLooks := .later }
def DenotePointCardSaid : Prop := Claim7.holds Tryz.pinned (.plain (OpenSpec.ofChange denotePointSpec)) denotePointCard

/-- THE TIED CARD OF 'lustrumlaw15.DenoteSpan'. -/
def denoteSpanCard : Claim7 := { stood := { row := denoteSpanRow, standIns := [], harness := (true, "1c39a7a6700fcab1389d0034742192750cf4b5d9180eb5dee34ebae7160899f2"), looks := true }, kinds := [], alts := [], laidByText := true, laidKinds := [.data, .data, .data, .data], laidTests := true, laidLooks := .later }
def DenoteSpanCardSaid : Prop := Claim7.holds Tryz.pinned (.plain (OpenSpec.ofChange denoteSpanSpec)) denoteSpanCard

/-- THE SECOND FORM's CARD OF 'lustrumlaw15.DenoteSane'. -/
def denoteSaneUptoCard : Claim7 := { stood := { row := denoteSaneUptoRow, standIns := [], harness := (true, "1c39a7a6700fcab1389d0034742192750cf4b5d9180eb5dee34ebae7160899f2"), looks := true }, kinds := [], alts := [], laidByText := true, laidKinds := [.data, .data, .data, .data], laidTests := true, laidLooks := .later }
def DenoteSaneUptoCardSaid : Prop := Claim7.holds Tryz.pinned (.plain (OpenSpec.upto denoteSaneSpec)) denoteSaneUptoCard

/-- THE SECOND FORM's CARD OF 'lustrumlaw15.DenoteList'. -/
def denoteListUptoCard : Claim7 := { stood := { row := denoteListUptoRow, standIns := [], harness := (true, "1c39a7a6700fcab1389d0034742192750cf4b5d9180eb5dee34ebae7160899f2"), looks := true }, kinds := [], alts := [], laidByText := true, laidKinds := [.data, .data, .data, .data], laidTests := true, laidLooks := .later }
def DenoteListUptoCardSaid : Prop := Claim7.holds Tryz.pinned (.plain (OpenSpec.upto denoteListSpec)) denoteListUptoCard

/-- THE SECOND FORM's CARD OF 'lustrumlaw15.DenotePoint'. -/
def denotePointUptoCard : Claim7 := { stood := { row := denotePointUptoRow, standIns := [], harness := (true, "1c39a7a6700fcab1389d0034742192750cf4b5d9180eb5dee34ebae7160899f2"), looks := true }, kinds := [], alts := [], laidByText := true, laidKinds := [.data, .data, .data, .data], laidTests := true, laidLooks := .later }
def DenotePointUptoCardSaid : Prop := Claim7.holds Tryz.pinned (.plain (OpenSpec.upto denotePointSpec)) denotePointUptoCard

/-- THE SECOND FORM's CARD OF 'lustrumlaw15.DenoteSpan'. -/
def denoteSpanUptoCard : Claim7 := { stood := { row := denoteSpanUptoRow, standIns := [], harness := (true, "1c39a7a6700fcab1389d0034742192750cf4b5d9180eb5dee34ebae7160899f2"), looks := true }, kinds := [], alts := [], laidByText := true, laidKinds := [.data, .data, .data, .data], laidTests := true, laidLooks := .later }
def DenoteSpanUptoCardSaid : Prop := Claim7.holds Tryz.pinned (.plain (OpenSpec.upto denoteSpanSpec)) denoteSpanUptoCard
end Rows
end Go.Proofs.YtmklpimaemogcaaGreatDoor
