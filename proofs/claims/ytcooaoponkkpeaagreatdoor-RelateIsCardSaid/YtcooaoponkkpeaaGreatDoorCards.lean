/-
  DERIVED. GIVEN WITH THE SEED: THE CARDS: each row of YtcooaoponkkpeaaGreatDoorRows.lean that lists a variable, with what it lists TIED to the program's text (the seventh form; the later family's looks); each row that meets fmt, with fmt's text TOLD by the authors' own Lean function (tested against real Go, not proved from fmt's source: count such statements apart). THE CARD IS WHAT COUNTS. Prove the row's statement (the work); the ties are given (YtcooaoponkkpeaaGreatDoorTie.lean); close each card by the builder's one call (the guide's Derived/Test/ToyasCard.lean, 'card_holds'). Laid BY PROGRAM, IN A SANDBOX (cutbox-door.mjs). By AI agents, Wed Nov 11 2026. No macro, syntax, notation, axiom, sorry.
-/
import Derived.Test.YtcooaoponkkpeaaGreatDoorRows
import GoSem.ClaimSeven
namespace Go.Proofs.YtcooaoponkkpeaaGreatDoor
namespace Rows

/-- THE TIED CARD OF 'lustrumlaw20.RelateIs'. -/
def relateIsCard : Claim7 := { stood := { row := relateIsRow, standIns := [], harness := (true, "0eec72bcdc80bba65401b7a9da2ce65b0f11df90530841017fc52a5ceceb0c48"), looks := true }, kinds := [], alts := [], laidByText := true, laidKinds := [.data, .data, .data], laidTests := true, laidLooks := .later }
def RelateIsCardSaid : Prop := Claim7.holds Tryz.pinned (.plain (OpenSpec.ofChange relateIsSpec)) relateIsCard

/-- THE TIED CARD OF 'lustrumlaw22.NarrowIs'. -/
def narrowIsCard : Claim7 := { stood := { row := narrowIsRow, standIns := [], harness := (true, "0eec72bcdc80bba65401b7a9da2ce65b0f11df90530841017fc52a5ceceb0c48"), looks := true }, kinds := [], alts := [], laidByText := true, laidKinds := [.data, .data], laidTests := true, laidLooks := .later }
def NarrowIsCardSaid : Prop := Claim7.holds Tryz.pinned (.plain (OpenSpec.ofChange narrowIsSpec)) narrowIsCard

/-- THE SECOND FORM's CARD OF 'lustrumlaw20.RelateIs'. -/
def relateIsUptoCard : Claim7 := { stood := { row := relateIsUptoRow, standIns := [], harness := (true, "0eec72bcdc80bba65401b7a9da2ce65b0f11df90530841017fc52a5ceceb0c48"), looks := true }, kinds := [], alts := [], laidByText := true, laidKinds := [.data, .data, .data], laidTests := true, laidLooks := .later }
def RelateIsUptoCardSaid : Prop := Claim7.holds Tryz.pinned (.plain (OpenSpec.upto relateIsSpec)) relateIsUptoCard

/-- THE SECOND FORM's CARD OF 'lustrumlaw22.NarrowIs'. -/
def narrowIsUptoCard : Claim7 := { stood := { row := narrowIsUptoRow, standIns := [], harness := (true, "0eec72bcdc80bba65401b7a9da2ce65b0f11df90530841017fc52a5ceceb0c48"), looks := true }, kinds := [], alts := [], laidByText := true, laidKinds := [.data, .data], laidTests := true, laidLooks := .later }
def NarrowIsUptoCardSaid : Prop := Claim7.holds Tryz.pinned (.plain (OpenSpec.upto narrowIsSpec)) narrowIsUptoCard
end Rows
end Go.Proofs.YtcooaoponkkpeaaGreatDoor
