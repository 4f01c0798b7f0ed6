/-
  DERIVED. GIVEN WITH THE SEED: THE CARDS: each row of YtinpglfclbnhlaaGreatDoorRows.lean that lists a variable, with what it lists TIED to the program's text (the seventh form; the later family's looks); each row that meets fmt, with fmt's text TOLD by the authors' own Lean function (tested against real Go, not proved from fmt's source: count such statements apart). THE CARD IS WHAT COUNTS. Prove the row's statement (the work); the ties are given (YtinpglfclbnhlaaGreatDoorTie.lean); close each card by the builder's one call (the guide's Derived/Test/ToyasCard.lean, 'card_holds'). Laid BY PROGRAM, IN A SANDBOX (cutbox-door.mjs). By AI agents, Wed Nov 11 2026. No macro, syntax, notation, axiom, sorry.
-/
import Derived.Test.YtinpglfclbnhlaaGreatDoorRows
import GoSem.ClaimSeven
namespace Go.Proofs.YtinpglfclbnhlaaGreatDoor
namespace Rows

/-- THE TIED CARD OF 'lustrumlaw08.PointIs'. -/
def pointIsCard : Claim7 := { stood := { row := pointIsRow, standIns := [], harness := (true, "6e2658818e3da2488708b511f84ac48bfc69579b74d4e0f55ef1d98f1401e169"), looks := false }, kinds := [], alts := [], laidByText := true, laidKinds := [.data, .data, .data, .data], laidTests := true, laidLooks := .later }
def PointIsCardSaid : Prop := Claim7.holds Tryz.pinned (.plain (OpenSpec.ofChange pointIsSpec)) pointIsCard

/-- THE SECOND FORM's CARD OF 'lustrumlaw08.PointIs'. -/
def pointIsUptoCard : Claim7 := { stood := { row := pointIsUptoRow, standIns := [], harness := (true, "6e2658818e3da2488708b511f84ac48bfc69579b74d4e0f55ef1d98f1401e169"), looks := false }, kinds := [], alts := [], laidByText := true, laidKinds := [.data, .data, .data, .data], laidTests := true, laidLooks := .later }
def PointIsUptoCardSaid : Prop := Claim7.holds Tryz.pinned (.plain (OpenSpec.upto pointIsSpec)) pointIsUptoCard
end Rows
end Go.Proofs.YtinpglfclbnhlaaGreatDoor
