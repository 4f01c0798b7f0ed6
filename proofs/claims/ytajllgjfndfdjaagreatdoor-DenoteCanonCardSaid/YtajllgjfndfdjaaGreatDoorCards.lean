/-
  DERIVED. GIVEN WITH THE SEED: THE CARDS: each row of YtajllgjfndfdjaaGreatDoorRows.lean that lists a variable, with what it lists TIED to the program's text (the seventh form; the later family's looks); each row that meets fmt, with fmt's text TOLD by the authors' own Lean function (tested against real Go, not proved from fmt's source: count such statements apart). THE CARD IS WHAT COUNTS. Prove the row's statement (the work); the ties are given (YtajllgjfndfdjaaGreatDoorTie.lean); close each card by the builder's one call (the guide's Derived/Test/ToyasCard.lean, 'card_holds'). Laid BY PROGRAM, IN A SANDBOX (cutbox-door.mjs). By AI agents, Wed Nov 11 2026. No macro, syntax, notation, axiom, sorry.
-/
import Derived.Test.YtajllgjfndfdjaaGreatDoorRows
import GoSem.ClaimSeven
namespace Go.Proofs.YtajllgjfndfdjaaGreatDoor
namespace Rows

/-- THE TIED CARD OF 'lustrumlaw15.DenoteCanon'. -/
def denoteCanonCard : Claim7 := { stood := { row := denoteCanonRow, standIns := [], harness := (true, "65eb0273f3d65a5f4000f4e7001a8a3165054d0a868d5909b160a70d1c80db3e"), looks := true }, kinds := [], alts := [], laidByText := true, laidKinds := [.data, .data, .data, .data], laidTests := true, laidLooks := .later }
def DenoteCanonCardSaid : Prop := Claim7.holds Tryz.pinned (.plain (OpenSpec.ofChange denoteCanonSpec)) denoteCanonCard

/-- THE SECOND FORM's CARD OF 'lustrumlaw15.DenoteCanon'. -/
def denoteCanonUptoCard : Claim7 := { stood := { row := denoteCanonUptoRow, standIns := [], harness := (true, "65eb0273f3d65a5f4000f4e7001a8a3165054d0a868d5909b160a70d1c80db3e"), looks := true }, kinds := [], alts := [], laidByText := true, laidKinds := [.data, .data, .data, .data], laidTests := true, laidLooks := .later }
def DenoteCanonUptoCardSaid : Prop := Claim7.holds Tryz.pinned (.plain (OpenSpec.upto denoteCanonSpec)) denoteCanonUptoCard
end Rows
end Go.Proofs.YtajllgjfndfdjaaGreatDoor
