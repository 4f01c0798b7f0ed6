/-
  DERIVED. GIVEN WITH THE SEED: THE CARDS: each row of YtamdjbpgkiekcaaGreatDoorRows.lean that lists a variable, with what it lists TIED to the program's text (the seventh form; the later family's looks); each row that meets fmt, with fmt's text TOLD by the authors' own Lean function (tested against real Go, not proved from fmt's source: count such statements apart). THE CARD IS WHAT COUNTS. Prove the row's statement (the work); the ties are given (YtamdjbpgkiekcaaGreatDoorTie.lean); close each card by the builder's one call (the guide's Derived/Test/ToyasCard.lean, 'card_holds'). Laid BY PROGRAM, IN A SANDBOX (cutbox-door.mjs). By AI agents, Wed Nov 11 2026. No macro, syntax, notation, axiom, sorry.
-/
import Derived.Test.YtamdjbpgkiekcaaGreatDoorRows
import GoSem.ClaimSeven
namespace Go.Proofs.YtamdjbpgkiekcaaGreatDoor
namespace Rows

/-- THE TIED CARD OF 'lustrumlaw20.RelateIs'. -/
def relateIsCard : Claim7 := { stood := { row := relateIsRow, standIns := [], harness := (true, "04eff767085fb4328c4b19b08c41b62cd2863662db674d34e019b821152749b1"), looks := true }, kinds := [], alts := [], laidByText := true, laidKinds := [.data, .data, .data], laidTests := true, laidLooks := .later }
def RelateIsCardSaid : Prop := Claim7.holds Tryz.pinned (.plain (OpenSpec.ofChange relateIsSpec)) relateIsCard

/-- THE TIED CARD OF 'lustrumlaw20.RelateAll'. -/
def relateAllCard : Claim7 := { stood := { row := relateAllRow, standIns := [], harness := (true, "04eff767085fb4328c4b19b08c41b62cd2863662db674d34e019b821152749b1"), looks := true }, kinds := [], alts := [], laidByText := true, laidKinds := [.data, .data, .data], laidTests := true, laidLooks := .later }
def RelateAllCardSaid : Prop := Claim7.holds Tryz.pinned (.plain (OpenSpec.ofChange relateAllSpec)) relateAllCard

/-- THE TIED CARD OF 'lustrumlaw20.RelateSound'. -/
def relateSoundCard : Claim7 := { stood := { row := relateSoundRow, standIns := [], harness := (true, "04eff767085fb4328c4b19b08c41b62cd2863662db674d34e019b821152749b1"), looks := true }, kinds := [], alts := [], laidByText := true, laidKinds := [.data, .data, .data], laidTests := true, laidLooks := .later }
def RelateSoundCardSaid : Prop := Claim7.holds Tryz.pinned (.plain (OpenSpec.ofChange relateSoundSpec)) relateSoundCard

/-- THE TIED CARD OF 'lustrumlaw20.RelateInverse'. -/
def relateInverseCard : Claim7 := { stood := { row := relateInverseRow, standIns := [], harness := (true, "04eff767085fb4328c4b19b08c41b62cd2863662db674d34e019b821152749b1"), looks := true }, kinds := [], alts := [], laidByText := true, laidKinds := [.data, .data, .data], laidTests := true, laidLooks := .later }
def RelateInverseCardSaid : Prop := Claim7.holds Tryz.pinned (.plain (OpenSpec.ofChange relateInverseSpec)) relateInverseCard

/-- THE TIED CARD OF 'lustrumlaw20.RelateMore'. -/
def relateMoreCard : Claim7 := { stood := { row := relateMoreRow, standIns := [], harness := (true, "04eff767085fb4328c4b19b08c41b62cd2863662db674d34e019b821152749b1"), looks := true }, kinds := [], alts := [], laidByText := true, laidKinds := [.data, .data, .data], laidTests := true, laidLooks := .later }
def RelateMoreCardSaid : Prop := Claim7.holds Tryz.pinned (.plain (OpenSpec.ofChange relateMoreSpec)) relateMoreCard

/-- THE TIED CARD OF 'lustrumlaw20.RelateMust'. -/
def relateMustCard : Claim7 := { stood := { row := relateMustRow, standIns := [], harness := (true, "04eff767085fb4328c4b19b08c41b62cd2863662db674d34e019b821152749b1"), looks := true }, kinds := [], alts := [], laidByText := true, laidKinds := [.data, .data, .data], laidTests := true, laidLooks := .later }
def RelateMustCardSaid : Prop := Claim7.holds Tryz.pinned (.plain (OpenSpec.ofChange relateMustSpec)) relateMustCard

/-- THE TIED CARD OF 'lustrumlaw20.RelateWide'. -/
def relateWideCard : Claim7 := { stood := { row := relateWideRow, standIns := [], harness := (true, "04eff767085fb4328c4b19b08c41b62cd2863662db674d34e019b821152749b1"), looks := true }, kinds := [], alts := [], laidByText := true, laidKinds := [.data, .data, .data], laidTests := true, laidLooks := .later }
def RelateWideCardSaid : Prop := Claim7.holds Tryz.pinned (.plain (OpenSpec.ofChange relateWideSpec)) relateWideCard

/-- THE TIED CARD OF 'lustrumlaw21.OrderRelates'. -/
def orderRelatesCard : Claim7 := { stood := { row := orderRelatesRow, standIns := [], harness := (true, "04eff767085fb4328c4b19b08c41b62cd2863662db674d34e019b821152749b1"), looks := true }, kinds := [], alts := [], laidByText := true, laidKinds := [.data, .data, .data], laidTests := true, laidLooks := .later }
def OrderRelatesCardSaid : Prop := Claim7.holds Tryz.pinned (.plain (OpenSpec.ofChange orderRelatesSpec)) orderRelatesCard

/-- THE SECOND FORM's CARD OF 'lustrumlaw20.RelateIs'. -/
def relateIsUptoCard : Claim7 := { stood := { row := relateIsUptoRow, standIns := [], harness := (true, "04eff767085fb4328c4b19b08c41b62cd2863662db674d34e019b821152749b1"), looks := true }, kinds := [], alts := [], laidByText := true, laidKinds := [.data, .data, .data], laidTests := true, laidLooks := .later }
def RelateIsUptoCardSaid : Prop := Claim7.holds Tryz.pinned (.plain (OpenSpec.upto relateIsSpec)) relateIsUptoCard

/-- THE SECOND FORM's CARD OF 'lustrumlaw20.RelateAll'. -/
def relateAllUptoCard : Claim7 := { stood := { row := relateAllUptoRow, standIns := [], harness := (true, "04eff767085fb4328c4b19b08c41b62cd2863662db674d34e019b821152749b1"), looks := true }, kinds := [], alts := [], laidByText := true, laidKinds := [.data, .data, .data], laidTests := true, laidLooks := .later }
def RelateAllUptoCardSaid : Prop := Claim7.holds Tryz.pinned (.plain (OpenSpec.upto relateAllSpec)) relateAllUptoCard

/-- THE SECOND FORM's CARD OF 'lustrumlaw20.RelateSound'. -/
def relateSoundUptoCard : Claim7 := { stood := { row := relateSoundUptoRow, standIns := [], harness := (true, "04eff767085fb4328c4b19b08c41b62cd2863662db674d34e019b821152749b1"), looks := true }, kinds := [], alts := [], laidByText := true, laidKinds := [.data, .data, .data], laidTests := true, laidLooks := .later }
def RelateSoundUptoCardSaid : Prop := Claim7.holds Tryz.pinned (.plain (OpenSpec.upto relateSoundSpec)) relateSoundUptoCard

/-- THE SECOND FORM's CARD OF 'lustrumlaw20.RelateInverse'. -/
def relateInverseUptoCard : Claim7 := { stood := { row := relateInverseUptoRow, standIns := [], harness := (true, "04eff767085fb4328c4b19b08c41b62cd2863662db674d34e019b821152749b1"), looks := true }, kinds := [], alts := [], laidByText := true, laidKinds := [.data, .data, .data], laidTests := true, laidLooks := .later }
def RelateInverseUptoCardSaid : Prop := Claim7.holds Tryz.pinned (.plain (OpenSpec.upto relateInverseSpec)) relateInverseUptoCard

/-- THE SECOND FORM's CARD OF 'lustrumlaw20.RelateMore'. -/
def relateMoreUptoCard : Claim7 := { stood := { row := relateMoreUptoRow, standIns := [], harness := (true, "04eff767085fb4328c4b19b08c41b62cd2863662db674d34e019b821152749b1"), looks := true }, kinds := [], alts := [], laidByText := true, laidKinds := [.data, .data, .data], laidTests := true, laidLooks := .later }
def RelateMoreUptoCardSaid : Prop := Claim7.holds Tryz.pinned (.plain (OpenSpec.upto relateMoreSpec)) relateMoreUptoCard

/-- THE SECOND FORM's CARD OF 'lustrumlaw20.RelateMust'. -/
def relateMustUptoCard : Claim7 := { stood := { row := relateMustUptoRow, standIns := [], harness := (true, "04eff767085fb4328c4b19b08c41b62cd2863662db674d34e019b821152749b1"), looks := true }, kinds := [], alts := [], laidByText := true, laidKinds := [.data, .data, .data], laidTests := true, laidLooks := .later }
def RelateMustUptoCardSaid : Prop := Claim7.holds Tryz.pinned (.plain (OpenSpec.upto relateMustSpec)) relateMustUptoCard

/-- THE SECOND FORM's CARD OF 'lustrumlaw20.RelateWide'. -/
def relateWideUptoCard : Claim7 := { stood := { row := relateWideUptoRow, standIns := [], harness := (true, "04eff767085fb4328c4b19b08c41b62cd2863662db674d34e019b821152749b1"), looks := true }, kinds := [], alts := [], laidByText := true, laidKinds := [.data, .data, .data], laidTests := true, laidLooks := .later }
def RelateWideUptoCardSaid : Prop := Claim7.holds Tryz.pinned (.plain (OpenSpec.upto relateWideSpec)) relateWideUptoCard

/-- THE SECOND FORM's CARD OF 'lustrumlaw21.OrderRelates'. -/
def orderRelatesUptoCard : Claim7 := { stood := { row := orderRelatesUptoRow, standIns := [], harness := (true, "04eff767085fb4328c4b19b08c41b62cd2863662db674d34e019b821152749b1"), looks := true }, kinds := [], alts := [], laidByText := true, laidKinds := [.data, .data, .data], laidTests := true, laidLooks := .later }
def OrderRelatesUptoCardSaid : Prop := Claim7.holds Tryz.pinned (.plain (OpenSpec.upto orderRelatesSpec)) orderRelatesUptoCard
end Rows
end Go.Proofs.YtamdjbpgkiekcaaGreatDoor
