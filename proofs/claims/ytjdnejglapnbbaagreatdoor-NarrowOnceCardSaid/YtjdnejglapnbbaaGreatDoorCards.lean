/-
  DERIVED. GIVEN WITH THE SEED: THE CARDS: each row of YtjdnejglapnbbaaGreatDoorRows.lean that lists a variable, with what it lists TIED to the program's text (the seventh form; the later family's looks); each row that meets fmt, with fmt's text TOLD by the authors' own Lean function (tested against real Go, not proved from fmt's source: count such statements apart). THE CARD IS WHAT COUNTS. Prove the row's statement (the work); the ties are given (YtjdnejglapnbbaaGreatDoorTie.lean); close each card by the builder's one call (the guide's Derived/Test/ToyasCard.lean, 'card_holds'). Laid BY PROGRAM, IN A SANDBOX (cutbox-door.mjs). By AI agents, Wed Nov 11 2026. No macro, syntax, notation, axiom, sorry.
-/
import Derived.Test.YtjdnejglapnbbaaGreatDoorRows
import GoSem.ClaimSeven
namespace Go.Proofs.YtjdnejglapnbbaaGreatDoor
namespace Rows

/-- THE TIED CARD OF 'lustrumlaw20.RelateIs'. -/
def relateIsCard : Claim7 := { stood := { row := relateIsRow, standIns := [], harness := (true, "15e8f1cbd6bc371390604d01ccaf0ec23210404b8c78389aa5fecd8232c92a89"), looks := true }, kinds := [], alts := [], laidByText := true, laidKinds := [.data, .data, .data], laidTests := true, laidLooks := .later }
def RelateIsCardSaid : Prop := Claim7.holds Tryz.pinned (.plain (OpenSpec.ofChange relateIsSpec)) relateIsCard

/-- THE TIED CARD OF 'lustrumlaw21.OrderRelates'. -/
def orderRelatesCard : Claim7 := { stood := { row := orderRelatesRow, standIns := [], harness := (true, "15e8f1cbd6bc371390604d01ccaf0ec23210404b8c78389aa5fecd8232c92a89"), looks := true }, kinds := [], alts := [], laidByText := true, laidKinds := [.data, .data, .data], laidTests := true, laidLooks := .later }
def OrderRelatesCardSaid : Prop := Claim7.holds Tryz.pinned (.plain (OpenSpec.ofChange orderRelatesSpec)) orderRelatesCard

/-- THE TIED CARD OF 'lustrumlaw22.NarrowIs'. -/
def narrowIsCard : Claim7 := { stood := { row := narrowIsRow, standIns := [], harness := (true, "15e8f1cbd6bc371390604d01ccaf0ec23210404b8c78389aa5fecd8232c92a89"), looks := true }, kinds := [], alts := [], laidByText := true, laidKinds := [.data, .data], laidTests := true, laidLooks := .later }
def NarrowIsCardSaid : Prop := Claim7.holds Tryz.pinned (.plain (OpenSpec.ofChange narrowIsSpec)) narrowIsCard

/-- THE TIED CARD OF 'lustrumlaw22.NarrowHas'. -/
def narrowHasCard : Claim7 := { stood := { row := narrowHasRow, standIns := [], harness := (true, "15e8f1cbd6bc371390604d01ccaf0ec23210404b8c78389aa5fecd8232c92a89"), looks := true }, kinds := [], alts := [], laidByText := true, laidKinds := [.data, .data], laidTests := true, laidLooks := .later }
def NarrowHasCardSaid : Prop := Claim7.holds Tryz.pinned (.plain (OpenSpec.ofChange narrowHasSpec)) narrowHasCard

/-- THE TIED CARD OF 'lustrumlaw22.NarrowAll'. -/
def narrowAllCard : Claim7 := { stood := { row := narrowAllRow, standIns := [], harness := (true, "15e8f1cbd6bc371390604d01ccaf0ec23210404b8c78389aa5fecd8232c92a89"), looks := true }, kinds := [], alts := [], laidByText := true, laidKinds := [.data, .data], laidTests := true, laidLooks := .later }
def NarrowAllCardSaid : Prop := Claim7.holds Tryz.pinned (.plain (OpenSpec.ofChange narrowAllSpec)) narrowAllCard

/-- THE TIED CARD OF 'lustrumlaw22.NarrowFree'. -/
def narrowFreeCard : Claim7 := { stood := { row := narrowFreeRow, standIns := [], harness := (true, "15e8f1cbd6bc371390604d01ccaf0ec23210404b8c78389aa5fecd8232c92a89"), looks := true }, kinds := [], alts := [], laidByText := true, laidKinds := [.data, .data], laidTests := true, laidLooks := .later }
def NarrowFreeCardSaid : Prop := Claim7.holds Tryz.pinned (.plain (OpenSpec.ofChange narrowFreeSpec)) narrowFreeCard

/-- THE TIED CARD OF 'lustrumlaw22.NarrowOnce'. -/
def narrowOnceCard : Claim7 := { stood := { row := narrowOnceRow, standIns := [], harness := (true, "15e8f1cbd6bc371390604d01ccaf0ec23210404b8c78389aa5fecd8232c92a89"), looks := true }, kinds := [], alts := [], laidByText := true, laidKinds := [.data, .data], laidTests := true, laidLooks := .later }
def NarrowOnceCardSaid : Prop := Claim7.holds Tryz.pinned (.plain (OpenSpec.ofChange narrowOnceSpec)) narrowOnceCard

/-- THE TIED CARD OF 'lustrumlaw22.NarrowMore'. -/
def narrowMoreCard : Claim7 := { stood := { row := narrowMoreRow, standIns := [], harness := (true, "15e8f1cbd6bc371390604d01ccaf0ec23210404b8c78389aa5fecd8232c92a89"), looks := true }, kinds := [], alts := [], laidByText := true, laidKinds := [.data, .data], laidTests := true, laidLooks := .later }
def NarrowMoreCardSaid : Prop := Claim7.holds Tryz.pinned (.plain (OpenSpec.ofChange narrowMoreSpec)) narrowMoreCard

/-- THE TIED CARD OF 'lustrumlaw22.NarrowShrinks'. -/
def narrowShrinksCard : Claim7 := { stood := { row := narrowShrinksRow, standIns := [], harness := (true, "15e8f1cbd6bc371390604d01ccaf0ec23210404b8c78389aa5fecd8232c92a89"), looks := true }, kinds := [], alts := [], laidByText := true, laidKinds := [.data, .data], laidTests := true, laidLooks := .later }
def NarrowShrinksCardSaid : Prop := Claim7.holds Tryz.pinned (.plain (OpenSpec.ofChange narrowShrinksSpec)) narrowShrinksCard

/-- THE SECOND FORM's CARD OF 'lustrumlaw20.RelateIs'. -/
def relateIsUptoCard : Claim7 := { stood := { row := relateIsUptoRow, standIns := [], harness := (true, "15e8f1cbd6bc371390604d01ccaf0ec23210404b8c78389aa5fecd8232c92a89"), looks := true }, kinds := [], alts := [], laidByText := true, laidKinds := [.data, .data, .data], laidTests := true, laidLooks := .later }
def RelateIsUptoCardSaid : Prop := Claim7.holds Tryz.pinned (.plain (OpenSpec.upto relateIsSpec)) relateIsUptoCard

/-- THE SECOND FORM's CARD OF 'lustrumlaw21.OrderRelates'. -/
def orderRelatesUptoCard : Claim7 := { stood := { row := orderRelatesUptoRow, standIns := [], harness := (true, "15e8f1cbd6bc371390604d01ccaf0ec23210404b8c78389aa5fecd8232c92a89"), looks := true }, kinds := [], alts := [], laidByText := true, laidKinds := [.data, .data, .data], laidTests := true, laidLooks := .later }
def OrderRelatesUptoCardSaid : Prop := Claim7.holds Tryz.pinned (.plain (OpenSpec.upto orderRelatesSpec)) orderRelatesUptoCard

/-- THE SECOND FORM's CARD OF 'lustrumlaw22.NarrowIs'. -/
def narrowIsUptoCard : Claim7 := { stood := { row := narrowIsUptoRow, standIns := [], harness := (true, "15e8f1cbd6bc371390604d01ccaf0ec23210404b8c78389aa5fecd8232c92a89"), looks := true }, kinds := [], alts := [], laidByText := true, laidKinds := [.data, .data], laidTests := true, laidLooks := .later }
def NarrowIsUptoCardSaid : Prop := Claim7.holds Tryz.pinned (.plain (OpenSpec.upto narrowIsSpec)) narrowIsUptoCard

/-- THE SECOND FORM's CARD OF 'lustrumlaw22.NarrowHas'. -/
def narrowHasUptoCard : Claim7 := { stood := { row := narrowHasUptoRow, standIns := [], harness := (true, "15e8f1cbd6bc371390604d01ccaf0ec23210404b8c78389aa5fecd8232c92a89"), looks := true }, kinds := [], alts := [], laidByText := true, laidKinds := [.data, .data], laidTests := true, laidLooks := .later }
def NarrowHasUptoCardSaid : Prop := Claim7.holds Tryz.pinned (.plain (OpenSpec.upto narrowHasSpec)) narrowHasUptoCard

/-- THE SECOND FORM's CARD OF 'lustrumlaw22.NarrowAll'. -/
def narrowAllUptoCard : Claim7 := { stood := { row := narrowAllUptoRow, standIns := [], harness := (true, "15e8f1cbd6bc371390604d01ccaf0ec23210404b8c78389aa5fecd8232c92a89"), looks := true }, kinds := [], alts := [], laidByText := true, laidKinds := [.data, .data], laidTests := true, laidLooks := .later }
def NarrowAllUptoCardSaid : Prop := Claim7.holds Tryz.pinned (.plain (OpenSpec.upto narrowAllSpec)) narrowAllUptoCard

/-- THE SECOND FORM's CARD OF 'lustrumlaw22.NarrowFree'. -/
def narrowFreeUptoCard : Claim7 := { stood := { row := narrowFreeUptoRow, standIns := [], harness := (true, "15e8f1cbd6bc371390604d01ccaf0ec23210404b8c78389aa5fecd8232c92a89"), looks := true }, kinds := [], alts := [], laidByText := true, laidKinds := [.data, .data], laidTests := true, laidLooks := .later }
def NarrowFreeUptoCardSaid : Prop := Claim7.holds Tryz.pinned (.plain (OpenSpec.upto narrowFreeSpec)) narrowFreeUptoCard

/-- THE SECOND FORM's CARD OF 'lustrumlaw22.NarrowOnce'. -/
def narrowOnceUptoCard : Claim7 := { stood := { row := narrowOnceUptoRow, standIns := [], harness := (true, "15e8f1cbd6bc371390604d01ccaf0ec23210404b8c78389aa5fecd8232c92a89"), looks := true }, kinds := [], alts := [], laidByText := true, laidKinds := [.data, .data], laidTests := true, laidLooks := .later }
def NarrowOnceUptoCardSaid : Prop := Claim7.holds Tryz.pinned (.plain (OpenSpec.upto narrowOnceSpec)) narrowOnceUptoCard

/-- THE SECOND FORM's CARD OF 'lustrumlaw22.NarrowMore'. -/
def narrowMoreUptoCard : Claim7 := { stood := { row := narrowMoreUptoRow, standIns := [], harness := (true, "15e8f1cbd6bc371390604d01ccaf0ec23210404b8c78389aa5fecd8232c92a89"), looks := true }, kinds := [], alts := [], laidByText := true, laidKinds := [.data, .data], laidTests := true, laidLooks := .later }
def NarrowMoreUptoCardSaid : Prop := Claim7.holds Tryz.pinned (.plain (OpenSpec.upto narrowMoreSpec)) narrowMoreUptoCard

/-- THE SECOND FORM's CARD OF 'lustrumlaw22.NarrowShrinks'. -/
def narrowShrinksUptoCard : Claim7 := { stood := { row := narrowShrinksUptoRow, standIns := [], harness := (true, "15e8f1cbd6bc371390604d01ccaf0ec23210404b8c78389aa5fecd8232c92a89"), looks := true }, kinds := [], alts := [], laidByText := true, laidKinds := [.data, .data], laidTests := true, laidLooks := .later }
def NarrowShrinksUptoCardSaid : Prop := Claim7.holds Tryz.pinned (.plain (OpenSpec.upto narrowShrinksSpec)) narrowShrinksUptoCard
end Rows
end Go.Proofs.YtjdnejglapnbbaaGreatDoor
