/-
  DERIVED. GIVEN WITH THE SEED: THE CARDS: each row of YtfopcacoacedcaaDoorRows.lean that lists a variable, with what it lists TIED to the program's text (the seventh form; the later family's looks); each row that meets fmt, with fmt's text TOLD by the authors' own Lean function (tested against real Go, not proved from fmt's source: count such statements apart). THE CARD IS WHAT COUNTS. Prove the row's statement (the work); the ties are given (YtfopcacoacedcaaDoorTie.lean); close each card by the builder's one call (the guide's Derived/Test/ToyasCard.lean, 'card_holds'). Laid BY PROGRAM, IN A SANDBOX (cutbox-door.mjs). By AI agents, Wed Nov 11 2026. No macro, syntax, notation, axiom, sorry.
-/
import Derived.Test.YtfopcacoacedcaaDoorRows
import GoSem.ClaimSeven
namespace Go.Proofs.YtfopcacoacedcaaDoor
namespace Rows

/-- THE TIED CARD OF 'lustrumlaw03.UnitIs'. -/
def unitIsCard : Claim7 := { stood := { row := unitIsRow, standIns := [], harness := (true, "b7e7b87fd20cf6d11d185988662f4e07c25131c41b15bc0955c7b32d0693636a"), looks := false }, kinds := [], alts := [], laidByText := true, laidKinds := [.data, .data], laidTests := true, laidLooks := .later }
def UnitIsCardSaid : Prop := Claim7.holds Tryd.pinned (.plain (OpenSpec.ofChange unitIsSpec)) unitIsCard

/-- THE TIED CARD OF 'lustrumlaw03.UnitRows'. -/
def unitRowsCard : Claim7 := { stood := { row := unitRowsRow, standIns := [], harness := (true, "b7e7b87fd20cf6d11d185988662f4e07c25131c41b15bc0955c7b32d0693636a"), looks := false }, kinds := [], alts := [], laidByText := true, laidKinds := [.data, .data], laidTests := true, laidLooks := .later }
def UnitRowsCardSaid : Prop := Claim7.holds Tryd.pinned (.plain (OpenSpec.ofChange unitRowsSpec)) unitRowsCard

/-- THE TIED CARD OF 'lustrumlaw03.UnitOf'. -/
def unitOfCard : Claim7 := { stood := { row := unitOfRow, standIns := [], harness := (true, "b7e7b87fd20cf6d11d185988662f4e07c25131c41b15bc0955c7b32d0693636a"), looks := false }, kinds := [], alts := [], laidByText := true, laidKinds := [.data, .data], laidTests := true, laidLooks := .later }
def UnitOfCardSaid : Prop := Claim7.holds Tryd.pinned (.plain (OpenSpec.ofChange unitOfSpec)) unitOfCard

/-- THE TIED CARD OF 'lustrumlaw03.UnitWithin'. -/
def unitWithinCard : Claim7 := { stood := { row := unitWithinRow, standIns := [], harness := (true, "b7e7b87fd20cf6d11d185988662f4e07c25131c41b15bc0955c7b32d0693636a"), looks := false }, kinds := [], alts := [], laidByText := true, laidKinds := [.data, .data], laidTests := true, laidLooks := .later }
def UnitWithinCardSaid : Prop := Claim7.holds Tryd.pinned (.plain (OpenSpec.ofChange unitWithinSpec)) unitWithinCard

/-- THE TIED CARD OF 'lustrumlaw03.UnitSizes'. -/
def unitSizesCard : Claim7 := { stood := { row := unitSizesRow, standIns := [], harness := (true, "b7e7b87fd20cf6d11d185988662f4e07c25131c41b15bc0955c7b32d0693636a"), looks := false }, kinds := [], alts := [], laidByText := true, laidKinds := [.data, .data], laidTests := true, laidLooks := .later }
def UnitSizesCardSaid : Prop := Claim7.holds Tryd.pinned (.plain (OpenSpec.ofChange unitSizesSpec)) unitSizesCard

/-- THE TIED CARD OF 'lustrumlaw03.UnitMade'. -/
def unitMadeCard : Claim7 := { stood := { row := unitMadeRow, standIns := [], harness := (true, "b7e7b87fd20cf6d11d185988662f4e07c25131c41b15bc0955c7b32d0693636a"), looks := false }, kinds := [], alts := [], laidByText := true, laidKinds := [.data, .data], laidTests := true, laidLooks := .later }
def UnitMadeCardSaid : Prop := Claim7.holds Tryd.pinned (.plain (OpenSpec.ofChange unitMadeSpec)) unitMadeCard

/-- THE SECOND FORM's CARD OF 'lustrumlaw03.UnitIs'. -/
def unitIsUptoCard : Claim7 := { stood := { row := unitIsUptoRow, standIns := [], harness := (true, "b7e7b87fd20cf6d11d185988662f4e07c25131c41b15bc0955c7b32d0693636a"), looks := false }, kinds := [], alts := [], laidByText := true, laidKinds := [.data, .data], laidTests := true, laidLooks := .later }
def UnitIsUptoCardSaid : Prop := Claim7.holds Tryd.pinned (.plain (OpenSpec.upto unitIsSpec)) unitIsUptoCard

/-- THE SECOND FORM's CARD OF 'lustrumlaw03.UnitRows'. -/
def unitRowsUptoCard : Claim7 := { stood := { row := unitRowsUptoRow, standIns := [], harness := (true, "b7e7b87fd20cf6d11d185988662f4e07c25131c41b15bc0955c7b32d0693636a"), looks := false }, kinds := [], alts := [], laidByText := true, laidKinds := [.data, .data], laidTests := true, laidLooks := .later }
def UnitRowsUptoCardSaid : Prop := Claim7.holds Tryd.pinned (.plain (OpenSpec.upto unitRowsSpec)) unitRowsUptoCard

/-- THE SECOND FORM's CARD OF 'lustrumlaw03.UnitOf'. -/
def unitOfUptoCard : Claim7 := { stood := { row := unitOfUptoRow, standIns := [], harness := (true, "b7e7b87fd20cf6d11d185988662f4e07c25131c41b15bc0955c7b32d0693636a"), looks := false }, kinds := [], alts := [], laidByText := true, laidKinds := [.data, .data], laidTests := true, laidLooks := .later }
def UnitOfUptoCardSaid : Prop := Claim7.holds Tryd.pinned (.plain (OpenSpec.upto unitOfSpec)) unitOfUptoCard

/-- THE SECOND FORM's CARD OF 'lustrumlaw03.UnitWithin'. -/
def unitWithinUptoCard : Claim7 := { stood := { row := unitWithinUptoRow, standIns := [], harness := (true, "b7e7b87fd20cf6d11d185988662f4e07c25131c41b15bc0955c7b32d0693636a"), looks := false }, kinds := [], alts := [], laidByText := true, laidKinds := [.data, .data], laidTests := true, laidLooks := .later }
def UnitWithinUptoCardSaid : Prop := Claim7.holds Tryd.pinned (.plain (OpenSpec.upto unitWithinSpec)) unitWithinUptoCard

/-- THE SECOND FORM's CARD OF 'lustrumlaw03.UnitSizes'. -/
def unitSizesUptoCard : Claim7 := { stood := { row := unitSizesUptoRow, standIns := [], harness := (true, "b7e7b87fd20cf6d11d185988662f4e07c25131c41b15bc0955c7b32d0693636a"), looks := false }, kinds := [], alts := [], laidByText := true, laidKinds := [.data, .data], laidTests := true, laidLooks := .later }
def UnitSizesUptoCardSaid : Prop := Claim7.holds Tryd.pinned (.plain (OpenSpec.upto unitSizesSpec)) unitSizesUptoCard

/-- THE SECOND FORM's CARD OF 'lustrumlaw03.UnitMade'. -/
def unitMadeUptoCard : Claim7 := { stood := { row := unitMadeUptoRow, standIns := [], harness := (true, "b7e7b87fd20cf6d11d185988662f4e07c25131c41b15bc0955c7b32d0693636a"), looks := false }, kinds := [], alts := [], laidByText := true, laidKinds := [.data, .data], laidTests := true, laidLooks := .later }
def UnitMadeUptoCardSaid : Prop := Claim7.holds Tryd.pinned (.plain (OpenSpec.upto unitMadeSpec)) unitMadeUptoCard
end Rows
end Go.Proofs.YtfopcacoacedcaaDoor
