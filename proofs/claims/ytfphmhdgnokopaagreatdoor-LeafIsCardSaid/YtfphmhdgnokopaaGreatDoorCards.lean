/-
  DERIVED. GIVEN WITH THE SEED: THE CARDS: each row of YtfphmhdgnokopaaGreatDoorRows.lean that lists a variable, with what it lists TIED to the program's text (the seventh form; the later family's looks); each row that meets fmt, with fmt's text TOLD by the authors' own Lean function (tested against real Go, not proved from fmt's source: count such statements apart). THE CARD IS WHAT COUNTS. Prove the row's statement (the work); the ties are given (YtfphmhdgnokopaaGreatDoorTie.lean); close each card by the builder's one call (the guide's Derived/Test/ToyasCard.lean, 'card_holds'). Laid BY PROGRAM, IN A SANDBOX (cutbox-door.mjs). By AI agents, Wed Nov 11 2026. No macro, syntax, notation, axiom, sorry.
-/
import Derived.Test.YtfphmhdgnokopaaGreatDoorRows
import GoSem.ClaimSeven
namespace Go.Proofs.YtfphmhdgnokopaaGreatDoor
namespace Rows

/-- THE TIED CARD OF 'lustrumlaw14.LeafIs'. -/
def leafIsCard : Claim7 := { stood := { row := leafIsRow, standIns := [], harness := (true, "859945d5983e3f4e27a3d2dafddf918d156864a252f4c94cf8f38025aa8823c4"), looks := true }, kinds := [], alts := [], laidByText := true, laidKinds := [.data, .data], laidTests := true, laidLooks := .later }
def LeafIsCardSaid : Prop := Claim7.holds Tryz.pinned (.plain (OpenSpec.ofChange leafIsSpec)) leafIsCard

/-- THE TIED CARD OF 'lustrumlaw16.EnvIs'. -/
def envIsCard : Claim7 := { stood := { row := envIsRow, standIns := [], harness := (true, "859945d5983e3f4e27a3d2dafddf918d156864a252f4c94cf8f38025aa8823c4"), looks := true }, kinds := [], alts := [], laidByText := true, laidKinds := [.data, .data], laidTests := true, laidLooks := .later }
def EnvIsCardSaid : Prop := Claim7.holds Tryz.pinned (.plain (OpenSpec.ofChange envIsSpec)) envIsCard

/-- THE TIED CARD OF 'lustrumlaw17.CoverIs'. -/
def coverIsCard : Claim7 := { stood := { row := coverIsRow, standIns := [], harness := (true, "859945d5983e3f4e27a3d2dafddf918d156864a252f4c94cf8f38025aa8823c4"), looks := true }, kinds := [], alts := [], laidByText := true, laidKinds := [.data, .data], laidTests := true, laidLooks := .later }
def CoverIsCardSaid : Prop := Claim7.holds Tryz.pinned (.plain (OpenSpec.ofChange coverIsSpec)) coverIsCard

/-- THE TIED CARD OF 'lustrumlaw17.CoverSets'. -/
def coverSetsCard : Claim7 := { stood := { row := coverSetsRow, standIns := [], harness := (true, "859945d5983e3f4e27a3d2dafddf918d156864a252f4c94cf8f38025aa8823c4"), looks := true }, kinds := [], alts := [], laidByText := true, laidKinds := [.data, .data], laidTests := true, laidLooks := .later }
def CoverSetsCardSaid : Prop := Claim7.holds Tryz.pinned (.plain (OpenSpec.ofChange coverSetsSpec)) coverSetsCard

/-- THE TIED CARD OF 'lustrumlaw17.CoverPairs'. -/
def coverPairsCard : Claim7 := { stood := { row := coverPairsRow, standIns := [], harness := (true, "859945d5983e3f4e27a3d2dafddf918d156864a252f4c94cf8f38025aa8823c4"), looks := true }, kinds := [], alts := [], laidByText := true, laidKinds := [.data, .data], laidTests := true, laidLooks := .later }
def CoverPairsCardSaid : Prop := Claim7.holds Tryz.pinned (.plain (OpenSpec.ofChange coverPairsSpec)) coverPairsCard

/-- THE TIED CARD OF 'lustrumlaw17.CoverEnds'. -/
def coverEndsCard : Claim7 := { stood := { row := coverEndsRow, standIns := [], harness := (true, "859945d5983e3f4e27a3d2dafddf918d156864a252f4c94cf8f38025aa8823c4"), looks := true }, kinds := [], alts := [], laidByText := true, laidKinds := [.data, .data], laidTests := true, laidLooks := .later }
def CoverEndsCardSaid : Prop := Claim7.holds Tryz.pinned (.plain (OpenSpec.ofChange coverEndsSpec)) coverEndsCard

/-- THE TIED CARD OF 'lustrumlaw17.CoverMore'. -/
def coverMoreCard : Claim7 := { stood := { row := coverMoreRow, standIns := [], harness := (true, "859945d5983e3f4e27a3d2dafddf918d156864a252f4c94cf8f38025aa8823c4"), looks := true }, kinds := [], alts := [], laidByText := true, laidKinds := [.data, .data], laidTests := true, laidLooks := .later }
def CoverMoreCardSaid : Prop := Claim7.holds Tryz.pinned (.plain (OpenSpec.ofChange coverMoreSpec)) coverMoreCard

/-- THE SECOND FORM's CARD OF 'lustrumlaw14.LeafIs'. -/
def leafIsUptoCard : Claim7 := { stood := { row := leafIsUptoRow, standIns := [], harness := (true, "859945d5983e3f4e27a3d2dafddf918d156864a252f4c94cf8f38025aa8823c4"), looks := true }, kinds := [], alts := [], laidByText := true, laidKinds := [.data, .data], laidTests := true, laidLooks := .later }
def LeafIsUptoCardSaid : Prop := Claim7.holds Tryz.pinned (.plain (OpenSpec.upto leafIsSpec)) leafIsUptoCard

/-- THE SECOND FORM's CARD OF 'lustrumlaw16.EnvIs'. -/
def envIsUptoCard : Claim7 := { stood := { row := envIsUptoRow, standIns := [], harness := (true, "859945d5983e3f4e27a3d2dafddf918d156864a252f4c94cf8f38025aa8823c4"), looks := true }, kinds := [], alts := [], laidByText := true, laidKinds := [.data, .data], laidTests := true, laidLooks := .later }
def EnvIsUptoCardSaid : Prop := Claim7.holds Tryz.pinned (.plain (OpenSpec.upto envIsSpec)) envIsUptoCard

/-- THE SECOND FORM's CARD OF 'lustrumlaw17.CoverIs'. -/
def coverIsUptoCard : Claim7 := { stood := { row := coverIsUptoRow, standIns := [], harness := (true, "859945d5983e3f4e27a3d2dafddf918d156864a252f4c94cf8f38025aa8823c4"), looks := true }, kinds := [], alts := [], laidByText := true, laidKinds := [.data, .data], laidTests := true, laidLooks := .later }
def CoverIsUptoCardSaid : Prop := Claim7.holds Tryz.pinned (.plain (OpenSpec.upto coverIsSpec)) coverIsUptoCard

/-- THE SECOND FORM's CARD OF 'lustrumlaw17.CoverSets'. -/
def coverSetsUptoCard : Claim7 := { stood := { row := coverSetsUptoRow, standIns := [], harness := (true, "859945d5983e3f4e27a3d2dafddf918d156864a252f4c94cf8f38025aa8823c4"), looks := true }, kinds := [], alts := [], laidByText := true, laidKinds := [.data, .data], laidTests := true, laidLooks := .later }
def CoverSetsUptoCardSaid : Prop := Claim7.holds Tryz.pinned (.plain (OpenSpec.upto coverSetsSpec)) coverSetsUptoCard

/-- THE SECOND FORM's CARD OF 'lustrumlaw17.CoverPairs'. -/
def coverPairsUptoCard : Claim7 := { stood := { row := coverPairsUptoRow, standIns := [], harness := (true, "859945d5983e3f4e27a3d2dafddf918d156864a252f4c94cf8f38025aa8823c4"), looks := true }, kinds := [], alts := [], laidByText := true, laidKinds := [.data, .data], laidTests := true, laidLooks := .later }
def CoverPairsUptoCardSaid : Prop := Claim7.holds Tryz.pinned (.plain (OpenSpec.upto coverPairsSpec)) coverPairsUptoCard

/-- THE SECOND FORM's CARD OF 'lustrumlaw17.CoverEnds'. -/
def coverEndsUptoCard : Claim7 := { stood := { row := coverEndsUptoRow, standIns := [], harness := (true, "859945d5983e3f4e27a3d2dafddf918d156864a252f4c94cf8f38025aa8823c4"), looks := true }, kinds := [], alts := [], laidByText := true, laidKinds := [.data, .data], laidTests := true, laidLooks := .later }
def CoverEndsUptoCardSaid : Prop := Claim7.holds Tryz.pinned (.plain (OpenSpec.upto coverEndsSpec)) coverEndsUptoCard

/-- THE SECOND FORM's CARD OF 'lustrumlaw17.CoverMore'. -/
def coverMoreUptoCard : Claim7 := { stood := { row := coverMoreUptoRow, standIns := [], harness := (true, "859945d5983e3f4e27a3d2dafddf918d156864a252f4c94cf8f38025aa8823c4"), looks := true }, kinds := [], alts := [], laidByText := true, laidKinds := [.data, .data], laidTests := true, laidLooks := .later }
def CoverMoreUptoCardSaid : Prop := Claim7.holds Tryz.pinned (.plain (OpenSpec.upto coverMoreSpec)) coverMoreUptoCard
end Rows
end Go.Proofs.YtfphmhdgnokopaaGreatDoor
