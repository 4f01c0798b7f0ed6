/-
  DERIVED. GIVEN WITH THE SEED: THE CARDS: each row of YtbahhgpaafgpoaaDoorRows.lean that lists a variable, with what it lists TIED to the program's text (the seventh form; the later family's looks); each row that meets fmt, with fmt's text TOLD by the authors' own Lean function (tested against real Go, not proved from fmt's source: count such statements apart). THE CARD IS WHAT COUNTS. Prove the row's statement (the work); the ties are given (YtbahhgpaafgpoaaDoorTie.lean); close each card by the builder's one call (the guide's Derived/Test/ToyasCard.lean, 'card_holds'). Laid BY PROGRAM, IN A SANDBOX (cutbox-door.mjs). By AI agents, Wed Nov 11 2026. No macro, syntax, notation, axiom, sorry.
-/
import Derived.Test.YtbahhgpaafgpoaaDoorRows
import GoSem.ClaimSeven
namespace Go.Proofs.YtbahhgpaafgpoaaDoor
namespace Rows

/-- THE TIED CARD OF 'lustrumlaw14.LeafPairs'. -/
def leafPairsCard : Claim7 := { stood := { row := leafPairsRow, standIns := [], harness := (true, "66d1a391ce4d026387661a7a7f44a621c6ba5089ff549d23fdc68071fccdd39c"), looks := true }, kinds := [], alts := [], laidByText := true, laidKinds := [.data, .data], laidTests := true, laidLooks := .later }
def LeafPairsCardSaid : Prop := Claim7.holds Tryd.pinned (.plain (OpenSpec.ofChange leafPairsSpec)) leafPairsCard

/-- THE TIED CARD OF 'lustrumlaw14.LeafTidy'. -/
def leafTidyCard : Claim7 := { stood := { row := leafTidyRow, standIns := [], harness := (true, "66d1a391ce4d026387661a7a7f44a621c6ba5089ff549d23fdc68071fccdd39c"), looks := true }, kinds := [], alts := [], laidByText := true, laidKinds := [.data, .data], laidTests := true, laidLooks := .later }
def LeafTidyCardSaid : Prop := Claim7.holds Tryd.pinned (.plain (OpenSpec.ofChange leafTidySpec)) leafTidyCard

/-- THE TIED CARD OF 'lustrumlaw14.LeafMore'. -/
def leafMoreCard : Claim7 := { stood := { row := leafMoreRow, standIns := [], harness := (true, "66d1a391ce4d026387661a7a7f44a621c6ba5089ff549d23fdc68071fccdd39c"), looks := true }, kinds := [], alts := [], laidByText := true, laidKinds := [.data, .data], laidTests := true, laidLooks := .later }
def LeafMoreCardSaid : Prop := Claim7.holds Tryd.pinned (.plain (OpenSpec.ofChange leafMoreSpec)) leafMoreCard

/-- THE TIED CARD OF 'lustrumlaw16.EnvPairs'. -/
def envPairsCard : Claim7 := { stood := { row := envPairsRow, standIns := [], harness := (true, "66d1a391ce4d026387661a7a7f44a621c6ba5089ff549d23fdc68071fccdd39c"), looks := true }, kinds := [], alts := [], laidByText := true, laidKinds := [.data, .data], laidTests := true, laidLooks := .later }
def EnvPairsCardSaid : Prop := Claim7.holds Tryd.pinned (.plain (OpenSpec.ofChange envPairsSpec)) envPairsCard

/-- THE TIED CARD OF 'lustrumlaw16.EnvMet'. -/
def envMetCard : Claim7 := { stood := { row := envMetRow, standIns := [], harness := (true, "66d1a391ce4d026387661a7a7f44a621c6ba5089ff549d23fdc68071fccdd39c"), looks := true }, kinds := [], alts := [], laidByText := true, laidKinds := [.data, .data], laidTests := true, laidLooks := .later }
def EnvMetCardSaid : Prop := Claim7.holds Tryd.pinned (.plain (OpenSpec.ofChange envMetSpec)) envMetCard

/-- THE TIED CARD OF 'lustrumlaw16.EnvMore'. -/
def envMoreCard : Claim7 := { stood := { row := envMoreRow, standIns := [], harness := (true, "66d1a391ce4d026387661a7a7f44a621c6ba5089ff549d23fdc68071fccdd39c"), looks := true }, kinds := [], alts := [], laidByText := true, laidKinds := [.data, .data], laidTests := true, laidLooks := .later }
def EnvMoreCardSaid : Prop := Claim7.holds Tryd.pinned (.plain (OpenSpec.ofChange envMoreSpec)) envMoreCard

/-- THE SECOND FORM's CARD OF 'lustrumlaw14.LeafPairs'. -/
def leafPairsUptoCard : Claim7 := { stood := { row := leafPairsUptoRow, standIns := [], harness := (true, "66d1a391ce4d026387661a7a7f44a621c6ba5089ff549d23fdc68071fccdd39c"), looks := true }, kinds := [], alts := [], laidByText := true, laidKinds := [.data, .data], laidTests := true, laidLooks := .later }
def LeafPairsUptoCardSaid : Prop := Claim7.holds Tryd.pinned (.plain (OpenSpec.upto leafPairsSpec)) leafPairsUptoCard

/-- THE SECOND FORM's CARD OF 'lustrumlaw14.LeafTidy'. -/
def leafTidyUptoCard : Claim7 := { stood := { row := leafTidyUptoRow, standIns := [], harness := (true, "66d1a391ce4d026387661a7a7f44a621c6ba5089ff549d23fdc68071fccdd39c"), looks := true }, kinds := [], alts := [], laidByText := true, laidKinds := [.data, .data], laidTests := true, laidLooks := .later }
def LeafTidyUptoCardSaid : Prop := Claim7.holds Tryd.pinned (.plain (OpenSpec.upto leafTidySpec)) leafTidyUptoCard

/-- THE SECOND FORM's CARD OF 'lustrumlaw14.LeafMore'. -/
def leafMoreUptoCard : Claim7 := { stood := { row := leafMoreUptoRow, standIns := [], harness := (true, "66d1a391ce4d026387661a7a7f44a621c6ba5089ff549d23fdc68071fccdd39c"), looks := true }, kinds := [], alts := [], laidByText := true, laidKinds := [.data, .data], laidTests := true, laidLooks := .later }
def LeafMoreUptoCardSaid : Prop := Claim7.holds Tryd.pinned (.plain (OpenSpec.upto leafMoreSpec)) leafMoreUptoCard

/-- THE SECOND FORM's CARD OF 'lustrumlaw16.EnvPairs'. -/
def envPairsUptoCard : Claim7 := { stood := { row := envPairsUptoRow, standIns := [], harness := (true, "66d1a391ce4d026387661a7a7f44a621c6ba5089ff549d23fdc68071fccdd39c"), looks := true }, kinds := [], alts := [], laidByText := true, laidKinds := [.data, .data], laidTests := true, laidLooks := .later }
def EnvPairsUptoCardSaid : Prop := Claim7.holds Tryd.pinned (.plain (OpenSpec.upto envPairsSpec)) envPairsUptoCard

/-- THE SECOND FORM's CARD OF 'lustrumlaw16.EnvMet'. -/
def envMetUptoCard : Claim7 := { stood := { row := envMetUptoRow, standIns := [], harness := (true, "66d1a391ce4d026387661a7a7f44a621c6ba5089ff549d23fdc68071fccdd39c"), looks := true }, kinds := [], alts := [], laidByText := true, laidKinds := [.data, .data], laidTests := true, laidLooks := .later }
def EnvMetUptoCardSaid : Prop := Claim7.holds Tryd.pinned (.plain (OpenSpec.upto envMetSpec)) envMetUptoCard

/-- THE SECOND FORM's CARD OF 'lustrumlaw16.EnvMore'. -/
def envMoreUptoCard : Claim7 := { stood := { row := envMoreUptoRow, standIns := [], harness := (true, "66d1a391ce4d026387661a7a7f44a621c6ba5089ff549d23fdc68071fccdd39c"), looks := true }, kinds := [], alts := [], laidByText := true, laidKinds := [.data, .data], laidTests := true, laidLooks := .later }
def EnvMoreUptoCardSaid : Prop := Claim7.holds Tryd.pinned (.plain (OpenSpec.upto envMoreSpec)) envMoreUptoCard
end Rows
end Go.Proofs.YtbahhgpaafgpoaaDoor
