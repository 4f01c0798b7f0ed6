/-
  DERIVED. GIVEN WITH THE SEED: THE CARDS: each row of YtndmohamjffpcaaDoorRows.lean that lists a variable, with what it lists TIED to the program's text (the seventh form; the later family's looks); each row that meets fmt, with fmt's text TOLD by the authors' own Lean function (tested against real Go, not proved from fmt's source: count such statements apart). THE CARD IS WHAT COUNTS. Prove the row's statement (the work); the ties are given (YtndmohamjffpcaaDoorTie.lean); close each card by the builder's one call (the guide's Derived/Test/ToyasCard.lean, 'card_holds'). Laid BY PROGRAM, IN A SANDBOX (cutbox-door.mjs). By AI agents, Wed Nov 11 2026. No macro, syntax, notation, axiom, sorry.
-/
import Derived.Test.YtndmohamjffpcaaDoorRows
import GoSem.ClaimSeven
namespace Go.Proofs.YtndmohamjffpcaaDoor
namespace Rows

/-- THE TIED CARD OF 'lustrumlaw13.ParseBack'. -/
def parseBackCard : Claim7 := { stood := { row := parseBackRow, standIns := [], harness := (true, "5b3bfa23005dfaa63581895d4ee8027f967a989e270b9cb189a00702c78bfecc"), looks := true }, kinds := [], alts := [], laidByText := true, laidKinds := [.data], laidTests := true, laidLooks := .later }
def ParseBackCardSaid : Prop := Claim7.holds Tryd.pinned (.plain (OpenSpec.ofChange parseBackSpec)) parseBackCard

/-- THE TIED CARD OF 'lustrumlaw13.ParseFixed'. -/
def parseFixedCard : Claim7 := { stood := { row := parseFixedRow, standIns := [], harness := (true, "5b3bfa23005dfaa63581895d4ee8027f967a989e270b9cb189a00702c78bfecc"), looks := true }, kinds := [], alts := [], laidByText := true, laidKinds := [.data], laidTests := true, laidLooks := .later }
def ParseFixedCardSaid : Prop := Claim7.holds Tryd.pinned (.plain (OpenSpec.ofChange parseFixedSpec)) parseFixedCard

/-- THE TIED CARD OF 'lustrumlaw13.ParseWhite'. -/
def parseWhiteCard : Claim7 := { stood := { row := parseWhiteRow, standIns := [], harness := (true, "5b3bfa23005dfaa63581895d4ee8027f967a989e270b9cb189a00702c78bfecc"), looks := true }, kinds := [], alts := [], laidByText := true, laidKinds := [.data], laidTests := true, laidLooks := .later }
def ParseWhiteCardSaid : Prop := Claim7.holds Tryd.pinned (.plain (OpenSpec.ofChange parseWhiteSpec)) parseWhiteCard

/-- THE TIED CARD OF 'lustrumlaw13.ParseCut'. -/
def parseCutCard : Claim7 := { stood := { row := parseCutRow, standIns := [], harness := (true, "5b3bfa23005dfaa63581895d4ee8027f967a989e270b9cb189a00702c78bfecc"), looks := true }, kinds := [], alts := [], laidByText := true, laidKinds := [.data], laidTests := true, laidLooks := .later }
def ParseCutCardSaid : Prop := Claim7.holds Tryd.pinned (.plain (OpenSpec.ofChange parseCutSpec)) parseCutCard

/-- THE TIED CARD OF 'lustrumlaw13.ParseParts'. -/
def parsePartsCard : Claim7 := { stood := { row := parsePartsRow, standIns := [], harness := (true, "5b3bfa23005dfaa63581895d4ee8027f967a989e270b9cb189a00702c78bfecc"), looks := true }, kinds := [], alts := [], laidByText := true, laidKinds := [.data], laidTests := true, laidLooks := .later }
def ParsePartsCardSaid : Prop := Claim7.holds Tryd.pinned (.plain (OpenSpec.ofChange parsePartsSpec)) parsePartsCard

/-- THE SECOND FORM's CARD OF 'lustrumlaw13.ParseBack'. -/
def parseBackUptoCard : Claim7 := { stood := { row := parseBackUptoRow, standIns := [], harness := (true, "5b3bfa23005dfaa63581895d4ee8027f967a989e270b9cb189a00702c78bfecc"), looks := true }, kinds := [], alts := [], laidByText := true, laidKinds := [.data], laidTests := true, laidLooks := .later }
def ParseBackUptoCardSaid : Prop := Claim7.holds Tryd.pinned (.plain (OpenSpec.upto parseBackSpec)) parseBackUptoCard

/-- THE SECOND FORM's CARD OF 'lustrumlaw13.ParseFixed'. -/
def parseFixedUptoCard : Claim7 := { stood := { row := parseFixedUptoRow, standIns := [], harness := (true, "5b3bfa23005dfaa63581895d4ee8027f967a989e270b9cb189a00702c78bfecc"), looks := true }, kinds := [], alts := [], laidByText := true, laidKinds := [.data], laidTests := true, laidLooks := .later }
def ParseFixedUptoCardSaid : Prop := Claim7.holds Tryd.pinned (.plain (OpenSpec.upto parseFixedSpec)) parseFixedUptoCard

/-- THE SECOND FORM's CARD OF 'lustrumlaw13.ParseWhite'. -/
def parseWhiteUptoCard : Claim7 := { stood := { row := parseWhiteUptoRow, standIns := [], harness := (true, "5b3bfa23005dfaa63581895d4ee8027f967a989e270b9cb189a00702c78bfecc"), looks := true }, kinds := [], alts := [], laidByText := true, laidKinds := [.data], laidTests := true, laidLooks := .later }
def ParseWhiteUptoCardSaid : Prop := Claim7.holds Tryd.pinned (.plain (OpenSpec.upto parseWhiteSpec)) parseWhiteUptoCard

/-- THE SECOND FORM's CARD OF 'lustrumlaw13.ParseCut'. -/
def parseCutUptoCard : Claim7 := { stood := { row := parseCutUptoRow, standIns := [], harness := (true, "5b3bfa23005dfaa63581895d4ee8027f967a989e270b9cb189a00702c78bfecc"), looks := true }, kinds := [], alts := [], laidByText := true, laidKinds := [.data], laidTests := true, laidLooks := .later }
def ParseCutUptoCardSaid : Prop := Claim7.holds Tryd.pinned (.plain (OpenSpec.upto parseCutSpec)) parseCutUptoCard

/-- THE SECOND FORM's CARD OF 'lustrumlaw13.ParseParts'. -/
def parsePartsUptoCard : Claim7 := { stood := { row := parsePartsUptoRow, standIns := [], harness := (true, "5b3bfa23005dfaa63581895d4ee8027f967a989e270b9cb189a00702c78bfecc"), looks := true }, kinds := [], alts := [], laidByText := true, laidKinds := [.data], laidTests := true, laidLooks := .later }
def ParsePartsUptoCardSaid : Prop := Claim7.holds Tryd.pinned (.plain (OpenSpec.upto parsePartsSpec)) parsePartsUptoCard
end Rows
end Go.Proofs.YtndmohamjffpcaaDoor
