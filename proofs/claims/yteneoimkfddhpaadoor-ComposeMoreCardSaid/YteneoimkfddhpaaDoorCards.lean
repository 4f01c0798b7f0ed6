/-
  DERIVED. GIVEN WITH THE SEED: THE CARDS: each row of YteneoimkfddhpaaDoorRows.lean that lists a variable, with what it lists TIED to the program's text (the seventh form; the later family's looks); each row that meets fmt, with fmt's text TOLD by the authors' own Lean function (tested against real Go, not proved from fmt's source: count such statements apart). THE CARD IS WHAT COUNTS. Prove the row's statement (the work); the ties are given (YteneoimkfddhpaaDoorTie.lean); close each card by the builder's one call (the guide's Derived/Test/ToyasCard.lean, 'card_holds'). Laid BY PROGRAM, IN A SANDBOX (cutbox-door.mjs). By AI agents, Wed Nov 11 2026. No macro, syntax, notation, axiom, sorry.
-/
import Derived.Test.YteneoimkfddhpaaDoorRows
import GoSem.ClaimSeven
namespace Go.Proofs.YteneoimkfddhpaaDoor
namespace Rows

/-- THE TIED CARD OF 'lustrumlaw18.AllenIs'. -/
def allenIsCard : Claim7 := { stood := { row := allenIsRow, standIns := [], harness := (true, "72ba5dde3912d31005f562d8ba3210f2d711de75057fe1b2059deac71d00692d"), looks := false }, kinds := [], alts := [], laidByText := true, laidKinds := [.data], laidTests := true, laidLooks := .later }
def AllenIsCardSaid : Prop := Claim7.holds Tryd.pinned (.plain (OpenSpec.ofChange allenIsSpec)) allenIsCard

/-- THE TIED CARD OF 'lustrumlaw18.AllenMeans'. -/
def allenMeansCard : Claim7 := { stood := { row := allenMeansRow, standIns := [], harness := (true, "72ba5dde3912d31005f562d8ba3210f2d711de75057fe1b2059deac71d00692d"), looks := false }, kinds := [], alts := [], laidByText := true, laidKinds := [.data], laidTests := true, laidLooks := .later }
def AllenMeansCardSaid : Prop := Claim7.holds Tryd.pinned (.plain (OpenSpec.ofChange allenMeansSpec)) allenMeansCard

/-- THE TIED CARD OF 'lustrumlaw18.AllenInverse'. -/
def allenInverseCard : Claim7 := { stood := { row := allenInverseRow, standIns := [], harness := (true, "72ba5dde3912d31005f562d8ba3210f2d711de75057fe1b2059deac71d00692d"), looks := false }, kinds := [], alts := [], laidByText := true, laidKinds := [.data], laidTests := true, laidLooks := .later }
def AllenInverseCardSaid : Prop := Claim7.holds Tryd.pinned (.plain (OpenSpec.ofChange allenInverseSpec)) allenInverseCard

/-- THE TIED CARD OF 'lustrumlaw18.AllenNames'. -/
def allenNamesCard : Claim7 := { stood := { row := allenNamesRow, standIns := [], harness := (true, "72ba5dde3912d31005f562d8ba3210f2d711de75057fe1b2059deac71d00692d"), looks := false }, kinds := [], alts := [], laidByText := true, laidKinds := [.data], laidTests := true, laidLooks := .later }
def AllenNamesCardSaid : Prop := Claim7.holds Tryd.pinned (.plain (OpenSpec.ofChange allenNamesSpec)) allenNamesCard

/-- THE TIED CARD OF 'lustrumlaw18.AllenMasks'. -/
def allenMasksCard : Claim7 := { stood := { row := allenMasksRow, standIns := [], harness := (true, "72ba5dde3912d31005f562d8ba3210f2d711de75057fe1b2059deac71d00692d"), looks := false }, kinds := [], alts := [], laidByText := true, laidKinds := [.data], laidTests := true, laidLooks := .later }
def AllenMasksCardSaid : Prop := Claim7.holds Tryd.pinned (.plain (OpenSpec.ofChange allenMasksSpec)) allenMasksCard

/-- THE TIED CARD OF 'lustrumlaw19.ComposeIs'. -/
def composeIsCard : Claim7 := { stood := { row := composeIsRow, standIns := [], harness := (true, "72ba5dde3912d31005f562d8ba3210f2d711de75057fe1b2059deac71d00692d"), looks := false }, kinds := [], alts := [], laidByText := true, laidKinds := [.data], laidTests := true, laidLooks := .later }
def ComposeIsCardSaid : Prop := Claim7.holds Tryd.pinned (.plain (OpenSpec.ofChange composeIsSpec)) composeIsCard

/-- THE TIED CARD OF 'lustrumlaw19.ComposeSound'. -/
def composeSoundCard : Claim7 := { stood := { row := composeSoundRow, standIns := [], harness := (true, "72ba5dde3912d31005f562d8ba3210f2d711de75057fe1b2059deac71d00692d"), looks := false }, kinds := [], alts := [], laidByText := true, laidKinds := [.data], laidTests := true, laidLooks := .later }
def ComposeSoundCardSaid : Prop := Claim7.holds Tryd.pinned (.plain (OpenSpec.ofChange composeSoundSpec)) composeSoundCard

/-- THE TIED CARD OF 'lustrumlaw19.ComposeMet'. -/
def composeMetCard : Claim7 := { stood := { row := composeMetRow, standIns := [], harness := (true, "72ba5dde3912d31005f562d8ba3210f2d711de75057fe1b2059deac71d00692d"), looks := false }, kinds := [], alts := [], laidByText := true, laidKinds := [.data], laidTests := true, laidLooks := .later }
def ComposeMetCardSaid : Prop := Claim7.holds Tryd.pinned (.plain (OpenSpec.ofChange composeMetSpec)) composeMetCard

/-- THE TIED CARD OF 'lustrumlaw19.ComposeInverse'. -/
def composeInverseCard : Claim7 := { stood := { row := composeInverseRow, standIns := [], harness := (true, "72ba5dde3912d31005f562d8ba3210f2d711de75057fe1b2059deac71d00692d"), looks := false }, kinds := [], alts := [], laidByText := true, laidKinds := [.data], laidTests := true, laidLooks := .later }
def ComposeInverseCardSaid : Prop := Claim7.holds Tryd.pinned (.plain (OpenSpec.ofChange composeInverseSpec)) composeInverseCard

/-- THE TIED CARD OF 'lustrumlaw19.ComposeMore'. -/
def composeMoreCard : Claim7 := { stood := { row := composeMoreRow, standIns := [], harness := (true, "72ba5dde3912d31005f562d8ba3210f2d711de75057fe1b2059deac71d00692d"), looks := false }, kinds := [], alts := [], laidByText := true, laidKinds := [.data], laidTests := true, laidLooks := .later }
def ComposeMoreCardSaid : Prop := Claim7.holds Tryd.pinned (.plain (OpenSpec.ofChange composeMoreSpec)) composeMoreCard

/-- THE TIED CARD OF 'lustrumlaw19.ComposeThree'. -/
def composeThreeCard : Claim7 := { stood := { row := composeThreeRow, standIns := [], harness := (true, "72ba5dde3912d31005f562d8ba3210f2d711de75057fe1b2059deac71d00692d"), looks := false }, kinds := [], alts := [], laidByText := true, laidKinds := [.data], laidTests := true, laidLooks := .later }
def ComposeThreeCardSaid : Prop := Claim7.holds Tryd.pinned (.plain (OpenSpec.ofChange composeThreeSpec)) composeThreeCard

/-- THE SECOND FORM's CARD OF 'lustrumlaw18.AllenIs'. -/
def allenIsUptoCard : Claim7 := { stood := { row := allenIsUptoRow, standIns := [], harness := (true, "72ba5dde3912d31005f562d8ba3210f2d711de75057fe1b2059deac71d00692d"), looks := false }, kinds := [], alts := [], laidByText := true, laidKinds := [.data], laidTests := true, laidLooks := .later }
def AllenIsUptoCardSaid : Prop := Claim7.holds Tryd.pinned (.plain (OpenSpec.upto allenIsSpec)) allenIsUptoCard

/-- THE SECOND FORM's CARD OF 'lustrumlaw18.AllenMeans'. -/
def allenMeansUptoCard : Claim7 := { stood := { row := allenMeansUptoRow, standIns := [], harness := (true, "72ba5dde3912d31005f562d8ba3210f2d711de75057fe1b2059deac71d00692d"), looks := false }, kinds := [], alts := [], laidByText := true, laidKinds := [.data], laidTests := true, laidLooks := .later }
def AllenMeansUptoCardSaid : Prop := Claim7.holds Tryd.pinned (.plain (OpenSpec.upto allenMeansSpec)) allenMeansUptoCard

/-- THE SECOND FORM's CARD OF 'lustrumlaw18.AllenInverse'. -/
def allenInverseUptoCard : Claim7 := { stood := { row := allenInverseUptoRow, standIns := [], harness := (true, "72ba5dde3912d31005f562d8ba3210f2d711de75057fe1b2059deac71d00692d"), looks := false }, kinds := [], alts := [], laidByText := true, laidKinds := [.data], laidTests := true, laidLooks := .later }
def AllenInverseUptoCardSaid : Prop := Claim7.holds Tryd.pinned (.plain (OpenSpec.upto allenInverseSpec)) allenInverseUptoCard

/-- THE SECOND FORM's CARD OF 'lustrumlaw18.AllenNames'. -/
def allenNamesUptoCard : Claim7 := { stood := { row := allenNamesUptoRow, standIns := [], harness := (true, "72ba5dde3912d31005f562d8ba3210f2d711de75057fe1b2059deac71d00692d"), looks := false }, kinds := [], alts := [], laidByText := true, laidKinds := [.data], laidTests := true, laidLooks := .later }
def AllenNamesUptoCardSaid : Prop := Claim7.holds Tryd.pinned (.plain (OpenSpec.upto allenNamesSpec)) allenNamesUptoCard

/-- THE SECOND FORM's CARD OF 'lustrumlaw18.AllenMasks'. -/
def allenMasksUptoCard : Claim7 := { stood := { row := allenMasksUptoRow, standIns := [], harness := (true, "72ba5dde3912d31005f562d8ba3210f2d711de75057fe1b2059deac71d00692d"), looks := false }, kinds := [], alts := [], laidByText := true, laidKinds := [.data], laidTests := true, laidLooks := .later }
def AllenMasksUptoCardSaid : Prop := Claim7.holds Tryd.pinned (.plain (OpenSpec.upto allenMasksSpec)) allenMasksUptoCard

/-- THE SECOND FORM's CARD OF 'lustrumlaw19.ComposeIs'. -/
def composeIsUptoCard : Claim7 := { stood := { row := composeIsUptoRow, standIns := [], harness := (true, "72ba5dde3912d31005f562d8ba3210f2d711de75057fe1b2059deac71d00692d"), looks := false }, kinds := [], alts := [], laidByText := true, laidKinds := [.data], laidTests := true, laidLooks := .later }
def ComposeIsUptoCardSaid : Prop := Claim7.holds Tryd.pinned (.plain (OpenSpec.upto composeIsSpec)) composeIsUptoCard

/-- THE SECOND FORM's CARD OF 'lustrumlaw19.ComposeSound'. -/
def composeSoundUptoCard : Claim7 := { stood := { row := composeSoundUptoRow, standIns := [], harness := (true, "72ba5dde3912d31005f562d8ba3210f2d711de75057fe1b2059deac71d00692d"), looks := false }, kinds := [], alts := [], laidByText := true, laidKinds := [.data], laidTests := true, laidLooks := .later }
def ComposeSoundUptoCardSaid : Prop := Claim7.holds Tryd.pinned (.plain (OpenSpec.upto composeSoundSpec)) composeSoundUptoCard

/-- THE SECOND FORM's CARD OF 'lustrumlaw19.ComposeMet'. -/
def composeMetUptoCard : Claim7 := { stood := { row := composeMetUptoRow, standIns := [], harness := (true, "72ba5dde3912d31005f562d8ba3210f2d711de75057fe1b2059deac71d00692d"), looks := false }, kinds := [], alts := [], laidByText := true, laidKinds := [.data], laidTests := true, laidLooks := .later }
def ComposeMetUptoCardSaid : Prop := Claim7.holds Tryd.pinned (.plain (OpenSpec.upto composeMetSpec)) composeMetUptoCard

/-- THE SECOND FORM's CARD OF 'lustrumlaw19.ComposeInverse'. -/
def composeInverseUptoCard : Claim7 := { stood := { row := composeInverseUptoRow, standIns := [], harness := (true, "72ba5dde3912d31005f562d8ba3210f2d711de75057fe1b2059deac71d00692d"), looks := false }, kinds := [], alts := [], laidByText := true, laidKinds := [.data], laidTests := true, laidLooks := .later }
def ComposeInverseUptoCardSaid : Prop := Claim7.holds Tryd.pinned (.plain (OpenSpec.upto composeInverseSpec)) composeInverseUptoCard

/-- THE SECOND FORM's CARD OF 'lustrumlaw19.ComposeMore'. -/
def composeMoreUptoCard : Claim7 := { stood := { row := composeMoreUptoRow, standIns := [], harness := (true, "72ba5dde3912d31005f562d8ba3210f2d711de75057fe1b2059deac71d00692d"), looks := false }, kinds := [], alts := [], laidByText := true, laidKinds := [.data], laidTests := true, laidLooks := .later }
def ComposeMoreUptoCardSaid : Prop := Claim7.holds Tryd.pinned (.plain (OpenSpec.upto composeMoreSpec)) composeMoreUptoCard

/-- THE SECOND FORM's CARD OF 'lustrumlaw19.ComposeThree'. -/
def composeThreeUptoCard : Claim7 := { stood := { row := composeThreeUptoRow, standIns := [], harness := (true, "72ba5dde3912d31005f562d8ba3210f2d711de75057fe1b2059deac71d00692d"), looks := false }, kinds := [], alts := [], laidByText := true, laidKinds := [.data], laidTests := true, laidLooks := .later }
def ComposeThreeUptoCardSaid : Prop := Claim7.holds Tryd.pinned (.plain (OpenSpec.upto composeThreeSpec)) composeThreeUptoCard
end Rows
end Go.Proofs.YteneoimkfddhpaaDoor
