/-
  NARROWER THAN 'FOR EVERY INPUT', by the rows' own cells (each row's printed sentence says how): AllenIs: laid · AllenMeans: laid · AllenInverse: laid · AllenNames: laid · AllenMasks: laid · ComposeIs: laid · ComposeSound: laid · ComposeMet: laid · ComposeInverse: laid · ComposeMore: laid · ComposeThree: laid.
  DERIVED. THE GIVEN ROWS OF THIS SEAT. 11 by the template 'for every input the law returns true; each argument reads behind the call as it read before'; 0 by the template 'total and deterministic' (their statements: YteneoimkfddhpaaDoorTotals.lean).
  GIVEN WITH THE SEED: the statements are not yours to turn. If you find one false, say at which input.
  Laid BY PROGRAM, IN A SANDBOX (cutbox-rows.mjs): the forced cells as the released guide's own fill.sh prints them over the translation 7e4994146f2c64ef… (all of the seat's roots in one cut). By AI agents, Wed Nov 11 2026. No macro, syntax, notation, axiom, sorry.
-/
import Derived.Test.YteneoimkfddhpaaDoorChecked
import GoSem.Claim
import GoSem.ClaimJoined
import GoSem.ClaimMapViews
import Derived.JoinedTies
import Derived.KernelRfl
namespace Go.Proofs.YteneoimkfddhpaaDoor
/- THE CELL 'sum', in the pinned program and in every row, IS THE sha256 OF THE DUMP (.gsa) THAT YteneoimkfddhpaaDoorProg.lean LOADS. Nothing in Lean hashes anything: it is a label: what it is worth is what the hold of that sum in a sandbox is worth. -/
noncomputable def Tryd.pinned : Pinned := { name := "yteneoimkfddhpaadoor", sum := "7e4994146f2c64ef2d7b2a08916c407cbb7af92057c57ac32336872e76871c1c", checked := Tryd.checked }
namespace Rows
def none {H : Type} : Left H := { results := [], args := [] }

/- WHAT THE LISTED PACKAGE-LEVEL VARIABLES READ AS WHEN THE CALL BEGINS. Each datum BY PROGRAM (the guide's laid-datum.mjs) off the statement by which the dump's own 'gosem.cut.vars' lays the variable. In a bare row this is a premise. The card (YteneoimkfddhpaaDoorCards.lean) ties it to the program's text. -/
def laid_lustrum_allen_names {H : Type} : DataW H := .agg [.lit (.string [98, 101, 102, 111, 114, 101]), .lit (.string [109, 101, 101, 116, 115]), .lit (.string [111, 118, 101, 114, 108, 97, 112, 115]), .lit (.string [115, 116, 97, 114, 116, 115]), .lit (.string [100, 117, 114, 105, 110, 103]), .lit (.string [102, 105, 110, 105, 115, 104, 101, 115]), .lit (.string [101, 113, 117, 97, 108, 115]), .lit (.string [102, 105, 110, 105, 115, 104, 101, 100, 45, 98, 121]), .lit (.string [99, 111, 110, 116, 97, 105, 110, 115]), .lit (.string [115, 116, 97, 114, 116, 101, 100, 45, 98, 121]), .lit (.string [111, 118, 101, 114, 108, 97, 112, 112, 101, 100, 45, 98, 121]), .lit (.string [109, 101, 116, 45, 98, 121]), .lit (.string [97, 102, 116, 101, 114])]

/-- 'lustrumlaw18.AllenIs': WHATEVER THE INPUT: true; the input reads as it did. -/
def allenIsSpec : ChangeSpec := { name := "allenIs", fn := fun _ => fun
  | [d1, d2, d3, d4, d5] => { results := [.lit (.bool true)], args := [d1, d2, d3, d4, d5] }
  | _ => none }
def allenIsRow : OpenClaim := { program := "yteneoimkfddhpaadoor", sum := "7e4994146f2c64ef2d7b2a08916c407cbb7af92057c57ac32336872e76871c1c", func := "lustrum/lustrumlaw18.AllenIs", spec := "allenIs", recurses := true, named := ["lustrum/allen.names"], apart := false, laid := [("lustrum/allen.names", laid_lustrum_allen_names)] }
def AllenIsSaid : Prop := allenIsRow.holds Tryd.pinned (OpenSpec.ofChange allenIsSpec)

/-- ITS FALSE NEIGHBOUR: 'it returns false'. Refute it at one input. -/
def allenIsWrong : ChangeSpec := { name := "allenIs", fn := fun _ => fun
  | [d1, d2, d3, d4, d5] => { results := [.lit (.bool false)], args := [d1, d2, d3, d4, d5] }
  | _ => none }
def AllenIsWrongFalsely : Prop := allenIsRow.holds Tryd.pinned (OpenSpec.ofChange allenIsWrong)

/-- 'lustrumlaw18.AllenMeans': WHATEVER THE INPUT: true; the input reads as it did. -/
def allenMeansSpec : ChangeSpec := { name := "allenMeans", fn := fun _ => fun
  | [d1, d2] => { results := [.lit (.bool true)], args := [d1, d2] }
  | _ => none }
def allenMeansRow : OpenClaim := { program := "yteneoimkfddhpaadoor", sum := "7e4994146f2c64ef2d7b2a08916c407cbb7af92057c57ac32336872e76871c1c", func := "lustrum/lustrumlaw18.AllenMeans", spec := "allenMeans", recurses := true, named := ["lustrum/allen.names"], apart := false, laid := [("lustrum/allen.names", laid_lustrum_allen_names)] }
def AllenMeansSaid : Prop := allenMeansRow.holds Tryd.pinned (OpenSpec.ofChange allenMeansSpec)

/-- ITS FALSE NEIGHBOUR: 'it returns false'. Refute it at one input. -/
def allenMeansWrong : ChangeSpec := { name := "allenMeans", fn := fun _ => fun
  | [d1, d2] => { results := [.lit (.bool false)], args := [d1, d2] }
  | _ => none }
def AllenMeansWrongFalsely : Prop := allenMeansRow.holds Tryd.pinned (OpenSpec.ofChange allenMeansWrong)

/-- 'lustrumlaw18.AllenInverse': WHATEVER THE INPUT: true; the input reads as it did. -/
def allenInverseSpec : ChangeSpec := { name := "allenInverse", fn := fun _ => fun
  | [d1, d2, d3] => { results := [.lit (.bool true)], args := [d1, d2, d3] }
  | _ => none }
def allenInverseRow : OpenClaim := { program := "yteneoimkfddhpaadoor", sum := "7e4994146f2c64ef2d7b2a08916c407cbb7af92057c57ac32336872e76871c1c", func := "lustrum/lustrumlaw18.AllenInverse", spec := "allenInverse", recurses := true, named := ["lustrum/allen.names"], apart := false, laid := [("lustrum/allen.names", laid_lustrum_allen_names)] }
def AllenInverseSaid : Prop := allenInverseRow.holds Tryd.pinned (OpenSpec.ofChange allenInverseSpec)

/-- ITS FALSE NEIGHBOUR: 'it returns false'. Refute it at one input. -/
def allenInverseWrong : ChangeSpec := { name := "allenInverse", fn := fun _ => fun
  | [d1, d2, d3] => { results := [.lit (.bool false)], args := [d1, d2, d3] }
  | _ => none }
def AllenInverseWrongFalsely : Prop := allenInverseRow.holds Tryd.pinned (OpenSpec.ofChange allenInverseWrong)

/-- 'lustrumlaw18.AllenNames': WHATEVER THE INPUT: true; the input reads as it did. -/
def allenNamesSpec : ChangeSpec := { name := "allenNames", fn := fun _ => fun
  | [d1, d2] => { results := [.lit (.bool true)], args := [d1, d2] }
  | _ => none }
def allenNamesRow : OpenClaim := { program := "yteneoimkfddhpaadoor", sum := "7e4994146f2c64ef2d7b2a08916c407cbb7af92057c57ac32336872e76871c1c", func := "lustrum/lustrumlaw18.AllenNames", spec := "allenNames", recurses := true, named := ["lustrum/allen.names"], apart := false, laid := [("lustrum/allen.names", laid_lustrum_allen_names)] }
def AllenNamesSaid : Prop := allenNamesRow.holds Tryd.pinned (OpenSpec.ofChange allenNamesSpec)

/-- ITS FALSE NEIGHBOUR: 'it returns false'. Refute it at one input. -/
def allenNamesWrong : ChangeSpec := { name := "allenNames", fn := fun _ => fun
  | [d1, d2] => { results := [.lit (.bool false)], args := [d1, d2] }
  | _ => none }
def AllenNamesWrongFalsely : Prop := allenNamesRow.holds Tryd.pinned (OpenSpec.ofChange allenNamesWrong)

/-- 'lustrumlaw18.AllenMasks': WHATEVER THE INPUT: true; the input reads as it did. -/
def allenMasksSpec : ChangeSpec := { name := "allenMasks", fn := fun _ => fun
  | [d1, d2] => { results := [.lit (.bool true)], args := [d1, d2] }
  | _ => none }
def allenMasksRow : OpenClaim := { program := "yteneoimkfddhpaadoor", sum := "7e4994146f2c64ef2d7b2a08916c407cbb7af92057c57ac32336872e76871c1c", func := "lustrum/lustrumlaw18.AllenMasks", spec := "allenMasks", recurses := true, named := ["lustrum/allen.names"], apart := false, laid := [("lustrum/allen.names", laid_lustrum_allen_names)] }
def AllenMasksSaid : Prop := allenMasksRow.holds Tryd.pinned (OpenSpec.ofChange allenMasksSpec)

/-- ITS FALSE NEIGHBOUR: 'it returns false'. Refute it at one input. -/
def allenMasksWrong : ChangeSpec := { name := "allenMasks", fn := fun _ => fun
  | [d1, d2] => { results := [.lit (.bool false)], args := [d1, d2] }
  | _ => none }
def AllenMasksWrongFalsely : Prop := allenMasksRow.holds Tryd.pinned (OpenSpec.ofChange allenMasksWrong)

/-- 'lustrumlaw19.ComposeIs': WHATEVER THE INPUT: true; the input reads as it did. -/
def composeIsSpec : ChangeSpec := { name := "composeIs", fn := fun _ => fun
  | [d1, d2, d3, d4] => { results := [.lit (.bool true)], args := [d1, d2, d3, d4] }
  | _ => none }
def composeIsRow : OpenClaim := { program := "yteneoimkfddhpaadoor", sum := "7e4994146f2c64ef2d7b2a08916c407cbb7af92057c57ac32336872e76871c1c", func := "lustrum/lustrumlaw19.ComposeIs", spec := "composeIs", unfollowed := true, recurses := true, named := ["lustrum/allen.names"], apart := false, laid := [("lustrum/allen.names", laid_lustrum_allen_names)] }
def ComposeIsSaid : Prop := composeIsRow.holds Tryd.pinned (OpenSpec.ofChange composeIsSpec)

/-- ITS FALSE NEIGHBOUR: 'it returns false'. Refute it at one input. -/
def composeIsWrong : ChangeSpec := { name := "composeIs", fn := fun _ => fun
  | [d1, d2, d3, d4] => { results := [.lit (.bool false)], args := [d1, d2, d3, d4] }
  | _ => none }
def ComposeIsWrongFalsely : Prop := composeIsRow.holds Tryd.pinned (OpenSpec.ofChange composeIsWrong)

/-- 'lustrumlaw19.ComposeSound': WHATEVER THE INPUT: true; the input reads as it did. -/
def composeSoundSpec : ChangeSpec := { name := "composeSound", fn := fun _ => fun
  | [d1, d2, d3] => { results := [.lit (.bool true)], args := [d1, d2, d3] }
  | _ => none }
def composeSoundRow : OpenClaim := { program := "yteneoimkfddhpaadoor", sum := "7e4994146f2c64ef2d7b2a08916c407cbb7af92057c57ac32336872e76871c1c", func := "lustrum/lustrumlaw19.ComposeSound", spec := "composeSound", unfollowed := true, recurses := true, named := ["lustrum/allen.names"], apart := false, laid := [("lustrum/allen.names", laid_lustrum_allen_names)] }
def ComposeSoundSaid : Prop := composeSoundRow.holds Tryd.pinned (OpenSpec.ofChange composeSoundSpec)

/-- ITS FALSE NEIGHBOUR: 'it returns false'. Refute it at one input. -/
def composeSoundWrong : ChangeSpec := { name := "composeSound", fn := fun _ => fun
  | [d1, d2, d3] => { results := [.lit (.bool false)], args := [d1, d2, d3] }
  | _ => none }
def ComposeSoundWrongFalsely : Prop := composeSoundRow.holds Tryd.pinned (OpenSpec.ofChange composeSoundWrong)

/-- 'lustrumlaw19.ComposeMet': WHATEVER THE INPUT: true; the input reads as it did. -/
def composeMetSpec : ChangeSpec := { name := "composeMet", fn := fun _ => fun
  | [d1, d2] => { results := [.lit (.bool true)], args := [d1, d2] }
  | _ => none }
def composeMetRow : OpenClaim := { program := "yteneoimkfddhpaadoor", sum := "7e4994146f2c64ef2d7b2a08916c407cbb7af92057c57ac32336872e76871c1c", func := "lustrum/lustrumlaw19.ComposeMet", spec := "composeMet", unfollowed := true, recurses := true, named := ["lustrum/allen.names"], apart := false, laid := [("lustrum/allen.names", laid_lustrum_allen_names)] }
def ComposeMetSaid : Prop := composeMetRow.holds Tryd.pinned (OpenSpec.ofChange composeMetSpec)

/-- ITS FALSE NEIGHBOUR: 'it returns false'. Refute it at one input. -/
def composeMetWrong : ChangeSpec := { name := "composeMet", fn := fun _ => fun
  | [d1, d2] => { results := [.lit (.bool false)], args := [d1, d2] }
  | _ => none }
def ComposeMetWrongFalsely : Prop := composeMetRow.holds Tryd.pinned (OpenSpec.ofChange composeMetWrong)

/-- 'lustrumlaw19.ComposeInverse': WHATEVER THE INPUT: true; the input reads as it did. -/
def composeInverseSpec : ChangeSpec := { name := "composeInverse", fn := fun _ => fun
  | [d1, d2] => { results := [.lit (.bool true)], args := [d1, d2] }
  | _ => none }
def composeInverseRow : OpenClaim := { program := "yteneoimkfddhpaadoor", sum := "7e4994146f2c64ef2d7b2a08916c407cbb7af92057c57ac32336872e76871c1c", func := "lustrum/lustrumlaw19.ComposeInverse", spec := "composeInverse", unfollowed := true, recurses := true, named := ["lustrum/allen.names"], apart := false, laid := [("lustrum/allen.names", laid_lustrum_allen_names)] }
def ComposeInverseSaid : Prop := composeInverseRow.holds Tryd.pinned (OpenSpec.ofChange composeInverseSpec)

/-- ITS FALSE NEIGHBOUR: 'it returns false'. Refute it at one input. -/
def composeInverseWrong : ChangeSpec := { name := "composeInverse", fn := fun _ => fun
  | [d1, d2] => { results := [.lit (.bool false)], args := [d1, d2] }
  | _ => none }
def ComposeInverseWrongFalsely : Prop := composeInverseRow.holds Tryd.pinned (OpenSpec.ofChange composeInverseWrong)

/-- 'lustrumlaw19.ComposeMore': WHATEVER THE INPUT: true; the input reads as it did. -/
def composeMoreSpec : ChangeSpec := { name := "composeMore", fn := fun _ => fun
  | [d1, d2, d3] => { results := [.lit (.bool true)], args := [d1, d2, d3] }
  | _ => none }
def composeMoreRow : OpenClaim := { program := "yteneoimkfddhpaadoor", sum := "7e4994146f2c64ef2d7b2a08916c407cbb7af92057c57ac32336872e76871c1c", func := "lustrum/lustrumlaw19.ComposeMore", spec := "composeMore", unfollowed := true, recurses := true, named := ["lustrum/allen.names"], apart := false, laid := [("lustrum/allen.names", laid_lustrum_allen_names)] }
def ComposeMoreSaid : Prop := composeMoreRow.holds Tryd.pinned (OpenSpec.ofChange composeMoreSpec)

/-- ITS FALSE NEIGHBOUR: 'it returns false'. Refute it at one input. -/
def composeMoreWrong : ChangeSpec := { name := "composeMore", fn := fun _ => fun
  | [d1, d2, d3] => { results := [.lit (.bool false)], args := [d1, d2, d3] }
  | _ => none }
def ComposeMoreWrongFalsely : Prop := composeMoreRow.holds Tryd.pinned (OpenSpec.ofChange composeMoreWrong)

/-- 'lustrumlaw19.ComposeThree': WHATEVER THE INPUT: true; the input reads as it did. -/
def composeThreeSpec : ChangeSpec := { name := "composeThree", fn := fun _ => fun
  | [d1, d2, d3] => { results := [.lit (.bool true)], args := [d1, d2, d3] }
  | _ => none }
def composeThreeRow : OpenClaim := { program := "yteneoimkfddhpaadoor", sum := "7e4994146f2c64ef2d7b2a08916c407cbb7af92057c57ac32336872e76871c1c", func := "lustrum/lustrumlaw19.ComposeThree", spec := "composeThree", unfollowed := true, recurses := true, named := ["lustrum/allen.names"], apart := false, laid := [("lustrum/allen.names", laid_lustrum_allen_names)] }
def ComposeThreeSaid : Prop := composeThreeRow.holds Tryd.pinned (OpenSpec.ofChange composeThreeSpec)

/-- ITS FALSE NEIGHBOUR: 'it returns false'. Refute it at one input. -/
def composeThreeWrong : ChangeSpec := { name := "composeThree", fn := fun _ => fun
  | [d1, d2, d3] => { results := [.lit (.bool false)], args := [d1, d2, d3] }
  | _ => none }
def ComposeThreeWrongFalsely : Prop := composeThreeRow.holds Tryd.pinned (OpenSpec.ofChange composeThreeWrong)

/- THE SECOND FORM. 'bulk': how many values and letters a reading holds, each counted each time it is reached (what is shared counts as often as it is met; a slice's spare places count too). A statement '..UptoSaid' is the law's where the arguments, and the package variables that the reading takes, are together of bulk at most 1048576: NARROWER than '..Said'. Prove '..Said' where nothing that the law and all that it calls make is longer than what came in: it says more and counts as full. Else prove '..UptoSaid'. A law counts once. -/
mutual
def uptoBulk {H : Type} : DataW H → Nat
  | .lit (.string bytes) => bytes.length + 1
  | .lit _ => 1
  | .nil => 1
  | .ptr d => uptoBulk d + 1
  | .slice elems spare => uptoBulkAll elems + uptoBulkAll spare + 1
  | .agg parts => uptoBulkAll parts + 1
  | .iface _ d => uptoBulk d + 1
  | .map entries => uptoBulkEntries entries + 1
  | .held _ => 1
def uptoBulkAll {H : Type} : List (DataW H) → Nat
  | [] => 0
  | d :: r => uptoBulk d + uptoBulkAll r
def uptoBulkEntries {H : Type} : List (Lit × DataW H) → Nat
  | [] => 0
  | x :: r => uptoBulkEntry x + uptoBulkEntries r
def uptoBulkEntry {H : Type} : Lit × DataW H → Nat
  | (.string bytes, d) => bytes.length + uptoBulk d + 1
  | (_, d) => uptoBulk d + 1
 end
def uptoSmall : (H : Type) → List (DataW H) → Bool := fun _ ds => decide (uptoBulkAll ds ≤ 1048576)
def OpenSpec.upto (s : _root_.Go.ChangeSpec) : _root_.Go.OpenSpec := { _root_.Go.OpenSpec.ofChange s with cond := some uptoSmall }

/-- 'lustrumlaw18.AllenIs', WHERE WHAT IT READS IS OF BULK AT MOST 1048576: true; the input reads as it did. -/
def allenIsUptoRow : OpenClaim := { program := "yteneoimkfddhpaadoor", sum := "7e4994146f2c64ef2d7b2a08916c407cbb7af92057c57ac32336872e76871c1c", func := "lustrum/lustrumlaw18.AllenIs", spec := "allenIs", recurses := true, named := ["lustrum/allen.names"], apart := false, laid := [("lustrum/allen.names", laid_lustrum_allen_names)], narrowed := true }
def AllenIsUptoSaid : Prop := allenIsUptoRow.holds Tryd.pinned (OpenSpec.upto allenIsSpec)

/-- 'lustrumlaw18.AllenMeans', WHERE WHAT IT READS IS OF BULK AT MOST 1048576: true; the input reads as it did. -/
def allenMeansUptoRow : OpenClaim := { program := "yteneoimkfddhpaadoor", sum := "7e4994146f2c64ef2d7b2a08916c407cbb7af92057c57ac32336872e76871c1c", func := "lustrum/lustrumlaw18.AllenMeans", spec := "allenMeans", recurses := true, named := ["lustrum/allen.names"], apart := false, laid := [("lustrum/allen.names", laid_lustrum_allen_names)], narrowed := true }
def AllenMeansUptoSaid : Prop := allenMeansUptoRow.holds Tryd.pinned (OpenSpec.upto allenMeansSpec)

/-- 'lustrumlaw18.AllenInverse', WHERE WHAT IT READS IS OF BULK AT MOST 1048576: true; the input reads as it did. -/
def allenInverseUptoRow : OpenClaim := { program := "yteneoimkfddhpaadoor", sum := "7e4994146f2c64ef2d7b2a08916c407cbb7af92057c57ac32336872e76871c1c", func := "lustrum/lustrumlaw18.AllenInverse", spec := "allenInverse", recurses := true, named := ["lustrum/allen.names"], apart := false, laid := [("lustrum/allen.names", laid_lustrum_allen_names)], narrowed := true }
def AllenInverseUptoSaid : Prop := allenInverseUptoRow.holds Tryd.pinned (OpenSpec.upto allenInverseSpec)

/-- 'lustrumlaw18.AllenNames', WHERE WHAT IT READS IS OF BULK AT MOST 1048576: true; the input reads as it did. -/
def allenNamesUptoRow : OpenClaim := { program := "yteneoimkfddhpaadoor", sum := "7e4994146f2c64ef2d7b2a08916c407cbb7af92057c57ac32336872e76871c1c", func := "lustrum/lustrumlaw18.AllenNames", spec := "allenNames", recurses := true, named := ["lustrum/allen.names"], apart := false, laid := [("lustrum/allen.names", laid_lustrum_allen_names)], narrowed := true }
def AllenNamesUptoSaid : Prop := allenNamesUptoRow.holds Tryd.pinned (OpenSpec.upto allenNamesSpec)

/-- 'lustrumlaw18.AllenMasks', WHERE WHAT IT READS IS OF BULK AT MOST 1048576: true; the input reads as it did. -/
def allenMasksUptoRow : OpenClaim := { program := "yteneoimkfddhpaadoor", sum := "7e4994146f2c64ef2d7b2a08916c407cbb7af92057c57ac32336872e76871c1c", func := "lustrum/lustrumlaw18.AllenMasks", spec := "allenMasks", recurses := true, named := ["lustrum/allen.names"], apart := false, laid := [("lustrum/allen.names", laid_lustrum_allen_names)], narrowed := true }
def AllenMasksUptoSaid : Prop := allenMasksUptoRow.holds Tryd.pinned (OpenSpec.upto allenMasksSpec)

/-- 'lustrumlaw19.ComposeIs', WHERE WHAT IT READS IS OF BULK AT MOST 1048576: true; the input reads as it did. -/
def composeIsUptoRow : OpenClaim := { program := "yteneoimkfddhpaadoor", sum := "7e4994146f2c64ef2d7b2a08916c407cbb7af92057c57ac32336872e76871c1c", func := "lustrum/lustrumlaw19.ComposeIs", spec := "composeIs", unfollowed := true, recurses := true, named := ["lustrum/allen.names"], apart := false, laid := [("lustrum/allen.names", laid_lustrum_allen_names)], narrowed := true }
def ComposeIsUptoSaid : Prop := composeIsUptoRow.holds Tryd.pinned (OpenSpec.upto composeIsSpec)

/-- 'lustrumlaw19.ComposeSound', WHERE WHAT IT READS IS OF BULK AT MOST 1048576: true; the input reads as it did. -/
def composeSoundUptoRow : OpenClaim := { program := "yteneoimkfddhpaadoor", sum := "7e4994146f2c64ef2d7b2a08916c407cbb7af92057c57ac32336872e76871c1c", func := "lustrum/lustrumlaw19.ComposeSound", spec := "composeSound", unfollowed := true, recurses := true, named := ["lustrum/allen.names"], apart := false, laid := [("lustrum/allen.names", laid_lustrum_allen_names)], narrowed := true }
def ComposeSoundUptoSaid : Prop := composeSoundUptoRow.holds Tryd.pinned (OpenSpec.upto composeSoundSpec)

/-- 'lustrumlaw19.ComposeMet', WHERE WHAT IT READS IS OF BULK AT MOST 1048576: true; the input reads as it did. -/
def composeMetUptoRow : OpenClaim := { program := "yteneoimkfddhpaadoor", sum := "7e4994146f2c64ef2d7b2a08916c407cbb7af92057c57ac32336872e76871c1c", func := "lustrum/lustrumlaw19.ComposeMet", spec := "composeMet", unfollowed := true, recurses := true, named := ["lustrum/allen.names"], apart := false, laid := [("lustrum/allen.names", laid_lustrum_allen_names)], narrowed := true }
def ComposeMetUptoSaid : Prop := composeMetUptoRow.holds Tryd.pinned (OpenSpec.upto composeMetSpec)

/-- 'lustrumlaw19.ComposeInverse', WHERE WHAT IT READS IS OF BULK AT MOST 1048576: true; the input reads as it did. -/
def composeInverseUptoRow : OpenClaim := { program := "yteneoimkfddhpaadoor", sum := "7e4994146f2c64ef2d7b2a08916c407cbb7af92057c57ac32336872e76871c1c", func := "lustrum/lustrumlaw19.ComposeInverse", spec := "composeInverse", unfollowed := true, recurses := true, named := ["lustrum/allen.names"], apart := false, laid := [("lustrum/allen.names", laid_lustrum_allen_names)], narrowed := true }
def ComposeInverseUptoSaid : Prop := composeInverseUptoRow.holds Tryd.pinned (OpenSpec.upto composeInverseSpec)

/-- 'lustrumlaw19.ComposeMore', WHERE WHAT IT READS IS OF BULK AT MOST 1048576: true; the input reads as it did. -/
def composeMoreUptoRow : OpenClaim := { program := "yteneoimkfddhpaadoor", sum := "7e4994146f2c64ef2d7b2a08916c407cbb7af92057c57ac32336872e76871c1c", func := "lustrum/lustrumlaw19.ComposeMore", spec := "composeMore", unfollowed := true, recurses := true, named := ["lustrum/allen.names"], apart := false, laid := [("lustrum/allen.names", laid_lustrum_allen_names)], narrowed := true }
def ComposeMoreUptoSaid : Prop := composeMoreUptoRow.holds Tryd.pinned (OpenSpec.upto composeMoreSpec)

/-- 'lustrumlaw19.ComposeThree', WHERE WHAT IT READS IS OF BULK AT MOST 1048576: true; the input reads as it did. -/
def composeThreeUptoRow : OpenClaim := { program := "yteneoimkfddhpaadoor", sum := "7e4994146f2c64ef2d7b2a08916c407cbb7af92057c57ac32336872e76871c1c", func := "lustrum/lustrumlaw19.ComposeThree", spec := "composeThree", unfollowed := true, recurses := true, named := ["lustrum/allen.names"], apart := false, laid := [("lustrum/allen.names", laid_lustrum_allen_names)], narrowed := true }
def ComposeThreeUptoSaid : Prop := composeThreeUptoRow.holds Tryd.pinned (OpenSpec.upto composeThreeSpec)

end Rows
end Go.Proofs.YteneoimkfddhpaaDoor
