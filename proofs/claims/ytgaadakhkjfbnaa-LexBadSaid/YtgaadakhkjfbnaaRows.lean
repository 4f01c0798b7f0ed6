/-
  No cell of these rows narrows 'for every input' (looked for: loops, veiled, ifaces, maps, wideKeys, modest, calm, conditions, laid).
  DERIVED. THE GIVEN ROWS OF THIS SEAT. 18 by the template 'for every input the law returns true; each argument reads behind the call as it read before'; 0 by the template 'total and deterministic' (their statements: YtgaadakhkjfbnaaTotals.lean).
  GIVEN WITH THE SEED: the statements are not yours to turn. If you find one false, say at which input.
  Laid BY PROGRAM, IN A SANDBOX (cutbox-rows.mjs): the forced cells as the released guide's own fill.sh prints them over the translation 9ac53e2a233ca4cb… (all of the seat's roots in one cut). By AI agents, Wed Nov 11 2026. No macro, syntax, notation, axiom, sorry.
-/
import Derived.Test.YtgaadakhkjfbnaaChecked
import GoSem.Claim
import GoSem.ClaimJoined
import GoSem.ClaimMapViews
import Derived.JoinedTies
import Derived.KernelRfl
namespace Go.Proofs.Ytgaadakhkjfbnaa
/- THE CELL 'sum', in the pinned program and in every row, IS THE sha256 OF THE DUMP (.gsa) THAT YtgaadakhkjfbnaaProg.lean LOADS. Nothing in Lean hashes anything: it is a label: what it is worth is what the hold of that sum in a sandbox is worth. -/
noncomputable def Try.pinned : Pinned := { name := "ytgaadakhkjfbnaa", sum := "9ac53e2a233ca4cbf7f31450f34642bf8cde99940b00b7eca23dc116cfc0809c", checked := Try.checked }
namespace Rows
def none {H : Type} : Left H := { results := [], args := [] }

/-- 'lustrumlaw04.RunsIs': WHATEVER THE INPUT: true; the input reads as it did. -/
def runsIsSpec : ChangeSpec := { name := "runsIs", fn := fun _ => fun
  | [d1, d2, d3] => { results := [.lit (.bool true)], args := [d1, d2, d3] }
  | _ => none }
def runsIsRow : OpenClaim := { program := "ytgaadakhkjfbnaa", sum := "9ac53e2a233ca4cbf7f31450f34642bf8cde99940b00b7eca23dc116cfc0809c", func := "lustrum/lustrumlaw04.RunsIs", spec := "runsIs", unfollowed := true, recurses := true, apart := false }
def RunsIsSaid : Prop := runsIsRow.holds Try.pinned (OpenSpec.ofChange runsIsSpec)

/-- ITS FALSE NEIGHBOUR: 'it returns false'. Refute it at one input. -/
def runsIsWrong : ChangeSpec := { name := "runsIs", fn := fun _ => fun
  | [d1, d2, d3] => { results := [.lit (.bool false)], args := [d1, d2, d3] }
  | _ => none }
def RunsIsWrongFalsely : Prop := runsIsRow.holds Try.pinned (OpenSpec.ofChange runsIsWrong)

/-- 'lustrumlaw04.RunsMake': WHATEVER THE INPUT: true; the input reads as it did. -/
def runsMakeSpec : ChangeSpec := { name := "runsMake", fn := fun _ => fun
  | [d1, d2] => { results := [.lit (.bool true)], args := [d1, d2] }
  | _ => none }
def runsMakeRow : OpenClaim := { program := "ytgaadakhkjfbnaa", sum := "9ac53e2a233ca4cbf7f31450f34642bf8cde99940b00b7eca23dc116cfc0809c", func := "lustrum/lustrumlaw04.RunsMake", spec := "runsMake", unfollowed := true, recurses := true, apart := false }
def RunsMakeSaid : Prop := runsMakeRow.holds Try.pinned (OpenSpec.ofChange runsMakeSpec)

/-- ITS FALSE NEIGHBOUR: 'it returns false'. Refute it at one input. -/
def runsMakeWrong : ChangeSpec := { name := "runsMake", fn := fun _ => fun
  | [d1, d2] => { results := [.lit (.bool false)], args := [d1, d2] }
  | _ => none }
def RunsMakeWrongFalsely : Prop := runsMakeRow.holds Try.pinned (OpenSpec.ofChange runsMakeWrong)

/-- 'lustrumlaw04.RunsOf': WHATEVER THE INPUT: true; the input reads as it did. -/
def runsOfSpec : ChangeSpec := { name := "runsOf", fn := fun _ => fun
  | [d1, d2] => { results := [.lit (.bool true)], args := [d1, d2] }
  | _ => none }
def runsOfRow : OpenClaim := { program := "ytgaadakhkjfbnaa", sum := "9ac53e2a233ca4cbf7f31450f34642bf8cde99940b00b7eca23dc116cfc0809c", func := "lustrum/lustrumlaw04.RunsOf", spec := "runsOf", unfollowed := true, recurses := true, apart := false }
def RunsOfSaid : Prop := runsOfRow.holds Try.pinned (OpenSpec.ofChange runsOfSpec)

/-- ITS FALSE NEIGHBOUR: 'it returns false'. Refute it at one input. -/
def runsOfWrong : ChangeSpec := { name := "runsOf", fn := fun _ => fun
  | [d1, d2] => { results := [.lit (.bool false)], args := [d1, d2] }
  | _ => none }
def RunsOfWrongFalsely : Prop := runsOfRow.holds Try.pinned (OpenSpec.ofChange runsOfWrong)

/-- 'lustrumlaw04.RunsNext': WHATEVER THE INPUT: true; the input reads as it did. -/
def runsNextSpec : ChangeSpec := { name := "runsNext", fn := fun _ => fun
  | [d1, d2] => { results := [.lit (.bool true)], args := [d1, d2] }
  | _ => none }
def runsNextRow : OpenClaim := { program := "ytgaadakhkjfbnaa", sum := "9ac53e2a233ca4cbf7f31450f34642bf8cde99940b00b7eca23dc116cfc0809c", func := "lustrum/lustrumlaw04.RunsNext", spec := "runsNext", unfollowed := true, recurses := true, apart := false }
def RunsNextSaid : Prop := runsNextRow.holds Try.pinned (OpenSpec.ofChange runsNextSpec)

/-- ITS FALSE NEIGHBOUR: 'it returns false'. Refute it at one input. -/
def runsNextWrong : ChangeSpec := { name := "runsNext", fn := fun _ => fun
  | [d1, d2] => { results := [.lit (.bool false)], args := [d1, d2] }
  | _ => none }
def RunsNextWrongFalsely : Prop := runsNextRow.holds Try.pinned (OpenSpec.ofChange runsNextWrong)

/-- 'lustrumlaw04.RunsOnce': WHATEVER THE INPUT: true; the input reads as it did. -/
def runsOnceSpec : ChangeSpec := { name := "runsOnce", fn := fun _ => fun
  | [d1, d2] => { results := [.lit (.bool true)], args := [d1, d2] }
  | _ => none }
def runsOnceRow : OpenClaim := { program := "ytgaadakhkjfbnaa", sum := "9ac53e2a233ca4cbf7f31450f34642bf8cde99940b00b7eca23dc116cfc0809c", func := "lustrum/lustrumlaw04.RunsOnce", spec := "runsOnce", unfollowed := true, recurses := true, apart := false }
def RunsOnceSaid : Prop := runsOnceRow.holds Try.pinned (OpenSpec.ofChange runsOnceSpec)

/-- ITS FALSE NEIGHBOUR: 'it returns false'. Refute it at one input. -/
def runsOnceWrong : ChangeSpec := { name := "runsOnce", fn := fun _ => fun
  | [d1, d2] => { results := [.lit (.bool false)], args := [d1, d2] }
  | _ => none }
def RunsOnceWrongFalsely : Prop := runsOnceRow.holds Try.pinned (OpenSpec.ofChange runsOnceWrong)

/-- 'lustrumlaw05.SetsIs': WHATEVER THE INPUT: true; the input reads as it did. -/
def setsIsSpec : ChangeSpec := { name := "setsIs", fn := fun _ => fun
  | [d1, d2, d3, d4] => { results := [.lit (.bool true)], args := [d1, d2, d3, d4] }
  | _ => none }
def setsIsRow : OpenClaim := { program := "ytgaadakhkjfbnaa", sum := "9ac53e2a233ca4cbf7f31450f34642bf8cde99940b00b7eca23dc116cfc0809c", func := "lustrum/lustrumlaw05.SetsIs", spec := "setsIs", unfollowed := true, recurses := true, apart := false }
def SetsIsSaid : Prop := setsIsRow.holds Try.pinned (OpenSpec.ofChange setsIsSpec)

/-- ITS FALSE NEIGHBOUR: 'it returns false'. Refute it at one input. -/
def setsIsWrong : ChangeSpec := { name := "setsIs", fn := fun _ => fun
  | [d1, d2, d3, d4] => { results := [.lit (.bool false)], args := [d1, d2, d3, d4] }
  | _ => none }
def SetsIsWrongFalsely : Prop := setsIsRow.holds Try.pinned (OpenSpec.ofChange setsIsWrong)

/-- 'lustrumlaw05.SetsHas': WHATEVER THE INPUT: true; the input reads as it did. -/
def setsHasSpec : ChangeSpec := { name := "setsHas", fn := fun _ => fun
  | [d1, d2, d3] => { results := [.lit (.bool true)], args := [d1, d2, d3] }
  | _ => none }
def setsHasRow : OpenClaim := { program := "ytgaadakhkjfbnaa", sum := "9ac53e2a233ca4cbf7f31450f34642bf8cde99940b00b7eca23dc116cfc0809c", func := "lustrum/lustrumlaw05.SetsHas", spec := "setsHas", unfollowed := true, recurses := true, apart := false }
def SetsHasSaid : Prop := setsHasRow.holds Try.pinned (OpenSpec.ofChange setsHasSpec)

/-- ITS FALSE NEIGHBOUR: 'it returns false'. Refute it at one input. -/
def setsHasWrong : ChangeSpec := { name := "setsHas", fn := fun _ => fun
  | [d1, d2, d3] => { results := [.lit (.bool false)], args := [d1, d2, d3] }
  | _ => none }
def SetsHasWrongFalsely : Prop := setsHasRow.holds Try.pinned (OpenSpec.ofChange setsHasWrong)

/-- 'lustrumlaw05.SetsCounts': WHATEVER THE INPUT: true; the input reads as it did. -/
def setsCountsSpec : ChangeSpec := { name := "setsCounts", fn := fun _ => fun
  | [d1, d2] => { results := [.lit (.bool true)], args := [d1, d2] }
  | _ => none }
def setsCountsRow : OpenClaim := { program := "ytgaadakhkjfbnaa", sum := "9ac53e2a233ca4cbf7f31450f34642bf8cde99940b00b7eca23dc116cfc0809c", func := "lustrum/lustrumlaw05.SetsCounts", spec := "setsCounts", unfollowed := true, recurses := true, apart := false }
def SetsCountsSaid : Prop := setsCountsRow.holds Try.pinned (OpenSpec.ofChange setsCountsSpec)

/-- ITS FALSE NEIGHBOUR: 'it returns false'. Refute it at one input. -/
def setsCountsWrong : ChangeSpec := { name := "setsCounts", fn := fun _ => fun
  | [d1, d2] => { results := [.lit (.bool false)], args := [d1, d2] }
  | _ => none }
def SetsCountsWrongFalsely : Prop := setsCountsRow.holds Try.pinned (OpenSpec.ofChange setsCountsWrong)

/-- 'lustrumlaw05.SetsShift': WHATEVER THE INPUT: true; the input reads as it did. -/
def setsShiftSpec : ChangeSpec := { name := "setsShift", fn := fun _ => fun
  | [d1, d2, d3] => { results := [.lit (.bool true)], args := [d1, d2, d3] }
  | _ => none }
def setsShiftRow : OpenClaim := { program := "ytgaadakhkjfbnaa", sum := "9ac53e2a233ca4cbf7f31450f34642bf8cde99940b00b7eca23dc116cfc0809c", func := "lustrum/lustrumlaw05.SetsShift", spec := "setsShift", unfollowed := true, recurses := true, apart := false }
def SetsShiftSaid : Prop := setsShiftRow.holds Try.pinned (OpenSpec.ofChange setsShiftSpec)

/-- ITS FALSE NEIGHBOUR: 'it returns false'. Refute it at one input. -/
def setsShiftWrong : ChangeSpec := { name := "setsShift", fn := fun _ => fun
  | [d1, d2, d3] => { results := [.lit (.bool false)], args := [d1, d2, d3] }
  | _ => none }
def SetsShiftWrongFalsely : Prop := setsShiftRow.holds Try.pinned (OpenSpec.ofChange setsShiftWrong)

/-- 'lustrumlaw05.SetsGrow': WHATEVER THE INPUT: true; the input reads as it did. -/
def setsGrowSpec : ChangeSpec := { name := "setsGrow", fn := fun _ => fun
  | [d1, d2, d3, d4] => { results := [.lit (.bool true)], args := [d1, d2, d3, d4] }
  | _ => none }
def setsGrowRow : OpenClaim := { program := "ytgaadakhkjfbnaa", sum := "9ac53e2a233ca4cbf7f31450f34642bf8cde99940b00b7eca23dc116cfc0809c", func := "lustrum/lustrumlaw05.SetsGrow", spec := "setsGrow", unfollowed := true, recurses := true, apart := false }
def SetsGrowSaid : Prop := setsGrowRow.holds Try.pinned (OpenSpec.ofChange setsGrowSpec)

/-- ITS FALSE NEIGHBOUR: 'it returns false'. Refute it at one input. -/
def setsGrowWrong : ChangeSpec := { name := "setsGrow", fn := fun _ => fun
  | [d1, d2, d3, d4] => { results := [.lit (.bool false)], args := [d1, d2, d3, d4] }
  | _ => none }
def SetsGrowWrongFalsely : Prop := setsGrowRow.holds Try.pinned (OpenSpec.ofChange setsGrowWrong)

/-- 'lustrumlaw05.SetsClip': WHATEVER THE INPUT: true; the input reads as it did. -/
def setsClipSpec : ChangeSpec := { name := "setsClip", fn := fun _ => fun
  | [d1, d2, d3, d4] => { results := [.lit (.bool true)], args := [d1, d2, d3, d4] }
  | _ => none }
def setsClipRow : OpenClaim := { program := "ytgaadakhkjfbnaa", sum := "9ac53e2a233ca4cbf7f31450f34642bf8cde99940b00b7eca23dc116cfc0809c", func := "lustrum/lustrumlaw05.SetsClip", spec := "setsClip", unfollowed := true, recurses := true, apart := false }
def SetsClipSaid : Prop := setsClipRow.holds Try.pinned (OpenSpec.ofChange setsClipSpec)

/-- ITS FALSE NEIGHBOUR: 'it returns false'. Refute it at one input. -/
def setsClipWrong : ChangeSpec := { name := "setsClip", fn := fun _ => fun
  | [d1, d2, d3, d4] => { results := [.lit (.bool false)], args := [d1, d2, d3, d4] }
  | _ => none }
def SetsClipWrongFalsely : Prop := setsClipRow.holds Try.pinned (OpenSpec.ofChange setsClipWrong)

/-- 'lustrumlaw05.SetsWide': WHATEVER THE INPUT: true; the input reads as it did. -/
def setsWideSpec : ChangeSpec := { name := "setsWide", fn := fun _ => fun
  | [d1, d2] => { results := [.lit (.bool true)], args := [d1, d2] }
  | _ => none }
def setsWideRow : OpenClaim := { program := "ytgaadakhkjfbnaa", sum := "9ac53e2a233ca4cbf7f31450f34642bf8cde99940b00b7eca23dc116cfc0809c", func := "lustrum/lustrumlaw05.SetsWide", spec := "setsWide", unfollowed := true, recurses := true, apart := false }
def SetsWideSaid : Prop := setsWideRow.holds Try.pinned (OpenSpec.ofChange setsWideSpec)

/-- ITS FALSE NEIGHBOUR: 'it returns false'. Refute it at one input. -/
def setsWideWrong : ChangeSpec := { name := "setsWide", fn := fun _ => fun
  | [d1, d2] => { results := [.lit (.bool false)], args := [d1, d2] }
  | _ => none }
def SetsWideWrongFalsely : Prop := setsWideRow.holds Try.pinned (OpenSpec.ofChange setsWideWrong)

/-- 'lustrumlaw05.SetsLaws': WHATEVER THE INPUT: true; the input reads as it did. -/
def setsLawsSpec : ChangeSpec := { name := "setsLaws", fn := fun _ => fun
  | [d1, d2, d3] => { results := [.lit (.bool true)], args := [d1, d2, d3] }
  | _ => none }
def setsLawsRow : OpenClaim := { program := "ytgaadakhkjfbnaa", sum := "9ac53e2a233ca4cbf7f31450f34642bf8cde99940b00b7eca23dc116cfc0809c", func := "lustrum/lustrumlaw05.SetsLaws", spec := "setsLaws", unfollowed := true, recurses := true, apart := false }
def SetsLawsSaid : Prop := setsLawsRow.holds Try.pinned (OpenSpec.ofChange setsLawsSpec)

/-- ITS FALSE NEIGHBOUR: 'it returns false'. Refute it at one input. -/
def setsLawsWrong : ChangeSpec := { name := "setsLaws", fn := fun _ => fun
  | [d1, d2, d3] => { results := [.lit (.bool false)], args := [d1, d2, d3] }
  | _ => none }
def SetsLawsWrongFalsely : Prop := setsLawsRow.holds Try.pinned (OpenSpec.ofChange setsLawsWrong)

/-- 'lustrumlaw09.LexIs': WHATEVER THE INPUT: true; the input reads as it did. -/
def lexIsSpec : ChangeSpec := { name := "lexIs", fn := fun _ => fun
  | [d1, d2] => { results := [.lit (.bool true)], args := [d1, d2] }
  | _ => none }
def lexIsRow : OpenClaim := { program := "ytgaadakhkjfbnaa", sum := "9ac53e2a233ca4cbf7f31450f34642bf8cde99940b00b7eca23dc116cfc0809c", func := "lustrum/lustrumlaw09.LexIs", spec := "lexIs", inPlace := ["internal/bytealg.IndexByteString", "internal/abi.NoEscape"], apart := false }
def LexIsSaid : Prop := lexIsRow.holds Try.pinned (OpenSpec.ofChange lexIsSpec)

/-- ITS FALSE NEIGHBOUR: 'it returns false'. Refute it at one input. -/
def lexIsWrong : ChangeSpec := { name := "lexIs", fn := fun _ => fun
  | [d1, d2] => { results := [.lit (.bool false)], args := [d1, d2] }
  | _ => none }
def LexIsWrongFalsely : Prop := lexIsRow.holds Try.pinned (OpenSpec.ofChange lexIsWrong)

/-- 'lustrumlaw09.LexBack': WHATEVER THE INPUT: true; the input reads as it did. -/
def lexBackSpec : ChangeSpec := { name := "lexBack", fn := fun _ => fun
  | [d] => { results := [.lit (.bool true)], args := [d] }
  | _ => none }
def lexBackRow : OpenClaim := { program := "ytgaadakhkjfbnaa", sum := "9ac53e2a233ca4cbf7f31450f34642bf8cde99940b00b7eca23dc116cfc0809c", func := "lustrum/lustrumlaw09.LexBack", spec := "lexBack", inPlace := ["internal/bytealg.IndexByteString", "internal/abi.NoEscape"], apart := false }
def LexBackSaid : Prop := lexBackRow.holds Try.pinned (OpenSpec.ofChange lexBackSpec)

/-- ITS FALSE NEIGHBOUR: 'it returns false'. Refute it at one input. -/
def lexBackWrong : ChangeSpec := { name := "lexBack", fn := fun _ => fun
  | [d] => { results := [.lit (.bool false)], args := [d] }
  | _ => none }
def LexBackWrongFalsely : Prop := lexBackRow.holds Try.pinned (OpenSpec.ofChange lexBackWrong)

/-- 'lustrumlaw09.LexPlaces': WHATEVER THE INPUT: true; the input reads as it did. -/
def lexPlacesSpec : ChangeSpec := { name := "lexPlaces", fn := fun _ => fun
  | [d] => { results := [.lit (.bool true)], args := [d] }
  | _ => none }
def lexPlacesRow : OpenClaim := { program := "ytgaadakhkjfbnaa", sum := "9ac53e2a233ca4cbf7f31450f34642bf8cde99940b00b7eca23dc116cfc0809c", func := "lustrum/lustrumlaw09.LexPlaces", spec := "lexPlaces", inPlace := ["internal/bytealg.IndexByteString", "internal/abi.NoEscape"], apart := false }
def LexPlacesSaid : Prop := lexPlacesRow.holds Try.pinned (OpenSpec.ofChange lexPlacesSpec)

/-- ITS FALSE NEIGHBOUR: 'it returns false'. Refute it at one input. -/
def lexPlacesWrong : ChangeSpec := { name := "lexPlaces", fn := fun _ => fun
  | [d] => { results := [.lit (.bool false)], args := [d] }
  | _ => none }
def LexPlacesWrongFalsely : Prop := lexPlacesRow.holds Try.pinned (OpenSpec.ofChange lexPlacesWrong)

/-- 'lustrumlaw09.LexBad': WHATEVER THE INPUT: true; the input reads as it did. -/
def lexBadSpec : ChangeSpec := { name := "lexBad", fn := fun _ => fun
  | [d1, d2, d3] => { results := [.lit (.bool true)], args := [d1, d2, d3] }
  | _ => none }
def lexBadRow : OpenClaim := { program := "ytgaadakhkjfbnaa", sum := "9ac53e2a233ca4cbf7f31450f34642bf8cde99940b00b7eca23dc116cfc0809c", func := "lustrum/lustrumlaw09.LexBad", spec := "lexBad", inPlace := ["internal/bytealg.IndexByteString", "internal/abi.NoEscape"], apart := false }
def LexBadSaid : Prop := lexBadRow.holds Try.pinned (OpenSpec.ofChange lexBadSpec)

/-- ITS FALSE NEIGHBOUR: 'it returns false'. Refute it at one input. -/
def lexBadWrong : ChangeSpec := { name := "lexBad", fn := fun _ => fun
  | [d1, d2, d3] => { results := [.lit (.bool false)], args := [d1, d2, d3] }
  | _ => none }
def LexBadWrongFalsely : Prop := lexBadRow.holds Try.pinned (OpenSpec.ofChange lexBadWrong)

/-- 'lustrumlaw09.LexJoin': WHATEVER THE INPUT: true; the input reads as it did. -/
def lexJoinSpec : ChangeSpec := { name := "lexJoin", fn := fun _ => fun
  | [d1, d2] => { results := [.lit (.bool true)], args := [d1, d2] }
  | _ => none }
def lexJoinRow : OpenClaim := { program := "ytgaadakhkjfbnaa", sum := "9ac53e2a233ca4cbf7f31450f34642bf8cde99940b00b7eca23dc116cfc0809c", func := "lustrum/lustrumlaw09.LexJoin", spec := "lexJoin", inPlace := ["internal/bytealg.IndexByteString", "internal/abi.NoEscape"], apart := false }
def LexJoinSaid : Prop := lexJoinRow.holds Try.pinned (OpenSpec.ofChange lexJoinSpec)

/-- ITS FALSE NEIGHBOUR: 'it returns false'. Refute it at one input. -/
def lexJoinWrong : ChangeSpec := { name := "lexJoin", fn := fun _ => fun
  | [d1, d2] => { results := [.lit (.bool false)], args := [d1, d2] }
  | _ => none }
def LexJoinWrongFalsely : Prop := lexJoinRow.holds Try.pinned (OpenSpec.ofChange lexJoinWrong)

/- THE SECOND FORM. 'bulk': how many values and letters a reading holds, each counted each time it is reached (what is shared counts as often as it is met; a slice's spare places count too). A statement '..UptoSaid' is the law's where the arguments, and the package variables that the reading takes, are together of bulk at most 1048576: NARROWER than '..Said'. Prove '..Said' where nothing that the law and all that it calls make is longer than what came in: it says more and counts as full. Else prove '..UptoSaid'. A law counts once. -/
mutual
def uptoBulk {H : Type} : DataW H → Nat
  | .lit (.string bytes) => bytes.length + 1
  | .lit _ => 1
  | .nil => 1
  | .ptr d => uptoBulk d + 1
  | .slice elems spare => uptoBulkAll elems + uptoBulkAll spare + 1
  | .agg parts => uptoBulkAll parts + 1
  | .iface _ d => uptoBulk d + 1
  | .map entries => uptoBulkEntries entries + 1
  | .held _ => 1
def uptoBulkAll {H : Type} : List (DataW H) → Nat
  | [] => 0
  | d :: r => uptoBulk d + uptoBulkAll r
def uptoBulkEntries {H : Type} : List (Lit × DataW H) → Nat
  | [] => 0
  | x :: r => uptoBulkEntry x + uptoBulkEntries r
def uptoBulkEntry {H : Type} : Lit × DataW H → Nat
  | (.string bytes, d) => bytes.length + uptoBulk d + 1
  | (_, d) => uptoBulk d + 1
 end
def uptoSmall : (H : Type) → List (DataW H) → Bool := fun _ ds => decide (uptoBulkAll ds ≤ 1048576)
def OpenSpec.upto (s : _root_.Go.ChangeSpec) : _root_.Go.OpenSpec := { _root_.Go.OpenSpec.ofChange s with cond := some uptoSmall }

/-- 'lustrumlaw04.RunsIs', WHERE WHAT IT READS IS OF BULK AT MOST 1048576: true; the input reads as it did. -/
def runsIsUptoRow : OpenClaim := { program := "ytgaadakhkjfbnaa", sum := "9ac53e2a233ca4cbf7f31450f34642bf8cde99940b00b7eca23dc116cfc0809c", func := "lustrum/lustrumlaw04.RunsIs", spec := "runsIs", unfollowed := true, recurses := true, apart := false, narrowed := true }
def RunsIsUptoSaid : Prop := runsIsUptoRow.holds Try.pinned (OpenSpec.upto runsIsSpec)

/-- 'lustrumlaw04.RunsMake', WHERE WHAT IT READS IS OF BULK AT MOST 1048576: true; the input reads as it did. -/
def runsMakeUptoRow : OpenClaim := { program := "ytgaadakhkjfbnaa", sum := "9ac53e2a233ca4cbf7f31450f34642bf8cde99940b00b7eca23dc116cfc0809c", func := "lustrum/lustrumlaw04.RunsMake", spec := "runsMake", unfollowed := true, recurses := true, apart := false, narrowed := true }
def RunsMakeUptoSaid : Prop := runsMakeUptoRow.holds Try.pinned (OpenSpec.upto runsMakeSpec)

/-- 'lustrumlaw04.RunsOf', WHERE WHAT IT READS IS OF BULK AT MOST 1048576: true; the input reads as it did. -/
def runsOfUptoRow : OpenClaim := { program := "ytgaadakhkjfbnaa", sum := "9ac53e2a233ca4cbf7f31450f34642bf8cde99940b00b7eca23dc116cfc0809c", func := "lustrum/lustrumlaw04.RunsOf", spec := "runsOf", unfollowed := true, recurses := true, apart := false, narrowed := true }
def RunsOfUptoSaid : Prop := runsOfUptoRow.holds Try.pinned (OpenSpec.upto runsOfSpec)

/-- 'lustrumlaw04.RunsNext', WHERE WHAT IT READS IS OF BULK AT MOST 1048576: true; the input reads as it did. -/
def runsNextUptoRow : OpenClaim := { program := "ytgaadakhkjfbnaa", sum := "9ac53e2a233ca4cbf7f31450f34642bf8cde99940b00b7eca23dc116cfc0809c", func := "lustrum/lustrumlaw04.RunsNext", spec := "runsNext", unfollowed := true, recurses := true, apart := false, narrowed := true }
def RunsNextUptoSaid : Prop := runsNextUptoRow.holds Try.pinned (OpenSpec.upto runsNextSpec)

/-- 'lustrumlaw04.RunsOnce', WHERE WHAT IT READS IS OF BULK AT MOST 1048576: true; the input reads as it did. -/
def runsOnceUptoRow : OpenClaim := { program := "ytgaadakhkjfbnaa", sum := "9ac53e2a233ca4cbf7f31450f34642bf8cde99940b00b7eca23dc116cfc0809c", func := "lustrum/lustrumlaw04.RunsOnce", spec := "runsOnce", unfollowed := true, recurses := true, apart := false, narrowed := true }
def RunsOnceUptoSaid : Prop := runsOnceUptoRow.holds Try.pinned (OpenSpec.upto runsOnceSpec)

/-- 'lustrumlaw05.SetsIs', WHERE WHAT IT READS IS OF BULK AT MOST 1048576: true; the input reads as it did. -/
def setsIsUptoRow : OpenClaim := { program := "ytgaadakhkjfbnaa", sum := "9ac53e2a233ca4cbf7f31450f34642bf8cde99940b00b7eca23dc116cfc0809c", func := "lustrum/lustrumlaw05.SetsIs", spec := "setsIs", unfollowed := true, recurses := true, apart := false, narrowed := true }
def SetsIsUptoSaid : Prop := setsIsUptoRow.holds Try.pinned (OpenSpec.upto setsIsSpec)

/-- 'lustrumlaw05.SetsHas', WHERE WHAT IT READS IS OF BULK AT MOST 1048576: true; the input reads as it did. -/
def setsHasUptoRow : OpenClaim := { program := "ytgaadakhkjfbnaa", sum := "9ac53e2a233ca4cbf7f31450f34642bf8cde99940b00b7eca23dc116cfc0809c", func := "lustrum/lustrumlaw05.SetsHas", spec := "setsHas", unfollowed := true, recurses := true, apart := false, narrowed := true }
def SetsHasUptoSaid : Prop := setsHasUptoRow.holds Try.pinned (OpenSpec.upto setsHasSpec)

/-- 'lustrumlaw05.SetsCounts', WHERE WHAT IT READS IS OF BULK AT MOST 1048576: true; the input reads as it did. -/
def setsCountsUptoRow : OpenClaim := { program := "ytgaadakhkjfbnaa", sum := "9ac53e2a233ca4cbf7f31450f34642bf8cde99940b00b7eca23dc116cfc0809c", func := "lustrum/lustrumlaw05.SetsCounts", spec := "setsCounts", unfollowed := true, recurses := true, apart := false, narrowed := true }
def SetsCountsUptoSaid : Prop := setsCountsUptoRow.holds Try.pinned (OpenSpec.upto setsCountsSpec)

/-- 'lustrumlaw05.SetsShift', WHERE WHAT IT READS IS OF BULK AT MOST 1048576: true; the input reads as it did. -/
def setsShiftUptoRow : OpenClaim := { program := "ytgaadakhkjfbnaa", sum := "9ac53e2a233ca4cbf7f31450f34642bf8cde99940b00b7eca23dc116cfc0809c", func := "lustrum/lustrumlaw05.SetsShift", spec := "setsShift", unfollowed := true, recurses := true, apart := false, narrowed := true }
def SetsShiftUptoSaid : Prop := setsShiftUptoRow.holds Try.pinned (OpenSpec.upto setsShiftSpec)

/-- 'lustrumlaw05.SetsGrow', WHERE WHAT IT READS IS OF BULK AT MOST 1048576: true; the input reads as it did. -/
def setsGrowUptoRow : OpenClaim := { program := "ytgaadakhkjfbnaa", sum := "9ac53e2a233ca4cbf7f31450f34642bf8cde99940b00b7eca23dc116cfc0809c", func := "lustrum/lustrumlaw05.SetsGrow", spec := "setsGrow", unfollowed := true, recurses := true, apart := false, narrowed := true }
def SetsGrowUptoSaid : Prop := setsGrowUptoRow.holds Try.pinned (OpenSpec.upto setsGrowSpec)

/-- 'lustrumlaw05.SetsClip', WHERE WHAT IT READS IS OF BULK AT MOST 1048576: true; the input reads as it did. -/
def setsClipUptoRow : OpenClaim := { program := "ytgaadakhkjfbnaa", sum := "9ac53e2a233ca4cbf7f31450f34642bf8cde99940b00b7eca23dc116cfc0809c", func := "lustrum/lustrumlaw05.SetsClip", spec := "setsClip", unfollowed := true, recurses := true, apart := false, narrowed := true }
def SetsClipUptoSaid : Prop := setsClipUptoRow.holds Try.pinned (OpenSpec.upto setsClipSpec)

/-- 'lustrumlaw05.SetsWide', WHERE WHAT IT READS IS OF BULK AT MOST 1048576: true; the input reads as it did. -/
def setsWideUptoRow : OpenClaim := { program := "ytgaadakhkjfbnaa", sum := "9ac53e2a233ca4cbf7f31450f34642bf8cde99940b00b7eca23dc116cfc0809c", func := "lustrum/lustrumlaw05.SetsWide", spec := "setsWide", unfollowed := true, recurses := true, apart := false, narrowed := true }
def SetsWideUptoSaid : Prop := setsWideUptoRow.holds Try.pinned (OpenSpec.upto setsWideSpec)

/-- 'lustrumlaw05.SetsLaws', WHERE WHAT IT READS IS OF BULK AT MOST 1048576: true; the input reads as it did. -/
def setsLawsUptoRow : OpenClaim := { program := "ytgaadakhkjfbnaa", sum := "9ac53e2a233ca4cbf7f31450f34642bf8cde99940b00b7eca23dc116cfc0809c", func := "lustrum/lustrumlaw05.SetsLaws", spec := "setsLaws", unfollowed := true, recurses := true, apart := false, narrowed := true }
def SetsLawsUptoSaid : Prop := setsLawsUptoRow.holds Try.pinned (OpenSpec.upto setsLawsSpec)

/-- 'lustrumlaw09.LexIs', WHERE WHAT IT READS IS OF BULK AT MOST 1048576: true; the input reads as it did. -/
def lexIsUptoRow : OpenClaim := { program := "ytgaadakhkjfbnaa", sum := "9ac53e2a233ca4cbf7f31450f34642bf8cde99940b00b7eca23dc116cfc0809c", func := "lustrum/lustrumlaw09.LexIs", spec := "lexIs", inPlace := ["internal/bytealg.IndexByteString", "internal/abi.NoEscape"], apart := false, narrowed := true }
def LexIsUptoSaid : Prop := lexIsUptoRow.holds Try.pinned (OpenSpec.upto lexIsSpec)

/-- 'lustrumlaw09.LexBack', WHERE WHAT IT READS IS OF BULK AT MOST 1048576: true; the input reads as it did. -/
def lexBackUptoRow : OpenClaim := { program := "ytgaadakhkjfbnaa", sum := "9ac53e2a233ca4cbf7f31450f34642bf8cde99940b00b7eca23dc116cfc0809c", func := "lustrum/lustrumlaw09.LexBack", spec := "lexBack", inPlace := ["internal/bytealg.IndexByteString", "internal/abi.NoEscape"], apart := false, narrowed := true }
def LexBackUptoSaid : Prop := lexBackUptoRow.holds Try.pinned (OpenSpec.upto lexBackSpec)

/-- 'lustrumlaw09.LexPlaces', WHERE WHAT IT READS IS OF BULK AT MOST 1048576: true; the input reads as it did. -/
def lexPlacesUptoRow : OpenClaim := { program := "ytgaadakhkjfbnaa", sum := "9ac53e2a233ca4cbf7f31450f34642bf8cde99940b00b7eca23dc116cfc0809c", func := "lustrum/lustrumlaw09.LexPlaces", spec := "lexPlaces", inPlace := ["internal/bytealg.IndexByteString", "internal/abi.NoEscape"], apart := false, narrowed := true }
def LexPlacesUptoSaid : Prop := lexPlacesUptoRow.holds Try.pinned (OpenSpec.upto lexPlacesSpec)

/-- 'lustrumlaw09.LexBad', WHERE WHAT IT READS IS OF BULK AT MOST 1048576: true; the input reads as it did. -/
def lexBadUptoRow : OpenClaim := { program := "ytgaadakhkjfbnaa", sum := "9ac53e2a233ca4cbf7f31450f34642bf8cde99940b00b7eca23dc116cfc0809c", func := "lustrum/lustrumlaw09.LexBad", spec := "lexBad", inPlace := ["internal/bytealg.IndexByteString", "internal/abi.NoEscape"], apart := false, narrowed := true }
def LexBadUptoSaid : Prop := lexBadUptoRow.holds Try.pinned (OpenSpec.upto lexBadSpec)

/-- 'lustrumlaw09.LexJoin', WHERE WHAT IT READS IS OF BULK AT MOST 1048576: true; the input reads as it did. -/
def lexJoinUptoRow : OpenClaim := { program := "ytgaadakhkjfbnaa", sum := "9ac53e2a233ca4cbf7f31450f34642bf8cde99940b00b7eca23dc116cfc0809c", func := "lustrum/lustrumlaw09.LexJoin", spec := "lexJoin", inPlace := ["internal/bytealg.IndexByteString", "internal/abi.NoEscape"], apart := false, narrowed := true }
def LexJoinUptoSaid : Prop := lexJoinUptoRow.holds Try.pinned (OpenSpec.upto lexJoinSpec)

end Rows
end Go.Proofs.Ytgaadakhkjfbnaa
