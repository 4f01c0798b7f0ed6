/-
  NARROWER THAN 'FOR EVERY INPUT', by the rows' own cells (each row's printed sentence says how): PointOnly: laid · PointHidden: laid · TreeIs: loops, laid · TreeMade: loops, laid · TreeCounts: loops, laid · PrintIs: loops, laid · PrintParts: loops, laid · PrintLex: loops, laid · PrintApart: loops, laid.
  DERIVED. THE GIVEN ROWS OF THIS SEAT. 9 by the template 'for every input the law returns true; each argument reads behind the call as it read before'; 0 by the template 'total and deterministic' (their statements: YtjiikianmjmgcaaDoorTotals.lean).
  GIVEN WITH THE SEED: the statements are not yours to turn. If you find one false, say at which input.
  Laid BY PROGRAM, IN A SANDBOX (cutbox-rows.mjs): the forced cells as the released guide's own fill.sh prints them over the translation 1ee34ce8d6d7bae4… (all of the seat's roots in one cut). By AI agents, Wed Nov 11 2026. No macro, syntax, notation, axiom, sorry.
-/
import Derived.Test.YtjiikianmjmgcaaDoorChecked
import GoSem.Claim
import GoSem.ClaimJoined
import GoSem.ClaimMapViews
import Derived.JoinedTies
import Derived.KernelRfl
namespace Go.Proofs.YtjiikianmjmgcaaDoor
/- THE CELL 'sum', in the pinned program and in every row, IS THE sha256 OF THE DUMP (.gsa) THAT YtjiikianmjmgcaaDoorProg.lean LOADS. Nothing in Lean hashes anything: it is a label: what it is worth is what the hold of that sum in a sandbox is worth. -/
noncomputable def Tryd.pinned : Pinned := { name := "ytjiikianmjmgcaadoor", sum := "1ee34ce8d6d7bae4a5bbc82a7255e5662a20f3d6ec8cbd779680522a9f0dbe4d", checked := Tryd.checked }
namespace Rows
def none {H : Type} : Left H := { results := [], args := [] }

/- WHAT THE LISTED PACKAGE-LEVEL VARIABLES READ AS WHEN THE CALL BEGINS. Each datum BY PROGRAM (the guide's laid-datum.mjs) off the statement by which the dump's own 'gosem.cut.vars' lays the variable. In a bare row this is a premise. The card (YtjiikianmjmgcaaDoorCards.lean) ties it to the program's text. -/
def laid_lustrum_civil_monthDays {H : Type} : DataW H := .agg [.lit (.int .i64 0), .lit (.int .i64 31), .lit (.int .i64 28), .lit (.int .i64 31), .lit (.int .i64 30), .lit (.int .i64 31), .lit (.int .i64 30), .lit (.int .i64 31), .lit (.int .i64 31), .lit (.int .i64 30), .lit (.int .i64 31), .lit (.int .i64 30), .lit (.int .i64 31)]
def laid_lustrum_unit_counts {H : Type} : DataW H := .agg [.lit (.int .i64 3652425), .lit (.int .i64 120000), .lit (.int .i64 40000), .lit (.int .i64 10000), .lit (.int .i64 1000), .lit (.int .i64 100)]
def laid_lustrum_point_shapes {H : Type} : DataW H := .agg [.agg [.lit (.int .i64 4), .lit (.int .i64 2), .lit (.int .i64 2), .lit (.int .i64 12), .lit (.string [])], .agg [.lit (.int .i64 4), .lit (.int .i64 2), .lit (.int .i64 0), .lit (.int .i64 12), .lit (.string [])], .agg [.lit (.int .i64 4), .lit (.int .i64 1), .lit (.int .i64 0), .lit (.int .i64 4), .lit (.string [])], .agg [.lit (.int .i64 4), .lit (.int .i64 0), .lit (.int .i64 0), .lit (.int .i64 0), .lit (.string [])], .agg [.lit (.int .i64 3), .lit (.int .i64 0), .lit (.int .i64 0), .lit (.int .i64 0), .lit (.string [100])], .agg [.lit (.int .i64 2), .lit (.int .i64 0), .lit (.int .i64 0), .lit (.int .i64 0), .lit (.string [99])]]
def laid_lustrum_point_radii {H : Type} : DataW H := .agg [.lit (.int .i64 3), .lit (.int .i64 1), .lit (.int .i64 1), .lit (.int .i64 2), .lit (.int .i64 1), .lit (.int .i64 1)]

/-- 'lustrumlaw08.PointOnly': WHATEVER THE INPUT: true; the input reads as it did. -/
def pointOnlySpec : ChangeSpec := { name := "pointOnly", fn := fun _ => fun
  | [d] => { results := [.lit (.bool true)], args := [d] }
  | _ => none }
def pointOnlyRow : OpenClaim := { program := "ytjiikianmjmgcaadoor", sum := "1ee34ce8d6d7bae4a5bbc82a7255e5662a20f3d6ec8cbd779680522a9f0dbe4d", func := "lustrum/lustrumlaw08.PointOnly", spec := "pointOnly", unfollowed := true, recurses := true, named := ["lustrum/point.shapes", "lustrum/unit.counts", "lustrum/civil.monthDays", "lustrum/point.radii"], apart := false, laid := [("lustrum/civil.monthDays", laid_lustrum_civil_monthDays), ("lustrum/unit.counts", laid_lustrum_unit_counts), ("lustrum/point.shapes", laid_lustrum_point_shapes), ("lustrum/point.radii", laid_lustrum_point_radii)] }
def PointOnlySaid : Prop := pointOnlyRow.holds Tryd.pinned (OpenSpec.ofChange pointOnlySpec)

/-- ITS FALSE NEIGHBOUR: 'it returns false'. Refute it at one input. -/
def pointOnlyWrong : ChangeSpec := { name := "pointOnly", fn := fun _ => fun
  | [d] => { results := [.lit (.bool false)], args := [d] }
  | _ => none }
def PointOnlyWrongFalsely : Prop := pointOnlyRow.holds Tryd.pinned (OpenSpec.ofChange pointOnlyWrong)

/-- 'lustrumlaw08.PointHidden': WHATEVER THE INPUT: true; the input reads as it did. -/
def pointHiddenSpec : ChangeSpec := { name := "pointHidden", fn := fun _ => fun
  | [d1, d2] => { results := [.lit (.bool true)], args := [d1, d2] }
  | _ => none }
def pointHiddenRow : OpenClaim := { program := "ytjiikianmjmgcaadoor", sum := "1ee34ce8d6d7bae4a5bbc82a7255e5662a20f3d6ec8cbd779680522a9f0dbe4d", func := "lustrum/lustrumlaw08.PointHidden", spec := "pointHidden", unfollowed := true, recurses := true, named := ["lustrum/point.shapes", "lustrum/unit.counts", "lustrum/civil.monthDays", "lustrum/point.radii"], apart := false, laid := [("lustrum/civil.monthDays", laid_lustrum_civil_monthDays), ("lustrum/unit.counts", laid_lustrum_unit_counts), ("lustrum/point.shapes", laid_lustrum_point_shapes), ("lustrum/point.radii", laid_lustrum_point_radii)] }
def PointHiddenSaid : Prop := pointHiddenRow.holds Tryd.pinned (OpenSpec.ofChange pointHiddenSpec)

/-- ITS FALSE NEIGHBOUR: 'it returns false'. Refute it at one input. -/
def pointHiddenWrong : ChangeSpec := { name := "pointHidden", fn := fun _ => fun
  | [d1, d2] => { results := [.lit (.bool false)], args := [d1, d2] }
  | _ => none }
def PointHiddenWrongFalsely : Prop := pointHiddenRow.holds Tryd.pinned (OpenSpec.ofChange pointHiddenWrong)

/-- 'lustrumlaw10.TreeIs': WHATEVER THE INPUT: true; the input reads as it did. -/
def treeIsSpec : ChangeSpec := { name := "treeIs", fn := fun _ => fun
  | [d1, d2] => { results := [.lit (.bool true)], args := [d1, d2] }
  | _ => none }
def treeIsRow : OpenClaim := { program := "ytjiikianmjmgcaadoor", sum := "1ee34ce8d6d7bae4a5bbc82a7255e5662a20f3d6ec8cbd779680522a9f0dbe4d", func := "lustrum/lustrumlaw10.TreeIs", spec := "treeIs", unfollowed := true, recurses := true, named := ["lustrum/point.shapes"], loops := true, apart := false, laid := [("lustrum/point.shapes", laid_lustrum_point_shapes)] }
def TreeIsSaid : Prop := treeIsRow.holds Tryd.pinned (OpenSpec.ofChange treeIsSpec)

/-- ITS FALSE NEIGHBOUR: 'it returns false'. Refute it at one input. -/
def treeIsWrong : ChangeSpec := { name := "treeIs", fn := fun _ => fun
  | [d1, d2] => { results := [.lit (.bool false)], args := [d1, d2] }
  | _ => none }
def TreeIsWrongFalsely : Prop := treeIsRow.holds Tryd.pinned (OpenSpec.ofChange treeIsWrong)

/-- 'lustrumlaw10.TreeMade': WHATEVER THE INPUT: true; the input reads as it did. -/
def treeMadeSpec : ChangeSpec := { name := "treeMade", fn := fun _ => fun
  | [d1, d2, d3, d4] => { results := [.lit (.bool true)], args := [d1, d2, d3, d4] }
  | _ => none }
def treeMadeRow : OpenClaim := { program := "ytjiikianmjmgcaadoor", sum := "1ee34ce8d6d7bae4a5bbc82a7255e5662a20f3d6ec8cbd779680522a9f0dbe4d", func := "lustrum/lustrumlaw10.TreeMade", spec := "treeMade", unfollowed := true, recurses := true, named := ["lustrum/point.shapes"], loops := true, apart := false, laid := [("lustrum/point.shapes", laid_lustrum_point_shapes)] }
def TreeMadeSaid : Prop := treeMadeRow.holds Tryd.pinned (OpenSpec.ofChange treeMadeSpec)

/-- ITS FALSE NEIGHBOUR: 'it returns false'. Refute it at one input. -/
def treeMadeWrong : ChangeSpec := { name := "treeMade", fn := fun _ => fun
  | [d1, d2, d3, d4] => { results := [.lit (.bool false)], args := [d1, d2, d3, d4] }
  | _ => none }
def TreeMadeWrongFalsely : Prop := treeMadeRow.holds Tryd.pinned (OpenSpec.ofChange treeMadeWrong)

/-- 'lustrumlaw10.TreeCounts': WHATEVER THE INPUT: true; the input reads as it did. -/
def treeCountsSpec : ChangeSpec := { name := "treeCounts", fn := fun _ => fun
  | [d1, d2] => { results := [.lit (.bool true)], args := [d1, d2] }
  | _ => none }
def treeCountsRow : OpenClaim := { program := "ytjiikianmjmgcaadoor", sum := "1ee34ce8d6d7bae4a5bbc82a7255e5662a20f3d6ec8cbd779680522a9f0dbe4d", func := "lustrum/lustrumlaw10.TreeCounts", spec := "treeCounts", unfollowed := true, recurses := true, named := ["lustrum/point.shapes"], loops := true, apart := false, laid := [("lustrum/point.shapes", laid_lustrum_point_shapes)] }
def TreeCountsSaid : Prop := treeCountsRow.holds Tryd.pinned (OpenSpec.ofChange treeCountsSpec)

/-- ITS FALSE NEIGHBOUR: 'it returns false'. Refute it at one input. -/
def treeCountsWrong : ChangeSpec := { name := "treeCounts", fn := fun _ => fun
  | [d1, d2] => { results := [.lit (.bool false)], args := [d1, d2] }
  | _ => none }
def TreeCountsWrongFalsely : Prop := treeCountsRow.holds Tryd.pinned (OpenSpec.ofChange treeCountsWrong)

/-- 'lustrumlaw11.PrintIs': WHATEVER THE INPUT: true; the input reads as it did. -/
def printIsSpec : ChangeSpec := { name := "printIs", fn := fun _ => fun
  | [d] => { results := [.lit (.bool true)], args := [d] }
  | _ => none }
def printIsRow : OpenClaim := { program := "ytjiikianmjmgcaadoor", sum := "1ee34ce8d6d7bae4a5bbc82a7255e5662a20f3d6ec8cbd779680522a9f0dbe4d", func := "lustrum/lustrumlaw11.PrintIs", spec := "printIs", inPlace := ["internal/abi.NoEscape"], unfollowed := true, recurses := true, named := ["lustrum/point.shapes"], loops := true, apart := false, laid := [("lustrum/point.shapes", laid_lustrum_point_shapes)] }
def PrintIsSaid : Prop := printIsRow.holds Tryd.pinned (OpenSpec.ofChange printIsSpec)

/-- ITS FALSE NEIGHBOUR: 'it returns false'. Refute it at one input. -/
def printIsWrong : ChangeSpec := { name := "printIs", fn := fun _ => fun
  | [d] => { results := [.lit (.bool false)], args := [d] }
  | _ => none }
def PrintIsWrongFalsely : Prop := printIsRow.holds Tryd.pinned (OpenSpec.ofChange printIsWrong)

/-- 'lustrumlaw11.PrintParts': WHATEVER THE INPUT: true; the input reads as it did. -/
def printPartsSpec : ChangeSpec := { name := "printParts", fn := fun _ => fun
  | [d] => { results := [.lit (.bool true)], args := [d] }
  | _ => none }
def printPartsRow : OpenClaim := { program := "ytjiikianmjmgcaadoor", sum := "1ee34ce8d6d7bae4a5bbc82a7255e5662a20f3d6ec8cbd779680522a9f0dbe4d", func := "lustrum/lustrumlaw11.PrintParts", spec := "printParts", inPlace := ["internal/abi.NoEscape"], unfollowed := true, recurses := true, named := ["lustrum/point.shapes"], loops := true, apart := false, laid := [("lustrum/point.shapes", laid_lustrum_point_shapes)] }
def PrintPartsSaid : Prop := printPartsRow.holds Tryd.pinned (OpenSpec.ofChange printPartsSpec)

/-- ITS FALSE NEIGHBOUR: 'it returns false'. Refute it at one input. -/
def printPartsWrong : ChangeSpec := { name := "printParts", fn := fun _ => fun
  | [d] => { results := [.lit (.bool false)], args := [d] }
  | _ => none }
def PrintPartsWrongFalsely : Prop := printPartsRow.holds Tryd.pinned (OpenSpec.ofChange printPartsWrong)

/-- 'lustrumlaw11.PrintLex': WHATEVER THE INPUT: true; the input reads as it did. -/
def printLexSpec : ChangeSpec := { name := "printLex", fn := fun _ => fun
  | [d] => { results := [.lit (.bool true)], args := [d] }
  | _ => none }
def printLexRow : OpenClaim := { program := "ytjiikianmjmgcaadoor", sum := "1ee34ce8d6d7bae4a5bbc82a7255e5662a20f3d6ec8cbd779680522a9f0dbe4d", func := "lustrum/lustrumlaw11.PrintLex", spec := "printLex", inPlace := ["internal/abi.NoEscape", "internal/bytealg.IndexByteString"], unfollowed := true, recurses := true, named := ["lustrum/point.shapes"], loops := true, apart := false, laid := [("lustrum/point.shapes", laid_lustrum_point_shapes)] }
def PrintLexSaid : Prop := printLexRow.holds Tryd.pinned (OpenSpec.ofChange printLexSpec)

/-- ITS FALSE NEIGHBOUR: 'it returns false'. Refute it at one input. -/
def printLexWrong : ChangeSpec := { name := "printLex", fn := fun _ => fun
  | [d] => { results := [.lit (.bool false)], args := [d] }
  | _ => none }
def PrintLexWrongFalsely : Prop := printLexRow.holds Tryd.pinned (OpenSpec.ofChange printLexWrong)

/-- 'lustrumlaw11.PrintApart': WHATEVER THE INPUT: true; the input reads as it did. -/
def printApartSpec : ChangeSpec := { name := "printApart", fn := fun _ => fun
  | [d1, d2] => { results := [.lit (.bool true)], args := [d1, d2] }
  | _ => none }
def printApartRow : OpenClaim := { program := "ytjiikianmjmgcaadoor", sum := "1ee34ce8d6d7bae4a5bbc82a7255e5662a20f3d6ec8cbd779680522a9f0dbe4d", func := "lustrum/lustrumlaw11.PrintApart", spec := "printApart", inPlace := ["internal/abi.NoEscape"], unfollowed := true, recurses := true, named := ["lustrum/point.shapes"], loops := true, apart := false, laid := [("lustrum/point.shapes", laid_lustrum_point_shapes)] }
def PrintApartSaid : Prop := printApartRow.holds Tryd.pinned (OpenSpec.ofChange printApartSpec)

/-- ITS FALSE NEIGHBOUR: 'it returns false'. Refute it at one input. -/
def printApartWrong : ChangeSpec := { name := "printApart", fn := fun _ => fun
  | [d1, d2] => { results := [.lit (.bool false)], args := [d1, d2] }
  | _ => none }
def PrintApartWrongFalsely : Prop := printApartRow.holds Tryd.pinned (OpenSpec.ofChange printApartWrong)

/- THE SECOND FORM. 'bulk': how many values and letters a reading holds, each counted each time it is reached (what is shared counts as often as it is met; a slice's spare places count too). A statement '..UptoSaid' is the law's where the arguments, and the package variables that the reading takes, are together of bulk at most 1048576: NARROWER than '..Said'. Prove '..Said' where nothing that the law and all that it calls make is longer than what came in: it says more and counts as full. Else prove '..UptoSaid'. A law counts once. -/
mutual
def uptoBulk {H : Type} : DataW H → Nat
  | .lit (.string bytes) => bytes.length + 1
  | .lit _ => 1
  | .nil => 1
  | .ptr d => uptoBulk d + 1
  | .slice elems spare => uptoBulkAll elems + uptoBulkAll spare + 1
  | .agg parts => uptoBulkAll parts + 1
  | .iface _ d => uptoBulk d + 1
  | .map entries => uptoBulkEntries entries + 1
  | .held _ => 1
def uptoBulkAll {H : Type} : List (DataW H) → Nat
  | [] => 0
  | d :: r => uptoBulk d + uptoBulkAll r
def uptoBulkEntries {H : Type} : List (Lit × DataW H) → Nat
  | [] => 0
  | x :: r => uptoBulkEntry x + uptoBulkEntries r
def uptoBulkEntry {H : Type} : Lit × DataW H → Nat
  | (.string bytes, d) => bytes.length + uptoBulk d + 1
  | (_, d) => uptoBulk d + 1
 end
def uptoSmall : (H : Type) → List (DataW H) → Bool := fun _ ds => decide (uptoBulkAll ds ≤ 1048576)
def OpenSpec.upto (s : _root_.Go.ChangeSpec) : _root_.Go.OpenSpec := { _root_.Go.OpenSpec.ofChange s with cond := some uptoSmall }

/-- 'lustrumlaw08.PointOnly', WHERE WHAT IT READS IS OF BULK AT MOST 1048576: true; the input reads as it did. -/
def pointOnlyUptoRow : OpenClaim := { program := "ytjiikianmjmgcaadoor", sum := "1ee34ce8d6d7bae4a5bbc82a7255e5662a20f3d6ec8cbd779680522a9f0dbe4d", func := "lustrum/lustrumlaw08.PointOnly", spec := "pointOnly", unfollowed := true, recurses := true, named := ["lustrum/point.shapes", "lustrum/unit.counts", "lustrum/civil.monthDays", "lustrum/point.radii"], apart := false, laid := [("lustrum/civil.monthDays", laid_lustrum_civil_monthDays), ("lustrum/unit.counts", laid_lustrum_unit_counts), ("lustrum/point.shapes", laid_lustrum_point_shapes), ("lustrum/point.radii", laid_lustrum_point_radii)], narrowed := true }
def PointOnlyUptoSaid : Prop := pointOnlyUptoRow.holds Tryd.pinned (OpenSpec.upto pointOnlySpec)

/-- 'lustrumlaw08.PointHidden', WHERE WHAT IT READS IS OF BULK AT MOST 1048576: true; the input reads as it did. -/
def pointHiddenUptoRow : OpenClaim := { program := "ytjiikianmjmgcaadoor", sum := "1ee34ce8d6d7bae4a5bbc82a7255e5662a20f3d6ec8cbd779680522a9f0dbe4d", func := "lustrum/lustrumlaw08.PointHidden", spec := "pointHidden", unfollowed := true, recurses := true, named := ["lustrum/point.shapes", "lustrum/unit.counts", "lustrum/civil.monthDays", "lustrum/point.radii"], apart := false, laid := [("lustrum/civil.monthDays", laid_lustrum_civil_monthDays), ("lustrum/unit.counts", laid_lustrum_unit_counts), ("lustrum/point.shapes", laid_lustrum_point_shapes), ("lustrum/point.radii", laid_lustrum_point_radii)], narrowed := true }
def PointHiddenUptoSaid : Prop := pointHiddenUptoRow.holds Tryd.pinned (OpenSpec.upto pointHiddenSpec)

/-- 'lustrumlaw10.TreeIs', WHERE WHAT IT READS IS OF BULK AT MOST 1048576: true; the input reads as it did. -/
def treeIsUptoRow : OpenClaim := { program := "ytjiikianmjmgcaadoor", sum := "1ee34ce8d6d7bae4a5bbc82a7255e5662a20f3d6ec8cbd779680522a9f0dbe4d", func := "lustrum/lustrumlaw10.TreeIs", spec := "treeIs", unfollowed := true, recurses := true, named := ["lustrum/point.shapes"], loops := true, apart := false, laid := [("lustrum/point.shapes", laid_lustrum_point_shapes)], narrowed := true }
def TreeIsUptoSaid : Prop := treeIsUptoRow.holds Tryd.pinned (OpenSpec.upto treeIsSpec)

/-- 'lustrumlaw10.TreeMade', WHERE WHAT IT READS IS OF BULK AT MOST 1048576: true; the input reads as it did. -/
def treeMadeUptoRow : OpenClaim := { program := "ytjiikianmjmgcaadoor", sum := "1ee34ce8d6d7bae4a5bbc82a7255e5662a20f3d6ec8cbd779680522a9f0dbe4d", func := "lustrum/lustrumlaw10.TreeMade", spec := "treeMade", unfollowed := true, recurses := true, named := ["lustrum/point.shapes"], loops := true, apart := false, laid := [("lustrum/point.shapes", laid_lustrum_point_shapes)], narrowed := true }
def TreeMadeUptoSaid : Prop := treeMadeUptoRow.holds Tryd.pinned (OpenSpec.upto treeMadeSpec)

/-- 'lustrumlaw10.TreeCounts', WHERE WHAT IT READS IS OF BULK AT MOST 1048576: true; the input reads as it did. -/
def treeCountsUptoRow : OpenClaim := { program := "ytjiikianmjmgcaadoor", sum := "1ee34ce8d6d7bae4a5bbc82a7255e5662a20f3d6ec8cbd779680522a9f0dbe4d", func := "lustrum/lustrumlaw10.TreeCounts", spec := "treeCounts", unfollowed := true, recurses := true, named := ["lustrum/point.shapes"], loops := true, apart := false, laid := [("lustrum/point.shapes", laid_lustrum_point_shapes)], narrowed := true }
def TreeCountsUptoSaid : Prop := treeCountsUptoRow.holds Tryd.pinned (OpenSpec.upto treeCountsSpec)

/-- 'lustrumlaw11.PrintIs', WHERE WHAT IT READS IS OF BULK AT MOST 1048576: true; the input reads as it did. -/
def printIsUptoRow : OpenClaim := { program := "ytjiikianmjmgcaadoor", sum := "1ee34ce8d6d7bae4a5bbc82a7255e5662a20f3d6ec8cbd779680522a9f0dbe4d", func := "lustrum/lustrumlaw11.PrintIs", spec := "printIs", inPlace := ["internal/abi.NoEscape"], unfollowed := true, recurses := true, named := ["lustrum/point.shapes"], loops := true, apart := false, laid := [("lustrum/point.shapes", laid_lustrum_point_shapes)], narrowed := true }
def PrintIsUptoSaid : Prop := printIsUptoRow.holds Tryd.pinned (OpenSpec.upto printIsSpec)

/-- 'lustrumlaw11.PrintParts', WHERE WHAT IT READS IS OF BULK AT MOST 1048576: true; the input reads as it did. -/
def printPartsUptoRow : OpenClaim := { program := "ytjiikianmjmgcaadoor", sum := "1ee34ce8d6d7bae4a5bbc82a7255e5662a20f3d6ec8cbd779680522a9f0dbe4d", func := "lustrum/lustrumlaw11.PrintParts", spec := "printParts", inPlace := ["internal/abi.NoEscape"], unfollowed := true, recurses := true, named := ["lustrum/point.shapes"], loops := true, apart := false, laid := [("lustrum/point.shapes", laid_lustrum_point_shapes)], narrowed := true }
def PrintPartsUptoSaid : Prop := printPartsUptoRow.holds Tryd.pinned (OpenSpec.upto printPartsSpec)

/-- 'lustrumlaw11.PrintLex', WHERE WHAT IT READS IS OF BULK AT MOST 1048576: true; the input reads as it did. -/
def printLexUptoRow : OpenClaim := { program := "ytjiikianmjmgcaadoor", sum := "1ee34ce8d6d7bae4a5bbc82a7255e5662a20f3d6ec8cbd779680522a9f0dbe4d", func := "lustrum/lustrumlaw11.PrintLex", spec := "printLex", inPlace := ["internal/abi.NoEscape", "internal/bytealg.IndexByteString"], unfollowed := true, recurses := true, named := ["lustrum/point.shapes"], loops := true, apart := false, laid := [("lustrum/point.shapes", laid_lustrum_point_shapes)], narrowed := true }
def PrintLexUptoSaid : Prop := printLexUptoRow.holds Tryd.pinned (OpenSpec.upto printLexSpec)

/-- 'lustrumlaw11.PrintApart', WHERE WHAT IT READS IS OF BULK AT MOST 1048576: true; the input reads as it did. -/
def printApartUptoRow : OpenClaim := { program := "ytjiikianmjmgcaadoor", sum := "1ee34ce8d6d7bae4a5bbc82a7255e5662a20f3d6ec8cbd779680522a9f0dbe4d", func := "lustrum/lustrumlaw11.PrintApart", spec := "printApart", inPlace := ["internal/abi.NoEscape"], unfollowed := true, recurses := true, named := ["lustrum/point.shapes"], loops := true, apart := false, laid := [("lustrum/point.shapes", laid_lustrum_point_shapes)], narrowed := true }
def PrintApartUptoSaid : Prop := printApartUptoRow.holds Tryd.pinned (OpenSpec.upto printApartSpec)

end Rows
end Go.Proofs.YtjiikianmjmgcaaDoor
