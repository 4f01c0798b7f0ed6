/-
  NARROWER THAN 'FOR EVERY INPUT', by the rows' own cells (each row's printed sentence says how): ParseBack: loops, laid · ParseFixed: laid · ParseWhite: laid · ParseCut: loops, laid · ParseParts: laid.
  DERIVED. THE GIVEN ROWS OF THIS SEAT. 5 by the template 'for every input the law returns true; each argument reads behind the call as it read before'; 0 by the template 'total and deterministic' (their statements: YtndmohamjffpcaaDoorTotals.lean).
  GIVEN WITH THE SEED: the statements are not yours to turn. If you find one false, say at which input.
  Laid BY PROGRAM, IN A SANDBOX (cutbox-rows.mjs): the forced cells as the released guide's own fill.sh prints them over the translation 6ee757bacfc7e874… (all of the seat's roots in one cut). By AI agents, Wed Nov 11 2026. No macro, syntax, notation, axiom, sorry.
-/
import Derived.Test.YtndmohamjffpcaaDoorChecked
import GoSem.Claim
import GoSem.ClaimJoined
import GoSem.ClaimMapViews
import Derived.JoinedTies
import Derived.KernelRfl
namespace Go.Proofs.YtndmohamjffpcaaDoor
/- THE CELL 'sum', in the pinned program and in every row, IS THE sha256 OF THE DUMP (.gsa) THAT YtndmohamjffpcaaDoorProg.lean LOADS. Nothing in Lean hashes anything: it is a label: what it is worth is what the hold of that sum in a sandbox is worth. -/
noncomputable def Tryd.pinned : Pinned := { name := "ytndmohamjffpcaadoor", sum := "6ee757bacfc7e874612f3125d54b7e3d720c8ba249feb535cf67d2b1b59c3fe1", checked := Tryd.checked }
namespace Rows
def none {H : Type} : Left H := { results := [], args := [] }

/- WHAT THE LISTED PACKAGE-LEVEL VARIABLES READ AS WHEN THE CALL BEGINS. Each datum BY PROGRAM (the guide's laid-datum.mjs) off the statement by which the dump's own 'gosem.cut.vars' lays the variable. In a bare row this is a premise. The card (YtndmohamjffpcaaDoorCards.lean) ties it to the program's text. -/
def laid_lustrum_point_shapes {H : Type} : DataW H := .agg [.agg [.lit (.int .i64 4), .lit (.int .i64 2), .lit (.int .i64 2), .lit (.int .i64 12), .lit (.string [])], .agg [.lit (.int .i64 4), .lit (.int .i64 2), .lit (.int .i64 0), .lit (.int .i64 12), .lit (.string [])], .agg [.lit (.int .i64 4), .lit (.int .i64 1), .lit (.int .i64 0), .lit (.int .i64 4), .lit (.string [])], .agg [.lit (.int .i64 4), .lit (.int .i64 0), .lit (.int .i64 0), .lit (.int .i64 0), .lit (.string [])], .agg [.lit (.int .i64 3), .lit (.int .i64 0), .lit (.int .i64 0), .lit (.int .i64 0), .lit (.string [100])], .agg [.lit (.int .i64 2), .lit (.int .i64 0), .lit (.int .i64 0), .lit (.int .i64 0), .lit (.string [99])]]

/-- 'lustrumlaw13.ParseBack': WHATEVER THE INPUT: true; the input reads as it did. -/
def parseBackSpec : ChangeSpec := { name := "parseBack", fn := fun _ => fun
  | [d] => { results := [.lit (.bool true)], args := [d] }
  | _ => none }
def parseBackRow : OpenClaim := { program := "ytndmohamjffpcaadoor", sum := "6ee757bacfc7e874612f3125d54b7e3d720c8ba249feb535cf67d2b1b59c3fe1", func := "lustrum/lustrumlaw13.ParseBack", spec := "parseBack", inPlace := ["internal/bytealg.IndexByteString", "internal/abi.NoEscape"], unfollowed := true, recurses := true, named := ["lustrum/point.shapes"], loops := true, apart := false, laid := [("lustrum/point.shapes", laid_lustrum_point_shapes)] }
def ParseBackSaid : Prop := parseBackRow.holds Tryd.pinned (OpenSpec.ofChange parseBackSpec)

/-- ITS FALSE NEIGHBOUR: 'it returns false'. Refute it at one input. -/
def parseBackWrong : ChangeSpec := { name := "parseBack", fn := fun _ => fun
  | [d] => { results := [.lit (.bool false)], args := [d] }
  | _ => none }
def ParseBackWrongFalsely : Prop := parseBackRow.holds Tryd.pinned (OpenSpec.ofChange parseBackWrong)

/-- 'lustrumlaw13.ParseFixed': WHATEVER THE INPUT: true; the input reads as it did. -/
def parseFixedSpec : ChangeSpec := { name := "parseFixed", fn := fun _ => fun
  | [d] => { results := [.lit (.bool true)], args := [d] }
  | _ => none }
def parseFixedRow : OpenClaim := { program := "ytndmohamjffpcaadoor", sum := "6ee757bacfc7e874612f3125d54b7e3d720c8ba249feb535cf67d2b1b59c3fe1", func := "lustrum/lustrumlaw13.ParseFixed", spec := "parseFixed", inPlace := ["internal/bytealg.IndexByteString", "internal/abi.NoEscape"], unfollowed := true, recurses := true, named := ["lustrum/point.shapes"], apart := false, laid := [("lustrum/point.shapes", laid_lustrum_point_shapes)] }
def ParseFixedSaid : Prop := parseFixedRow.holds Tryd.pinned (OpenSpec.ofChange parseFixedSpec)

/-- ITS FALSE NEIGHBOUR: 'it returns false'. Refute it at one input. -/
def parseFixedWrong : ChangeSpec := { name := "parseFixed", fn := fun _ => fun
  | [d] => { results := [.lit (.bool false)], args := [d] }
  | _ => none }
def ParseFixedWrongFalsely : Prop := parseFixedRow.holds Tryd.pinned (OpenSpec.ofChange parseFixedWrong)

/-- 'lustrumlaw13.ParseWhite': WHATEVER THE INPUT: true; the input reads as it did. -/
def parseWhiteSpec : ChangeSpec := { name := "parseWhite", fn := fun _ => fun
  | [d] => { results := [.lit (.bool true)], args := [d] }
  | _ => none }
def parseWhiteRow : OpenClaim := { program := "ytndmohamjffpcaadoor", sum := "6ee757bacfc7e874612f3125d54b7e3d720c8ba249feb535cf67d2b1b59c3fe1", func := "lustrum/lustrumlaw13.ParseWhite", spec := "parseWhite", inPlace := ["internal/bytealg.IndexByteString", "internal/abi.NoEscape"], unfollowed := true, recurses := true, named := ["lustrum/point.shapes"], apart := false, laid := [("lustrum/point.shapes", laid_lustrum_point_shapes)] }
def ParseWhiteSaid : Prop := parseWhiteRow.holds Tryd.pinned (OpenSpec.ofChange parseWhiteSpec)

/-- ITS FALSE NEIGHBOUR: 'it returns false'. Refute it at one input. -/
def parseWhiteWrong : ChangeSpec := { name := "parseWhite", fn := fun _ => fun
  | [d] => { results := [.lit (.bool false)], args := [d] }
  | _ => none }
def ParseWhiteWrongFalsely : Prop := parseWhiteRow.holds Tryd.pinned (OpenSpec.ofChange parseWhiteWrong)

/-- 'lustrumlaw13.ParseCut': WHATEVER THE INPUT: true; the input reads as it did. -/
def parseCutSpec : ChangeSpec := { name := "parseCut", fn := fun _ => fun
  | [d] => { results := [.lit (.bool true)], args := [d] }
  | _ => none }
def parseCutRow : OpenClaim := { program := "ytndmohamjffpcaadoor", sum := "6ee757bacfc7e874612f3125d54b7e3d720c8ba249feb535cf67d2b1b59c3fe1", func := "lustrum/lustrumlaw13.ParseCut", spec := "parseCut", inPlace := ["internal/bytealg.IndexByteString", "internal/abi.NoEscape"], unfollowed := true, recurses := true, named := ["lustrum/point.shapes"], loops := true, apart := false, laid := [("lustrum/point.shapes", laid_lustrum_point_shapes)] }
def ParseCutSaid : Prop := parseCutRow.holds Tryd.pinned (OpenSpec.ofChange parseCutSpec)

/-- ITS FALSE NEIGHBOUR: 'it returns false'. Refute it at one input. -/
def parseCutWrong : ChangeSpec := { name := "parseCut", fn := fun _ => fun
  | [d] => { results := [.lit (.bool false)], args := [d] }
  | _ => none }
def ParseCutWrongFalsely : Prop := parseCutRow.holds Tryd.pinned (OpenSpec.ofChange parseCutWrong)

/-- 'lustrumlaw13.ParseParts': WHATEVER THE INPUT: true; the input reads as it did. -/
def parsePartsSpec : ChangeSpec := { name := "parseParts", fn := fun _ => fun
  | [d1, d2] => { results := [.lit (.bool true)], args := [d1, d2] }
  | _ => none }
def parsePartsRow : OpenClaim := { program := "ytndmohamjffpcaadoor", sum := "6ee757bacfc7e874612f3125d54b7e3d720c8ba249feb535cf67d2b1b59c3fe1", func := "lustrum/lustrumlaw13.ParseParts", spec := "parseParts", inPlace := ["internal/bytealg.IndexByteString", "internal/abi.NoEscape"], unfollowed := true, recurses := true, named := ["lustrum/point.shapes"], apart := false, laid := [("lustrum/point.shapes", laid_lustrum_point_shapes)] }
def ParsePartsSaid : Prop := parsePartsRow.holds Tryd.pinned (OpenSpec.ofChange parsePartsSpec)

/-- ITS FALSE NEIGHBOUR: 'it returns false'. Refute it at one input. -/
def parsePartsWrong : ChangeSpec := { name := "parseParts", fn := fun _ => fun
  | [d1, d2] => { results := [.lit (.bool false)], args := [d1, d2] }
  | _ => none }
def ParsePartsWrongFalsely : Prop := parsePartsRow.holds Tryd.pinned (OpenSpec.ofChange parsePartsWrong)

/- THE SECOND FORM. 'bulk': how many values and letters a reading holds, each counted each time it is reached (what is shared counts as often as it is met; a slice's spare places count too). A statement '..UptoSaid' is the law's where the arguments, and the package variables that the reading takes, are together of bulk at most 1048576: NARROWER than '..Said'. Prove '..Said' where nothing that the law and all that it calls make is longer than what came in: it says more and counts as full. Else prove '..UptoSaid'. A law counts once. -/
mutual
def uptoBulk {H : Type} : DataW H → Nat
  | .lit (.string bytes) => bytes.length + 1
  | .lit _ => 1
  | .nil => 1
  | .ptr d => uptoBulk d + 1
  | .slice elems spare => uptoBulkAll elems + uptoBulkAll spare + 1
  | .agg parts => uptoBulkAll parts + 1
  | .iface _ d => uptoBulk d + 1
  | .map entries => uptoBulkEntries entries + 1
  | .held _ => 1
def uptoBulkAll {H : Type} : List (DataW H) → Nat
  | [] => 0
  | d :: r => uptoBulk d + uptoBulkAll r
def uptoBulkEntries {H : Type} : List (Lit × DataW H) → Nat
  | [] => 0
  | x :: r => uptoBulkEntry x + uptoBulkEntries r
def uptoBulkEntry {H : Type} : Lit × DataW H → Nat
  | (.string bytes, d) => bytes.length + uptoBulk d + 1
  | (_, d) => uptoBulk d + 1
 end
def uptoSmall : (H : Type) → List (DataW H) → Bool := fun _ ds => decide (uptoBulkAll ds ≤ 1048576)
def OpenSpec.upto (s : _root_.Go.ChangeSpec) : _root_.Go.OpenSpec := { _root_.Go.OpenSpec.ofChange s with cond := some uptoSmall }

/-- 'lustrumlaw13.ParseBack', WHERE WHAT IT READS IS OF BULK AT MOST 1048576: true; the input reads as it did. -/
def parseBackUptoRow : OpenClaim := { program := "ytndmohamjffpcaadoor", sum := "6ee757bacfc7e874612f3125d54b7e3d720c8ba249feb535cf67d2b1b59c3fe1", func := "lustrum/lustrumlaw13.ParseBack", spec := "parseBack", inPlace := ["internal/bytealg.IndexByteString", "internal/abi.NoEscape"], unfollowed := true, recurses := true, named := ["lustrum/point.shapes"], loops := true, apart := false, laid := [("lustrum/point.shapes", laid_lustrum_point_shapes)], narrowed := true }
def ParseBackUptoSaid : Prop := parseBackUptoRow.holds Tryd.pinned (OpenSpec.upto parseBackSpec)

/-- 'lustrumlaw13.ParseFixed', WHERE WHAT IT READS IS OF BULK AT MOST 1048576: true; the input reads as it did. -/
def parseFixedUptoRow : OpenClaim := { program := "ytndmohamjffpcaadoor", sum := "6ee757bacfc7e874612f3125d54b7e3d720c8ba249feb535cf67d2b1b59c3fe1", func := "lustrum/lustrumlaw13.ParseFixed", spec := "parseFixed", inPlace := ["internal/bytealg.IndexByteString", "internal/abi.NoEscape"], unfollowed := true, recurses := true, named := ["lustrum/point.shapes"], apart := false, laid := [("lustrum/point.shapes", laid_lustrum_point_shapes)], narrowed := true }
def ParseFixedUptoSaid : Prop := parseFixedUptoRow.holds Tryd.pinned (OpenSpec.upto parseFixedSpec)

/-- 'lustrumlaw13.ParseWhite', WHERE WHAT IT READS IS OF BULK AT MOST 1048576: true; the input reads as it did. -/
def parseWhiteUptoRow : OpenClaim := { program := "ytndmohamjffpcaadoor", sum := "6ee757bacfc7e874612f3125d54b7e3d720c8ba249feb535cf67d2b1b59c3fe1", func := "lustrum/lustrumlaw13.ParseWhite", spec := "parseWhite", inPlace := ["internal/bytealg.IndexByteString", "internal/abi.NoEscape"], unfollowed := true, recurses := true, named := ["lustrum/point.shapes"], apart := false, laid := [("lustrum/point.shapes", laid_lustrum_point_shapes)], narrowed := true }
def ParseWhiteUptoSaid : Prop := parseWhiteUptoRow.holds Tryd.pinned (OpenSpec.upto parseWhiteSpec)

/-- 'lustrumlaw13.ParseCut', WHERE WHAT IT READS IS OF BULK AT MOST 1048576: true; the input reads as it did. -/
def parseCutUptoRow : OpenClaim := { program := "ytndmohamjffpcaadoor", sum := "6ee757bacfc7e874612f3125d54b7e3d720c8ba249feb535cf67d2b1b59c3fe1", func := "lustrum/lustrumlaw13.ParseCut", spec := "parseCut", inPlace := ["internal/bytealg.IndexByteString", "internal/abi.NoEscape"], unfollowed := true, recurses := true, named := ["lustrum/point.shapes"], loops := true, apart := false, laid := [("lustrum/point.shapes", laid_lustrum_point_shapes)], narrowed := true }
def ParseCutUptoSaid : Prop := parseCutUptoRow.holds Tryd.pinned (OpenSpec.upto parseCutSpec)

/-- 'lustrumlaw13.ParseParts', WHERE WHAT IT READS IS OF BULK AT MOST 1048576: true; the input reads as it did. -/
def parsePartsUptoRow : OpenClaim := { program := "ytndmohamjffpcaadoor", sum := "6ee757bacfc7e874612f3125d54b7e3d720c8ba249feb535cf67d2b1b59c3fe1", func := "lustrum/lustrumlaw13.ParseParts", spec := "parseParts", inPlace := ["internal/bytealg.IndexByteString", "internal/abi.NoEscape"], unfollowed := true, recurses := true, named := ["lustrum/point.shapes"], apart := false, laid := [("lustrum/point.shapes", laid_lustrum_point_shapes)], narrowed := true }
def ParsePartsUptoSaid : Prop := parsePartsUptoRow.holds Tryd.pinned (OpenSpec.upto parsePartsSpec)

end Rows
end Go.Proofs.YtndmohamjffpcaaDoor
