/-
  NARROWER THAN 'FOR EVERY INPUT', by the rows' own cells (each row's printed sentence says how): CanonIs: loops, laid · CanonOnce: loops, laid · CanonOrder: loops, laid · CanonParts: loops, laid · CanonMore: loops, laid.
  DERIVED. THE GIVEN ROWS OF THIS SEAT. 5 by the template 'for every input the law returns true; each argument reads behind the call as it read before'; 0 by the template 'total and deterministic' (their statements: YtgmigeehfhkimaaDoorTotals.lean).
  GIVEN WITH THE SEED: the statements are not yours to turn. If you find one false, say at which input.
  Laid BY PROGRAM, IN A SANDBOX (cutbox-rows.mjs): the forced cells as the released guide's own fill.sh prints them over the translation 1b97c19e56506080… (all of the seat's roots in one cut). By AI agents, Wed Nov 11 2026. No macro, syntax, notation, axiom, sorry.
-/
import Derived.Test.YtgmigeehfhkimaaDoorChecked
import GoSem.Claim
import GoSem.ClaimJoined
import GoSem.ClaimMapViews
import Derived.JoinedTies
import Derived.KernelRfl
namespace Go.Proofs.YtgmigeehfhkimaaDoor
/- THE CELL 'sum', in the pinned program and in every row, IS THE sha256 OF THE DUMP (.gsa) THAT YtgmigeehfhkimaaDoorProg.lean LOADS. Nothing in Lean hashes anything: it is a label: what it is worth is what the hold of that sum in a sandbox is worth. -/
noncomputable def Tryd.pinned : Pinned := { name := "ytgmigeehfhkimaadoor", sum := "1b97c19e56506080a895069ddfd2f67c93281cb2c9ba5099c565baa4f7fdd0bf", checked := Tryd.checked }
namespace Rows
def none {H : Type} : Left H := { results := [], args := [] }

/- WHAT THE LISTED PACKAGE-LEVEL VARIABLES READ AS WHEN THE CALL BEGINS. Each datum BY PROGRAM (the guide's laid-datum.mjs) off the statement by which the dump's own 'gosem.cut.vars' lays the variable. In a bare row this is a premise. The card (YtgmigeehfhkimaaDoorCards.lean) ties it to the program's text. -/
def laid_lustrum_point_shapes {H : Type} : DataW H := .agg [.agg [.lit (.int .i64 4), .lit (.int .i64 2), .lit (.int .i64 2), .lit (.int .i64 12), .lit (.string [])], .agg [.lit (.int .i64 4), .lit (.int .i64 2), .lit (.int .i64 0), .lit (.int .i64 12), .lit (.string [])], .agg [.lit (.int .i64 4), .lit (.int .i64 1), .lit (.int .i64 0), .lit (.int .i64 4), .lit (.string [])], .agg [.lit (.int .i64 4), .lit (.int .i64 0), .lit (.int .i64 0), .lit (.int .i64 0), .lit (.string [])], .agg [.lit (.int .i64 3), .lit (.int .i64 0), .lit (.int .i64 0), .lit (.int .i64 0), .lit (.string [100])], .agg [.lit (.int .i64 2), .lit (.int .i64 0), .lit (.int .i64 0), .lit (.int .i64 0), .lit (.string [99])]]

/-- 'lustrumlaw12.CanonIs': WHATEVER THE INPUT: true; the input reads as it did. -/
def canonIsSpec : ChangeSpec := { name := "canonIs", fn := fun _ => fun
  | [d] => { results := [.lit (.bool true)], args := [d] }
  | _ => none }
def canonIsRow : OpenClaim := { program := "ytgmigeehfhkimaadoor", sum := "1b97c19e56506080a895069ddfd2f67c93281cb2c9ba5099c565baa4f7fdd0bf", func := "lustrum/lustrumlaw12.CanonIs", spec := "canonIs", inPlace := ["internal/abi.NoEscape"], unfollowed := true, recurses := true, named := ["lustrum/point.shapes"], loops := true, apart := false, laid := [("lustrum/point.shapes", laid_lustrum_point_shapes)] }
def CanonIsSaid : Prop := canonIsRow.holds Tryd.pinned (OpenSpec.ofChange canonIsSpec)

/-- ITS FALSE NEIGHBOUR: 'it returns false'. Refute it at one input. -/
def canonIsWrong : ChangeSpec := { name := "canonIs", fn := fun _ => fun
  | [d] => { results := [.lit (.bool false)], args := [d] }
  | _ => none }
def CanonIsWrongFalsely : Prop := canonIsRow.holds Tryd.pinned (OpenSpec.ofChange canonIsWrong)

/-- 'lustrumlaw12.CanonOnce': WHATEVER THE INPUT: true; the input reads as it did. -/
def canonOnceSpec : ChangeSpec := { name := "canonOnce", fn := fun _ => fun
  | [d] => { results := [.lit (.bool true)], args := [d] }
  | _ => none }
def canonOnceRow : OpenClaim := { program := "ytgmigeehfhkimaadoor", sum := "1b97c19e56506080a895069ddfd2f67c93281cb2c9ba5099c565baa4f7fdd0bf", func := "lustrum/lustrumlaw12.CanonOnce", spec := "canonOnce", inPlace := ["internal/abi.NoEscape"], unfollowed := true, recurses := true, named := ["lustrum/point.shapes"], loops := true, apart := false, laid := [("lustrum/point.shapes", laid_lustrum_point_shapes)] }
def CanonOnceSaid : Prop := canonOnceRow.holds Tryd.pinned (OpenSpec.ofChange canonOnceSpec)

/-- ITS FALSE NEIGHBOUR: 'it returns false'. Refute it at one input. -/
def canonOnceWrong : ChangeSpec := { name := "canonOnce", fn := fun _ => fun
  | [d] => { results := [.lit (.bool false)], args := [d] }
  | _ => none }
def CanonOnceWrongFalsely : Prop := canonOnceRow.holds Tryd.pinned (OpenSpec.ofChange canonOnceWrong)

/-- 'lustrumlaw12.CanonOrder': WHATEVER THE INPUT: true; the input reads as it did. -/
def canonOrderSpec : ChangeSpec := { name := "canonOrder", fn := fun _ => fun
  | [d] => { results := [.lit (.bool true)], args := [d] }
  | _ => none }
def canonOrderRow : OpenClaim := { program := "ytgmigeehfhkimaadoor", sum := "1b97c19e56506080a895069ddfd2f67c93281cb2c9ba5099c565baa4f7fdd0bf", func := "lustrum/lustrumlaw12.CanonOrder", spec := "canonOrder", inPlace := ["internal/abi.NoEscape"], unfollowed := true, recurses := true, named := ["lustrum/point.shapes"], loops := true, apart := false, laid := [("lustrum/point.shapes", laid_lustrum_point_shapes)] }
def CanonOrderSaid : Prop := canonOrderRow.holds Tryd.pinned (OpenSpec.ofChange canonOrderSpec)

/-- ITS FALSE NEIGHBOUR: 'it returns false'. Refute it at one input. -/
def canonOrderWrong : ChangeSpec := { name := "canonOrder", fn := fun _ => fun
  | [d] => { results := [.lit (.bool false)], args := [d] }
  | _ => none }
def CanonOrderWrongFalsely : Prop := canonOrderRow.holds Tryd.pinned (OpenSpec.ofChange canonOrderWrong)

/-- 'lustrumlaw12.CanonParts': WHATEVER THE INPUT: true; the input reads as it did. -/
def canonPartsSpec : ChangeSpec := { name := "canonParts", fn := fun _ => fun
  | [d] => { results := [.lit (.bool true)], args := [d] }
  | _ => none }
def canonPartsRow : OpenClaim := { program := "ytgmigeehfhkimaadoor", sum := "1b97c19e56506080a895069ddfd2f67c93281cb2c9ba5099c565baa4f7fdd0bf", func := "lustrum/lustrumlaw12.CanonParts", spec := "canonParts", inPlace := ["internal/abi.NoEscape"], unfollowed := true, recurses := true, named := ["lustrum/point.shapes"], loops := true, apart := false, laid := [("lustrum/point.shapes", laid_lustrum_point_shapes)] }
def CanonPartsSaid : Prop := canonPartsRow.holds Tryd.pinned (OpenSpec.ofChange canonPartsSpec)

/-- ITS FALSE NEIGHBOUR: 'it returns false'. Refute it at one input. -/
def canonPartsWrong : ChangeSpec := { name := "canonParts", fn := fun _ => fun
  | [d] => { results := [.lit (.bool false)], args := [d] }
  | _ => none }
def CanonPartsWrongFalsely : Prop := canonPartsRow.holds Tryd.pinned (OpenSpec.ofChange canonPartsWrong)

/-- 'lustrumlaw12.CanonMore': WHATEVER THE INPUT: true; the input reads as it did. -/
def canonMoreSpec : ChangeSpec := { name := "canonMore", fn := fun _ => fun
  | [d] => { results := [.lit (.bool true)], args := [d] }
  | _ => none }
def canonMoreRow : OpenClaim := { program := "ytgmigeehfhkimaadoor", sum := "1b97c19e56506080a895069ddfd2f67c93281cb2c9ba5099c565baa4f7fdd0bf", func := "lustrum/lustrumlaw12.CanonMore", spec := "canonMore", inPlace := ["internal/abi.NoEscape"], unfollowed := true, recurses := true, named := ["lustrum/point.shapes"], loops := true, apart := false, laid := [("lustrum/point.shapes", laid_lustrum_point_shapes)] }
def CanonMoreSaid : Prop := canonMoreRow.holds Tryd.pinned (OpenSpec.ofChange canonMoreSpec)

/-- ITS FALSE NEIGHBOUR: 'it returns false'. Refute it at one input. -/
def canonMoreWrong : ChangeSpec := { name := "canonMore", fn := fun _ => fun
  | [d] => { results := [.lit (.bool false)], args := [d] }
  | _ => none }
def CanonMoreWrongFalsely : Prop := canonMoreRow.holds Tryd.pinned (OpenSpec.ofChange canonMoreWrong)

/- THE SECOND FORM. 'bulk': how many values and letters a reading holds, each counted each time it is reached (what is shared counts as often as it is met; a slice's spare places count too). A statement '..UptoSaid' is the law's where the arguments, and the package variables that the reading takes, are together of bulk at most 1048576: NARROWER than '..Said'. Prove '..Said' where nothing that the law and all that it calls make is longer than what came in: it says more and counts as full. Else prove '..UptoSaid'. A law counts once. -/
mutual
def uptoBulk {H : Type} : DataW H → Nat
  | .lit (.string bytes) => bytes.length + 1
  | .lit _ => 1
  | .nil => 1
  | .ptr d => uptoBulk d + 1
  | .slice elems spare => uptoBulkAll elems + uptoBulkAll spare + 1
  | .agg parts => uptoBulkAll parts + 1
  | .iface _ d => uptoBulk d + 1
  | .map entries => uptoBulkEntries entries + 1
  | .held _ => 1
def uptoBulkAll {H : Type} : List (DataW H) → Nat
  | [] => 0
  | d :: r => uptoBulk d + uptoBulkAll r
def uptoBulkEntries {H : Type} : List (Lit × DataW H) → Nat
  | [] => 0
  | x :: r => uptoBulkEntry x + uptoBulkEntries r
def uptoBulkEntry {H : Type} : Lit × DataW H → Nat
  | (.string bytes, d) => bytes.length + uptoBulk d + 1
  | (_, d) => uptoBulk d + 1
 end
def uptoSmall : (H : Type) → List (DataW H) → Bool := fun _ ds => decide (uptoBulkAll ds ≤ 1048576)
def OpenSpec.upto (s : _root_.Go.ChangeSpec) : _root_.Go.OpenSpec := { _root_.Go.OpenSpec.ofChange s with cond := some uptoSmall }

/-- 'lustrumlaw12.CanonIs', WHERE WHAT IT READS IS OF BULK AT MOST 1048576: true; the input reads as it did. -/
def canonIsUptoRow : OpenClaim := { program := "ytgmigeehfhkimaadoor", sum := "1b97c19e56506080a895069ddfd2f67c93281cb2c9ba5099c565baa4f7fdd0bf", func := "lustrum/lustrumlaw12.CanonIs", spec := "canonIs", inPlace := ["internal/abi.NoEscape"], unfollowed := true, recurses := true, named := ["lustrum/point.shapes"], loops := true, apart := false, laid := [("lustrum/point.shapes", laid_lustrum_point_shapes)], narrowed := true }
def CanonIsUptoSaid : Prop := canonIsUptoRow.holds Tryd.pinned (OpenSpec.upto canonIsSpec)

/-- 'lustrumlaw12.CanonOnce', WHERE WHAT IT READS IS OF BULK AT MOST 1048576: true; the input reads as it did. -/
def canonOnceUptoRow : OpenClaim := { program := "ytgmigeehfhkimaadoor", sum := "1b97c19e56506080a895069ddfd2f67c93281cb2c9ba5099c565baa4f7fdd0bf", func := "lustrum/lustrumlaw12.CanonOnce", spec := "canonOnce", inPlace := ["internal/abi.NoEscape"], unfollowed := true, recurses := true, named := ["lustrum/point.shapes"], loops := true, apart := false, laid := [("lustrum/point.shapes", laid_lustrum_point_shapes)], narrowed := true }
def CanonOnceUptoSaid : Prop := canonOnceUptoRow.holds Tryd.pinned (OpenSpec.upto canonOnceSpec)

/-- 'lustrumlaw12.CanonOrder', WHERE WHAT IT READS IS OF BULK AT MOST 1048576: true; the input reads as it did. -/
def canonOrderUptoRow : OpenClaim := { program := "ytgmigeehfhkimaadoor", sum := "1b97c19e56506080a895069ddfd2f67c93281cb2c9ba5099c565baa4f7fdd0bf", func := "lustrum/lustrumlaw12.CanonOrder", spec := "canonOrder", inPlace := ["internal/abi.NoEscape"], unfollowed := true, recurses := true, named := ["lustrum/point.shapes"], loops := true, apart := false, laid := [("lustrum/point.shapes", laid_lustrum_point_shapes)], narrowed := true }
def CanonOrderUptoSaid : Prop := canonOrderUptoRow.holds Tryd.pinned (OpenSpec.upto canonOrderSpec)

/-- 'lustrumlaw12.CanonParts', WHERE WHAT IT READS IS OF BULK AT MOST 1048576: true; the input reads as it did. -/
def canonPartsUptoRow : OpenClaim := { program := "ytgmigeehfhkimaadoor", sum := "1b97c19e56506080a895069ddfd2f67c93281cb2c9ba5099c565baa4f7fdd0bf", func := "lustrum/lustrumlaw12.CanonParts", spec := "canonParts", inPlace := ["internal/abi.NoEscape"], unfollowed := true, recurses := true, named := ["lustrum/point.shapes"], loops := true, apart := false, laid := [("lustrum/point.shapes", laid_lustrum_point_shapes)], narrowed := true }
def CanonPartsUptoSaid : Prop := canonPartsUptoRow.holds Tryd.pinned (OpenSpec.upto canonPartsSpec)

/-- 'lustrumlaw12.CanonMore', WHERE WHAT IT READS IS OF BULK AT MOST 1048576: true; the input reads as it did. -/
def canonMoreUptoRow : OpenClaim := { program := "ytgmigeehfhkimaadoor", sum := "1b97c19e56506080a895069ddfd2f67c93281cb2c9ba5099c565baa4f7fdd0bf", func := "lustrum/lustrumlaw12.CanonMore", spec := "canonMore", inPlace := ["internal/abi.NoEscape"], unfollowed := true, recurses := true, named := ["lustrum/point.shapes"], loops := true, apart := false, laid := [("lustrum/point.shapes", laid_lustrum_point_shapes)], narrowed := true }
def CanonMoreUptoSaid : Prop := canonMoreUptoRow.holds Tryd.pinned (OpenSpec.upto canonMoreSpec)

end Rows
end Go.Proofs.YtgmigeehfhkimaaDoor
