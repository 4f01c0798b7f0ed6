/-
  NARROWER THAN 'FOR EVERY INPUT', by the rows' own cells (each row's printed sentence says how): PointIs: laid.
  DERIVED. THE GIVEN ROWS OF THIS SEAT. 1 by the template 'for every input the law returns true; each argument reads behind the call as it read before'; 0 by the template 'total and deterministic' (their statements: YtinpglfclbnhlaaGreatDoorTotals.lean).
  GIVEN WITH THE SEED: the statements are not yours to turn. If you find one false, say at which input.
  Laid BY PROGRAM, IN A SANDBOX (cutbox-rows.mjs): the forced cells as the released guide's own fill.sh prints them over the translation d8ab09320cbdd8f3… (all of the seat's roots in one cut). By AI agents, Wed Nov 11 2026. No macro, syntax, notation, axiom, sorry.
-/
import Derived.Test.YtinpglfclbnhlaaGreatDoorChecked
import GoSem.Claim
import GoSem.ClaimJoined
import GoSem.ClaimMapViews
import Derived.JoinedTies
import Derived.KernelRfl
namespace Go.Proofs.YtinpglfclbnhlaaGreatDoor
/- THE CELL 'sum', in the pinned program and in every row, IS THE sha256 OF THE DUMP (.gsa) THAT YtinpglfclbnhlaaGreatDoorProg.lean LOADS. Nothing in Lean hashes anything: it is a label: what it is worth is what the hold of that sum in a sandbox is worth. -/
noncomputable def Tryz.pinned : Pinned := { name := "ytinpglfclbnhlaagreatdoor", sum := "d8ab09320cbdd8f3da699bd8ab08b41887cb35cd2bff22b4a34ce20e333c7546", checked := Tryz.checked }
namespace Rows
def none {H : Type} : Left H := { results := [], args := [] }

/- WHAT THE LISTED PACKAGE-LEVEL VARIABLES READ AS WHEN THE CALL BEGINS. Each datum BY PROGRAM (the guide's laid-datum.mjs) off the statement by which the dump's own 'gosem.cut.vars' lays the variable. In a bare row this is a premise. The card (YtinpglfclbnhlaaGreatDoorCards.lean) ties it to the program's text. -/
def laid_lustrum_civil_monthDays {H : Type} : DataW H := .agg [.lit (.int .i64 0), .lit (.int .i64 31), .lit (.int .i64 28), .lit (.int .i64 31), .lit (.int .i64 30), .lit (.int .i64 31), .lit (.int .i64 30), .lit (.int .i64 31), .lit (.int .i64 31), .lit (.int .i64 30), .lit (.int .i64 31), .lit (.int .i64 30), .lit (.int .i64 31)]
def laid_lustrum_unit_counts {H : Type} : DataW H := .agg [.lit (.int .i64 3652425), .lit (.int .i64 120000), .lit (.int .i64 40000), .lit (.int .i64 10000), .lit (.int .i64 1000), .lit (.int .i64 100)]
def laid_lustrum_point_shapes {H : Type} : DataW H := .agg [.agg [.lit (.int .i64 4), .lit (.int .i64 2), .lit (.int .i64 2), .lit (.int .i64 12), .lit (.string [])], .agg [.lit (.int .i64 4), .lit (.int .i64 2), .lit (.int .i64 0), .lit (.int .i64 12), .lit (.string [])], .agg [.lit (.int .i64 4), .lit (.int .i64 1), .lit (.int .i64 0), .lit (.int .i64 4), .lit (.string [])], .agg [.lit (.int .i64 4), .lit (.int .i64 0), .lit (.int .i64 0), .lit (.int .i64 0), .lit (.string [])], .agg [.lit (.int .i64 3), .lit (.int .i64 0), .lit (.int .i64 0), .lit (.int .i64 0), .lit (.string [100])], .agg [.lit (.int .i64 2), .lit (.int .i64 0), .lit (.int .i64 0), .lit (.int .i64 0), .lit (.string [99])]]
def laid_lustrum_point_radii {H : Type} : DataW H := .agg [.lit (.int .i64 3), .lit (.int .i64 1), .lit (.int .i64 1), .lit (.int .i64 2), .lit (.int .i64 1), .lit (.int .i64 1)]

/-- 'lustrumlaw08.PointIs': WHATEVER THE INPUT: true; the input reads as it did. -/
def pointIsSpec : ChangeSpec := { name := "pointIs", fn := fun _ => fun
  | [d1, d2, d3] => { results := [.lit (.bool true)], args := [d1, d2, d3] }
  | _ => none }
def pointIsRow : OpenClaim := { program := "ytinpglfclbnhlaagreatdoor", sum := "d8ab09320cbdd8f3da699bd8ab08b41887cb35cd2bff22b4a34ce20e333c7546", func := "lustrum/lustrumlaw08.PointIs", spec := "pointIs", unfollowed := true, recurses := true, named := ["lustrum/point.shapes", "lustrum/unit.counts", "lustrum/civil.monthDays", "lustrum/point.radii"], apart := false, laid := [("lustrum/civil.monthDays", laid_lustrum_civil_monthDays), ("lustrum/unit.counts", laid_lustrum_unit_counts), ("lustrum/point.shapes", laid_lustrum_point_shapes), ("lustrum/point.radii", laid_lustrum_point_radii)] }
def PointIsSaid : Prop := pointIsRow.holds Tryz.pinned (OpenSpec.ofChange pointIsSpec)

/-- ITS FALSE NEIGHBOUR: 'it returns false'. Refute it at one input. -/
def pointIsWrong : ChangeSpec := { name := "pointIs", fn := fun _ => fun
  | [d1, d2, d3] => { results := [.lit (.bool false)], args := [d1, d2, d3] }
  | _ => none }
def PointIsWrongFalsely : Prop := pointIsRow.holds Tryz.pinned (OpenSpec.ofChange pointIsWrong)

/- THE SECOND FORM. 'bulk': how many values and letters a reading holds, each counted each time it is reached (what is shared counts as often as it is met; a slice's spare places count too). A statement '..UptoSaid' is the law's where the arguments, and the package variables that the reading takes, are together of bulk at most 1048576: NARROWER than '..Said'. Prove '..Said' where nothing that the law and all that it calls make is longer than what came in: it says more and counts as full. Else prove '..UptoSaid'. A law counts once. -/
mutual
def uptoBulk {H : Type} : DataW H → Nat
  | .lit (.string bytes) => bytes.length + 1
  | .lit _ => 1
  | .nil => 1
  | .ptr d => uptoBulk d + 1
  | .slice elems spare => uptoBulkAll elems + uptoBulkAll spare + 1
  | .agg parts => uptoBulkAll parts + 1
  | .iface _ d => uptoBulk d + 1
  | .map entries => uptoBulkEntries entries + 1
  | .held _ => 1
def uptoBulkAll {H : Type} : List (DataW H) → Nat
  | [] => 0
  | d :: r => uptoBulk d + uptoBulkAll r
def uptoBulkEntries {H : Type} : List (Lit × DataW H) → Nat
  | [] => 0
  | x :: r => uptoBulkEntry x + uptoBulkEntries r
def uptoBulkEntry {H : Type} : Lit × DataW H → Nat
  | (.string bytes, d) => bytes.length + uptoBulk d + 1
  | (_, d) => uptoBulk d + 1
 end
def uptoSmall : (H : Type) → List (DataW H) → Bool := fun _ ds => decide (uptoBulkAll ds ≤ 1048576)
def OpenSpec.upto (s : _root_.Go.ChangeSpec) : _root_.Go.OpenSpec := { _root_.Go.OpenSpec.ofChange s with cond := some uptoSmall }

/-- 'lustrumlaw08.PointIs', WHERE WHAT IT READS IS OF BULK AT MOST 1048576: true; the input reads as it did. -/
def pointIsUptoRow : OpenClaim := { program := "ytinpglfclbnhlaagreatdoor", sum := "d8ab09320cbdd8f3da699bd8ab08b41887cb35cd2bff22b4a34ce20e333c7546", func := "lustrum/lustrumlaw08.PointIs", spec := "pointIs", unfollowed := true, recurses := true, named := ["lustrum/point.shapes", "lustrum/unit.counts", "lustrum/civil.monthDays", "lustrum/point.radii"], apart := false, laid := [("lustrum/civil.monthDays", laid_lustrum_civil_monthDays), ("lustrum/unit.counts", laid_lustrum_unit_counts), ("lustrum/point.shapes", laid_lustrum_point_shapes), ("lustrum/point.radii", laid_lustrum_point_radii)], narrowed := true }
def PointIsUptoSaid : Prop := pointIsUptoRow.holds Tryz.pinned (OpenSpec.upto pointIsSpec)

end Rows
end Go.Proofs.YtinpglfclbnhlaaGreatDoor
