/-
  NARROWER THAN 'FOR EVERY INPUT', by the rows' own cells (each row's printed sentence says how): RelateIs: laid · NarrowIs: laid.
  DERIVED. THE GIVEN ROWS OF THIS SEAT. 2 by the template 'for every input the law returns true; each argument reads behind the call as it read before'; 0 by the template 'total and deterministic' (their statements: YtcooaoponkkpeaaGreatDoorTotals.lean).
  GIVEN WITH THE SEED: the statements are not yours to turn. If you find one false, say at which input.
  Laid BY PROGRAM, IN A SANDBOX (cutbox-rows.mjs): the forced cells as the released guide's own fill.sh prints them over the translation a8547fa3eddc9748… (all of the seat's roots in one cut). By AI agents, Wed Nov 11 2026. No macro, syntax, notation, axiom, sorry.
-/
import Derived.Test.YtcooaoponkkpeaaGreatDoorChecked
import GoSem.Claim
import GoSem.ClaimJoined
import GoSem.ClaimMapViews
import Derived.JoinedTies
import Derived.KernelRfl
namespace Go.Proofs.YtcooaoponkkpeaaGreatDoor
/- THE CELL 'sum', in the pinned program and in every row, IS THE sha256 OF THE DUMP (.gsa) THAT YtcooaoponkkpeaaGreatDoorProg.lean LOADS. Nothing in Lean hashes anything: it is a label: what it is worth is what the hold of that sum in a sandbox is worth. -/
noncomputable def Tryz.pinned : Pinned := { name := "ytcooaoponkkpeaagreatdoor", sum := "a8547fa3eddc9748a7a562ff528ef22f3469f132533eef5875b9a3637d8b8e35", checked := Tryz.checked }
namespace Rows
def none {H : Type} : Left H := { results := [], args := [] }

/- WHAT THE LISTED PACKAGE-LEVEL VARIABLES READ AS WHEN THE CALL BEGINS. Each datum BY PROGRAM (the guide's laid-datum.mjs) off the statement by which the dump's own 'gosem.cut.vars' lays the variable. In a bare row this is a premise. The card (YtcooaoponkkpeaaGreatDoorCards.lean) ties it to the program's text. -/
def laid_lustrum_allen_names {H : Type} : DataW H := .agg [.lit (.string [98, 101, 102, 111, 114, 101]), .lit (.string [109, 101, 101, 116, 115]), .lit (.string [111, 118, 101, 114, 108, 97, 112, 115]), .lit (.string [115, 116, 97, 114, 116, 115]), .lit (.string [100, 117, 114, 105, 110, 103]), .lit (.string [102, 105, 110, 105, 115, 104, 101, 115]), .lit (.string [101, 113, 117, 97, 108, 115]), .lit (.string [102, 105, 110, 105, 115, 104, 101, 100, 45, 98, 121]), .lit (.string [99, 111, 110, 116, 97, 105, 110, 115]), .lit (.string [115, 116, 97, 114, 116, 101, 100, 45, 98, 121]), .lit (.string [111, 118, 101, 114, 108, 97, 112, 112, 101, 100, 45, 98, 121]), .lit (.string [109, 101, 116, 45, 98, 121]), .lit (.string [97, 102, 116, 101, 114])]
def laid_lustrum_civil_monthDays {H : Type} : DataW H := .agg [.lit (.int .i64 0), .lit (.int .i64 31), .lit (.int .i64 28), .lit (.int .i64 31), .lit (.int .i64 30), .lit (.int .i64 31), .lit (.int .i64 30), .lit (.int .i64 31), .lit (.int .i64 31), .lit (.int .i64 30), .lit (.int .i64 31), .lit (.int .i64 30), .lit (.int .i64 31)]
def laid_lustrum_unit_counts {H : Type} : DataW H := .agg [.lit (.int .i64 3652425), .lit (.int .i64 120000), .lit (.int .i64 40000), .lit (.int .i64 10000), .lit (.int .i64 1000), .lit (.int .i64 100)]

/-- 'lustrumlaw20.RelateIs': WHATEVER THE INPUT: true; the input reads as it did. -/
def relateIsSpec : ChangeSpec := { name := "relateIs", fn := fun _ => fun
  | [d1, d2, d3, d4] => { results := [.lit (.bool true)], args := [d1, d2, d3, d4] }
  | _ => none }
def relateIsRow : OpenClaim := { program := "ytcooaoponkkpeaagreatdoor", sum := "a8547fa3eddc9748a7a562ff528ef22f3469f132533eef5875b9a3637d8b8e35", func := "lustrum/lustrumlaw20.RelateIs", spec := "relateIs", unfollowed := true, recurses := true, named := ["lustrum/unit.counts", "lustrum/civil.monthDays", "lustrum/allen.names"], apart := false, laid := [("lustrum/allen.names", laid_lustrum_allen_names), ("lustrum/civil.monthDays", laid_lustrum_civil_monthDays), ("lustrum/unit.counts", laid_lustrum_unit_counts)] }
def RelateIsSaid : Prop := relateIsRow.holds Tryz.pinned (OpenSpec.ofChange relateIsSpec)

/-- ITS FALSE NEIGHBOUR: 'it returns false'. Refute it at one input. -/
def relateIsWrong : ChangeSpec := { name := "relateIs", fn := fun _ => fun
  | [d1, d2, d3, d4] => { results := [.lit (.bool false)], args := [d1, d2, d3, d4] }
  | _ => none }
def RelateIsWrongFalsely : Prop := relateIsRow.holds Tryz.pinned (OpenSpec.ofChange relateIsWrong)

/-- 'lustrumlaw22.NarrowIs': WHATEVER THE INPUT: true; the input reads as it did. -/
def narrowIsSpec : ChangeSpec := { name := "narrowIs", fn := fun _ => fun
  | [d1, d2, d3] => { results := [.lit (.bool true)], args := [d1, d2, d3] }
  | _ => none }
def narrowIsRow : OpenClaim := { program := "ytcooaoponkkpeaagreatdoor", sum := "a8547fa3eddc9748a7a562ff528ef22f3469f132533eef5875b9a3637d8b8e35", func := "lustrum/lustrumlaw22.NarrowIs", spec := "narrowIs", unfollowed := true, recurses := true, named := ["lustrum/unit.counts", "lustrum/civil.monthDays"], apart := false, laid := [("lustrum/civil.monthDays", laid_lustrum_civil_monthDays), ("lustrum/unit.counts", laid_lustrum_unit_counts)] }
def NarrowIsSaid : Prop := narrowIsRow.holds Tryz.pinned (OpenSpec.ofChange narrowIsSpec)

/-- ITS FALSE NEIGHBOUR: 'it returns false'. Refute it at one input. -/
def narrowIsWrong : ChangeSpec := { name := "narrowIs", fn := fun _ => fun
  | [d1, d2, d3] => { results := [.lit (.bool false)], args := [d1, d2, d3] }
  | _ => none }
def NarrowIsWrongFalsely : Prop := narrowIsRow.holds Tryz.pinned (OpenSpec.ofChange narrowIsWrong)

/- THE SECOND FORM. 'bulk': how many values and letters a reading holds, each counted each time it is reached (what is shared counts as often as it is met; a slice's spare places count too). A statement '..UptoSaid' is the law's where the arguments, and the package variables that the reading takes, are together of bulk at most 1048576: NARROWER than '..Said'. Prove '..Said' where nothing that the law and all that it calls make is longer than what came in: it says more and counts as full. Else prove '..UptoSaid'. A law counts once. -/
mutual
def uptoBulk {H : Type} : DataW H → Nat
  | .lit (.string bytes) => bytes.length + 1
  | .lit _ => 1
  | .nil => 1
  | .ptr d => uptoBulk d + 1
  | .slice elems spare => uptoBulkAll elems + uptoBulkAll spare + 1
  | .agg parts => uptoBulkAll parts + 1
  | .iface _ d => uptoBulk d + 1
  | .map entries => uptoBulkEntries entries + 1
  | .held _ => 1
def uptoBulkAll {H : Type} : List (DataW H) → Nat
  | [] => 0
  | d :: r => uptoBulk d + uptoBulkAll r
def uptoBulkEntries {H : Type} : List (Lit × DataW H) → Nat
  | [] => 0
  | x :: r => uptoBulkEntry x + uptoBulkEntries r
def uptoBulkEntry {H : Type} : Lit × DataW H → Nat
  | (.string bytes, d) => bytes.length + uptoBulk d + 1
  | (_, d) => uptoBulk d + 1
 end
def uptoSmall : (H : Type) → List (DataW H) → Bool := fun _ ds => decide (uptoBulkAll ds ≤ 1048576)
def OpenSpec.upto (s : _root_.Go.ChangeSpec) : _root_.Go.OpenSpec := { _root_.Go.OpenSpec.ofChange s with cond := some uptoSmall }

/-- 'lustrumlaw20.RelateIs', WHERE WHAT IT READS IS OF BULK AT MOST 1048576: true; the input reads as it did. -/
def relateIsUptoRow : OpenClaim := { program := "ytcooaoponkkpeaagreatdoor", sum := "a8547fa3eddc9748a7a562ff528ef22f3469f132533eef5875b9a3637d8b8e35", func := "lustrum/lustrumlaw20.RelateIs", spec := "relateIs", unfollowed := true, recurses := true, named := ["lustrum/unit.counts", "lustrum/civil.monthDays", "lustrum/allen.names"], apart := false, laid := [("lustrum/allen.names", laid_lustrum_allen_names), ("lustrum/civil.monthDays", laid_lustrum_civil_monthDays), ("lustrum/unit.counts", laid_lustrum_unit_counts)], narrowed := true }
def RelateIsUptoSaid : Prop := relateIsUptoRow.holds Tryz.pinned (OpenSpec.upto relateIsSpec)

/-- 'lustrumlaw22.NarrowIs', WHERE WHAT IT READS IS OF BULK AT MOST 1048576: true; the input reads as it did. -/
def narrowIsUptoRow : OpenClaim := { program := "ytcooaoponkkpeaagreatdoor", sum := "a8547fa3eddc9748a7a562ff528ef22f3469f132533eef5875b9a3637d8b8e35", func := "lustrum/lustrumlaw22.NarrowIs", spec := "narrowIs", unfollowed := true, recurses := true, named := ["lustrum/unit.counts", "lustrum/civil.monthDays"], apart := false, laid := [("lustrum/civil.monthDays", laid_lustrum_civil_monthDays), ("lustrum/unit.counts", laid_lustrum_unit_counts)], narrowed := true }
def NarrowIsUptoSaid : Prop := narrowIsUptoRow.holds Tryz.pinned (OpenSpec.upto narrowIsSpec)

end Rows
end Go.Proofs.YtcooaoponkkpeaaGreatDoor
