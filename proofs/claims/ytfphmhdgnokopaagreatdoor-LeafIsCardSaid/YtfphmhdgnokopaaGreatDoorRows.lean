/-
  NARROWER THAN 'FOR EVERY INPUT', by the rows' own cells (each row's printed sentence says how): LeafIs: laid · EnvIs: laid · CoverIs: laid · CoverSets: laid · CoverPairs: laid · CoverEnds: laid · CoverMore: laid.
  DERIVED. THE GIVEN ROWS OF THIS SEAT. 7 by the template 'for every input the law returns true; each argument reads behind the call as it read before'; 0 by the template 'total and deterministic' (their statements: YtfphmhdgnokopaaGreatDoorTotals.lean).
  GIVEN WITH THE SEED: the statements are not yours to turn. If you find one false, say at which input.
  Laid BY PROGRAM, IN A SANDBOX (cutbox-rows.mjs): the forced cells as the released guide's own fill.sh prints them over the translation 798a4ab2126615ce… (all of the seat's roots in one cut). By AI agents, Wed Nov 11 2026. No macro, syntax, notation, axiom, sorry.
-/
import Derived.Test.YtfphmhdgnokopaaGreatDoorChecked
import GoSem.Claim
import GoSem.ClaimJoined
import GoSem.ClaimMapViews
import Derived.JoinedTies
import Derived.KernelRfl
namespace Go.Proofs.YtfphmhdgnokopaaGreatDoor
/- THE CELL 'sum', in the pinned program and in every row, IS THE sha256 OF THE DUMP (.gsa) THAT YtfphmhdgnokopaaGreatDoorProg.lean LOADS. Nothing in Lean hashes anything: it is a label: what it is worth is what the hold of that sum in a sandbox is worth. -/
noncomputable def Tryz.pinned : Pinned := { name := "ytfphmhdgnokopaagreatdoor", sum := "798a4ab2126615ce93e705cc6c1ff54d842a56cf3e6f1ef94cede13a4c5a4695", checked := Tryz.checked }
namespace Rows
def none {H : Type} : Left H := { results := [], args := [] }

/- WHAT THE LISTED PACKAGE-LEVEL VARIABLES READ AS WHEN THE CALL BEGINS. Each datum BY PROGRAM (the guide's laid-datum.mjs) off the statement by which the dump's own 'gosem.cut.vars' lays the variable. In a bare row this is a premise. The card (YtfphmhdgnokopaaGreatDoorCards.lean) ties it to the program's text. -/
def laid_lustrum_civil_monthDays {H : Type} : DataW H := .agg [.lit (.int .i64 0), .lit (.int .i64 31), .lit (.int .i64 28), .lit (.int .i64 31), .lit (.int .i64 30), .lit (.int .i64 31), .lit (.int .i64 30), .lit (.int .i64 31), .lit (.int .i64 31), .lit (.int .i64 30), .lit (.int .i64 31), .lit (.int .i64 30), .lit (.int .i64 31)]
def laid_lustrum_unit_counts {H : Type} : DataW H := .agg [.lit (.int .i64 3652425), .lit (.int .i64 120000), .lit (.int .i64 40000), .lit (.int .i64 10000), .lit (.int .i64 1000), .lit (.int .i64 100)]

/-- 'lustrumlaw14.LeafIs': WHATEVER THE INPUT: true; the input reads as it did. -/
def leafIsSpec : ChangeSpec := { name := "leafIs", fn := fun _ => fun
  | [d1, d2, d3, d4] => { results := [.lit (.bool true)], args := [d1, d2, d3, d4] }
  | _ => none }
def leafIsRow : OpenClaim := { program := "ytfphmhdgnokopaagreatdoor", sum := "798a4ab2126615ce93e705cc6c1ff54d842a56cf3e6f1ef94cede13a4c5a4695", func := "lustrum/lustrumlaw14.LeafIs", spec := "leafIs", unfollowed := true, recurses := true, named := ["lustrum/unit.counts", "lustrum/civil.monthDays"], apart := false, laid := [("lustrum/civil.monthDays", laid_lustrum_civil_monthDays), ("lustrum/unit.counts", laid_lustrum_unit_counts)] }
def LeafIsSaid : Prop := leafIsRow.holds Tryz.pinned (OpenSpec.ofChange leafIsSpec)

/-- ITS FALSE NEIGHBOUR: 'it returns false'. Refute it at one input. -/
def leafIsWrong : ChangeSpec := { name := "leafIs", fn := fun _ => fun
  | [d1, d2, d3, d4] => { results := [.lit (.bool false)], args := [d1, d2, d3, d4] }
  | _ => none }
def LeafIsWrongFalsely : Prop := leafIsRow.holds Tryz.pinned (OpenSpec.ofChange leafIsWrong)

/-- 'lustrumlaw16.EnvIs': WHATEVER THE INPUT: true; the input reads as it did. -/
def envIsSpec : ChangeSpec := { name := "envIs", fn := fun _ => fun
  | [d] => { results := [.lit (.bool true)], args := [d] }
  | _ => none }
def envIsRow : OpenClaim := { program := "ytfphmhdgnokopaagreatdoor", sum := "798a4ab2126615ce93e705cc6c1ff54d842a56cf3e6f1ef94cede13a4c5a4695", func := "lustrum/lustrumlaw16.EnvIs", spec := "envIs", unfollowed := true, recurses := true, named := ["lustrum/unit.counts", "lustrum/civil.monthDays"], apart := false, laid := [("lustrum/civil.monthDays", laid_lustrum_civil_monthDays), ("lustrum/unit.counts", laid_lustrum_unit_counts)] }
def EnvIsSaid : Prop := envIsRow.holds Tryz.pinned (OpenSpec.ofChange envIsSpec)

/-- ITS FALSE NEIGHBOUR: 'it returns false'. Refute it at one input. -/
def envIsWrong : ChangeSpec := { name := "envIs", fn := fun _ => fun
  | [d] => { results := [.lit (.bool false)], args := [d] }
  | _ => none }
def EnvIsWrongFalsely : Prop := envIsRow.holds Tryz.pinned (OpenSpec.ofChange envIsWrong)

/-- 'lustrumlaw17.CoverIs': WHATEVER THE INPUT: true; the input reads as it did. -/
def coverIsSpec : ChangeSpec := { name := "coverIs", fn := fun _ => fun
  | [d1, d2] => { results := [.lit (.bool true)], args := [d1, d2] }
  | _ => none }
def coverIsRow : OpenClaim := { program := "ytfphmhdgnokopaagreatdoor", sum := "798a4ab2126615ce93e705cc6c1ff54d842a56cf3e6f1ef94cede13a4c5a4695", func := "lustrum/lustrumlaw17.CoverIs", spec := "coverIs", unfollowed := true, recurses := true, named := ["lustrum/unit.counts", "lustrum/civil.monthDays"], apart := false, laid := [("lustrum/civil.monthDays", laid_lustrum_civil_monthDays), ("lustrum/unit.counts", laid_lustrum_unit_counts)] }
def CoverIsSaid : Prop := coverIsRow.holds Tryz.pinned (OpenSpec.ofChange coverIsSpec)

/-- ITS FALSE NEIGHBOUR: 'it returns false'. Refute it at one input. -/
def coverIsWrong : ChangeSpec := { name := "coverIs", fn := fun _ => fun
  | [d1, d2] => { results := [.lit (.bool false)], args := [d1, d2] }
  | _ => none }
def CoverIsWrongFalsely : Prop := coverIsRow.holds Tryz.pinned (OpenSpec.ofChange coverIsWrong)

/-- 'lustrumlaw17.CoverSets': WHATEVER THE INPUT: true; the input reads as it did. -/
def coverSetsSpec : ChangeSpec := { name := "coverSets", fn := fun _ => fun
  | [d1, d2] => { results := [.lit (.bool true)], args := [d1, d2] }
  | _ => none }
def coverSetsRow : OpenClaim := { program := "ytfphmhdgnokopaagreatdoor", sum := "798a4ab2126615ce93e705cc6c1ff54d842a56cf3e6f1ef94cede13a4c5a4695", func := "lustrum/lustrumlaw17.CoverSets", spec := "coverSets", unfollowed := true, recurses := true, named := ["lustrum/unit.counts", "lustrum/civil.monthDays"], apart := false, laid := [("lustrum/civil.monthDays", laid_lustrum_civil_monthDays), ("lustrum/unit.counts", laid_lustrum_unit_counts)] }
def CoverSetsSaid : Prop := coverSetsRow.holds Tryz.pinned (OpenSpec.ofChange coverSetsSpec)

/-- ITS FALSE NEIGHBOUR: 'it returns false'. Refute it at one input. -/
def coverSetsWrong : ChangeSpec := { name := "coverSets", fn := fun _ => fun
  | [d1, d2] => { results := [.lit (.bool false)], args := [d1, d2] }
  | _ => none }
def CoverSetsWrongFalsely : Prop := coverSetsRow.holds Tryz.pinned (OpenSpec.ofChange coverSetsWrong)

/-- 'lustrumlaw17.CoverPairs': WHATEVER THE INPUT: true; the input reads as it did. -/
def coverPairsSpec : ChangeSpec := { name := "coverPairs", fn := fun _ => fun
  | [d1, d2] => { results := [.lit (.bool true)], args := [d1, d2] }
  | _ => none }
def coverPairsRow : OpenClaim := { program := "ytfphmhdgnokopaagreatdoor", sum := "798a4ab2126615ce93e705cc6c1ff54d842a56cf3e6f1ef94cede13a4c5a4695", func := "lustrum/lustrumlaw17.CoverPairs", spec := "coverPairs", unfollowed := true, recurses := true, named := ["lustrum/unit.counts", "lustrum/civil.monthDays"], apart := false, laid := [("lustrum/civil.monthDays", laid_lustrum_civil_monthDays), ("lustrum/unit.counts", laid_lustrum_unit_counts)] }
def CoverPairsSaid : Prop := coverPairsRow.holds Tryz.pinned (OpenSpec.ofChange coverPairsSpec)

/-- ITS FALSE NEIGHBOUR: 'it returns false'. Refute it at one input. -/
def coverPairsWrong : ChangeSpec := { name := "coverPairs", fn := fun _ => fun
  | [d1, d2] => { results := [.lit (.bool false)], args := [d1, d2] }
  | _ => none }
def CoverPairsWrongFalsely : Prop := coverPairsRow.holds Tryz.pinned (OpenSpec.ofChange coverPairsWrong)

/-- 'lustrumlaw17.CoverEnds': WHATEVER THE INPUT: true; the input reads as it did. -/
def coverEndsSpec : ChangeSpec := { name := "coverEnds", fn := fun _ => fun
  | [d] => { results := [.lit (.bool true)], args := [d] }
  | _ => none }
def coverEndsRow : OpenClaim := { program := "ytfphmhdgnokopaagreatdoor", sum := "798a4ab2126615ce93e705cc6c1ff54d842a56cf3e6f1ef94cede13a4c5a4695", func := "lustrum/lustrumlaw17.CoverEnds", spec := "coverEnds", unfollowed := true, recurses := true, named := ["lustrum/unit.counts", "lustrum/civil.monthDays"], apart := false, laid := [("lustrum/civil.monthDays", laid_lustrum_civil_monthDays), ("lustrum/unit.counts", laid_lustrum_unit_counts)] }
def CoverEndsSaid : Prop := coverEndsRow.holds Tryz.pinned (OpenSpec.ofChange coverEndsSpec)

/-- ITS FALSE NEIGHBOUR: 'it returns false'. Refute it at one input. -/
def coverEndsWrong : ChangeSpec := { name := "coverEnds", fn := fun _ => fun
  | [d] => { results := [.lit (.bool false)], args := [d] }
  | _ => none }
def CoverEndsWrongFalsely : Prop := coverEndsRow.holds Tryz.pinned (OpenSpec.ofChange coverEndsWrong)

/-- 'lustrumlaw17.CoverMore': WHATEVER THE INPUT: true; the input reads as it did. -/
def coverMoreSpec : ChangeSpec := { name := "coverMore", fn := fun _ => fun
  | [d1, d2, d3] => { results := [.lit (.bool true)], args := [d1, d2, d3] }
  | _ => none }
def coverMoreRow : OpenClaim := { program := "ytfphmhdgnokopaagreatdoor", sum := "798a4ab2126615ce93e705cc6c1ff54d842a56cf3e6f1ef94cede13a4c5a4695", func := "lustrum/lustrumlaw17.CoverMore", spec := "coverMore", unfollowed := true, recurses := true, named := ["lustrum/unit.counts", "lustrum/civil.monthDays"], apart := false, laid := [("lustrum/civil.monthDays", laid_lustrum_civil_monthDays), ("lustrum/unit.counts", laid_lustrum_unit_counts)] }
def CoverMoreSaid : Prop := coverMoreRow.holds Tryz.pinned (OpenSpec.ofChange coverMoreSpec)

/-- ITS FALSE NEIGHBOUR: 'it returns false'. Refute it at one input. -/
def coverMoreWrong : ChangeSpec := { name := "coverMore", fn := fun _ => fun
  | [d1, d2, d3] => { results := [.lit (.bool false)], args := [d1, d2, d3] }
  | _ => none }
def CoverMoreWrongFalsely : Prop := coverMoreRow.holds Tryz.pinned (OpenSpec.ofChange coverMoreWrong)

/- THE SECOND FORM. 'bulk': how many values and letters a reading holds, each counted each time it is reached (what is shared counts as often as it is met; a slice's spare places count too). A statement '..UptoSaid' is the law's where the arguments, and the package variables that the reading takes, are together of bulk at most 1048576: NARROWER than '..Said'. Prove '..Said' where nothing that the law and all that it calls make is longer than what came in: it says more and counts as full. Else prove '..UptoSaid'. A law counts once. -/
mutual
def uptoBulk {H : Type} : DataW H → Nat
  | .lit (.string bytes) => bytes.length + 1
  | .lit _ => 1
  | .nil => 1
  | .ptr d => uptoBulk d + 1
  | .slice elems spare => uptoBulkAll elems + uptoBulkAll spare + 1
  | .agg parts => uptoBulkAll parts + 1
  | .iface _ d => uptoBulk d + 1
  | .map entries => uptoBulkEntries entries + 1
  | .held _ => 1
def uptoBulkAll {H : Type} : List (DataW H) → Nat
  | [] => 0
  | d :: r => uptoBulk d + uptoBulkAll r
def uptoBulkEntries {H : Type} : List (Lit × DataW H) → Nat
  | [] => 0
  | x :: r => uptoBulkEntry x + uptoBulkEntries r
def uptoBulkEntry {H : Type} : Lit × DataW H → Nat
  | (.string bytes, d) => bytes.length + uptoBulk d + 1
  | (_, d) => uptoBulk d + 1
 end
def uptoSmall : (H : Type) → List (DataW H) → Bool := fun _ ds => decide (uptoBulkAll ds ≤ 1048576)
def OpenSpec.upto (s : _root_.Go.ChangeSpec) : _root_.Go.OpenSpec := { _root_.Go.OpenSpec.ofChange s with cond := some uptoSmall }

/-- 'lustrumlaw14.LeafIs', WHERE WHAT IT READS IS OF BULK AT MOST 1048576: true; the input reads as it did. -/
def leafIsUptoRow : OpenClaim := { program := "ytfphmhdgnokopaagreatdoor", sum := "798a4ab2126615ce93e705cc6c1ff54d842a56cf3e6f1ef94cede13a4c5a4695", func := "lustrum/lustrumlaw14.LeafIs", spec := "leafIs", unfollowed := true, recurses := true, named := ["lustrum/unit.counts", "lustrum/civil.monthDays"], apart := false, laid := [("lustrum/civil.monthDays", laid_lustrum_civil_monthDays), ("lustrum/unit.counts", laid_lustrum_unit_counts)], narrowed := true }
def LeafIsUptoSaid : Prop := leafIsUptoRow.holds Tryz.pinned (OpenSpec.upto leafIsSpec)

/-- 'lustrumlaw16.EnvIs', WHERE WHAT IT READS IS OF BULK AT MOST 1048576: true; the input reads as it did. -/
def envIsUptoRow : OpenClaim := { program := "ytfphmhdgnokopaagreatdoor", sum := "798a4ab2126615ce93e705cc6c1ff54d842a56cf3e6f1ef94cede13a4c5a4695", func := "lustrum/lustrumlaw16.EnvIs", spec := "envIs", unfollowed := true, recurses := true, named := ["lustrum/unit.counts", "lustrum/civil.monthDays"], apart := false, laid := [("lustrum/civil.monthDays", laid_lustrum_civil_monthDays), ("lustrum/unit.counts", laid_lustrum_unit_counts)], narrowed := true }
def EnvIsUptoSaid : Prop := envIsUptoRow.holds Tryz.pinned (OpenSpec.upto envIsSpec)

/-- 'lustrumlaw17.CoverIs', WHERE WHAT IT READS IS OF BULK AT MOST 1048576: true; the input reads as it did. -/
def coverIsUptoRow : OpenClaim := { program := "ytfphmhdgnokopaagreatdoor", sum := "798a4ab2126615ce93e705cc6c1ff54d842a56cf3e6f1ef94cede13a4c5a4695", func := "lustrum/lustrumlaw17.CoverIs", spec := "coverIs", unfollowed := true, recurses := true, named := ["lustrum/unit.counts", "lustrum/civil.monthDays"], apart := false, laid := [("lustrum/civil.monthDays", laid_lustrum_civil_monthDays), ("lustrum/unit.counts", laid_lustrum_unit_counts)], narrowed := true }
def CoverIsUptoSaid : Prop := coverIsUptoRow.holds Tryz.pinned (OpenSpec.upto coverIsSpec)

/-- 'lustrumlaw17.CoverSets', WHERE WHAT IT READS IS OF BULK AT MOST 1048576: true; the input reads as it did. -/
def coverSetsUptoRow : OpenClaim := { program := "ytfphmhdgnokopaagreatdoor", sum := "798a4ab2126615ce93e705cc6c1ff54d842a56cf3e6f1ef94cede13a4c5a4695", func := "lustrum/lustrumlaw17.CoverSets", spec := "coverSets", unfollowed := true, recurses := true, named := ["lustrum/unit.counts", "lustrum/civil.monthDays"], apart := false, laid := [("lustrum/civil.monthDays", laid_lustrum_civil_monthDays), ("lustrum/unit.counts", laid_lustrum_unit_counts)], narrowed := true }
def CoverSetsUptoSaid : Prop := coverSetsUptoRow.holds Tryz.pinned (OpenSpec.upto coverSetsSpec)

/-- 'lustrumlaw17.CoverPairs', WHERE WHAT IT READS IS OF BULK AT MOST 1048576: true; the input reads as it did. -/
def coverPairsUptoRow : OpenClaim := { program := "ytfphmhdgnokopaagreatdoor", sum := "798a4ab2126615ce93e705cc6c1ff54d842a56cf3e6f1ef94cede13a4c5a4695", func := "lustrum/lustrumlaw17.CoverPairs", spec := "coverPairs", unfollowed := true, recurses := true, named := ["lustrum/unit.counts", "lustrum/civil.monthDays"], apart := false, laid := [("lustrum/civil.monthDays", laid_lustrum_civil_monthDays), ("lustrum/unit.counts", laid_lustrum_unit_counts)], narrowed := true }
def CoverPairsUptoSaid : Prop := coverPairsUptoRow.holds Tryz.pinned (OpenSpec.upto coverPairsSpec)

/-- 'lustrumlaw17.CoverEnds', WHERE WHAT IT READS IS OF BULK AT MOST 1048576: true; the input reads as it did. -/
def coverEndsUptoRow : OpenClaim := { program := "ytfphmhdgnokopaagreatdoor", sum := "798a4ab2126615ce93e705cc6c1ff54d842a56cf3e6f1ef94cede13a4c5a4695", func := "lustrum/lustrumlaw17.CoverEnds", spec := "coverEnds", unfollowed := true, recurses := true, named := ["lustrum/unit.counts", "lustrum/civil.monthDays"], apart := false, laid := [("lustrum/civil.monthDays", laid_lustrum_civil_monthDays), ("lustrum/unit.counts", laid_lustrum_unit_counts)], narrowed := true }
def CoverEndsUptoSaid : Prop := coverEndsUptoRow.holds Tryz.pinned (OpenSpec.upto coverEndsSpec)

/-- 'lustrumlaw17.CoverMore', WHERE WHAT IT READS IS OF BULK AT MOST 1048576: true; the input reads as it did. -/
def coverMoreUptoRow : OpenClaim := { program := "ytfphmhdgnokopaagreatdoor", sum := "798a4ab2126615ce93e705cc6c1ff54d842a56cf3e6f1ef94cede13a4c5a4695", func := "lustrum/lustrumlaw17.CoverMore", spec := "coverMore", unfollowed := true, recurses := true, named := ["lustrum/unit.counts", "lustrum/civil.monthDays"], apart := false, laid := [("lustrum/civil.monthDays", laid_lustrum_civil_monthDays), ("lustrum/unit.counts", laid_lustrum_unit_counts)], narrowed := true }
def CoverMoreUptoSaid : Prop := coverMoreUptoRow.holds Tryz.pinned (OpenSpec.upto coverMoreSpec)

end Rows
end Go.Proofs.YtfphmhdgnokopaaGreatDoor
