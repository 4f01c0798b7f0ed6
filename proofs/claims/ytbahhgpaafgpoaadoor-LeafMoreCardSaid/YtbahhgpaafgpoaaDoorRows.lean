/-
  NARROWER THAN 'FOR EVERY INPUT', by the rows' own cells (each row's printed sentence says how): LeafPairs: laid · LeafTidy: laid · LeafMore: laid · EnvPairs: laid · EnvMet: laid · EnvMore: laid.
  DERIVED. THE GIVEN ROWS OF THIS SEAT. 6 by the template 'for every input the law returns true; each argument reads behind the call as it read before'; 0 by the template 'total and deterministic' (their statements: YtbahhgpaafgpoaaDoorTotals.lean).
  GIVEN WITH THE SEED: the statements are not yours to turn. If you find one false, say at which input.
  Laid BY PROGRAM, IN A SANDBOX (cutbox-rows.mjs): the forced cells as the released guide's own fill.sh prints them over the translation 5da7f2e5cc4b55c2… (all of the seat's roots in one cut). By AI agents, Wed Nov 11 2026. No macro, syntax, notation, axiom, sorry.
-/
import Derived.Test.YtbahhgpaafgpoaaDoorChecked
import GoSem.Claim
import GoSem.ClaimJoined
import GoSem.ClaimMapViews
import Derived.JoinedTies
import Derived.KernelRfl
namespace Go.Proofs.YtbahhgpaafgpoaaDoor
/- THE CELL 'sum', in the pinned program and in every row, IS THE sha256 OF THE DUMP (.gsa) THAT YtbahhgpaafgpoaaDoorProg.lean LOADS. Nothing in Lean hashes anything: it is a label: what it is worth is what the hold of that sum in a sandbox is worth. -/
noncomputable def Tryd.pinned : Pinned := { name := "ytbahhgpaafgpoaadoor", sum := "5da7f2e5cc4b55c2e486d76d8e6d026d6dd49886b6b636f5f4721b4aa5b64f81", checked := Tryd.checked }
namespace Rows
def none {H : Type} : Left H := { results := [], args := [] }

/- WHAT THE LISTED PACKAGE-LEVEL VARIABLES READ AS WHEN THE CALL BEGINS. Each datum BY PROGRAM (the guide's laid-datum.mjs) off the statement by which the dump's own 'gosem.cut.vars' lays the variable. In a bare row this is a premise. The card (YtbahhgpaafgpoaaDoorCards.lean) ties it to the program's text. -/
def laid_lustrum_civil_monthDays {H : Type} : DataW H := .agg [.lit (.int .i64 0), .lit (.int .i64 31), .lit (.int .i64 28), .lit (.int .i64 31), .lit (.int .i64 30), .lit (.int .i64 31), .lit (.int .i64 30), .lit (.int .i64 31), .lit (.int .i64 31), .lit (.int .i64 30), .lit (.int .i64 31), .lit (.int .i64 30), .lit (.int .i64 31)]
def laid_lustrum_unit_counts {H : Type} : DataW H := .agg [.lit (.int .i64 3652425), .lit (.int .i64 120000), .lit (.int .i64 40000), .lit (.int .i64 10000), .lit (.int .i64 1000), .lit (.int .i64 100)]

/-- 'lustrumlaw14.LeafPairs': WHATEVER THE INPUT: true; the input reads as it did. -/
def leafPairsSpec : ChangeSpec := { name := "leafPairs", fn := fun _ => fun
  | [d1, d2] => { results := [.lit (.bool true)], args := [d1, d2] }
  | _ => none }
def leafPairsRow : OpenClaim := { program := "ytbahhgpaafgpoaadoor", sum := "5da7f2e5cc4b55c2e486d76d8e6d026d6dd49886b6b636f5f4721b4aa5b64f81", func := "lustrum/lustrumlaw14.LeafPairs", spec := "leafPairs", unfollowed := true, recurses := true, named := ["lustrum/unit.counts", "lustrum/civil.monthDays"], apart := false, laid := [("lustrum/civil.monthDays", laid_lustrum_civil_monthDays), ("lustrum/unit.counts", laid_lustrum_unit_counts)] }
def LeafPairsSaid : Prop := leafPairsRow.holds Tryd.pinned (OpenSpec.ofChange leafPairsSpec)

/-- ITS FALSE NEIGHBOUR: 'it returns false'. Refute it at one input. -/
def leafPairsWrong : ChangeSpec := { name := "leafPairs", fn := fun _ => fun
  | [d1, d2] => { results := [.lit (.bool false)], args := [d1, d2] }
  | _ => none }
def LeafPairsWrongFalsely : Prop := leafPairsRow.holds Tryd.pinned (OpenSpec.ofChange leafPairsWrong)

/-- 'lustrumlaw14.LeafTidy': WHATEVER THE INPUT: true; the input reads as it did. -/
def leafTidySpec : ChangeSpec := { name := "leafTidy", fn := fun _ => fun
  | [d1, d2] => { results := [.lit (.bool true)], args := [d1, d2] }
  | _ => none }
def leafTidyRow : OpenClaim := { program := "ytbahhgpaafgpoaadoor", sum := "5da7f2e5cc4b55c2e486d76d8e6d026d6dd49886b6b636f5f4721b4aa5b64f81", func := "lustrum/lustrumlaw14.LeafTidy", spec := "leafTidy", unfollowed := true, recurses := true, named := ["lustrum/unit.counts", "lustrum/civil.monthDays"], apart := false, laid := [("lustrum/civil.monthDays", laid_lustrum_civil_monthDays), ("lustrum/unit.counts", laid_lustrum_unit_counts)] }
def LeafTidySaid : Prop := leafTidyRow.holds Tryd.pinned (OpenSpec.ofChange leafTidySpec)

/-- ITS FALSE NEIGHBOUR: 'it returns false'. Refute it at one input. -/
def leafTidyWrong : ChangeSpec := { name := "leafTidy", fn := fun _ => fun
  | [d1, d2] => { results := [.lit (.bool false)], args := [d1, d2] }
  | _ => none }
def LeafTidyWrongFalsely : Prop := leafTidyRow.holds Tryd.pinned (OpenSpec.ofChange leafTidyWrong)

/-- 'lustrumlaw14.LeafMore': WHATEVER THE INPUT: true; the input reads as it did. -/
def leafMoreSpec : ChangeSpec := { name := "leafMore", fn := fun _ => fun
  | [d1, d2, d3] => { results := [.lit (.bool true)], args := [d1, d2, d3] }
  | _ => none }
def leafMoreRow : OpenClaim := { program := "ytbahhgpaafgpoaadoor", sum := "5da7f2e5cc4b55c2e486d76d8e6d026d6dd49886b6b636f5f4721b4aa5b64f81", func := "lustrum/lustrumlaw14.LeafMore", spec := "leafMore", unfollowed := true, recurses := true, named := ["lustrum/unit.counts", "lustrum/civil.monthDays"], apart := false, laid := [("lustrum/civil.monthDays", laid_lustrum_civil_monthDays), ("lustrum/unit.counts", laid_lustrum_unit_counts)] }
def LeafMoreSaid : Prop := leafMoreRow.holds Tryd.pinned (OpenSpec.ofChange leafMoreSpec)

/-- ITS FALSE NEIGHBOUR: 'it returns false'. Refute it at one input. -/
def leafMoreWrong : ChangeSpec := { name := "leafMore", fn := fun _ => fun
  | [d1, d2, d3] => { results := [.lit (.bool false)], args := [d1, d2, d3] }
  | _ => none }
def LeafMoreWrongFalsely : Prop := leafMoreRow.holds Tryd.pinned (OpenSpec.ofChange leafMoreWrong)

/-- 'lustrumlaw16.EnvPairs': WHATEVER THE INPUT: true; the input reads as it did. -/
def envPairsSpec : ChangeSpec := { name := "envPairs", fn := fun _ => fun
  | [d1, d2] => { results := [.lit (.bool true)], args := [d1, d2] }
  | _ => none }
def envPairsRow : OpenClaim := { program := "ytbahhgpaafgpoaadoor", sum := "5da7f2e5cc4b55c2e486d76d8e6d026d6dd49886b6b636f5f4721b4aa5b64f81", func := "lustrum/lustrumlaw16.EnvPairs", spec := "envPairs", unfollowed := true, recurses := true, named := ["lustrum/unit.counts", "lustrum/civil.monthDays"], apart := false, laid := [("lustrum/civil.monthDays", laid_lustrum_civil_monthDays), ("lustrum/unit.counts", laid_lustrum_unit_counts)] }
def EnvPairsSaid : Prop := envPairsRow.holds Tryd.pinned (OpenSpec.ofChange envPairsSpec)

/-- ITS FALSE NEIGHBOUR: 'it returns false'. Refute it at one input. -/
def envPairsWrong : ChangeSpec := { name := "envPairs", fn := fun _ => fun
  | [d1, d2] => { results := [.lit (.bool false)], args := [d1, d2] }
  | _ => none }
def EnvPairsWrongFalsely : Prop := envPairsRow.holds Tryd.pinned (OpenSpec.ofChange envPairsWrong)

/-- 'lustrumlaw16.EnvMet': WHATEVER THE INPUT: true; the input reads as it did. -/
def envMetSpec : ChangeSpec := { name := "envMet", fn := fun _ => fun
  | [d] => { results := [.lit (.bool true)], args := [d] }
  | _ => none }
def envMetRow : OpenClaim := { program := "ytbahhgpaafgpoaadoor", sum := "5da7f2e5cc4b55c2e486d76d8e6d026d6dd49886b6b636f5f4721b4aa5b64f81", func := "lustrum/lustrumlaw16.EnvMet", spec := "envMet", unfollowed := true, recurses := true, named := ["lustrum/unit.counts", "lustrum/civil.monthDays"], apart := false, laid := [("lustrum/civil.monthDays", laid_lustrum_civil_monthDays), ("lustrum/unit.counts", laid_lustrum_unit_counts)] }
def EnvMetSaid : Prop := envMetRow.holds Tryd.pinned (OpenSpec.ofChange envMetSpec)

/-- ITS FALSE NEIGHBOUR: 'it returns false'. Refute it at one input. -/
def envMetWrong : ChangeSpec := { name := "envMet", fn := fun _ => fun
  | [d] => { results := [.lit (.bool false)], args := [d] }
  | _ => none }
def EnvMetWrongFalsely : Prop := envMetRow.holds Tryd.pinned (OpenSpec.ofChange envMetWrong)

/-- 'lustrumlaw16.EnvMore': WHATEVER THE INPUT: true; the input reads as it did. -/
def envMoreSpec : ChangeSpec := { name := "envMore", fn := fun _ => fun
  | [d1, d2] => { results := [.lit (.bool true)], args := [d1, d2] }
  | _ => none }
def envMoreRow : OpenClaim := { program := "ytbahhgpaafgpoaadoor", sum := "5da7f2e5cc4b55c2e486d76d8e6d026d6dd49886b6b636f5f4721b4aa5b64f81", func := "lustrum/lustrumlaw16.EnvMore", spec := "envMore", unfollowed := true, recurses := true, named := ["lustrum/unit.counts", "lustrum/civil.monthDays"], apart := false, laid := [("lustrum/civil.monthDays", laid_lustrum_civil_monthDays), ("lustrum/unit.counts", laid_lustrum_unit_counts)] }
def EnvMoreSaid : Prop := envMoreRow.holds Tryd.pinned (OpenSpec.ofChange envMoreSpec)

/-- ITS FALSE NEIGHBOUR: 'it returns false'. Refute it at one input. -/
def envMoreWrong : ChangeSpec := { name := "envMore", fn := fun _ => fun
  | [d1, d2] => { results := [.lit (.bool false)], args := [d1, d2] }
  | _ => none }
def EnvMoreWrongFalsely : Prop := envMoreRow.holds Tryd.pinned (OpenSpec.ofChange envMoreWrong)

/- THE SECOND FORM. 'bulk': how many values and letters a reading holds, each counted each time it is reached (what is shared counts as often as it is met; a slice's spare places count too). A statement '..UptoSaid' is the law's where the arguments, and the package variables that the reading takes, are together of bulk at most 1048576: NARROWER than '..Said'. Prove '..Said' where nothing that the law and all that it calls make is longer than what came in: it says more and counts as full. Else prove '..UptoSaid'. A law counts once. -/
mutual
def uptoBulk {H : Type} : DataW H → Nat
  | .lit (.string bytes) => bytes.length + 1
  | .lit _ => 1
  | .nil => 1
  | .ptr d => uptoBulk d + 1
  | .slice elems spare => uptoBulkAll elems + uptoBulkAll spare + 1
  | .agg parts => uptoBulkAll parts + 1
  | .iface _ d => uptoBulk d + 1
  | .map entries => uptoBulkEntries entries + 1
  | .held _ => 1
def uptoBulkAll {H : Type} : List (DataW H) → Nat
  | [] => 0
  | d :: r => uptoBulk d + uptoBulkAll r
def uptoBulkEntries {H : Type} : List (Lit × DataW H) → Nat
  | [] => 0
  | x :: r => uptoBulkEntry x + uptoBulkEntries r
def uptoBulkEntry {H : Type} : Lit × DataW H → Nat
  | (.string bytes, d) => bytes.length + uptoBulk d + 1
  | (_, d) => uptoBulk d + 1
 end
def uptoSmall : (H : Type) → List (DataW H) → Bool := fun _ ds => decide (uptoBulkAll ds ≤ 1048576)
def OpenSpec.upto (s : _root_.Go.ChangeSpec) : _root_.Go.OpenSpec := { _root_.Go.OpenSpec.ofChange s with cond := some uptoSmall }

/-- 'lustrumlaw14.LeafPairs', WHERE WHAT IT READS IS OF BULK AT MOST 1048576: true; the input reads as it did. -/
def leafPairsUptoRow : OpenClaim := { program := "ytbahhgpaafgpoaadoor", sum := "5da7f2e5cc4b55c2e486d76d8e6d026d6dd49886b6b636f5f4721b4aa5b64f81", func := "lustrum/lustrumlaw14.LeafPairs", spec := "leafPairs", unfollowed := true, recurses := true, named := ["lustrum/unit.counts", "lustrum/civil.monthDays"], apart := false, laid := [("lustrum/civil.monthDays", laid_lustrum_civil_monthDays), ("lustrum/unit.counts", laid_lustrum_unit_counts)], narrowed := true }
def LeafPairsUptoSaid : Prop := leafPairsUptoRow.holds Tryd.pinned (OpenSpec.upto leafPairsSpec)

/-- 'lustrumlaw14.LeafTidy', WHERE WHAT IT READS IS OF BULK AT MOST 1048576: true; the input reads as it did. -/
def leafTidyUptoRow : OpenClaim := { program := "ytbahhgpaafgpoaadoor", sum := "5da7f2e5cc4b55c2e486d76d8e6d026d6dd49886b6b636f5f4721b4aa5b64f81", func := "lustrum/lustrumlaw14.LeafTidy", spec := "leafTidy", unfollowed := true, recurses := true, named := ["lustrum/unit.counts", "lustrum/civil.monthDays"], apart := false, laid := [("lustrum/civil.monthDays", laid_lustrum_civil_monthDays), ("lustrum/unit.counts", laid_lustrum_unit_counts)], narrowed := true }
def LeafTidyUptoSaid : Prop := leafTidyUptoRow.holds Tryd.pinned (OpenSpec.upto leafTidySpec)

/-- 'lustrumlaw14.LeafMore', WHERE WHAT IT READS IS OF BULK AT MOST 1048576: true; the input reads as it did. -/
def leafMoreUptoRow : OpenClaim := { program := "ytbahhgpaafgpoaadoor", sum := "5da7f2e5cc4b55c2e486d76d8e6d026d6dd49886b6b636f5f4721b4aa5b64f81", func := "lustrum/lustrumlaw14.LeafMore", spec := "leafMore", unfollowed := true, recurses := true, named := ["lustrum/unit.counts", "lustrum/civil.monthDays"], apart := false, laid := [("lustrum/civil.monthDays", laid_lustrum_civil_monthDays), ("lustrum/unit.counts", laid_lustrum_unit_counts)], narrowed := true }
def LeafMoreUptoSaid : Prop := leafMoreUptoRow.holds Tryd.pinned (OpenSpec.upto leafMoreSpec)

/-- 'lustrumlaw16.EnvPairs', WHERE WHAT IT READS IS OF BULK AT MOST 1048576: true; the input reads as it did. -/
def envPairsUptoRow : OpenClaim := { program := "ytbahhgpaafgpoaadoor", sum := "5da7f2e5cc4b55c2e486d76d8e6d026d6dd49886b6b636f5f4721b4aa5b64f81", func := "lustrum/lustrumlaw16.EnvPairs", spec := "envPairs", unfollowed := true, recurses := true, named := ["lustrum/unit.counts", "lustrum/civil.monthDays"], apart := false, laid := [("lustrum/civil.monthDays", laid_lustrum_civil_monthDays), ("lustrum/unit.counts", laid_lustrum_unit_counts)], narrowed := true }
def EnvPairsUptoSaid : Prop := envPairsUptoRow.holds Tryd.pinned (OpenSpec.upto envPairsSpec)

/-- 'lustrumlaw16.EnvMet', WHERE WHAT IT READS IS OF BULK AT MOST 1048576: true; the input reads as it did. -/
def envMetUptoRow : OpenClaim := { program := "ytbahhgpaafgpoaadoor", sum := "5da7f2e5cc4b55c2e486d76d8e6d026d6dd49886b6b636f5f4721b4aa5b64f81", func := "lustrum/lustrumlaw16.EnvMet", spec := "envMet", unfollowed := true, recurses := true, named := ["lustrum/unit.counts", "lustrum/civil.monthDays"], apart := false, laid := [("lustrum/civil.monthDays", laid_lustrum_civil_monthDays), ("lustrum/unit.counts", laid_lustrum_unit_counts)], narrowed := true }
def EnvMetUptoSaid : Prop := envMetUptoRow.holds Tryd.pinned (OpenSpec.upto envMetSpec)

/-- 'lustrumlaw16.EnvMore', WHERE WHAT IT READS IS OF BULK AT MOST 1048576: true; the input reads as it did. -/
def envMoreUptoRow : OpenClaim := { program := "ytbahhgpaafgpoaadoor", sum := "5da7f2e5cc4b55c2e486d76d8e6d026d6dd49886b6b636f5f4721b4aa5b64f81", func := "lustrum/lustrumlaw16.EnvMore", spec := "envMore", unfollowed := true, recurses := true, named := ["lustrum/unit.counts", "lustrum/civil.monthDays"], apart := false, laid := [("lustrum/civil.monthDays", laid_lustrum_civil_monthDays), ("lustrum/unit.counts", laid_lustrum_unit_counts)], narrowed := true }
def EnvMoreUptoSaid : Prop := envMoreUptoRow.holds Tryd.pinned (OpenSpec.upto envMoreSpec)

end Rows
end Go.Proofs.YtbahhgpaafgpoaaDoor
