/-
  NARROWER THAN 'FOR EVERY INPUT', by the rows' own cells (each row's printed sentence says how): OrderIs: laid · OrderSorts: laid · OrderPairs: laid.
  DERIVED. THE GIVEN ROWS OF THIS SEAT. 3 by the template 'for every input the law returns true; each argument reads behind the call as it read before'; 0 by the template 'total and deterministic' (their statements: YtjjpnglilalnmaaGreatDoorTotals.lean).
  GIVEN WITH THE SEED: the statements are not yours to turn. If you find one false, say at which input.
  Laid BY PROGRAM, IN A SANDBOX (cutbox-rows.mjs): the forced cells as the released guide's own fill.sh prints them over the translation 87fbe66fa7413167… (all of the seat's roots in one cut). By AI agents, Wed Nov 11 2026. No macro, syntax, notation, axiom, sorry.
-/
import Derived.Test.YtjjpnglilalnmaaGreatDoorChecked
import GoSem.Claim
import GoSem.ClaimJoined
import GoSem.ClaimMapViews
import Derived.JoinedTies
import Derived.KernelRfl
namespace Go.Proofs.YtjjpnglilalnmaaGreatDoor
/- THE CELL 'sum', in the pinned program and in every row, IS THE sha256 OF THE DUMP (.gsa) THAT YtjjpnglilalnmaaGreatDoorProg.lean LOADS. Nothing in Lean hashes anything: it is a label: what it is worth is what the hold of that sum in a sandbox is worth. -/
noncomputable def Tryz.pinned : Pinned := { name := "ytjjpnglilalnmaagreatdoor", sum := "87fbe66fa7413167ae80abca87345ea6a2e7a79a7f3b1b8d3bbb1af5ba1b634f", checked := Tryz.checked }
namespace Rows
def none {H : Type} : Left H := { results := [], args := [] }

/- WHAT THE LISTED PACKAGE-LEVEL VARIABLES READ AS WHEN THE CALL BEGINS. Each datum BY PROGRAM (the guide's laid-datum.mjs) off the statement by which the dump's own 'gosem.cut.vars' lays the variable. In a bare row this is a premise. The card (YtjjpnglilalnmaaGreatDoorCards.lean) ties it to the program's text. -/
def laid_lustrum_civil_monthDays {H : Type} : DataW H := .agg [.lit (.int .i64 0), .lit (.int .i64 31), .lit (.int .i64 28), .lit (.int .i64 31), .lit (.int .i64 30), .lit (.int .i64 31), .lit (.int .i64 30), .lit (.int .i64 31), .lit (.int .i64 31), .lit (.int .i64 30), .lit (.int .i64 31), .lit (.int .i64 30), .lit (.int .i64 31)]
def laid_lustrum_unit_counts {H : Type} : DataW H := .agg [.lit (.int .i64 3652425), .lit (.int .i64 120000), .lit (.int .i64 40000), .lit (.int .i64 10000), .lit (.int .i64 1000), .lit (.int .i64 100)]

/-- 'lustrumlaw21.OrderIs': WHATEVER THE INPUT: true; the input reads as it did. -/
def orderIsSpec : ChangeSpec := { name := "orderIs", fn := fun _ => fun
  | [d1, d2, d3, d4] => { results := [.lit (.bool true)], args := [d1, d2, d3, d4] }
  | _ => none }
def orderIsRow : OpenClaim := { program := "ytjjpnglilalnmaagreatdoor", sum := "87fbe66fa7413167ae80abca87345ea6a2e7a79a7f3b1b8d3bbb1af5ba1b634f", func := "lustrum/lustrumlaw21.OrderIs", spec := "orderIs", unfollowed := true, recurses := true, named := ["lustrum/unit.counts", "lustrum/civil.monthDays"], apart := false, laid := [("lustrum/civil.monthDays", laid_lustrum_civil_monthDays), ("lustrum/unit.counts", laid_lustrum_unit_counts)] }
def OrderIsSaid : Prop := orderIsRow.holds Tryz.pinned (OpenSpec.ofChange orderIsSpec)

/-- ITS FALSE NEIGHBOUR: 'it returns false'. Refute it at one input. -/
def orderIsWrong : ChangeSpec := { name := "orderIs", fn := fun _ => fun
  | [d1, d2, d3, d4] => { results := [.lit (.bool false)], args := [d1, d2, d3, d4] }
  | _ => none }
def OrderIsWrongFalsely : Prop := orderIsRow.holds Tryz.pinned (OpenSpec.ofChange orderIsWrong)

/-- 'lustrumlaw21.OrderSorts': WHATEVER THE INPUT: true; the input reads as it did. -/
def orderSortsSpec : ChangeSpec := { name := "orderSorts", fn := fun _ => fun
  | [d] => { results := [.lit (.bool true)], args := [d] }
  | _ => none }
def orderSortsRow : OpenClaim := { program := "ytjjpnglilalnmaagreatdoor", sum := "87fbe66fa7413167ae80abca87345ea6a2e7a79a7f3b1b8d3bbb1af5ba1b634f", func := "lustrum/lustrumlaw21.OrderSorts", spec := "orderSorts", unfollowed := true, recurses := true, named := ["lustrum/unit.counts", "lustrum/civil.monthDays"], apart := false, laid := [("lustrum/civil.monthDays", laid_lustrum_civil_monthDays), ("lustrum/unit.counts", laid_lustrum_unit_counts)] }
def OrderSortsSaid : Prop := orderSortsRow.holds Tryz.pinned (OpenSpec.ofChange orderSortsSpec)

/-- ITS FALSE NEIGHBOUR: 'it returns false'. Refute it at one input. -/
def orderSortsWrong : ChangeSpec := { name := "orderSorts", fn := fun _ => fun
  | [d] => { results := [.lit (.bool false)], args := [d] }
  | _ => none }
def OrderSortsWrongFalsely : Prop := orderSortsRow.holds Tryz.pinned (OpenSpec.ofChange orderSortsWrong)

/-- 'lustrumlaw21.OrderPairs': WHATEVER THE INPUT: true; the input reads as it did. -/
def orderPairsSpec : ChangeSpec := { name := "orderPairs", fn := fun _ => fun
  | [d1, d2, d3, d4] => { results := [.lit (.bool true)], args := [d1, d2, d3, d4] }
  | _ => none }
def orderPairsRow : OpenClaim := { program := "ytjjpnglilalnmaagreatdoor", sum := "87fbe66fa7413167ae80abca87345ea6a2e7a79a7f3b1b8d3bbb1af5ba1b634f", func := "lustrum/lustrumlaw21.OrderPairs", spec := "orderPairs", unfollowed := true, recurses := true, named := ["lustrum/unit.counts", "lustrum/civil.monthDays"], apart := false, laid := [("lustrum/civil.monthDays", laid_lustrum_civil_monthDays), ("lustrum/unit.counts", laid_lustrum_unit_counts)] }
def OrderPairsSaid : Prop := orderPairsRow.holds Tryz.pinned (OpenSpec.ofChange orderPairsSpec)

/-- ITS FALSE NEIGHBOUR: 'it returns false'. Refute it at one input. -/
def orderPairsWrong : ChangeSpec := { name := "orderPairs", fn := fun _ => fun
  | [d1, d2, d3, d4] => { results := [.lit (.bool false)], args := [d1, d2, d3, d4] }
  | _ => none }
def OrderPairsWrongFalsely : Prop := orderPairsRow.holds Tryz.pinned (OpenSpec.ofChange orderPairsWrong)

/- THE SECOND FORM. 'bulk': how many values and letters a reading holds, each counted each time it is reached (what is shared counts as often as it is met; a slice's spare places count too). A statement '..UptoSaid' is the law's where the arguments, and the package variables that the reading takes, are together of bulk at most 1048576: NARROWER than '..Said'. Prove '..Said' where nothing that the law and all that it calls make is longer than what came in: it says more and counts as full. Else prove '..UptoSaid'. A law counts once. -/
mutual
def uptoBulk {H : Type} : DataW H → Nat
  | .lit (.string bytes) => bytes.length + 1
  | .lit _ => 1
  | .nil => 1
  | .ptr d => uptoBulk d + 1
  | .slice elems spare => uptoBulkAll elems + uptoBulkAll spare + 1
  | .agg parts => uptoBulkAll parts + 1
  | .iface _ d => uptoBulk d + 1
  | .map entries => uptoBulkEntries entries + 1
  | .held _ => 1
def uptoBulkAll {H : Type} : List (DataW H) → Nat
  | [] => 0
  | d :: r => uptoBulk d + uptoBulkAll r
def uptoBulkEntries {H : Type} : List (Lit × DataW H) → Nat
  | [] => 0
  | x :: r => uptoBulkEntry x + uptoBulkEntries r
def uptoBulkEntry {H : Type} : Lit × DataW H → Nat
  | (.string bytes, d) => bytes.length + uptoBulk d + 1
  | (_, d) => uptoBulk d + 1
 end
def uptoSmall : (H : Type) → List (DataW H) → Bool := fun _ ds => decide (uptoBulkAll ds ≤ 1048576)
def OpenSpec.upto (s : _root_.Go.ChangeSpec) : _root_.Go.OpenSpec := { _root_.Go.OpenSpec.ofChange s with cond := some uptoSmall }

/-- 'lustrumlaw21.OrderIs', WHERE WHAT IT READS IS OF BULK AT MOST 1048576: true; the input reads as it did. -/
def orderIsUptoRow : OpenClaim := { program := "ytjjpnglilalnmaagreatdoor", sum := "87fbe66fa7413167ae80abca87345ea6a2e7a79a7f3b1b8d3bbb1af5ba1b634f", func := "lustrum/lustrumlaw21.OrderIs", spec := "orderIs", unfollowed := true, recurses := true, named := ["lustrum/unit.counts", "lustrum/civil.monthDays"], apart := false, laid := [("lustrum/civil.monthDays", laid_lustrum_civil_monthDays), ("lustrum/unit.counts", laid_lustrum_unit_counts)], narrowed := true }
def OrderIsUptoSaid : Prop := orderIsUptoRow.holds Tryz.pinned (OpenSpec.upto orderIsSpec)

/-- 'lustrumlaw21.OrderSorts', WHERE WHAT IT READS IS OF BULK AT MOST 1048576: true; the input reads as it did. -/
def orderSortsUptoRow : OpenClaim := { program := "ytjjpnglilalnmaagreatdoor", sum := "87fbe66fa7413167ae80abca87345ea6a2e7a79a7f3b1b8d3bbb1af5ba1b634f", func := "lustrum/lustrumlaw21.OrderSorts", spec := "orderSorts", unfollowed := true, recurses := true, named := ["lustrum/unit.counts", "lustrum/civil.monthDays"], apart := false, laid := [("lustrum/civil.monthDays", laid_lustrum_civil_monthDays), ("lustrum/unit.counts", laid_lustrum_unit_counts)], narrowed := true }
def OrderSortsUptoSaid : Prop := orderSortsUptoRow.holds Tryz.pinned (OpenSpec.upto orderSortsSpec)

/-- 'lustrumlaw21.OrderPairs', WHERE WHAT IT READS IS OF BULK AT MOST 1048576: true; the input reads as it did. -/
def orderPairsUptoRow : OpenClaim := { program := "ytjjpnglilalnmaagreatdoor", sum := "87fbe66fa7413167ae80abca87345ea6a2e7a79a7f3b1b8d3bbb1af5ba1b634f", func := "lustrum/lustrumlaw21.OrderPairs", spec := "orderPairs", unfollowed := true, recurses := true, named := ["lustrum/unit.counts", "lustrum/civil.monthDays"], apart := false, laid := [("lustrum/civil.monthDays", laid_lustrum_civil_monthDays), ("lustrum/unit.counts", laid_lustrum_unit_counts)], narrowed := true }
def OrderPairsUptoSaid : Prop := orderPairsUptoRow.holds Tryz.pinned (OpenSpec.upto orderPairsSpec)

end Rows
end Go.Proofs.YtjjpnglilalnmaaGreatDoor
