/-
  NARROWER THAN 'FOR EVERY INPUT', by the rows' own cells (each row's printed sentence says how): OrderKeys: laid · OrderCompare: laid · OrderRises: laid · OrderThree: laid.
  DERIVED. THE GIVEN ROWS OF THIS SEAT. 4 by the template 'for every input the law returns true; each argument reads behind the call as it read before'; 0 by the template 'total and deterministic' (their statements: YtjjpnglilalnmaaDoorTotals.lean).
  GIVEN WITH THE SEED: the statements are not yours to turn. If you find one false, say at which input.
  Laid BY PROGRAM, IN A SANDBOX (cutbox-rows.mjs): the forced cells as the released guide's own fill.sh prints them over the translation 49216419d5163349… (all of the seat's roots in one cut). By AI agents, Wed Nov 11 2026. No macro, syntax, notation, axiom, sorry.
-/
import Derived.Test.YtjjpnglilalnmaaDoorChecked
import GoSem.Claim
import GoSem.ClaimJoined
import GoSem.ClaimMapViews
import Derived.JoinedTies
import Derived.KernelRfl
namespace Go.Proofs.YtjjpnglilalnmaaDoor
/- THE CELL 'sum', in the pinned program and in every row, IS THE sha256 OF THE DUMP (.gsa) THAT YtjjpnglilalnmaaDoorProg.lean LOADS. Nothing in Lean hashes anything: it is a label: what it is worth is what the hold of that sum in a sandbox is worth. -/
noncomputable def Tryd.pinned : Pinned := { name := "ytjjpnglilalnmaadoor", sum := "49216419d516334995e3f22574b0b6d4d36385692e1664995d35eb04c8e5bc00", checked := Tryd.checked }
namespace Rows
def none {H : Type} : Left H := { results := [], args := [] }

/- WHAT THE LISTED PACKAGE-LEVEL VARIABLES READ AS WHEN THE CALL BEGINS. Each datum BY PROGRAM (the guide's laid-datum.mjs) off the statement by which the dump's own 'gosem.cut.vars' lays the variable. In a bare row this is a premise. The card (YtjjpnglilalnmaaDoorCards.lean) ties it to the program's text. -/
def laid_lustrum_civil_monthDays {H : Type} : DataW H := .agg [.lit (.int .i64 0), .lit (.int .i64 31), .lit (.int .i64 28), .lit (.int .i64 31), .lit (.int .i64 30), .lit (.int .i64 31), .lit (.int .i64 30), .lit (.int .i64 31), .lit (.int .i64 31), .lit (.int .i64 30), .lit (.int .i64 31), .lit (.int .i64 30), .lit (.int .i64 31)]
def laid_lustrum_unit_counts {H : Type} : DataW H := .agg [.lit (.int .i64 3652425), .lit (.int .i64 120000), .lit (.int .i64 40000), .lit (.int .i64 10000), .lit (.int .i64 1000), .lit (.int .i64 100)]

/-- 'lustrumlaw21.OrderKeys': WHATEVER THE INPUT: true; the input reads as it did. -/
def orderKeysSpec : ChangeSpec := { name := "orderKeys", fn := fun _ => fun
  | [d1, d2] => { results := [.lit (.bool true)], args := [d1, d2] }
  | _ => none }
def orderKeysRow : OpenClaim := { program := "ytjjpnglilalnmaadoor", sum := "49216419d516334995e3f22574b0b6d4d36385692e1664995d35eb04c8e5bc00", func := "lustrum/lustrumlaw21.OrderKeys", spec := "orderKeys", unfollowed := true, recurses := true, named := ["lustrum/unit.counts", "lustrum/civil.monthDays"], apart := false, laid := [("lustrum/civil.monthDays", laid_lustrum_civil_monthDays), ("lustrum/unit.counts", laid_lustrum_unit_counts)] }
def OrderKeysSaid : Prop := orderKeysRow.holds Tryd.pinned (OpenSpec.ofChange orderKeysSpec)

/-- ITS FALSE NEIGHBOUR: 'it returns false'. Refute it at one input. -/
def orderKeysWrong : ChangeSpec := { name := "orderKeys", fn := fun _ => fun
  | [d1, d2] => { results := [.lit (.bool false)], args := [d1, d2] }
  | _ => none }
def OrderKeysWrongFalsely : Prop := orderKeysRow.holds Tryd.pinned (OpenSpec.ofChange orderKeysWrong)

/-- 'lustrumlaw21.OrderCompare': WHATEVER THE INPUT: true; the input reads as it did. -/
def orderCompareSpec : ChangeSpec := { name := "orderCompare", fn := fun _ => fun
  | [d1, d2, d3] => { results := [.lit (.bool true)], args := [d1, d2, d3] }
  | _ => none }
def orderCompareRow : OpenClaim := { program := "ytjjpnglilalnmaadoor", sum := "49216419d516334995e3f22574b0b6d4d36385692e1664995d35eb04c8e5bc00", func := "lustrum/lustrumlaw21.OrderCompare", spec := "orderCompare", unfollowed := true, recurses := true, named := ["lustrum/unit.counts", "lustrum/civil.monthDays"], apart := false, laid := [("lustrum/civil.monthDays", laid_lustrum_civil_monthDays), ("lustrum/unit.counts", laid_lustrum_unit_counts)] }
def OrderCompareSaid : Prop := orderCompareRow.holds Tryd.pinned (OpenSpec.ofChange orderCompareSpec)

/-- ITS FALSE NEIGHBOUR: 'it returns false'. Refute it at one input. -/
def orderCompareWrong : ChangeSpec := { name := "orderCompare", fn := fun _ => fun
  | [d1, d2, d3] => { results := [.lit (.bool false)], args := [d1, d2, d3] }
  | _ => none }
def OrderCompareWrongFalsely : Prop := orderCompareRow.holds Tryd.pinned (OpenSpec.ofChange orderCompareWrong)

/-- 'lustrumlaw21.OrderRises': WHATEVER THE INPUT: true; the input reads as it did. -/
def orderRisesSpec : ChangeSpec := { name := "orderRises", fn := fun _ => fun
  | [d] => { results := [.lit (.bool true)], args := [d] }
  | _ => none }
def orderRisesRow : OpenClaim := { program := "ytjjpnglilalnmaadoor", sum := "49216419d516334995e3f22574b0b6d4d36385692e1664995d35eb04c8e5bc00", func := "lustrum/lustrumlaw21.OrderRises", spec := "orderRises", unfollowed := true, recurses := true, named := ["lustrum/unit.counts", "lustrum/civil.monthDays"], apart := false, laid := [("lustrum/civil.monthDays", laid_lustrum_civil_monthDays), ("lustrum/unit.counts", laid_lustrum_unit_counts)] }
def OrderRisesSaid : Prop := orderRisesRow.holds Tryd.pinned (OpenSpec.ofChange orderRisesSpec)

/-- ITS FALSE NEIGHBOUR: 'it returns false'. Refute it at one input. -/
def orderRisesWrong : ChangeSpec := { name := "orderRises", fn := fun _ => fun
  | [d] => { results := [.lit (.bool false)], args := [d] }
  | _ => none }
def OrderRisesWrongFalsely : Prop := orderRisesRow.holds Tryd.pinned (OpenSpec.ofChange orderRisesWrong)

/-- 'lustrumlaw21.OrderThree': WHATEVER THE INPUT: true; the input reads as it did. -/
def orderThreeSpec : ChangeSpec := { name := "orderThree", fn := fun _ => fun
  | [d1, d2, d3] => { results := [.lit (.bool true)], args := [d1, d2, d3] }
  | _ => none }
def orderThreeRow : OpenClaim := { program := "ytjjpnglilalnmaadoor", sum := "49216419d516334995e3f22574b0b6d4d36385692e1664995d35eb04c8e5bc00", func := "lustrum/lustrumlaw21.OrderThree", spec := "orderThree", unfollowed := true, recurses := true, named := ["lustrum/unit.counts", "lustrum/civil.monthDays"], apart := false, laid := [("lustrum/civil.monthDays", laid_lustrum_civil_monthDays), ("lustrum/unit.counts", laid_lustrum_unit_counts)] }
def OrderThreeSaid : Prop := orderThreeRow.holds Tryd.pinned (OpenSpec.ofChange orderThreeSpec)

/-- ITS FALSE NEIGHBOUR: 'it returns false'. Refute it at one input. -/
def orderThreeWrong : ChangeSpec := { name := "orderThree", fn := fun _ => fun
  | [d1, d2, d3] => { results := [.lit (.bool false)], args := [d1, d2, d3] }
  | _ => none }
def OrderThreeWrongFalsely : Prop := orderThreeRow.holds Tryd.pinned (OpenSpec.ofChange orderThreeWrong)

/- THE SECOND FORM. 'bulk': how many values and letters a reading holds, each counted each time it is reached (what is shared counts as often as it is met; a slice's spare places count too). A statement '..UptoSaid' is the law's where the arguments, and the package variables that the reading takes, are together of bulk at most 1048576: NARROWER than '..Said'. Prove '..Said' where nothing that the law and all that it calls make is longer than what came in: it says more and counts as full. Else prove '..UptoSaid'. A law counts once. -/
mutual
def uptoBulk {H : Type} : DataW H → Nat
  | .lit (.string bytes) => bytes.length + 1
  | .lit _ => 1
  | .nil => 1
  | .ptr d => uptoBulk d + 1
  | .slice elems spare => uptoBulkAll elems + uptoBulkAll spare + 1
  | .agg parts => uptoBulkAll parts + 1
  | .iface _ d => uptoBulk d + 1
  | .map entries => uptoBulkEntries entries + 1
  | .held _ => 1
def uptoBulkAll {H : Type} : List (DataW H) → Nat
  | [] => 0
  | d :: r => uptoBulk d + uptoBulkAll r
def uptoBulkEntries {H : Type} : List (Lit × DataW H) → Nat
  | [] => 0
  | x :: r => uptoBulkEntry x + uptoBulkEntries r
def uptoBulkEntry {H : Type} : Lit × DataW H → Nat
  | (.string bytes, d) => bytes.length + uptoBulk d + 1
  | (_, d) => uptoBulk d + 1
 end
def uptoSmall : (H : Type) → List (DataW H) → Bool := fun _ ds => decide (uptoBulkAll ds ≤ 1048576)
def OpenSpec.upto (s : _root_.Go.ChangeSpec) : _root_.Go.OpenSpec := { _root_.Go.OpenSpec.ofChange s with cond := some uptoSmall }

/-- 'lustrumlaw21.OrderKeys', WHERE WHAT IT READS IS OF BULK AT MOST 1048576: true; the input reads as it did. -/
def orderKeysUptoRow : OpenClaim := { program := "ytjjpnglilalnmaadoor", sum := "49216419d516334995e3f22574b0b6d4d36385692e1664995d35eb04c8e5bc00", func := "lustrum/lustrumlaw21.OrderKeys", spec := "orderKeys", unfollowed := true, recurses := true, named := ["lustrum/unit.counts", "lustrum/civil.monthDays"], apart := false, laid := [("lustrum/civil.monthDays", laid_lustrum_civil_monthDays), ("lustrum/unit.counts", laid_lustrum_unit_counts)], narrowed := true }
def OrderKeysUptoSaid : Prop := orderKeysUptoRow.holds Tryd.pinned (OpenSpec.upto orderKeysSpec)

/-- 'lustrumlaw21.OrderCompare', WHERE WHAT IT READS IS OF BULK AT MOST 1048576: true; the input reads as it did. -/
def orderCompareUptoRow : OpenClaim := { program := "ytjjpnglilalnmaadoor", sum := "49216419d516334995e3f22574b0b6d4d36385692e1664995d35eb04c8e5bc00", func := "lustrum/lustrumlaw21.OrderCompare", spec := "orderCompare", unfollowed := true, recurses := true, named := ["lustrum/unit.counts", "lustrum/civil.monthDays"], apart := false, laid := [("lustrum/civil.monthDays", laid_lustrum_civil_monthDays), ("lustrum/unit.counts", laid_lustrum_unit_counts)], narrowed := true }
def OrderCompareUptoSaid : Prop := orderCompareUptoRow.holds Tryd.pinned (OpenSpec.upto orderCompareSpec)

/-- 'lustrumlaw21.OrderRises', WHERE WHAT IT READS IS OF BULK AT MOST 1048576: true; the input reads as it did. -/
def orderRisesUptoRow : OpenClaim := { program := "ytjjpnglilalnmaadoor", sum := "49216419d516334995e3f22574b0b6d4d36385692e1664995d35eb04c8e5bc00", func := "lustrum/lustrumlaw21.OrderRises", spec := "orderRises", unfollowed := true, recurses := true, named := ["lustrum/unit.counts", "lustrum/civil.monthDays"], apart := false, laid := [("lustrum/civil.monthDays", laid_lustrum_civil_monthDays), ("lustrum/unit.counts", laid_lustrum_unit_counts)], narrowed := true }
def OrderRisesUptoSaid : Prop := orderRisesUptoRow.holds Tryd.pinned (OpenSpec.upto orderRisesSpec)

/-- 'lustrumlaw21.OrderThree', WHERE WHAT IT READS IS OF BULK AT MOST 1048576: true; the input reads as it did. -/
def orderThreeUptoRow : OpenClaim := { program := "ytjjpnglilalnmaadoor", sum := "49216419d516334995e3f22574b0b6d4d36385692e1664995d35eb04c8e5bc00", func := "lustrum/lustrumlaw21.OrderThree", spec := "orderThree", unfollowed := true, recurses := true, named := ["lustrum/unit.counts", "lustrum/civil.monthDays"], apart := false, laid := [("lustrum/civil.monthDays", laid_lustrum_civil_monthDays), ("lustrum/unit.counts", laid_lustrum_unit_counts)], narrowed := true }
def OrderThreeUptoSaid : Prop := orderThreeUptoRow.holds Tryd.pinned (OpenSpec.upto orderThreeSpec)

end Rows
end Go.Proofs.YtjjpnglilalnmaaDoor
