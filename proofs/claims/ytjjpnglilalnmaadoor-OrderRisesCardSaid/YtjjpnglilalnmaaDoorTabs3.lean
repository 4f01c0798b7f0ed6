/-
  What the rows' lists of package-level variables give: the tables of layer 3.
-/
import Derived.Test.YtjjpnglilalnmaaDoorGUnit
import Derived.Test.YtjjpnglilalnmaaDoorRows
import Derived.Stop.LaidErr
namespace Go.Proofs.YtjjpnglilalnmaaDoor
open Go.RowKit
theorem cells_int : Tryd.prog.cellsOf 3 = 1 := by kernel_rfl
theorem cells_md : Tryd.prog.cellsOf 108 = 13 := by kernel_rfl
theorem cells_uc : Tryd.prog.cellsOf 90 = 6 := by kernel_rfl
theorem gt_md : (Tryd.prog.globals[1]?).map (·.type) = some 108 := by kernel_rfl
theorem gt_uc : (Tryd.prog.globals[0]?).map (·.type) = some 90 := by kernel_rfl
theorem tabs_of {W : World} (h : laidMetH Tryd.prog [("lustrum/civil.monthDays", Rows.laid_lustrum_civil_monthDays), ("lustrum/unit.counts", Rows.laid_lustrum_unit_counts)] W) : Tabs W := by
  have h1 : laidMet Tryd.prog [("lustrum/civil.monthDays", Lib.tabData .i64 [0, 31, 28, 31, 30, 31, 30, 31, 31, 30, 31, 30, 31]), ("lustrum/unit.counts", Lib.tabData .i64 [3652425, 120000, 40000, 10000, 1000, 100])] W := h
  exact ⟨Lib.tabIs_of_head gMD gt_md Tryd.underlying108 Tryd.underlying3 cells_int cells_md h1, Lib.tabIs_of_head gUC gt_uc Tryd.underlying90 Tryd.underlying3 cells_int cells_uc h1.tail⟩
end Go.Proofs.YtjjpnglilalnmaaDoor
