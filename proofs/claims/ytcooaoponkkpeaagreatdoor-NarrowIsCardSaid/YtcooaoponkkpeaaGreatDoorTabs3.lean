import Derived.Test.YtcooaoponkkpeaaGreatDoorJU
import Derived.Test.YtcooaoponkkpeaaGreatDoorRows
import Derived.Stop.LaidErr
namespace Go.Proofs.YtcooaoponkkpeaaGreatDoor
open Go.RowKit
theorem cells_int : Tryz.prog.cellsOf 3 = 1 := by kernel_rfl
theorem cells_md : Tryz.prog.cellsOf 199 = 13 := by kernel_rfl
theorem cells_uc : Tryz.prog.cellsOf 183 = 6 := by kernel_rfl
theorem gt_md : (Tryz.prog.globals[2]?).map (·.type) = some 199 := by kernel_rfl
theorem gt_uc : (Tryz.prog.globals[1]?).map (·.type) = some 183 := by kernel_rfl
theorem tabs_of {W : World} (h : laidMetH Tryz.prog [("lustrum/civil.monthDays", Rows.laid_lustrum_civil_monthDays), ("lustrum/unit.counts", Rows.laid_lustrum_unit_counts)] W) : Tabs W := by
 have h1 : laidMet Tryz.prog [("lustrum/civil.monthDays", Lib.tabData .i64 [0, 31, 28, 31, 30, 31, 30, 31, 31, 30, 31, 30, 31]), ("lustrum/unit.counts", Lib.tabData .i64 [3652425, 120000, 40000, 10000, 1000, 100])] W := h
 exact ⟨Lib.tabIs_of_head gMD gt_md Tryz.underlying199 Tryz.underlying3 cells_int cells_md h1, Lib.tabIs_of_head gUC gt_uc Tryz.underlying183 Tryz.underlying3 cells_int cells_uc h1.tail⟩
end Go.Proofs.YtcooaoponkkpeaaGreatDoor
