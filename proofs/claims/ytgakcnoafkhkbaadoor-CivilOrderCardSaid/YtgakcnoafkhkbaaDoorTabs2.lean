/-
  What the rows' lists of package-level variables give: the tables of layer 2.
-/
import Derived.Test.YtgakcnoafkhkbaaDoorCivilAw
import Derived.Test.YtgakcnoafkhkbaaDoorRows
import Derived.Stop.LaidErr
namespace Go.Proofs.YtgakcnoafkhkbaaDoor
open Go.RowKit
theorem cells_int : Tryd.prog.cellsOf 3 = 1 := by kernel_rfl
theorem cells_md : Tryd.prog.cellsOf 33 = 13 := by kernel_rfl
theorem cells_wd : Tryd.prog.cellsOf 34 = 7 := by kernel_rfl
theorem gt_md : (Tryd.prog.globals[0]?).map (·.type) = some 33 := by kernel_rfl
theorem gt_wd : (Tryd.prog.globals[1]?).map (·.type) = some 34 := by kernel_rfl
theorem tabs_of {W : World} (h : laidMetH Tryd.prog [("lustrum/civil.monthDays", Rows.laid_lustrum_civil_monthDays), ("lustrum/civil.weekdays", Rows.laid_lustrum_civil_weekdays)] W) : Tabs W := by
  have h1 : laidMet Tryd.prog [("lustrum/civil.monthDays", Lib.tabData .i64 [0, 31, 28, 31, 30, 31, 30, 31, 31, 30, 31, 30, 31]), ("lustrum/civil.weekdays", Lib.tabData .i64 [5, 6, 0, 1, 2, 3, 4])] W := h
  exact ⟨Lib.tabIs_of_head gMD gt_md Tryd.underlying33 Tryd.underlying3 cells_int cells_md h1, Lib.tabIs_of_head gWD gt_wd Tryd.underlying34 Tryd.underlying3 cells_int cells_wd h1.tail⟩
end Go.Proofs.YtgakcnoafkhkbaaDoor
