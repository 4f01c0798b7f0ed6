/-
  DERIVED. GIVEN WITH THE SEED: THE PROGRAM's TIES (one call each: nine closed facts by the kernel) AND EACH ROW's TIE, after the 31st guide's Derived/Test/Toyas{Tie, Card}.lean. No idea stands in it: it is a product of the set-up. Laid BY PROGRAM, IN A SANDBOX (cutbox-door.mjs). By AI agents, Wed Nov 11 2026. No macro, syntax, notation, axiom, sorry.
-/
import Derived.Test.YtinpglfclbnhlaaGreatDoorRows
import Derived.LaidByTextLater
import Derived.SevenTiedAt
import Derived.LaidSub
import Derived.LaidOnce
namespace Go.Proofs.YtinpglfclbnhlaaGreatDoor
open Go
set_option maxRecDepth 100000
theorem seatTie1 : Tryz.prog.laidByTextLater [("lustrum/civil.monthDays", Rows.laid_lustrum_civil_monthDays), ("lustrum/unit.counts", Rows.laid_lustrum_unit_counts), ("lustrum/point.shapes", Rows.laid_lustrum_point_shapes), ("lustrum/point.radii", Rows.laid_lustrum_point_radii)] [.data, .data, .data, .data] true :=
  Program.laidByTextLater_by_one 35 8 31 (by kernel_rfl) (by kernel_rfl) (by kernel_rfl) (by kernel_rfl) (by kernel_rfl) (by kernel_rfl) (fun _ _ => by kernel_rfl)
theorem noOwnUnsafe : Tryz.pinned.checked.prog.headLifts.contains "ownunsafe" = false := by kernel_rfl
theorem tie : Tryz.prog.laidByTextLater [("lustrum/civil.monthDays", Rows.laid_lustrum_civil_monthDays), ("lustrum/unit.counts", Rows.laid_lustrum_unit_counts), ("lustrum/point.shapes", Rows.laid_lustrum_point_shapes), ("lustrum/point.radii", Rows.laid_lustrum_point_radii)] [.data, .data, .data, .data] true :=
  Program.laidByTextLater.sub seatTie1 ["lustrum/civil.monthDays", "lustrum/unit.counts", "lustrum/point.shapes", "lustrum/point.radii"] (by kernel_rfl) (by kernel_rfl)
theorem pointIs_row_tie : Rows.pointIsRow.laidByTextAt .later Tryz.pinned [.data, .data, .data, .data] true :=
  OpenClaim.laidByTextAt_later rfl rfl tie noOwnUnsafe
theorem pointIsUpto_row_tie : Rows.pointIsUptoRow.laidByTextAt .later Tryz.pinned [.data, .data, .data, .data] true :=
  OpenClaim.laidByTextAt_later rfl rfl tie noOwnUnsafe
end Go.Proofs.YtinpglfclbnhlaaGreatDoor
