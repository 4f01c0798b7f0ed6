/-
  Contracts of package unit: the methods of a date.
-/
import Derived.Test.YtfopcacoacedcaaDoorUnitA
namespace Go.Proofs.YtfopcacoacedcaaDoor
open Go.RowKit
set_option linter.unusedVariables false
theorem ownNumber_any (d m : Int) (w : World) :
    Calls Tryd.prog 38 #[.agg #[.int .i64 d, .int .i64 m]] w fun e w' => e = .returned (.int .i64 d) ∧ Kp w w' := by
  go_enter Tryd.func38, Tryd.ntmps38
  go_wp2
  go_ret
  exact ⟨rfl, Kp.alloc _ _⟩
theorem month_any (d m : Int) (w : World) :
    Calls Tryd.prog 39 #[.agg #[.int .i64 d, .int .i64 m]] w fun e w' => e = .returned (.int .i64 m) ∧ Kp w w' := by
  go_enter Tryd.func39, Tryd.ntmps39
  go_wp2
  go_ret
  exact ⟨rfl, Kp.alloc _ _⟩
def seaN (m : Int) : Int := if m < 2 then -1 else (m - 2) / 3
theorem season_any (d m : Int) (w : World) (h : 0 ≤ m) (h' : m ≤ 200000) :
    Calls Tryd.prog 40 #[.agg #[.int .i64 d, .int .i64 m]] w fun e w' => e = .returned (.int .i64 (seaN m)) ∧ Kp w w' := by
  by_cases c : m < 2
  · rw [show seaN m = -1 by unfold seaN; rw [if_pos c]]
    go_enter Tryd.func40, Tryd.ntmps40
    go_wp2
    go_ret
    exact ⟨rfl, Kp.alloc _ _⟩
  · rw [show seaN m = (m - 2) / 3 by unfold seaN; rw [if_neg c]]
    go_enter Tryd.func40, Tryd.ntmps40
    go_wp2
    go_ret
    exact ⟨rfl, Kp.alloc _ _⟩
theorem year_any (d m : Int) (w : World) (h : 0 ≤ m) (h' : m ≤ 200000) :
    Calls Tryd.prog 41 #[.agg #[.int .i64 d, .int .i64 m]] w fun e w' => e = .returned (.int .i64 (m / 12)) ∧ Kp w w' := by
  go_enter Tryd.func41, Tryd.ntmps41
  go_wp2
  go_ret
  exact ⟨rfl, Kp.alloc _ _⟩
theorem decade_any (d m : Int) (w : World) (h : 0 ≤ m) (h' : m ≤ 200000) :
    Calls Tryd.prog 42 #[.agg #[.int .i64 d, .int .i64 m]] w fun e w' => e = .returned (.int .i64 (m / 12 / 10)) ∧ Kp w w' := by
  go_enter Tryd.func42, Tryd.ntmps42
  go_wp2_with fail
  refine (year_any _ _ _ h h').mono ?_
  rintro e w1 ⟨rfl, k1⟩
  go_wp2
  go_ret
  exact ⟨rfl, (Kp.alloc _ _).trans k1⟩
theorem century_any (d m : Int) (w : World) (h : 0 ≤ m) (h' : m ≤ 200000) :
    Calls Tryd.prog 43 #[.agg #[.int .i64 d, .int .i64 m]] w fun e w' => e = .returned (.int .i64 (m / 12 / 100)) ∧ Kp w w' := by
  go_enter Tryd.func43, Tryd.ntmps43
  go_wp2_with fail
  refine (year_any _ _ _ h h').mono ?_
  rintro e w1 ⟨rfl, k1⟩
  go_wp2
  go_ret
  exact ⟨rfl, (Kp.alloc _ _).trans k1⟩

noncomputable def unum (k day : Int) : Int := if k = 0 then day else if k = 1 then 12 * (dte day).1 + (dte day).2.1 - 1 else if k = 2 then seaN (12 * (dte day).1 + (dte day).2.1 - 1) else if k = 3 then (12 * (dte day).1 + (dte day).2.1 - 1) / 12 else if k = 4 then (12 * (dte day).1 + (dte day).2.1 - 1) / 12 / 10 else (12 * (dte day).1 + (dte day).2.1 - 1) / 12 / 100
end Go.Proofs.YtfopcacoacedcaaDoor
