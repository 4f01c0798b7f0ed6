/-
  Contracts of package unit: Of.
-/
import Derived.Test.YtfopcacoacedcaaDoorUnitC
namespace Go.Proofs.YtfopcacoacedcaaDoor
open Go.RowKit
set_option linter.unusedVariables false
set_option maxHeartbeats 1000000 in
theorem of_0 (day : Int) (w : World) (h : 0 ≤ day) (h' : day ≤ 3652424) (hT : TabMD w) (hU : TabUC w) :
    Calls Tryd.prog 14 #[.int .i64 0, .int .i64 day] w fun e w' => e = .returned (.tuple #[.int .i64 (unum 0 day), .bool true]) ∧ Kp w w' := by
  have c1 := count_any 0 w hU
  rw [show cnt 0 = 3652425 by decide] at c1
  have c2 := date_any day w (by omega) (by omega) hT
  have v := vld_bd (dte_yes day h h').1
  have K : Hid ((day : Int) = unum 0 day) := by unfold unum; rfl
  generalize (dte day).1 = y, (dte day).2.1 = m, (dte day).2.2 = d at *
  have C1 := Lib.hid c1
  have C2 := Lib.hid c2
  clear c1 c2 hT hU
  obtain ⟨v1, v2, v3, v4, _⟩ := v
  have ne : (day == -1) = false := by simp; omega
  go_enter Tryd.func14, Tryd.ntmps14
  go_wp2_with fail; refine (C1.out).mono ?_; rintro e w' ⟨rfl, rfl⟩
  go_wp2_with fail; refine (C2.out).mono ?_; rintro e w' ⟨rfl, rfl⟩
  go_wp2_with (first | (go_at_call 38; refine (ownNumber_any _ _ _).mono ?_; rintro e w2 ⟨rfl, k1⟩) | go_in)
  go_ret2
  exact ⟨ret_two K.out rfl, (Kp.alloc _ _).trans k1⟩
set_option maxHeartbeats 1000000 in
theorem of_1 (day : Int) (w : World) (h : 0 ≤ day) (h' : day ≤ 3652424) (hT : TabMD w) (hU : TabUC w) :
    Calls Tryd.prog 14 #[.int .i64 1, .int .i64 day] w fun e w' => e = .returned (.tuple #[.int .i64 (unum 1 day), .bool true]) ∧ Kp w w' := by
  have c1 := count_any 1 w hU
  rw [show cnt 1 = 120000 by decide] at c1
  have c2 := date_any day w (by omega) (by omega) hT
  have v := vld_bd (dte_yes day h h').1
  have K : Hid ((12 * (dte day).1 + (dte day).2.1 - 1 : Int) = unum 1 day) := by unfold unum; rfl
  generalize (dte day).1 = y, (dte day).2.1 = m, (dte day).2.2 = d at *
  have C1 := Lib.hid c1
  have C2 := Lib.hid c2
  clear c1 c2 hT hU
  obtain ⟨v1, v2, v3, v4, _⟩ := v
  have ne : (12 * y + m - 1 == -1) = false := by simp; omega
  go_enter Tryd.func14, Tryd.ntmps14
  go_wp2_with fail; refine (C1.out).mono ?_; rintro e w' ⟨rfl, rfl⟩
  go_wp2_with fail; refine (C2.out).mono ?_; rintro e w' ⟨rfl, rfl⟩
  go_wp2_with (first | (go_at_call 39; refine (month_any _ _ _).mono ?_; rintro e w2 ⟨rfl, k1⟩) | go_in)
  go_ret2
  exact ⟨ret_two K.out rfl, (Kp.alloc _ _).trans k1⟩
set_option maxHeartbeats 1000000 in
theorem of_2 (day : Int) (w : World) (h : 0 ≤ day) (h' : day ≤ 3652424) (g : ¬ 12 * (dte day).1 + (dte day).2.1 - 1 < 2) (hT : TabMD w) (hU : TabUC w) :
    Calls Tryd.prog 14 #[.int .i64 2, .int .i64 day] w fun e w' => e = .returned (.tuple #[.int .i64 (unum 2 day), .bool true]) ∧ Kp w w' := by
  have c1 := count_any 2 w hU
  rw [show cnt 2 = 40000 by decide] at c1
  have c2 := date_any day w (by omega) (by omega) hT
  have v := vld_bd (dte_yes day h h').1
  have K : Hid ((seaN (12 * (dte day).1 + (dte day).2.1 - 1) : Int) = unum 2 day) := by unfold unum; rfl
  generalize (dte day).1 = y, (dte day).2.1 = m, (dte day).2.2 = d at *
  have C1 := Lib.hid c1
  have C2 := Lib.hid c2
  clear c1 c2 hT hU
  obtain ⟨v1, v2, v3, v4, _⟩ := v
  have sn : seaN (12 * y + m - 1) = (12 * y + m - 1 - 2) / 3 := by unfold seaN; rw [if_neg g]
  rw [sn] at K
  have C3 := Lib.hid (fun w => season_any day (12 * y + m - 1) w (by omega) (by omega))
  rw [sn] at C3
  have ne : ((12 * y + m - 1 - 2) / 3 == -1) = false := by simp; omega
  go_enter Tryd.func14, Tryd.ntmps14
  go_wp2_with fail; refine (C1.out).mono ?_; rintro e w' ⟨rfl, rfl⟩
  go_wp2_with fail; refine (C2.out).mono ?_; rintro e w' ⟨rfl, rfl⟩
  go_wp2_with (first | (go_at_call 40; refine (C3.out _).mono ?_; rintro e w2 ⟨rfl, k1⟩) | go_in)
  go_ret2
  exact ⟨ret_two K.out rfl, (Kp.alloc _ _).trans k1⟩
set_option maxHeartbeats 1000000 in
theorem of_2n (day : Int) (w : World) (h : 0 ≤ day) (h' : day ≤ 3652424) (g : 12 * (dte day).1 + (dte day).2.1 - 1 < 2) (hT : TabMD w) (hU : TabUC w) :
    Calls Tryd.prog 14 #[.int .i64 2, .int .i64 day] w fun e w' => e = .returned (.tuple #[.int .i64 0, .bool false]) ∧ Kp w w' := by
  have c1 := count_any 2 w hU
  rw [show cnt 2 = 40000 by decide] at c1
  have c2 := date_any day w (by omega) (by omega) hT
  have v := vld_bd (dte_yes day h h').1
  have K : Hid (True) := trivial
  generalize (dte day).1 = y, (dte day).2.1 = m, (dte day).2.2 = d at *
  have C1 := Lib.hid c1
  have C2 := Lib.hid c2
  clear c1 c2 hT hU
  obtain ⟨v1, v2, v3, v4, _⟩ := v
  have sn : seaN (12 * y + m - 1) = -1 := by unfold seaN; rw [if_pos g]
  have C3 := Lib.hid (fun w => season_any day (12 * y + m - 1) w (by omega) (by omega))
  rw [sn] at C3
  clear sn g K
  go_enter Tryd.func14, Tryd.ntmps14
  go_wp2_with fail; refine (C1.out).mono ?_; rintro e w' ⟨rfl, rfl⟩
  go_wp2_with fail; refine (C2.out).mono ?_; rintro e w' ⟨rfl, rfl⟩
  go_wp2_with (first | (go_at_call 40; refine (C3.out _).mono ?_; rintro e w2 ⟨rfl, k1⟩) | go_in)
  go_ret2
  exact ⟨rfl, (Kp.alloc _ _).trans k1⟩
set_option maxHeartbeats 1000000 in
theorem of_3 (day : Int) (w : World) (h : 0 ≤ day) (h' : day ≤ 3652424) (hT : TabMD w) (hU : TabUC w) :
    Calls Tryd.prog 14 #[.int .i64 3, .int .i64 day] w fun e w' => e = .returned (.tuple #[.int .i64 (unum 3 day), .bool true]) ∧ Kp w w' := by
  have c1 := count_any 3 w hU
  rw [show cnt 3 = 10000 by decide] at c1
  have c2 := date_any day w (by omega) (by omega) hT
  have v := vld_bd (dte_yes day h h').1
  have K : Hid (((12 * (dte day).1 + (dte day).2.1 - 1) / 12 : Int) = unum 3 day) := by unfold unum; rfl
  generalize (dte day).1 = y, (dte day).2.1 = m, (dte day).2.2 = d at *
  have C1 := Lib.hid c1
  have C2 := Lib.hid c2
  clear c1 c2 hT hU
  obtain ⟨v1, v2, v3, v4, _⟩ := v
  have ne : ((12 * y + m - 1) / 12 == -1) = false := by simp; omega
  go_enter Tryd.func14, Tryd.ntmps14
  go_wp2_with fail; refine (C1.out).mono ?_; rintro e w' ⟨rfl, rfl⟩
  go_wp2_with fail; refine (C2.out).mono ?_; rintro e w' ⟨rfl, rfl⟩
  go_wp2_with (first | (go_at_call 41; refine (year_any _ _ _ (by omega) (by omega)).mono ?_; rintro e w2 ⟨rfl, k1⟩) | go_in)
  go_ret2
  exact ⟨ret_two K.out rfl, (Kp.alloc _ _).trans k1⟩
set_option maxHeartbeats 1000000 in
theorem of_4 (day : Int) (w : World) (h : 0 ≤ day) (h' : day ≤ 3652424) (hT : TabMD w) (hU : TabUC w) :
    Calls Tryd.prog 14 #[.int .i64 4, .int .i64 day] w fun e w' => e = .returned (.tuple #[.int .i64 (unum 4 day), .bool true]) ∧ Kp w w' := by
  have c1 := count_any 4 w hU
  rw [show cnt 4 = 1000 by decide] at c1
  have c2 := date_any day w (by omega) (by omega) hT
  have v := vld_bd (dte_yes day h h').1
  have K : Hid (((12 * (dte day).1 + (dte day).2.1 - 1) / 12 / 10 : Int) = unum 4 day) := by unfold unum; rfl
  generalize (dte day).1 = y, (dte day).2.1 = m, (dte day).2.2 = d at *
  have C1 := Lib.hid c1
  have C2 := Lib.hid c2
  clear c1 c2 hT hU
  obtain ⟨v1, v2, v3, v4, _⟩ := v
  have ne : ((12 * y + m - 1) / 12 / 10 == -1) = false := by simp; omega
  go_enter Tryd.func14, Tryd.ntmps14
  go_wp2_with fail; refine (C1.out).mono ?_; rintro e w' ⟨rfl, rfl⟩
  go_wp2_with fail; refine (C2.out).mono ?_; rintro e w' ⟨rfl, rfl⟩
  go_wp2_with (first | (go_at_call 42; refine (decade_any _ _ _ (by omega) (by omega)).mono ?_; rintro e w2 ⟨rfl, k1⟩) | go_in)
  go_ret2
  exact ⟨ret_two K.out rfl, (Kp.alloc _ _).trans k1⟩
set_option maxHeartbeats 1000000 in
theorem of_5 (day : Int) (w : World) (h : 0 ≤ day) (h' : day ≤ 3652424) (hT : TabMD w) (hU : TabUC w) :
    Calls Tryd.prog 14 #[.int .i64 5, .int .i64 day] w fun e w' => e = .returned (.tuple #[.int .i64 (unum 5 day), .bool true]) ∧ Kp w w' := by
  have c1 := count_any 5 w hU
  rw [show cnt 5 = 100 by decide] at c1
  have c2 := date_any day w (by omega) (by omega) hT
  have v := vld_bd (dte_yes day h h').1
  have K : Hid (((12 * (dte day).1 + (dte day).2.1 - 1) / 12 / 100 : Int) = unum 5 day) := by unfold unum; rfl
  generalize (dte day).1 = y, (dte day).2.1 = m, (dte day).2.2 = d at *
  have C1 := Lib.hid c1
  have C2 := Lib.hid c2
  clear c1 c2 hT hU
  obtain ⟨v1, v2, v3, v4, _⟩ := v
  have ne : ((12 * y + m - 1) / 12 / 100 == -1) = false := by simp; omega
  go_enter Tryd.func14, Tryd.ntmps14
  go_wp2_with fail; refine (C1.out).mono ?_; rintro e w' ⟨rfl, rfl⟩
  go_wp2_with fail; refine (C2.out).mono ?_; rintro e w' ⟨rfl, rfl⟩
  go_wp2_with (first | (go_at_call 43; refine (century_any _ _ _ (by omega) (by omega)).mono ?_; rintro e w2 ⟨rfl, k1⟩) | go_in)
  go_ret2
  exact ⟨ret_two K.out rfl, (Kp.alloc _ _).trans k1⟩
end Go.Proofs.YtfopcacoacedcaaDoor
