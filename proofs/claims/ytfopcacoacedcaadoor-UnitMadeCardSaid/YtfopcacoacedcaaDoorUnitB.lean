/-
  Contracts of package unit: First, Last.
-/
import Derived.Test.YtfopcacoacedcaaDoorUnitA
namespace Go.Proofs.YtfopcacoacedcaaDoor
open Go.RowKit
set_option linter.unusedVariables false
set_option maxHeartbeats 1000000 in
theorem first_0 (i : Int) (w : World) (h : 0 ≤ i) (h' : i < 3652425) (hT : TabMD w) (hU : TabUC w) :
    Calls Tryd.prog 10 #[.int .i64 0, .int .i64 i] w fun e w' => e = .returned (.tuple #[.int .i64 (fst 0 i), .bool true]) ∧ Kp w w' := by
  have c1 := count_any 0 w hU
  rw [show cnt 0 = 3652425 by decide] at c1
  have C1 := Lib.hid c1
  have HT := Lib.hid hT
  have K : Hid (i = fst 0 i) := by unfold fst; rfl
  clear c1 hT hU
  go_enter Tryd.func10, Tryd.ntmps10
  go_wp2_with fail; refine (C1.out).mono ?_; rintro e w' ⟨rfl, rfl⟩
  go_wp2_with (first | (go_at_call 26; refine (ofDay_any _ _).mono ?_; rintro e w2 ⟨rfl, rfl⟩) | go_in)
  go_ret2
  exact ⟨ret_two K.out rfl, Kp.alloc _ _⟩
set_option maxHeartbeats 1000000 in
theorem last_0 (i : Int) (w : World) (h : 0 ≤ i) (h' : i < 3652424) (hT : TabMD w) (hU : TabUC w) :
    Calls Tryd.prog 12 #[.int .i64 0, .int .i64 i] w fun e w' => e = .returned (.tuple #[.int .i64 (fst 0 (i + 1) - 1), .bool true]) ∧ Kp w w' := by
  have c1 := count_any 0 w hU
  rw [show cnt 0 = 3652425 by decide] at c1
  have C1 := Lib.hid c1
  have HT := Lib.hid hT
  have K : Hid ((i + 1) - 1 = fst 0 (i + 1) - 1) := by unfold fst; rfl
  clear c1 hT hU
  have ne : (i == 3652424) = false := by simp; omega
  go_enter Tryd.func12, Tryd.ntmps12
  go_wp2_with fail; refine (C1.out).mono ?_; rintro e w' ⟨rfl, rfl⟩
  go_wp2_with fail; refine (C1.out).mono ?_; rintro e w' ⟨rfl, rfl⟩
  go_wp2_with (first | (go_at_call 26; refine (ofDay_any _ _).mono ?_; rintro e w2 ⟨rfl, rfl⟩) | go_in)
  go_ret2
  exact ⟨ret_two (by first | exact K.out | (rw [← K.out]; go_num)) rfl, Kp.alloc _ _⟩
set_option maxHeartbeats 1000000 in
theorem first_1 (i : Int) (w : World) (h : 0 ≤ i) (h' : i < 120000) (hT : TabMD w) (hU : TabUC w) :
    Calls Tryd.prog 10 #[.int .i64 1, .int .i64 i] w fun e w' => e = .returned (.tuple #[.int .i64 (fst 1 i), .bool true]) ∧ Kp w w' := by
  have c1 := count_any 1 w hU
  rw [show cnt 1 = 120000 by decide] at c1
  have C1 := Lib.hid c1
  have HT := Lib.hid hT
  have K : Hid (mon i = fst 1 i) := by unfold fst; rfl
  clear c1 hT hU
  go_enter Tryd.func10, Tryd.ntmps10
  go_wp2_with fail; refine (C1.out).mono ?_; rintro e w' ⟨rfl, rfl⟩
  go_wp2_with (first | (go_at_call 27; refine (ofMonth_any _ _ (by omega) (by omega) (HT.out.kp (Kp.alloc _ _))).mono ?_; rintro e w2 ⟨rfl, rfl⟩) | go_in)
  go_ret2
  exact ⟨ret_two K.out rfl, Kp.alloc _ _⟩
set_option maxHeartbeats 1000000 in
theorem last_1 (i : Int) (w : World) (h : 0 ≤ i) (h' : i < 119999) (hT : TabMD w) (hU : TabUC w) :
    Calls Tryd.prog 12 #[.int .i64 1, .int .i64 i] w fun e w' => e = .returned (.tuple #[.int .i64 (fst 1 (i + 1) - 1), .bool true]) ∧ Kp w w' := by
  have c1 := count_any 1 w hU
  rw [show cnt 1 = 120000 by decide] at c1
  have C1 := Lib.hid c1
  have HT := Lib.hid hT
  have K : Hid (mon (i + 1) - 1 = fst 1 (i + 1) - 1) := by unfold fst; rfl
  clear c1 hT hU
  have ne : (i == 119999) = false := by simp; omega
  have mb := mon_bd (show 0 ≤ (i + 1) by omega) (by omega)
  go_enter Tryd.func12, Tryd.ntmps12
  go_wp2_with fail; refine (C1.out).mono ?_; rintro e w' ⟨rfl, rfl⟩
  go_wp2_with fail; refine (C1.out).mono ?_; rintro e w' ⟨rfl, rfl⟩
  go_wp2_with (first | (go_at_call 27; refine (ofMonth_any _ _ (by omega) (by omega) (HT.out.kp (Kp.alloc _ _))).mono ?_; rintro e w2 ⟨rfl, rfl⟩) | go_in)
  go_ret2
  exact ⟨ret_two (by first | exact K.out | (rw [← K.out]; go_num)) rfl, Kp.alloc _ _⟩
set_option maxHeartbeats 1000000 in
theorem first_2 (i : Int) (w : World) (h : 0 ≤ i) (h' : i < 40000) (hT : TabMD w) (hU : TabUC w) :
    Calls Tryd.prog 10 #[.int .i64 2, .int .i64 i] w fun e w' => e = .returned (.tuple #[.int .i64 (fst 2 i), .bool true]) ∧ Kp w w' := by
  have c1 := count_any 2 w hU
  rw [show cnt 2 = 40000 by decide] at c1
  have C1 := Lib.hid c1
  have HT := Lib.hid hT
  have K : Hid (mon (2 + 3 * i) = fst 2 i) := by unfold fst; rfl
  clear c1 hT hU
  go_enter Tryd.func10, Tryd.ntmps10
  go_wp2_with fail; refine (C1.out).mono ?_; rintro e w' ⟨rfl, rfl⟩
  go_wp2_with (first | (go_at_call 28; refine (ofSeason_any _ _ (by omega) (by omega) (by omega) (HT.out.kp (Kp.alloc _ _))).mono ?_; rintro e w2 ⟨rfl, rfl⟩) | go_in)
  go_ret2
  exact ⟨ret_two K.out rfl, Kp.alloc _ _⟩
set_option maxHeartbeats 1000000 in
theorem last_2 (i : Int) (w : World) (h : 0 ≤ i) (h' : i < 39999) (hT : TabMD w) (hU : TabUC w) :
    Calls Tryd.prog 12 #[.int .i64 2, .int .i64 i] w fun e w' => e = .returned (.tuple #[.int .i64 (fst 2 (i + 1) - 1), .bool true]) ∧ Kp w w' := by
  have c1 := count_any 2 w hU
  rw [show cnt 2 = 40000 by decide] at c1
  have C1 := Lib.hid c1
  have HT := Lib.hid hT
  have K : Hid (mon (2 + 3 * (i + 1)) - 1 = fst 2 (i + 1) - 1) := by unfold fst; rfl
  clear c1 hT hU
  have ne : (i == 39999) = false := by simp; omega
  have mb := mon_bd (show 0 ≤ 2 + 3 * (i + 1) by omega) (by omega)
  go_enter Tryd.func12, Tryd.ntmps12
  go_wp2_with fail; refine (C1.out).mono ?_; rintro e w' ⟨rfl, rfl⟩
  go_wp2_with fail; refine (C1.out).mono ?_; rintro e w' ⟨rfl, rfl⟩
  go_wp2_with (first | (go_at_call 28; refine (ofSeason_any _ _ (by omega) (by omega) (by omega) (HT.out.kp (Kp.alloc _ _))).mono ?_; rintro e w2 ⟨rfl, rfl⟩) | go_in)
  go_ret2
  exact ⟨ret_two (by first | exact K.out | (rw [← K.out]; go_num)) rfl, Kp.alloc _ _⟩
set_option maxHeartbeats 1000000 in
theorem first_3 (i : Int) (w : World) (h : 0 ≤ i) (h' : i < 10000) (hT : TabMD w) (hU : TabUC w) :
    Calls Tryd.prog 10 #[.int .i64 3, .int .i64 i] w fun e w' => e = .returned (.tuple #[.int .i64 (fst 3 i), .bool true]) ∧ Kp w w' := by
  have c1 := count_any 3 w hU
  rw [show cnt 3 = 10000 by decide] at c1
  have C1 := Lib.hid c1
  have HT := Lib.hid hT
  have K : Hid (mon (12 * i) = fst 3 i) := by unfold fst; rfl
  clear c1 hT hU
  go_enter Tryd.func10, Tryd.ntmps10
  go_wp2_with fail; refine (C1.out).mono ?_; rintro e w' ⟨rfl, rfl⟩
  go_wp2_with (first | (go_at_call 29; refine (ofYear_any _ _ (by omega) (by omega) (HT.out.kp (Kp.alloc _ _))).mono ?_; rintro e w2 ⟨rfl, rfl⟩) | go_in)
  go_ret2
  exact ⟨ret_two K.out rfl, Kp.alloc _ _⟩
set_option maxHeartbeats 1000000 in
theorem last_3 (i : Int) (w : World) (h : 0 ≤ i) (h' : i < 9999) (hT : TabMD w) (hU : TabUC w) :
    Calls Tryd.prog 12 #[.int .i64 3, .int .i64 i] w fun e w' => e = .returned (.tuple #[.int .i64 (fst 3 (i + 1) - 1), .bool true]) ∧ Kp w w' := by
  have c1 := count_any 3 w hU
  rw [show cnt 3 = 10000 by decide] at c1
  have C1 := Lib.hid c1
  have HT := Lib.hid hT
  have K : Hid (mon (12 * (i + 1)) - 1 = fst 3 (i + 1) - 1) := by unfold fst; rfl
  clear c1 hT hU
  have ne : (i == 9999) = false := by simp; omega
  have mb := mon_bd (show 0 ≤ 12 * (i + 1) by omega) (by omega)
  go_enter Tryd.func12, Tryd.ntmps12
  go_wp2_with fail; refine (C1.out).mono ?_; rintro e w' ⟨rfl, rfl⟩
  go_wp2_with fail; refine (C1.out).mono ?_; rintro e w' ⟨rfl, rfl⟩
  go_wp2_with (first | (go_at_call 29; refine (ofYear_any _ _ (by omega) (by omega) (HT.out.kp (Kp.alloc _ _))).mono ?_; rintro e w2 ⟨rfl, rfl⟩) | go_in)
  go_ret2
  exact ⟨ret_two (by first | exact K.out | (rw [← K.out]; go_num)) rfl, Kp.alloc _ _⟩
set_option maxHeartbeats 1000000 in
theorem first_4 (i : Int) (w : World) (h : 0 ≤ i) (h' : i < 1000) (hT : TabMD w) (hU : TabUC w) :
    Calls Tryd.prog 10 #[.int .i64 4, .int .i64 i] w fun e w' => e = .returned (.tuple #[.int .i64 (fst 4 i), .bool true]) ∧ Kp w w' := by
  have c1 := count_any 4 w hU
  rw [show cnt 4 = 1000 by decide] at c1
  have C1 := Lib.hid c1
  have HT := Lib.hid hT
  have K : Hid (mon (120 * i) = fst 4 i) := by unfold fst; rfl
  clear c1 hT hU
  go_enter Tryd.func10, Tryd.ntmps10
  go_wp2_with fail; refine (C1.out).mono ?_; rintro e w' ⟨rfl, rfl⟩
  go_wp2_with (first | (go_at_call 30; refine (ofDecade_any _ _ (by omega) (by omega) (HT.out.kp (Kp.alloc _ _))).mono ?_; rintro e w2 ⟨rfl, rfl⟩) | go_in)
  go_ret2
  exact ⟨ret_two K.out rfl, Kp.alloc _ _⟩
set_option maxHeartbeats 1000000 in
theorem last_4 (i : Int) (w : World) (h : 0 ≤ i) (h' : i < 999) (hT : TabMD w) (hU : TabUC w) :
    Calls Tryd.prog 12 #[.int .i64 4, .int .i64 i] w fun e w' => e = .returned (.tuple #[.int .i64 (fst 4 (i + 1) - 1), .bool true]) ∧ Kp w w' := by
  have c1 := count_any 4 w hU
  rw [show cnt 4 = 1000 by decide] at c1
  have C1 := Lib.hid c1
  have HT := Lib.hid hT
  have K : Hid (mon (120 * (i + 1)) - 1 = fst 4 (i + 1) - 1) := by unfold fst; rfl
  clear c1 hT hU
  have ne : (i == 999) = false := by simp; omega
  have mb := mon_bd (show 0 ≤ 120 * (i + 1) by omega) (by omega)
  go_enter Tryd.func12, Tryd.ntmps12
  go_wp2_with fail; refine (C1.out).mono ?_; rintro e w' ⟨rfl, rfl⟩
  go_wp2_with fail; refine (C1.out).mono ?_; rintro e w' ⟨rfl, rfl⟩
  go_wp2_with (first | (go_at_call 30; refine (ofDecade_any _ _ (by omega) (by omega) (HT.out.kp (Kp.alloc _ _))).mono ?_; rintro e w2 ⟨rfl, rfl⟩) | go_in)
  go_ret2
  exact ⟨ret_two (by first | exact K.out | (rw [← K.out]; go_num)) rfl, Kp.alloc _ _⟩
set_option maxHeartbeats 1000000 in
theorem first_5 (i : Int) (w : World) (h : 0 ≤ i) (h' : i < 100) (hT : TabMD w) (hU : TabUC w) :
    Calls Tryd.prog 10 #[.int .i64 5, .int .i64 i] w fun e w' => e = .returned (.tuple #[.int .i64 (fst 5 i), .bool true]) ∧ Kp w w' := by
  have c1 := count_any 5 w hU
  rw [show cnt 5 = 100 by decide] at c1
  have C1 := Lib.hid c1
  have HT := Lib.hid hT
  have K : Hid (mon (1200 * i) = fst 5 i) := by unfold fst; rfl
  clear c1 hT hU
  go_enter Tryd.func10, Tryd.ntmps10
  go_wp2_with fail; refine (C1.out).mono ?_; rintro e w' ⟨rfl, rfl⟩
  go_wp2_with (first | (go_at_call 31; refine (ofCentury_any _ _ (by omega) (by omega) (HT.out.kp (Kp.alloc _ _))).mono ?_; rintro e w2 ⟨rfl, rfl⟩) | go_in)
  go_ret2
  exact ⟨ret_two K.out rfl, Kp.alloc _ _⟩
set_option maxHeartbeats 1000000 in
theorem last_5 (i : Int) (w : World) (h : 0 ≤ i) (h' : i < 99) (hT : TabMD w) (hU : TabUC w) :
    Calls Tryd.prog 12 #[.int .i64 5, .int .i64 i] w fun e w' => e = .returned (.tuple #[.int .i64 (fst 5 (i + 1) - 1), .bool true]) ∧ Kp w w' := by
  have c1 := count_any 5 w hU
  rw [show cnt 5 = 100 by decide] at c1
  have C1 := Lib.hid c1
  have HT := Lib.hid hT
  have K : Hid (mon (1200 * (i + 1)) - 1 = fst 5 (i + 1) - 1) := by unfold fst; rfl
  clear c1 hT hU
  have ne : (i == 99) = false := by simp; omega
  have mb := mon_bd (show 0 ≤ 1200 * (i + 1) by omega) (by omega)
  go_enter Tryd.func12, Tryd.ntmps12
  go_wp2_with fail; refine (C1.out).mono ?_; rintro e w' ⟨rfl, rfl⟩
  go_wp2_with fail; refine (C1.out).mono ?_; rintro e w' ⟨rfl, rfl⟩
  go_wp2_with (first | (go_at_call 31; refine (ofCentury_any _ _ (by omega) (by omega) (HT.out.kp (Kp.alloc _ _))).mono ?_; rintro e w2 ⟨rfl, rfl⟩) | go_in)
  go_ret2
  exact ⟨ret_two (by first | exact K.out | (rw [← K.out]; go_num)) rfl, Kp.alloc _ _⟩
end Go.Proofs.YtfopcacoacedcaaDoor
