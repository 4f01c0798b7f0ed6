/-
  Joined: Keep, UnitA, UnitB, UnitC, UnitD, UnitE, UnitR, UnitM, UnitAw.
-/
import Derived.Test.YtinpglfclbnhlaaGreatDoorGCiv
import Derived.Test.YtinpglfclbnhlaaGreatDoorGBa
import Derived.Test.YtinpglfclbnhlaaGreatDoorMask
namespace Go.Proofs.YtinpglfclbnhlaaGreatDoor
open Go.RowKit
set_option linter.unusedVariables false
theorem TabMD.kp {w w' : World} (h : TabMD w) (k : Kp w w') : TabMD w' := var?_below k gMD (var_lt gMD h) h
end Go.Proofs.YtinpglfclbnhlaaGreatDoor

namespace Go.Proofs.YtinpglfclbnhlaaGreatDoor
open Go.RowKit
set_option linter.unusedVariables false

def TabUC (w : World) : Prop := Lib.TabIs Tryz.prog w "lustrum/unit.counts" .i64 [3652425, 120000, 40000, 10000, 1000, 100]
theorem gUC : Tryz.prog.globalNamed "lustrum/unit.counts" = some 2 := by kernel_rfl
theorem TabUC.cell {w : World} (h : TabUC w) (i : Nat) (hi : i < 6) : w.cell? ⟨2, i, none⟩ = some (.int .i64 ([3652425, 120000, 40000, 10000, 1000, 100].getD i 0)) :=
  Lib.TabIs.cell h gUC i hi
theorem TabUC.kp {w w' : World} (h : TabUC w) (k : Kp w w') : TabUC w' := var?_below k gUC (var_lt gUC h) h

def cnt (k : Int) : Int := if k = 0 then 3652425 else if k = 1 then 120000 else if k = 2 then 40000 else if k = 3 then 10000 else if k = 4 then 1000 else if k = 5 then 100 else 0
theorem cnt_bd (k : Int) : 0 ≤ cnt k ∧ cnt k ≤ 3652425 := by unfold cnt; (repeat' split) <;> omega
theorem cnt_no {k : Int} (h : k < 0 ∨ 5 < k) : cnt k = 0 := by unfold cnt; (repeat' split) <;> omega
theorem cnt_six {k : Int} (h : 0 < cnt k) : k = 0 ∨ k = 1 ∨ k = 2 ∨ k = 3 ∨ k = 4 ∨ k = 5 := by unfold cnt at h; omega

set_option maxHeartbeats 1000000 in
theorem count_any (k : Int) (w : World) (hT : TabUC w) :
    Calls Tryz.prog 27 #[.int .i64 k] w fun e w' => e = .returned (.int .i64 (cnt k)) ∧ w = w' := by
  by_cases c : k < 0
  · rw [cnt_no (.inl c)]
    clear hT
    go_enter Tryz.func27, Tryz.ntmps27
    go_wp2
    go_ret
    exact ⟨rfl, rfl⟩
  by_cases d : 6 ≤ k
  · rw [cnt_no (.inr (by omega))]
    clear hT
    go_enter Tryz.func27, Tryz.ntmps27
    go_wp2
    go_ret
    exact ⟨rfl, rfl⟩
  have : k = 1 ∨ k = 0 ∨ k = 2 ∨ k = 3 ∨ k = 4 ∨ k = 5 := by omega
  clear c d
  rcases this with rfl | rfl | rfl | rfl | rfl | rfl
  · have c := hT.cell 1 (by omega)
    simp only [List.getD_cons_succ, List.getD_cons_zero] at c
    clear hT
    rw [show cnt 1 = 120000 by decide]
    go_enter Tryz.func27, Tryz.ntmps27
    go_wp2
    go_ret
    exact ⟨rfl, rfl⟩
  · have c := hT.cell 0 (by omega)
    simp only [List.getD_cons_zero] at c
    clear hT
    rw [show cnt 0 = 3652425 by decide]
    go_enter Tryz.func27, Tryz.ntmps27
    go_wp2
    go_ret
    exact ⟨rfl, rfl⟩
  · have c := hT.cell 2 (by omega)
    simp only [List.getD_cons_succ, List.getD_cons_zero] at c
    clear hT
    rw [show cnt 2 = 40000 by decide]
    go_enter Tryz.func27, Tryz.ntmps27
    go_wp2
    go_ret
    exact ⟨rfl, rfl⟩
  · have c := hT.cell 3 (by omega)
    simp only [List.getD_cons_succ, List.getD_cons_zero] at c
    clear hT
    rw [show cnt 3 = 10000 by decide]
    go_enter Tryz.func27, Tryz.ntmps27
    go_wp2
    go_ret
    exact ⟨rfl, rfl⟩
  · have c := hT.cell 4 (by omega)
    simp only [List.getD_cons_succ, List.getD_cons_zero] at c
    clear hT
    rw [show cnt 4 = 1000 by decide]
    go_enter Tryz.func27, Tryz.ntmps27
    go_wp2
    go_ret
    exact ⟨rfl, rfl⟩
  · have c := hT.cell 5 (by omega)
    simp only [List.getD_cons_succ, List.getD_cons_zero] at c
    clear hT
    rw [show cnt 5 = 100 by decide]
    go_enter Tryz.func27, Tryz.ntmps27
    go_wp2
    go_ret
    exact ⟨rfl, rfl⟩

/-- the days ahead of month j, counted from the first month of year 0 on -/
def mon (j : Int) : Int := sty (j / 12) + cum (j / 12) (j % 12 + 1)
def fst (k i : Int) : Int := if k = 0 then i else if k = 1 then mon i else if k = 2 then mon (2 + 3 * i) else if k = 3 then mon (12 * i) else if k = 4 then mon (120 * i) else mon (1200 * i)
theorem mon_num {j : Int} (h : 0 ≤ j) (h' : j < 120000) : vldB (j / 12) (j % 12 + 1) 1 = true ∧ num (j / 12) (j % 12 + 1) 1 = mon j := by
  have d := dim_pos (j / 12) (j % 12 + 1) (by omega) (by omega)
  exact ⟨(vld_iff _ _ _).2 ⟨by omega, by omega, by omega, by omega⟩, by unfold num mon; omega⟩
theorem mon_bd {j : Int} (h : 0 ≤ j) (h' : j < 120000) : 0 ≤ mon j ∧ mon j ≤ 3652424 := by
  obtain ⟨a, b⟩ := mon_num h h'
  rw [← b]; exact num_range a

theorem ofDay_any (n : Int) (w : World) :
    Calls Tryz.prog 91 #[.int .i64 n] w fun e w' => e = .returned (.int .i64 n) ∧ w = w' := by
  go_enter Tryz.func91, Tryz.ntmps91
  go_wp2
  go_ret
  exact ⟨rfl, rfl⟩
set_option maxHeartbeats 400000 in
theorem ofMonth_any (n : Int) (w : World) (h : 0 ≤ n) (h' : n < 120000) (hT : TabMD w) :
    Calls Tryz.prog 92 #[.int .i64 n] w fun e w' => e = .returned (.int .i64 (mon n)) ∧ w = w' := by
  have c := number_any (n / 12) (n % 12 + 1) 1 w hT
  obtain ⟨a, b⟩ := mon_num h h'
  rw [a, if_pos rfl, b] at c
  have C := Lib.hid c
  clear c a b hT
  go_enter Tryz.func92, Tryz.ntmps92
  go_wp2_with fail; refine (C.out).mono ?_; rintro e w' ⟨rfl, rfl⟩
  go_wp2
  go_ret
  exact ⟨rfl, rfl⟩
set_option maxHeartbeats 400000 in
theorem ofSeason_any (n : Int) (w : World) (h : 0 ≤ n) (h' : n < 39999 + 1) (g : 2 + 3 * n < 120000) (hT : TabMD w) :
    Calls Tryz.prog 93 #[.int .i64 n] w fun e w' => e = .returned (.int .i64 (mon (2 + 3 * n))) ∧ w = w' := by
  have C := Lib.hid (ofMonth_any (2 + 3 * n) w (by omega) (by omega) hT)
  clear hT
  go_enter Tryz.func93, Tryz.ntmps93
  go_wp2_with fail; refine (C.out).mono ?_; rintro e w' ⟨rfl, rfl⟩
  go_wp2
  go_ret
  exact ⟨rfl, rfl⟩
set_option maxHeartbeats 400000 in
theorem ofYear_any (n : Int) (w : World) (h : 0 ≤ n) (h' : n < 10000) (hT : TabMD w) :
    Calls Tryz.prog 94 #[.int .i64 n] w fun e w' => e = .returned (.int .i64 (mon (12 * n))) ∧ w = w' := by
  have C := Lib.hid (ofMonth_any (12 * n) w (by omega) (by omega) hT)
  clear hT
  go_enter Tryz.func94, Tryz.ntmps94
  go_wp2_with fail; refine (C.out).mono ?_; rintro e w' ⟨rfl, rfl⟩
  go_wp2
  go_ret
  exact ⟨rfl, rfl⟩
set_option maxHeartbeats 400000 in
theorem ofDecade_any (n : Int) (w : World) (h : 0 ≤ n) (h' : n < 1000) (hT : TabMD w) :
    Calls Tryz.prog 95 #[.int .i64 n] w fun e w' => e = .returned (.int .i64 (mon (120 * n))) ∧ w = w' := by
  have c := ofYear_any (10 * n) w (by omega) (by omega) hT
  rw [show 12 * (10 * n) = 120 * n by omega] at c
  have C := Lib.hid c
  clear hT c
  go_enter Tryz.func95, Tryz.ntmps95
  go_wp2_with fail; refine (C.out).mono ?_; rintro e w' ⟨rfl, rfl⟩
  go_wp2
  go_ret
  exact ⟨rfl, rfl⟩
set_option maxHeartbeats 400000 in
theorem ofCentury_any (n : Int) (w : World) (h : 0 ≤ n) (h' : n < 100) (hT : TabMD w) :
    Calls Tryz.prog 96 #[.int .i64 n] w fun e w' => e = .returned (.int .i64 (mon (1200 * n))) ∧ w = w' := by
  have c := ofYear_any (100 * n) w (by omega) (by omega) hT
  rw [show 12 * (100 * n) = 1200 * n by omega] at c
  have C := Lib.hid c
  clear hT c
  go_enter Tryz.func96, Tryz.ntmps96
  go_wp2_with fail; refine (C.out).mono ?_; rintro e w' ⟨rfl, rfl⟩
  go_wp2
  go_ret
  exact ⟨rfl, rfl⟩
end Go.Proofs.YtinpglfclbnhlaaGreatDoor

namespace Go.Proofs.YtinpglfclbnhlaaGreatDoor
open Go.RowKit
set_option linter.unusedVariables false
set_option maxHeartbeats 1000000 in
theorem first_0 (i : Int) (w : World) (h : 0 ≤ i) (h' : i < 3652425) (hT : TabMD w) (hU : TabUC w) :
    Calls Tryz.prog 64 #[.int .i64 0, .int .i64 i] w fun e w' => e = .returned (.tuple #[.int .i64 (fst 0 i), .bool true]) ∧ Kp w w' := by
  have c1 := count_any 0 w hU
  rw [show cnt 0 = 3652425 by decide] at c1
  have C1 := Lib.hid c1
  have HT := Lib.hid hT
  have K : Hid (i = fst 0 i) := by unfold fst; rfl
  clear c1 hT hU
  go_enter Tryz.func64, Tryz.ntmps64
  go_wp2_with fail; refine (C1.out).mono ?_; rintro e w' ⟨rfl, rfl⟩
  go_wp2_with (first | (go_at_call 91; refine (ofDay_any _ _).mono ?_; rintro e w2 ⟨rfl, rfl⟩) | go_in)
  go_ret2
  exact ⟨ret_two K.out rfl, Kp.alloc _ _⟩
set_option maxHeartbeats 1000000 in
theorem last_0 (i : Int) (w : World) (h : 0 ≤ i) (h' : i < 3652424) (hT : TabMD w) (hU : TabUC w) :
    Calls Tryz.prog 74 #[.int .i64 0, .int .i64 i] w fun e w' => e = .returned (.tuple #[.int .i64 (fst 0 (i + 1) - 1), .bool true]) ∧ Kp w w' := by
  have c1 := count_any 0 w hU
  rw [show cnt 0 = 3652425 by decide] at c1
  have C1 := Lib.hid c1
  have HT := Lib.hid hT
  have K : Hid ((i + 1) - 1 = fst 0 (i + 1) - 1) := by unfold fst; rfl
  clear c1 hT hU
  have ne : (i == 3652424) = false := by simp; omega
  go_enter Tryz.func74, Tryz.ntmps74
  go_wp2_with fail; refine (C1.out).mono ?_; rintro e w' ⟨rfl, rfl⟩
  go_wp2_with fail; refine (C1.out).mono ?_; rintro e w' ⟨rfl, rfl⟩
  go_wp2_with (first | (go_at_call 91; refine (ofDay_any _ _).mono ?_; rintro e w2 ⟨rfl, rfl⟩) | go_in)
  go_ret2
  exact ⟨ret_two (by first | exact K.out | (rw [← K.out]; go_num)) rfl, Kp.alloc _ _⟩
set_option maxHeartbeats 1000000 in
theorem first_1 (i : Int) (w : World) (h : 0 ≤ i) (h' : i < 120000) (hT : TabMD w) (hU : TabUC w) :
    Calls Tryz.prog 64 #[.int .i64 1, .int .i64 i] w fun e w' => e = .returned (.tuple #[.int .i64 (fst 1 i), .bool true]) ∧ Kp w w' := by
  have c1 := count_any 1 w hU
  rw [show cnt 1 = 120000 by decide] at c1
  have C1 := Lib.hid c1
  have HT := Lib.hid hT
  have K : Hid (mon i = fst 1 i) := by unfold fst; rfl
  clear c1 hT hU
  go_enter Tryz.func64, Tryz.ntmps64
  go_wp2_with fail; refine (C1.out).mono ?_; rintro e w' ⟨rfl, rfl⟩
  go_wp2_with (first | (go_at_call 92; refine (ofMonth_any _ _ (by omega) (by omega) (HT.out.kp (Kp.alloc _ _))).mono ?_; rintro e w2 ⟨rfl, rfl⟩) | go_in)
  go_ret2
  exact ⟨ret_two K.out rfl, Kp.alloc _ _⟩
set_option maxHeartbeats 1000000 in
theorem last_1 (i : Int) (w : World) (h : 0 ≤ i) (h' : i < 119999) (hT : TabMD w) (hU : TabUC w) :
    Calls Tryz.prog 74 #[.int .i64 1, .int .i64 i] w fun e w' => e = .returned (.tuple #[.int .i64 (fst 1 (i + 1) - 1), .bool true]) ∧ Kp w w' := by
  have c1 := count_any 1 w hU
  rw [show cnt 1 = 120000 by decide] at c1
  have C1 := Lib.hid c1
  have HT := Lib.hid hT
  have K : Hid (mon (i + 1) - 1 = fst 1 (i + 1) - 1) := by unfold fst; rfl
  clear c1 hT hU
  have ne : (i == 119999) = false := by simp; omega
  have mb := mon_bd (show 0 ≤ (i + 1) by omega) (by omega)
  go_enter Tryz.func74, Tryz.ntmps74
  go_wp2_with fail; refine (C1.out).mono ?_; rintro e w' ⟨rfl, rfl⟩
  go_wp2_with fail; refine (C1.out).mono ?_; rintro e w' ⟨rfl, rfl⟩
  go_wp2_with (first | (go_at_call 92; refine (ofMonth_any _ _ (by omega) (by omega) (HT.out.kp (Kp.alloc _ _))).mono ?_; rintro e w2 ⟨rfl, rfl⟩) | go_in)
  go_ret2
  exact ⟨ret_two (by first | exact K.out | (rw [← K.out]; go_num)) rfl, Kp.alloc _ _⟩
set_option maxHeartbeats 1000000 in
theorem first_2 (i : Int) (w : World) (h : 0 ≤ i) (h' : i < 40000) (hT : TabMD w) (hU : TabUC w) :
    Calls Tryz.prog 64 #[.int .i64 2, .int .i64 i] w fun e w' => e = .returned (.tuple #[.int .i64 (fst 2 i), .bool true]) ∧ Kp w w' := by
  have c1 := count_any 2 w hU
  rw [show cnt 2 = 40000 by decide] at c1
  have C1 := Lib.hid c1
  have HT := Lib.hid hT
  have K : Hid (mon (2 + 3 * i) = fst 2 i) := by unfold fst; rfl
  clear c1 hT hU
  go_enter Tryz.func64, Tryz.ntmps64
  go_wp2_with fail; refine (C1.out).mono ?_; rintro e w' ⟨rfl, rfl⟩
  go_wp2_with (first | (go_at_call 93; refine (ofSeason_any _ _ (by omega) (by omega) (by omega) (HT.out.kp (Kp.alloc _ _))).mono ?_; rintro e w2 ⟨rfl, rfl⟩) | go_in)
  go_ret2
  exact ⟨ret_two K.out rfl, Kp.alloc _ _⟩
set_option maxHeartbeats 1000000 in
theorem last_2 (i : Int) (w : World) (h : 0 ≤ i) (h' : i < 39999) (hT : TabMD w) (hU : TabUC w) :
    Calls Tryz.prog 74 #[.int .i64 2, .int .i64 i] w fun e w' => e = .returned (.tuple #[.int .i64 (fst 2 (i + 1) - 1), .bool true]) ∧ Kp w w' := by
  have c1 := count_any 2 w hU
  rw [show cnt 2 = 40000 by decide] at c1
  have C1 := Lib.hid c1
  have HT := Lib.hid hT
  have K : Hid (mon (2 + 3 * (i + 1)) - 1 = fst 2 (i + 1) - 1) := by unfold fst; rfl
  clear c1 hT hU
  have ne : (i == 39999) = false := by simp; omega
  have mb := mon_bd (show 0 ≤ 2 + 3 * (i + 1) by omega) (by omega)
  go_enter Tryz.func74, Tryz.ntmps74
  go_wp2_with fail; refine (C1.out).mono ?_; rintro e w' ⟨rfl, rfl⟩
  go_wp2_with fail; refine (C1.out).mono ?_; rintro e w' ⟨rfl, rfl⟩
  go_wp2_with (first | (go_at_call 93; refine (ofSeason_any _ _ (by omega) (by omega) (by omega) (HT.out.kp (Kp.alloc _ _))).mono ?_; rintro e w2 ⟨rfl, rfl⟩) | go_in)
  go_ret2
  exact ⟨ret_two (by first | exact K.out | (rw [← K.out]; go_num)) rfl, Kp.alloc _ _⟩
set_option maxHeartbeats 1000000 in
theorem first_3 (i : Int) (w : World) (h : 0 ≤ i) (h' : i < 10000) (hT : TabMD w) (hU : TabUC w) :
    Calls Tryz.prog 64 #[.int .i64 3, .int .i64 i] w fun e w' => e = .returned (.tuple #[.int .i64 (fst 3 i), .bool true]) ∧ Kp w w' := by
  have c1 := count_any 3 w hU
  rw [show cnt 3 = 10000 by decide] at c1
  have C1 := Lib.hid c1
  have HT := Lib.hid hT
  have K : Hid (mon (12 * i) = fst 3 i) := by unfold fst; rfl
  clear c1 hT hU
  go_enter Tryz.func64, Tryz.ntmps64
  go_wp2_with fail; refine (C1.out).mono ?_; rintro e w' ⟨rfl, rfl⟩
  go_wp2_with (first | (go_at_call 94; refine (ofYear_any _ _ (by omega) (by omega) (HT.out.kp (Kp.alloc _ _))).mono ?_; rintro e w2 ⟨rfl, rfl⟩) | go_in)
  go_ret2
  exact ⟨ret_two K.out rfl, Kp.alloc _ _⟩
set_option maxHeartbeats 1000000 in
theorem last_3 (i : Int) (w : World) (h : 0 ≤ i) (h' : i < 9999) (hT : TabMD w) (hU : TabUC w) :
    Calls Tryz.prog 74 #[.int .i64 3, .int .i64 i] w fun e w' => e = .returned (.tuple #[.int .i64 (fst 3 (i + 1) - 1), .bool true]) ∧ Kp w w' := by
  have c1 := count_any 3 w hU
  rw [show cnt 3 = 10000 by decide] at c1
  have C1 := Lib.hid c1
  have HT := Lib.hid hT
  have K : Hid (mon (12 * (i + 1)) - 1 = fst 3 (i + 1) - 1) := by unfold fst; rfl
  clear c1 hT hU
  have ne : (i == 9999) = false := by simp; omega
  have mb := mon_bd (show 0 ≤ 12 * (i + 1) by omega) (by omega)
  go_enter Tryz.func74, Tryz.ntmps74
  go_wp2_with fail; refine (C1.out).mono ?_; rintro e w' ⟨rfl, rfl⟩
  go_wp2_with fail; refine (C1.out).mono ?_; rintro e w' ⟨rfl, rfl⟩
  go_wp2_with (first | (go_at_call 94; refine (ofYear_any _ _ (by omega) (by omega) (HT.out.kp (Kp.alloc _ _))).mono ?_; rintro e w2 ⟨rfl, rfl⟩) | go_in)
  go_ret2
  exact ⟨ret_two (by first | exact K.out | (rw [← K.out]; go_num)) rfl, Kp.alloc _ _⟩
set_option maxHeartbeats 1000000 in
theorem first_4 (i : Int) (w : World) (h : 0 ≤ i) (h' : i < 1000) (hT : TabMD w) (hU : TabUC w) :
    Calls Tryz.prog 64 #[.int .i64 4, .int .i64 i] w fun e w' => e = .returned (.tuple #[.int .i64 (fst 4 i), .bool true]) ∧ Kp w w' := by
  have c1 := count_any 4 w hU
  rw [show cnt 4 = 1000 by decide] at c1
  have C1 := Lib.hid c1
  have HT := Lib.hid hT
  have K : Hid (mon (120 * i) = fst 4 i) := by unfold fst; rfl
  clear c1 hT hU
  go_enter Tryz.func64, Tryz.ntmps64
  go_wp2_with fail; refine (C1.out).mono ?_; rintro e w' ⟨rfl, rfl⟩
  go_wp2_with (first | (go_at_call 95; refine (ofDecade_any _ _ (by omega) (by omega) (HT.out.kp (Kp.alloc _ _))).mono ?_; rintro e w2 ⟨rfl, rfl⟩) | go_in)
  go_ret2
  exact ⟨ret_two K.out rfl, Kp.alloc _ _⟩
set_option maxHeartbeats 1000000 in
theorem last_4 (i : Int) (w : World) (h : 0 ≤ i) (h' : i < 999) (hT : TabMD w) (hU : TabUC w) :
    Calls Tryz.prog 74 #[.int .i64 4, .int .i64 i] w fun e w' => e = .returned (.tuple #[.int .i64 (fst 4 (i + 1) - 1), .bool true]) ∧ Kp w w' := by
  have c1 := count_any 4 w hU
  rw [show cnt 4 = 1000 by decide] at c1
  have C1 := Lib.hid c1
  have HT := Lib.hid hT
  have K : Hid (mon (120 * (i + 1)) - 1 = fst 4 (i + 1) - 1) := by unfold fst; rfl
  clear c1 hT hU
  have ne : (i == 999) = false := by simp; omega
  have mb := mon_bd (show 0 ≤ 120 * (i + 1) by omega) (by omega)
  go_enter Tryz.func74, Tryz.ntmps74
  go_wp2_with fail; refine (C1.out).mono ?_; rintro e w' ⟨rfl, rfl⟩
  go_wp2_with fail; refine (C1.out).mono ?_; rintro e w' ⟨rfl, rfl⟩
  go_wp2_with (first | (go_at_call 95; refine (ofDecade_any _ _ (by omega) (by omega) (HT.out.kp (Kp.alloc _ _))).mono ?_; rintro e w2 ⟨rfl, rfl⟩) | go_in)
  go_ret2
  exact ⟨ret_two (by first | exact K.out | (rw [← K.out]; go_num)) rfl, Kp.alloc _ _⟩
set_option maxHeartbeats 1000000 in
theorem first_5 (i : Int) (w : World) (h : 0 ≤ i) (h' : i < 100) (hT : TabMD w) (hU : TabUC w) :
    Calls Tryz.prog 64 #[.int .i64 5, .int .i64 i] w fun e w' => e = .returned (.tuple #[.int .i64 (fst 5 i), .bool true]) ∧ Kp w w' := by
  have c1 := count_any 5 w hU
  rw [show cnt 5 = 100 by decide] at c1
  have C1 := Lib.hid c1
  have HT := Lib.hid hT
  have K : Hid (mon (1200 * i) = fst 5 i) := by unfold fst; rfl
  clear c1 hT hU
  go_enter Tryz.func64, Tryz.ntmps64
  go_wp2_with fail; refine (C1.out).mono ?_; rintro e w' ⟨rfl, rfl⟩
  go_wp2_with (first | (go_at_call 96; refine (ofCentury_any _ _ (by omega) (by omega) (HT.out.kp (Kp.alloc _ _))).mono ?_; rintro e w2 ⟨rfl, rfl⟩) | go_in)
  go_ret2
  exact ⟨ret_two K.out rfl, Kp.alloc _ _⟩
set_option maxHeartbeats 1000000 in
theorem last_5 (i : Int) (w : World) (h : 0 ≤ i) (h' : i < 99) (hT : TabMD w) (hU : TabUC w) :
    Calls Tryz.prog 74 #[.int .i64 5, .int .i64 i] w fun e w' => e = .returned (.tuple #[.int .i64 (fst 5 (i + 1) - 1), .bool true]) ∧ Kp w w' := by
  have c1 := count_any 5 w hU
  rw [show cnt 5 = 100 by decide] at c1
  have C1 := Lib.hid c1
  have HT := Lib.hid hT
  have K : Hid (mon (1200 * (i + 1)) - 1 = fst 5 (i + 1) - 1) := by unfold fst; rfl
  clear c1 hT hU
  have ne : (i == 99) = false := by simp; omega
  have mb := mon_bd (show 0 ≤ 1200 * (i + 1) by omega) (by omega)
  go_enter Tryz.func74, Tryz.ntmps74
  go_wp2_with fail; refine (C1.out).mono ?_; rintro e w' ⟨rfl, rfl⟩
  go_wp2_with fail; refine (C1.out).mono ?_; rintro e w' ⟨rfl, rfl⟩
  go_wp2_with (first | (go_at_call 96; refine (ofCentury_any _ _ (by omega) (by omega) (HT.out.kp (Kp.alloc _ _))).mono ?_; rintro e w2 ⟨rfl, rfl⟩) | go_in)
  go_ret2
  exact ⟨ret_two (by first | exact K.out | (rw [← K.out]; go_num)) rfl, Kp.alloc _ _⟩
end Go.Proofs.YtinpglfclbnhlaaGreatDoor

namespace Go.Proofs.YtinpglfclbnhlaaGreatDoor
open Go.RowKit
set_option linter.unusedVariables false
def seaN (m : Int) : Int := if m < 2 then -1 else (m - 2) / 3
noncomputable def unum (k day : Int) : Int := if k = 0 then day else if k = 1 then 12 * (dte day).1 + (dte day).2.1 - 1 else if k = 2 then seaN (12 * (dte day).1 + (dte day).2.1 - 1) else if k = 3 then (12 * (dte day).1 + (dte day).2.1 - 1) / 12 else if k = 4 then (12 * (dte day).1 + (dte day).2.1 - 1) / 12 / 10 else (12 * (dte day).1 + (dte day).2.1 - 1) / 12 / 100
end Go.Proofs.YtinpglfclbnhlaaGreatDoor

namespace Go.Proofs.YtinpglfclbnhlaaGreatDoor
open Go.RowKit
set_option linter.unusedVariables false
end Go.Proofs.YtinpglfclbnhlaaGreatDoor

namespace Go.Proofs.YtinpglfclbnhlaaGreatDoor
open Go.RowKit
set_option linter.unusedVariables false
def okU (k i : Int) : Bool := decide (0 ≤ i ∧ i < cnt k)
def firV (k i : Int) : Int := if okU k i then fst k i else 0
def lst (k i : Int) : Int := if i = cnt k - 1 then 3652424 else fst k (i + 1) - 1
def lasV (k i : Int) : Int := if okU k i then lst k i else 0
theorem okU_yes {k i : Int} (h : 0 ≤ i) (h' : i < cnt k) : okU k i = true := by unfold okU; simp; exact ⟨h, h'⟩
theorem okU_no {k i : Int} (h : i < 0 ∨ cnt k ≤ i) : okU k i = false := by unfold okU; simp; omega
theorem okU_iff (k i : Int) : okU k i = true ↔ 0 ≤ i ∧ i < cnt k := by unfold okU; simp
set_option maxHeartbeats 400000 in
theorem first_any (k i : Int) (w : World) (hT : TabMD w) (hU : TabUC w) :
    Calls Tryz.prog 64 #[.int .i64 k, .int .i64 i] w fun e w' => e = .returned (.tuple #[.int .i64 (firV k i), .bool (okU k i)]) ∧ Kp w w' := by
  by_cases n : i < 0
  · have o := okU_no (k := k) (.inl n)
    rw [show firV k i = 0 by unfold firV; rw [o]; rfl, o]
    clear o hT hU
    go_enter Tryz.func64, Tryz.ntmps64
    go_wp2
    go_ret2
    exact ⟨rfl, Kp.refl _⟩
  by_cases c : cnt k ≤ i
  · have o := okU_no (k := k) (.inr c)
    rw [show firV k i = 0 by unfold firV; rw [o]; rfl, o]
    have C1 := Lib.hid (count_any k w hU)
    clear o hT hU
    go_enter Tryz.func64, Tryz.ntmps64
    go_wp2_with fail; refine (C1.out).mono ?_; rintro e w' ⟨rfl, rfl⟩
    go_wp2
    go_ret2
    exact ⟨rfl, Kp.refl _⟩
  have o := okU_yes (k := k) (show 0 ≤ i by omega) (show i < cnt k by omega)
  rw [show firV k i = fst k i by unfold firV; rw [o]; rfl, o]
  rcases cnt_six (k := k) (by omega) with rfl | rfl | rfl | rfl | rfl | rfl
  · exact first_0 i w (by omega) (by have : cnt 0 = 3652425 := rfl; omega) hT hU
  · exact first_1 i w (by omega) (by have : cnt 1 = 120000 := rfl; omega) hT hU
  · exact first_2 i w (by omega) (by have : cnt 2 = 40000 := rfl; omega) hT hU
  · exact first_3 i w (by omega) (by have : cnt 3 = 10000 := rfl; omega) hT hU
  · exact first_4 i w (by omega) (by have : cnt 4 = 1000 := rfl; omega) hT hU
  · exact first_5 i w (by omega) (by have : cnt 5 = 100 := rfl; omega) hT hU
set_option maxHeartbeats 400000 in
theorem last_any (k i : Int) (w : World) (hT : TabMD w) (hU : TabUC w) :
    Calls Tryz.prog 74 #[.int .i64 k, .int .i64 i] w fun e w' => e = .returned (.tuple #[.int .i64 (lasV k i), .bool (okU k i)]) ∧ Kp w w' := by
  by_cases n : i < 0
  · have o := okU_no (k := k) (.inl n)
    rw [show lasV k i = 0 by unfold lasV; rw [o]; rfl, o]
    clear o hT hU
    go_enter Tryz.func74, Tryz.ntmps74
    go_wp2
    go_ret2
    exact ⟨rfl, Kp.refl _⟩
  by_cases c : cnt k ≤ i
  · have o := okU_no (k := k) (.inr c)
    rw [show lasV k i = 0 by unfold lasV; rw [o]; rfl, o]
    have C1 := Lib.hid (count_any k w hU)
    clear o hT hU
    go_enter Tryz.func74, Tryz.ntmps74
    go_wp2_with fail; refine (C1.out).mono ?_; rintro e w' ⟨rfl, rfl⟩
    go_wp2
    go_ret2
    exact ⟨rfl, Kp.refl _⟩
  have o := okU_yes (k := k) (show 0 ≤ i by omega) (show i < cnt k by omega)
  rw [show lasV k i = lst k i by unfold lasV; rw [o]; rfl, o]
  by_cases z : i = cnt k - 1
  · rw [show lst k i = 3652424 by unfold lst; rw [if_pos z]]
    have C1 := Lib.hid (count_any k w hU)
    have e : (i == cnt k - 1) = true := by simpa using z
    have cb := cnt_bd k
    clear o hT hU z
    generalize cnt k = N at *
    go_enter Tryz.func74, Tryz.ntmps74
    go_wp2_with fail; refine (C1.out).mono ?_; rintro e w' ⟨rfl, rfl⟩
    go_wp2_with fail; refine (C1.out).mono ?_; rintro e w' ⟨rfl, rfl⟩
    go_wp2
    go_ret2
    exact ⟨rfl, Kp.refl _⟩
  rw [show lst k i = fst k (i + 1) - 1 by unfold lst; rw [if_neg z]]
  rcases cnt_six (k := k) (by omega) with rfl | rfl | rfl | rfl | rfl | rfl
  · exact last_0 i w (by omega) (by have : cnt 0 = 3652425 := rfl; omega) hT hU
  · exact last_1 i w (by omega) (by have : cnt 1 = 120000 := rfl; omega) hT hU
  · exact last_2 i w (by omega) (by have : cnt 2 = 40000 := rfl; omega) hT hU
  · exact last_3 i w (by omega) (by have : cnt 3 = 10000 := rfl; omega) hT hU
  · exact last_4 i w (by omega) (by have : cnt 4 = 1000 := rfl; omega) hT hU
  · exact last_5 i w (by omega) (by have : cnt 5 = 100 := rfl; omega) hT hU

noncomputable def okO (k day : Int) : Bool := decide (0 < cnt k ∧ 0 ≤ day ∧ day ≤ 3652424 ∧ ¬ (k = 2 ∧ 12 * (dte day).1 + (dte day).2.1 - 1 < 2))
noncomputable def ofV (k day : Int) : Int := if okO k day then unum k day else 0
end Go.Proofs.YtinpglfclbnhlaaGreatDoor

namespace Go.Proofs.YtinpglfclbnhlaaGreatDoor
open Go.RowKit
set_option linter.unusedVariables false
set_option maxHeartbeats 1000000 in
set_option maxRecDepth 100000 in
theorem rcount_any (k : Int) (w : World) : Calls Tryz.prog 51 #[.int .i64 k] w fun e w' => e = .returned (.int .i64 (cnt k)) ∧ w = w' := by
  by_cases c : k < 0 ∨ 5 < k
  · rw [cnt_no c]
    have e0 : (k == 0) = false := by simp; omega
    have e1 : (k == 1) = false := by simp; omega
    have e2 : (k == 2) = false := by simp; omega
    have e3 : (k == 3) = false := by simp; omega
    have e4 : (k == 4) = false := by simp; omega
    have e5 : (k == 5) = false := by simp; omega
    clear c
    go_enter Tryz.func51, Tryz.ntmps51
    go_wp2
    go_ret
    exact ⟨rfl, rfl⟩
  have : k = 0 ∨ k = 1 ∨ k = 2 ∨ k = 3 ∨ k = 4 ∨ k = 5 := by omega
  clear c
  rcases this with rfl | rfl | rfl | rfl | rfl | rfl
  · rw [show cnt 0 = 3652425 by decide]
    go_enter Tryz.func51, Tryz.ntmps51
    go_wp2
    go_ret
    exact ⟨rfl, rfl⟩
  · rw [show cnt 1 = 120000 by decide]
    go_enter Tryz.func51, Tryz.ntmps51
    go_wp2
    go_ret
    exact ⟨rfl, rfl⟩
  · rw [show cnt 2 = 40000 by decide]
    go_enter Tryz.func51, Tryz.ntmps51
    go_wp2
    go_ret
    exact ⟨rfl, rfl⟩
  · rw [show cnt 3 = 10000 by decide]
    go_enter Tryz.func51, Tryz.ntmps51
    go_wp2
    go_ret
    exact ⟨rfl, rfl⟩
  · rw [show cnt 4 = 1000 by decide]
    go_enter Tryz.func51, Tryz.ntmps51
    go_wp2
    go_ret
    exact ⟨rfl, rfl⟩
  · rw [show cnt 5 = 100 by decide]
    go_enter Tryz.func51, Tryz.ntmps51
    go_wp2
    go_ret
    exact ⟨rfl, rfl⟩
set_option maxHeartbeats 1000000 in
set_option maxRecDepth 100000 in
theorem rfirst_0 (i : Int) (w : World) (h : 0 ≤ i) (h' : i < 3652425) :
    Calls Tryz.prog 67 #[.int .i64 0, .int .i64 i] w fun e w' => e = .returned (.tuple #[.int .i64 (fst 0 i), .bool true]) ∧ w = w' := by
  have c1 := fun w => rcount_any 0 w
  rw [show cnt 0 = 3652425 by decide] at c1
  have K : Hid (i = fst 0 i) := by unfold fst; rfl
  have C1 := Lib.hid c1
  clear c1
  go_enter Tryz.func67, Tryz.ntmps67
  go_wp2_with fail; refine ((C1.out _)).mono ?_; rintro e w' ⟨rfl, rfl⟩
  go_wp2
  go_ret2
  exact ⟨ret_two K.out rfl, rfl⟩
set_option maxHeartbeats 1000000 in
set_option maxRecDepth 100000 in
theorem rfirst_1 (i : Int) (w : World) (h : 0 ≤ i) (h' : i < 120000) :
    Calls Tryz.prog 67 #[.int .i64 1, .int .i64 i] w fun e w' => e = .returned (.tuple #[.int .i64 (fst 1 i), .bool true]) ∧ w = w' := by
  have c1 := fun w => rcount_any 1 w
  rw [show cnt 1 = 120000 by decide] at c1
  obtain ⟨v, e⟩ := mon_num (j := i) (by omega) (by omega)
  have c2 := fun w => rnumber_any (i / 12) (i % 12 + 1) 1 w
  rw [v, if_pos rfl, e] at c2
  have K : Hid (mon (i) = fst 1 i) := by unfold fst; rfl
  clear v e
  have C1 := Lib.hid c1
  have C2 := Lib.hid c2
  clear c1 c2
  go_enter Tryz.func67, Tryz.ntmps67
  go_wp2_with fail; refine ((C1.out _)).mono ?_; rintro e w' ⟨rfl, rfl⟩
  go_wp2_with fail; refine ((C2.out _)).mono ?_; rintro e w' ⟨rfl, rfl⟩
  go_wp2
  go_ret2
  exact ⟨ret_two K.out rfl, rfl⟩
set_option maxHeartbeats 1000000 in
set_option maxRecDepth 100000 in
theorem rfirst_2 (i : Int) (w : World) (h : 0 ≤ i) (h' : i < 40000) :
    Calls Tryz.prog 67 #[.int .i64 2, .int .i64 i] w fun e w' => e = .returned (.tuple #[.int .i64 (fst 2 i), .bool true]) ∧ w = w' := by
  have c1 := fun w => rcount_any 2 w
  rw [show cnt 2 = 40000 by decide] at c1
  obtain ⟨v, e⟩ := mon_num (j := 2 + 3 * i) (by omega) (by omega)
  rw [show (2 + 3 * i) / 12 = i / 4 by omega, show (2 + 3 * i) % 12 + 1 = i % 4 * 3 + 3 by omega] at v e
  have c2 := fun w => rnumber_any (i / 4) (i % 4 * 3 + 3) 1 w
  rw [v, if_pos rfl, e] at c2
  have K : Hid (mon (2 + 3 * i) = fst 2 i) := by unfold fst; rfl
  clear v e
  have C1 := Lib.hid c1
  have C2 := Lib.hid c2
  clear c1 c2
  go_enter Tryz.func67, Tryz.ntmps67
  go_wp2_with fail; refine ((C1.out _)).mono ?_; rintro e w' ⟨rfl, rfl⟩
  go_wp2_with fail; refine ((C2.out _)).mono ?_; rintro e w' ⟨rfl, rfl⟩
  go_wp2
  go_ret2
  exact ⟨ret_two K.out rfl, rfl⟩
set_option maxHeartbeats 1000000 in
set_option maxRecDepth 100000 in
theorem rfirst_3 (i : Int) (w : World) (h : 0 ≤ i) (h' : i < 10000) :
    Calls Tryz.prog 67 #[.int .i64 3, .int .i64 i] w fun e w' => e = .returned (.tuple #[.int .i64 (fst 3 i), .bool true]) ∧ w = w' := by
  have c1 := fun w => rcount_any 3 w
  rw [show cnt 3 = 10000 by decide] at c1
  obtain ⟨v, e⟩ := mon_num (j := 12 * i) (by omega) (by omega)
  rw [show (12 * i) / 12 = i by omega, show (12 * i) % 12 + 1 = 1 by omega] at v e
  have c2 := fun w => rnumber_any (i) (1) 1 w
  rw [v, if_pos rfl, e] at c2
  have K : Hid (mon (12 * i) = fst 3 i) := by unfold fst; rfl
  clear v e
  have C1 := Lib.hid c1
  have C2 := Lib.hid c2
  clear c1 c2
  go_enter Tryz.func67, Tryz.ntmps67
  go_wp2_with fail; refine ((C1.out _)).mono ?_; rintro e w' ⟨rfl, rfl⟩
  go_wp2_with fail; refine ((C2.out _)).mono ?_; rintro e w' ⟨rfl, rfl⟩
  go_wp2
  go_ret2
  exact ⟨ret_two K.out rfl, rfl⟩
set_option maxHeartbeats 1000000 in
set_option maxRecDepth 100000 in
theorem rfirst_4 (i : Int) (w : World) (h : 0 ≤ i) (h' : i < 1000) :
    Calls Tryz.prog 67 #[.int .i64 4, .int .i64 i] w fun e w' => e = .returned (.tuple #[.int .i64 (fst 4 i), .bool true]) ∧ w = w' := by
  have c1 := fun w => rcount_any 4 w
  rw [show cnt 4 = 1000 by decide] at c1
  obtain ⟨v, e⟩ := mon_num (j := 120 * i) (by omega) (by omega)
  rw [show (120 * i) / 12 = i * 10 by omega, show (120 * i) % 12 + 1 = 1 by omega] at v e
  have c2 := fun w => rnumber_any (i * 10) (1) 1 w
  rw [v, if_pos rfl, e] at c2
  have K : Hid (mon (120 * i) = fst 4 i) := by unfold fst; rfl
  clear v e
  have C1 := Lib.hid c1
  have C2 := Lib.hid c2
  clear c1 c2
  go_enter Tryz.func67, Tryz.ntmps67
  go_wp2_with fail; refine ((C1.out _)).mono ?_; rintro e w' ⟨rfl, rfl⟩
  go_wp2_with fail; refine ((C2.out _)).mono ?_; rintro e w' ⟨rfl, rfl⟩
  go_wp2
  go_ret2
  exact ⟨ret_two K.out rfl, rfl⟩
set_option maxHeartbeats 1000000 in
set_option maxRecDepth 100000 in
theorem rfirst_5 (i : Int) (w : World) (h : 0 ≤ i) (h' : i < 100) :
    Calls Tryz.prog 67 #[.int .i64 5, .int .i64 i] w fun e w' => e = .returned (.tuple #[.int .i64 (fst 5 i), .bool true]) ∧ w = w' := by
  have c1 := fun w => rcount_any 5 w
  rw [show cnt 5 = 100 by decide] at c1
  obtain ⟨v, e⟩ := mon_num (j := 1200 * i) (by omega) (by omega)
  rw [show (1200 * i) / 12 = i * 100 by omega, show (1200 * i) % 12 + 1 = 1 by omega] at v e
  have c2 := fun w => rnumber_any (i * 100) (1) 1 w
  rw [v, if_pos rfl, e] at c2
  have K : Hid (mon (1200 * i) = fst 5 i) := by unfold fst; rfl
  clear v e
  have C1 := Lib.hid c1
  have C2 := Lib.hid c2
  clear c1 c2
  go_enter Tryz.func67, Tryz.ntmps67
  go_wp2_with fail; refine ((C1.out _)).mono ?_; rintro e w' ⟨rfl, rfl⟩
  go_wp2_with fail; refine ((C2.out _)).mono ?_; rintro e w' ⟨rfl, rfl⟩
  go_wp2
  go_ret2
  exact ⟨ret_two K.out rfl, rfl⟩
set_option maxHeartbeats 1000000 in
set_option maxRecDepth 100000 in
theorem rfirst_any (k i : Int) (w : World) :
    Calls Tryz.prog 67 #[.int .i64 k, .int .i64 i] w fun e w' => e = .returned (.tuple #[.int .i64 (firV k i), .bool (okU k i)]) ∧ w = w' := by
  by_cases n : i < 0
  · have o := okU_no (k := k) (.inl n)
    rw [show firV k i = 0 by unfold firV; rw [o]; rfl, o]
    clear o
    go_enter Tryz.func67, Tryz.ntmps67
    go_wp2
    go_ret2
    exact ⟨rfl, rfl⟩
  by_cases c : cnt k ≤ i
  · have o := okU_no (k := k) (.inr c)
    rw [show firV k i = 0 by unfold firV; rw [o]; rfl, o]
    have C1 := Lib.hid (rcount_any k w)
    clear o
    go_enter Tryz.func67, Tryz.ntmps67
    go_wp2_with fail; refine (C1.out).mono ?_; rintro e w' ⟨rfl, rfl⟩
    go_wp2
    go_ret2
    exact ⟨rfl, rfl⟩
  have o := okU_yes (k := k) (show 0 ≤ i by omega) (show i < cnt k by omega)
  rw [show firV k i = fst k i by unfold firV; rw [o]; rfl, o]
  rcases cnt_six (k := k) (by omega) with rfl | rfl | rfl | rfl | rfl | rfl
  · exact rfirst_0 i w (by omega) (by have : cnt 0 = 3652425 := rfl; omega)
  · exact rfirst_1 i w (by omega) (by have : cnt 1 = 120000 := rfl; omega)
  · exact rfirst_2 i w (by omega) (by have : cnt 2 = 40000 := rfl; omega)
  · exact rfirst_3 i w (by omega) (by have : cnt 3 = 10000 := rfl; omega)
  · exact rfirst_4 i w (by omega) (by have : cnt 4 = 1000 := rfl; omega)
  · exact rfirst_5 i w (by omega) (by have : cnt 5 = 100 := rfl; omega)
theorem fst_bd (k i : Int) (h : 0 ≤ i) (h' : i < cnt k) : 0 ≤ fst k i ∧ fst k i ≤ 3652424 := by
  rcases cnt_six (k := k) (by omega) with rfl | rfl | rfl | rfl | rfl | rfl
  · have : cnt 0 = 3652425 := rfl
    simp [fst]; omega
  · have : cnt 1 = 120000 := rfl
    simp [fst]; exact mon_bd (by omega) (by omega)
  · have : cnt 2 = 40000 := rfl
    simp [fst]; exact mon_bd (by omega) (by omega)
  · have : cnt 3 = 10000 := rfl
    simp [fst]; exact mon_bd (by omega) (by omega)
  · have : cnt 4 = 1000 := rfl
    simp [fst]; exact mon_bd (by omega) (by omega)
  · have : cnt 5 = 100 := rfl
    simp [fst]; exact mon_bd (by omega) (by omega)
set_option maxHeartbeats 1000000 in
set_option maxRecDepth 100000 in
theorem rlast_any (k i : Int) (w : World) :
    Calls Tryz.prog 68 #[.int .i64 k, .int .i64 i] w fun e w' => e = .returned (.tuple #[.int .i64 (lasV k i), .bool (okU k i)]) ∧ w = w' := by
  by_cases n : i < 0
  · have o := okU_no (k := k) (.inl n)
    rw [show lasV k i = 0 by unfold lasV; rw [o]; rfl, o]
    clear o
    go_enter Tryz.func68, Tryz.ntmps68
    go_wp2
    go_ret2
    exact ⟨rfl, rfl⟩
  by_cases c : cnt k ≤ i
  · have o := okU_no (k := k) (.inr c)
    rw [show lasV k i = 0 by unfold lasV; rw [o]; rfl, o]
    have C1 := Lib.hid (rcount_any k w)
    clear o
    go_enter Tryz.func68, Tryz.ntmps68
    go_wp2_with fail; refine (C1.out).mono ?_; rintro e w' ⟨rfl, rfl⟩
    go_wp2
    go_ret2
    exact ⟨rfl, rfl⟩
  have o := okU_yes (k := k) (show 0 ≤ i by omega) (show i < cnt k by omega)
  rw [show lasV k i = lst k i by unfold lasV; rw [o]; rfl, o]
  have c1 := fun w => rcount_any k w
  have c2 := fun w => rfirst_any k (i + 1) w
  have cb := cnt_bd k
  clear o
  by_cases z : i = cnt k - 1
  · have u := okU_no (k := k) (i := i + 1) (.inr (by omega))
    rw [show firV k (i + 1) = 0 by unfold firV; rw [u]; rfl, u] at c2
    rw [show lst k i = 3652424 by unfold lst; rw [if_pos z]]
    clear u z
    generalize cnt k = N at *
    have C1 := Lib.hid c1
    have C2 := Lib.hid c2
    clear c1 c2
    go_enter Tryz.func68, Tryz.ntmps68
    go_wp2_with fail; refine ((C1.out _)).mono ?_; rintro e w' ⟨rfl, rfl⟩
    go_wp2_with fail; refine ((C2.out _)).mono ?_; rintro e w' ⟨rfl, rfl⟩
    go_wp2
    go_ret2
    exact ⟨rfl, rfl⟩
  · have u := okU_yes (k := k) (i := i + 1) (by omega) (by omega)
    rw [show firV k (i + 1) = fst k (i + 1) by unfold firV; rw [u]; rfl, u] at c2
    rw [show lst k i = fst k (i + 1) - 1 by unfold lst; rw [if_neg z]]
    have fb := fst_bd k (i + 1) (by omega) (by omega)
    clear u z
    generalize cnt k = N, fst k (i + 1) = f at *
    have C1 := Lib.hid c1
    have C2 := Lib.hid c2
    clear c1 c2
    go_enter Tryz.func68, Tryz.ntmps68
    go_wp2_with fail; refine ((C1.out _)).mono ?_; rintro e w' ⟨rfl, rfl⟩
    go_wp2_with fail; refine ((C2.out _)).mono ?_; rintro e w' ⟨rfl, rfl⟩
    go_wp2
    go_ret2
    exact ⟨rfl, rfl⟩
theorem okO_day {k day : Int} (c : 0 < cnt k) (h : 0 ≤ day) (h' : day ≤ 3652424) (g : ¬ (k = 2 ∧ 12 * (dte day).1 + (dte day).2.1 - 1 < 2)) : okO k day = true ∧ ofV k day = unum k day := by
  have o : okO k day = true := by unfold okO; exact decide_eq_true ⟨c, h, h', g⟩
  exact ⟨o, by unfold ofV; rw [o]; rfl⟩
theorem okO_bad {k day : Int} (g : ¬ (0 < cnt k ∧ 0 ≤ day ∧ day ≤ 3652424 ∧ ¬ (k = 2 ∧ 12 * (dte day).1 + (dte day).2.1 - 1 < 2))) : okO k day = false ∧ ofV k day = 0 := by
  have o : okO k day = false := by unfold okO; exact decide_eq_false g
  exact ⟨o, by unfold ofV; rw [o]; rfl⟩
end Go.Proofs.YtinpglfclbnhlaaGreatDoor

namespace Go.Proofs.YtinpglfclbnhlaaGreatDoor
set_option linter.unusedVariables false
theorem mon_succ (j : Int) (h : 0 ≤ j) : mon (j + 1) = mon j + dim (j / 12) (j % 12 + 1) := by
  unfold mon
  by_cases c : j % 12 = 11
  · rw [show (j + 1) / 12 = j / 12 + 1 by omega, show (j + 1) % 12 + 1 = 1 by omega, c, cum_one, sty_succ _ (by omega)]
    have := cum_succ (j / 12) 12 (by omega) (by omega)
    rw [show (12 : Int) + 1 = 13 by omega] at this
    rw [show (11 : Int) + 1 = 12 by omega]; omega
  · rw [show (j + 1) / 12 = j / 12 by omega, show (j + 1) % 12 + 1 = j % 12 + 1 + 1 by omega, cum_succ _ _ (by omega) (by omega)]; omega
theorem mon_lt (a b : Int) (h : 0 ≤ a) (h' : a < b) : mon a + 28 ≤ mon b := by
  have : ∀ k : Nat, mon a + 28 ≤ mon (a + 1 + k) := by
    intro k
    induction k with
    | zero => have := mon_succ a h; have d := dim_pos (a / 12) (a % 12 + 1) (by omega) (by omega); simp; omega
    | succ k ih =>
      have := mon_succ (a + 1 + k) (by omega)
      have d := dim_bd ((a + 1 + k) / 12) ((a + 1 + k) % 12 + 1)
      rw [show a + 1 + ((k + 1 : Nat) : Int) = a + 1 + k + 1 by omega]; omega
  have h2 := this (b - a - 1).toNat
  rw [show a + 1 + ((b - a - 1).toNat : Int) = b by omega] at h2; exact h2
theorem mon_le (a b : Int) (h : 0 ≤ a) (h' : a ≤ b) : mon a ≤ mon b := by
  rcases Int.lt_or_eq_of_le h' with c | c
  · have := mon_lt a b h c; omega
  · subst c; omega
theorem mon_12 (i : Int) (h : 0 ≤ i) : mon (12 * i) = sty i := by
  unfold mon; rw [show 12 * i / 12 = i by omega, show 12 * i % 12 + 1 = 1 by omega, cum_one]; omega
theorem mon_end : mon 120000 = 3652425 := by have := mon_12 10000 (by omega); rw [show (12 : Int) * 10000 = 120000 by omega, sty_max] at this; exact this
theorem mon_0 : mon 0 = 0 := by decide
theorem mon_2 : mon 2 = 60 := by decide
noncomputable def mo (day : Int) : Int := 12 * (dte day).1 + (dte day).2.1 - 1
theorem mo_spec {day : Int} (h : 0 ≤ day) (h' : day ≤ 3652424) : 0 ≤ mo day ∧ mo day < 120000 ∧ mon (mo day) ≤ day ∧ day < mon (mo day + 1) := by
  obtain ⟨a, b⟩ := dte_yes day h h'
  have v := vld_bd a
  have n := num_in a
  rw [b] at n
  have e1 : mo day / 12 = (dte day).1 := by unfold mo; omega
  have e2 : mo day % 12 + 1 = (dte day).2.1 := by unfold mo; omega
  have p : 0 ≤ mo day := by unfold mo; omega
  have s := mon_succ (mo day) p
  have e3 : mon (mo day) = sty (dte day).1 + cum (dte day).1 (dte day).2.1 := by unfold mon; rw [e1, e2]
  rw [e1, e2] at s
  refine ⟨p, by unfold mo; omega, by omega, by omega⟩
theorem mo_in {day a b : Int} (h : 0 ≤ day) (h' : day ≤ 3652424) (ha : 0 ≤ a) (hab : a ≤ b) : (mon a ≤ day ∧ day < mon b) ↔ (a ≤ mo day ∧ mo day < b) := by
  obtain ⟨s1, s2, s3, s4⟩ := mo_spec h h'
  constructor
  · rintro ⟨g1, g2⟩
    constructor
    · rcases Int.lt_or_le (mo day) a with c | c
      · have := mon_le (mo day + 1) a (by omega) (by omega); omega
      · exact c
    · rcases Int.lt_or_le (mo day) b with c | c
      · exact c
      · have := mon_le b (mo day) (by omega) c; omega
  · rintro ⟨g1, g2⟩
    have := mon_le a (mo day) ha g1
    have := mon_le (mo day + 1) b (by omega) (by omega)
    omega
/-- a unit's first month, and the month behind its last one -/
def sm (k i : Int) : Int := if k = 1 then i else if k = 2 then 2 + 3 * i else if k = 3 then 12 * i else if k = 4 then 120 * i else 1200 * i
def em (k i : Int) : Int := if k = 2 ∧ i = 39999 then 120000 else sm k (i + 1)
theorem six (k : Int) (h : 0 < cnt k) : k = 0 ∨ (k = 1 ∧ cnt k = 120000) ∨ (k = 2 ∧ cnt k = 40000) ∨ (k = 3 ∧ cnt k = 10000) ∨ (k = 4 ∧ cnt k = 1000) ∨ (k = 5 ∧ cnt k = 100) := by
  rcases cnt_six h with rfl | rfl | rfl | rfl | rfl | rfl <;> simp [cnt]
theorem months {k i : Int} (h : 0 ≤ i) (h' : i < cnt k) (k0 : k ≠ 0) : 0 ≤ sm k i ∧ sm k i < em k i ∧ em k i ≤ 120000 ∧ fst k i = mon (sm k i) ∧ lst k i = mon (em k i) - 1 := by
  have e := mon_end
  rcases six k (by omega) with g | ⟨rfl, c⟩ | ⟨rfl, c⟩ | ⟨rfl, c⟩ | ⟨rfl, c⟩ | ⟨rfl, c⟩
  · exact absurd g k0
  all_goals rw [c] at h'
  · refine ⟨by simp [sm]; omega, by simp [sm, em]; omega, by simp [sm, em]; omega, by simp [fst, sm], ?_⟩
    unfold lst; rw [c]; split
    · rw [show em 1 i = 120000 by simp [em, sm]; omega]; omega
    · simp [fst, em, sm]
  · refine ⟨by simp [sm]; omega, ?_, ?_, by simp [fst, sm], ?_⟩
    · unfold em; split <;> simp [sm] <;> omega
    · unfold em; split <;> simp [sm] <;> omega
    · unfold lst; rw [c]; split
      · rw [show em 2 i = 120000 by unfold em; rw [if_pos ⟨rfl, by omega⟩]]; omega
      · rw [show em 2 i = 2 + 3 * (i + 1) by unfold em; rw [if_neg (by omega)]; simp [sm]]; simp [fst]
  · refine ⟨by simp [sm]; omega, by simp [sm, em]; omega, by simp [sm, em]; omega, by simp [fst, sm], ?_⟩
    unfold lst; rw [c]; split
    · rw [show em 3 i = 120000 by simp [em, sm]; omega]; omega
    · simp [fst, em, sm]
  · refine ⟨by simp [sm]; omega, by simp [sm, em]; omega, by simp [sm, em]; omega, by simp [fst, sm], ?_⟩
    unfold lst; rw [c]; split
    · rw [show em 4 i = 120000 by simp [em, sm]; omega]; omega
    · simp [fst, em, sm]
  · refine ⟨by simp [sm]; omega, by simp [sm, em]; omega, by simp [sm, em]; omega, by simp [fst, sm], ?_⟩
    unfold lst; rw [c]; split
    · rw [show em 5 i = 120000 by simp [em, sm]; omega]; omega
    · simp [fst, em, sm]
theorem fst_zero (i : Int) : fst 0 i = i := by simp [fst]
theorem lst_zero (i : Int) : lst 0 i = i := by
  unfold lst; rw [show cnt 0 = 3652425 by decide, fst_zero]; split <;> omega
theorem span_bd {k i : Int} (h : 0 ≤ i) (h' : i < cnt k) : 0 ≤ fst k i ∧ fst k i ≤ lst k i ∧ lst k i ≤ 3652424 := by
  by_cases k0 : k = 0
  · subst k0; rw [fst_zero, lst_zero]; have : cnt 0 = 3652425 := by decide
    omega
  · obtain ⟨a, b, c, d, e⟩ := months h h' k0
    have m1 := mon_lt _ _ a b
    have m2 := mon_le 0 _ (by omega) a
    have m3 := mon_le _ _ (by omega) c
    rw [mon_0] at m2
    rw [mon_end] at m3
    omega
theorem unum_mo (k day : Int) : unum k day = if k = 0 then day else if k = 1 then mo day else if k = 2 then seaN (mo day) else if k = 3 then mo day / 12 else if k = 4 then mo day / 12 / 10 else mo day / 12 / 100 := rfl
/-- the days of a unit are those of its number -/
theorem unum_iff {k i day : Int} (h : 0 ≤ i) (h' : i < cnt k) (d : 0 ≤ day) (d' : day ≤ 3652424) : (fst k i ≤ day ∧ day ≤ lst k i) ↔ unum k day = i := by
  by_cases k0 : k = 0
  · subst k0; rw [fst_zero, lst_zero, unum_mo, if_pos rfl]; omega
  · obtain ⟨a, b, c, e, f⟩ := months h h' k0
    have m := mo_in d d' a (by omega : sm k i ≤ em k i)
    have s := mo_spec d d'
    rw [e, f, unum_mo]
    have : (mon (sm k i) ≤ day ∧ day ≤ mon (em k i) - 1) ↔ (sm k i ≤ mo day ∧ mo day < em k i) := by rw [← m]; omega
    rw [this]
    rcases six k (by omega) with g | ⟨rfl, c⟩ | ⟨rfl, c⟩ | ⟨rfl, c⟩ | ⟨rfl, c⟩ | ⟨rfl, c⟩
    · exact absurd g k0
    all_goals rw [c] at h'
    · simp [sm, em]; omega
    · by_cases z : i = 39999
      · subst z; simp [sm, em]; unfold seaN; split <;> omega
      · rw [show em 2 i = 2 + 3 * (i + 1) by unfold em; rw [if_neg (by omega)]; simp [sm]]
        simp [sm]; unfold seaN; split <;> omega
    · simp [sm, em]; omega
    · simp [sm, em]; omega
    · simp [sm, em]; omega
theorem okO_iff (k day : Int) : okO k day = true ↔ 0 < cnt k ∧ 0 ≤ day ∧ day ≤ 3652424 ∧ ¬ (k = 2 ∧ mo day < 2) := by unfold okO mo; exact decide_eq_true_iff
/-- a day's unit is there, and has the day -/
theorem unum_ok {k day : Int} (h : okO k day = true) : 0 ≤ unum k day ∧ unum k day < cnt k ∧ fst k (unum k day) ≤ day ∧ day ≤ lst k (unum k day) := by
  obtain ⟨a, b, c, d⟩ := (okO_iff k day).1 h
  have s := mo_spec b c
  have r : 0 ≤ unum k day ∧ unum k day < cnt k := by
    rcases six k a with rfl | ⟨rfl, c⟩ | ⟨rfl, c⟩ | ⟨rfl, c⟩ | ⟨rfl, c⟩ | ⟨rfl, c⟩ <;> rw [unum_mo]
    · rw [if_pos rfl]; have : cnt 0 = 3652425 := by decide
      omega
    all_goals rw [c]; simp
    · omega
    · have : ¬ mo day < 2 := fun q => d ⟨rfl, q⟩
      unfold seaN; rw [if_neg this]; omega
    · omega
    · omega
    · omega
  exact ⟨r.1, r.2, (unum_iff r.1 r.2 b c).2 rfl⟩
/-- each day of a unit is of it -/
theorem okO_of {k i day : Int} (h : 0 ≤ i) (h' : i < cnt k) (g : fst k i ≤ day) (g' : day ≤ lst k i) : okO k day = true ∧ unum k day = i := by
  have s := span_bd h h'
  have u := (unum_iff h h' (show 0 ≤ day by omega) (by omega)).1 ⟨g, g'⟩
  refine ⟨(okO_iff k day).2 ⟨by omega, by omega, by omega, ?_⟩, u⟩
  rintro ⟨rfl, q⟩
  rw [unum_mo] at u
  simp [seaN, q] at u
  omega
theorem okO_no {k day : Int} (h : okO k day = false) (d : 0 ≤ day) (d' : day ≤ 3652424) : cnt k = 0 ∨ k = 2 ∧ day < 60 := by
  by_cases c : cnt k = 0
  · exact .inl c
  · right
    have cb := cnt_bd k
    have : ¬ okO k day = true := by simp [h]
    rw [okO_iff] at this
    have q : k = 2 ∧ mo day < 2 := by
      rcases Classical.em (k = 2 ∧ mo day < 2) with q | q
      · exact q
      · exact absurd ⟨by omega, d, d', q⟩ this
    refine ⟨q.1, ?_⟩
    have s := mo_spec d d'
    have := mon_le (mo day + 1) 2 (by omega) (by omega)
    rw [mon_2] at this; omega
end Go.Proofs.YtinpglfclbnhlaaGreatDoor

namespace Go.Proofs.YtinpglfclbnhlaaGreatDoor
open Go.RowKit
set_option linter.unusedVariables false
def Tabs (w : World) : Prop := TabMD w ∧ TabUC w
theorem Tabs.kp {w w' : World} (h : Tabs w) (k : Kp w w') : Tabs w' := ⟨TabMD.kp h.1 k, TabUC.kp h.2 k⟩
theorem firV_yes {k i : Int} (h : 0 ≤ i) (h' : i < cnt k) : firV k i = fst k i := by unfold firV; rw [okU_yes h h']; rfl
theorem lasV_yes {k i : Int} (h : 0 ≤ i) (h' : i < cnt k) : lasV k i = lst k i := by unfold lasV; rw [okU_yes h h']; rfl
theorem firV_no {k i : Int} (h : okU k i = false) : firV k i = 0 := by unfold firV; rw [h]; rfl
theorem lasV_no {k i : Int} (h : okU k i = false) : lasV k i = 0 := by unfold lasV; rw [h]; rfl
theorem ofV_yes {k d : Int} (h : okO k d = true) : ofV k d = unum k d := by unfold ofV; rw [h]; rfl
theorem ofV_no {k d : Int} (h : okO k d = false) : ofV k d = 0 := by unfold ofV; rw [h]; rfl
/-- the contracts, with the tables in one word -/
theorem firstC (k i : Int) (w : World) (h : Tabs w) : Calls Tryz.prog 64 #[.int .i64 k, .int .i64 i] w fun e w' => e = .returned (.tuple #[.int .i64 (firV k i), .bool (okU k i)]) ∧ Kp w w' := first_any k i w h.1 h.2
theorem lastC (k i : Int) (w : World) (h : Tabs w) : Calls Tryz.prog 74 #[.int .i64 k, .int .i64 i] w fun e w' => e = .returned (.tuple #[.int .i64 (lasV k i), .bool (okU k i)]) ∧ Kp w w' := last_any k i w h.1 h.2
theorem countC (k : Int) (w : World) (h : Tabs w) : Calls Tryz.prog 27 #[.int .i64 k] w fun e w' => e = .returned (.int .i64 (cnt k)) ∧ Kp w w' := (count_any k w h.2).mono fun e w' ⟨a, b⟩ => ⟨a, by subst b; exact Kp.refl _⟩
end Go.Proofs.YtinpglfclbnhlaaGreatDoor
