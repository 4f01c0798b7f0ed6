/-
  Contracts of package unit: Count, First, Last.
-/
import Derived.Test.YtfopcacoacedcaaDoorKeep
import Derived.Test.YtfopcacoacedcaaDoorCivilB
namespace Go.Proofs.YtfopcacoacedcaaDoor
open Go.RowKit
set_option linter.unusedVariables false

def TabUC (w : World) : Prop := Lib.TabIs Tryd.prog w "lustrum/unit.counts" .i64 [3652425, 120000, 40000, 10000, 1000, 100]
theorem gUC : Tryd.prog.globalNamed "lustrum/unit.counts" = some 0 := by kernel_rfl
theorem TabUC.cell {w : World} (h : TabUC w) (i : Nat) (hi : i < 6) : w.cell? ⟨0, i, none⟩ = some (.int .i64 ([3652425, 120000, 40000, 10000, 1000, 100].getD i 0)) :=
  Lib.TabIs.cell h gUC i hi
theorem TabUC.kp {w w' : World} (h : TabUC w) (k : Kp w w') : TabUC w' := var?_below k gUC (var_lt gUC h) h

def cnt (k : Int) : Int := if k = 0 then 3652425 else if k = 1 then 120000 else if k = 2 then 40000 else if k = 3 then 10000 else if k = 4 then 1000 else if k = 5 then 100 else 0
theorem cnt_bd (k : Int) : 0 ≤ cnt k ∧ cnt k ≤ 3652425 := by unfold cnt; (repeat' split) <;> omega
theorem cnt_no {k : Int} (h : k < 0 ∨ 5 < k) : cnt k = 0 := by unfold cnt; (repeat' split) <;> omega
theorem cnt_six {k : Int} (h : 0 < cnt k) : k = 0 ∨ k = 1 ∨ k = 2 ∨ k = 3 ∨ k = 4 ∨ k = 5 := by unfold cnt at h; omega

set_option maxHeartbeats 1000000 in
theorem count_any (k : Int) (w : World) (hT : TabUC w) :
    Calls Tryd.prog 16 #[.int .i64 k] w fun e w' => e = .returned (.int .i64 (cnt k)) ∧ w = w' := by
  by_cases c : k < 0
  · rw [cnt_no (.inl c)]
    clear hT
    go_enter Tryd.func16, Tryd.ntmps16
    go_wp2
    go_ret
    exact ⟨rfl, rfl⟩
  by_cases d : 6 ≤ k
  · rw [cnt_no (.inr (by omega))]
    clear hT
    go_enter Tryd.func16, Tryd.ntmps16
    go_wp2
    go_ret
    exact ⟨rfl, rfl⟩
  have : k = 1 ∨ k = 0 ∨ k = 2 ∨ k = 3 ∨ k = 4 ∨ k = 5 := by omega
  clear c d
  rcases this with rfl | rfl | rfl | rfl | rfl | rfl
  · have c := hT.cell 1 (by omega)
    simp only [List.getD_cons_succ, List.getD_cons_zero] at c
    clear hT
    rw [show cnt 1 = 120000 by decide]
    go_enter Tryd.func16, Tryd.ntmps16
    go_wp2
    go_ret
    exact ⟨rfl, rfl⟩
  · have c := hT.cell 0 (by omega)
    simp only [List.getD_cons_zero] at c
    clear hT
    rw [show cnt 0 = 3652425 by decide]
    go_enter Tryd.func16, Tryd.ntmps16
    go_wp2
    go_ret
    exact ⟨rfl, rfl⟩
  · have c := hT.cell 2 (by omega)
    simp only [List.getD_cons_succ, List.getD_cons_zero] at c
    clear hT
    rw [show cnt 2 = 40000 by decide]
    go_enter Tryd.func16, Tryd.ntmps16
    go_wp2
    go_ret
    exact ⟨rfl, rfl⟩
  · have c := hT.cell 3 (by omega)
    simp only [List.getD_cons_succ, List.getD_cons_zero] at c
    clear hT
    rw [show cnt 3 = 10000 by decide]
    go_enter Tryd.func16, Tryd.ntmps16
    go_wp2
    go_ret
    exact ⟨rfl, rfl⟩
  · have c := hT.cell 4 (by omega)
    simp only [List.getD_cons_succ, List.getD_cons_zero] at c
    clear hT
    rw [show cnt 4 = 1000 by decide]
    go_enter Tryd.func16, Tryd.ntmps16
    go_wp2
    go_ret
    exact ⟨rfl, rfl⟩
  · have c := hT.cell 5 (by omega)
    simp only [List.getD_cons_succ, List.getD_cons_zero] at c
    clear hT
    rw [show cnt 5 = 100 by decide]
    go_enter Tryd.func16, Tryd.ntmps16
    go_wp2
    go_ret
    exact ⟨rfl, rfl⟩

/-- the days ahead of month j, counted from the first month of year 0 on -/
def mon (j : Int) : Int := sty (j / 12) + cum (j / 12) (j % 12 + 1)
def fst (k i : Int) : Int := if k = 0 then i else if k = 1 then mon i else if k = 2 then mon (2 + 3 * i) else if k = 3 then mon (12 * i) else if k = 4 then mon (120 * i) else mon (1200 * i)
theorem mon_num {j : Int} (h : 0 ≤ j) (h' : j < 120000) : vldB (j / 12) (j % 12 + 1) 1 = true ∧ num (j / 12) (j % 12 + 1) 1 = mon j := by
  have d := dim_pos (j / 12) (j % 12 + 1) (by omega) (by omega)
  exact ⟨(vld_iff _ _ _).2 ⟨by omega, by omega, by omega, by omega⟩, by unfold num mon; omega⟩
theorem mon_bd {j : Int} (h : 0 ≤ j) (h' : j < 120000) : 0 ≤ mon j ∧ mon j ≤ 3652424 := by
  obtain ⟨a, b⟩ := mon_num h h'
  rw [← b]; exact num_range a

theorem ofDay_any (n : Int) (w : World) :
    Calls Tryd.prog 26 #[.int .i64 n] w fun e w' => e = .returned (.int .i64 n) ∧ w = w' := by
  go_enter Tryd.func26, Tryd.ntmps26
  go_wp2
  go_ret
  exact ⟨rfl, rfl⟩
set_option maxHeartbeats 400000 in
theorem ofMonth_any (n : Int) (w : World) (h : 0 ≤ n) (h' : n < 120000) (hT : TabMD w) :
    Calls Tryd.prog 27 #[.int .i64 n] w fun e w' => e = .returned (.int .i64 (mon n)) ∧ w = w' := by
  have c := number_any (n / 12) (n % 12 + 1) 1 w hT
  obtain ⟨a, b⟩ := mon_num h h'
  rw [a, if_pos rfl, b] at c
  have C := Lib.hid c
  clear c a b hT
  go_enter Tryd.func27, Tryd.ntmps27
  go_wp2_with fail; refine (C.out).mono ?_; rintro e w' ⟨rfl, rfl⟩
  go_wp2
  go_ret
  exact ⟨rfl, rfl⟩
set_option maxHeartbeats 400000 in
theorem ofSeason_any (n : Int) (w : World) (h : 0 ≤ n) (h' : n < 39999 + 1) (g : 2 + 3 * n < 120000) (hT : TabMD w) :
    Calls Tryd.prog 28 #[.int .i64 n] w fun e w' => e = .returned (.int .i64 (mon (2 + 3 * n))) ∧ w = w' := by
  have C := Lib.hid (ofMonth_any (2 + 3 * n) w (by omega) (by omega) hT)
  clear hT
  go_enter Tryd.func28, Tryd.ntmps28
  go_wp2_with fail; refine (C.out).mono ?_; rintro e w' ⟨rfl, rfl⟩
  go_wp2
  go_ret
  exact ⟨rfl, rfl⟩
set_option maxHeartbeats 400000 in
theorem ofYear_any (n : Int) (w : World) (h : 0 ≤ n) (h' : n < 10000) (hT : TabMD w) :
    Calls Tryd.prog 29 #[.int .i64 n] w fun e w' => e = .returned (.int .i64 (mon (12 * n))) ∧ w = w' := by
  have C := Lib.hid (ofMonth_any (12 * n) w (by omega) (by omega) hT)
  clear hT
  go_enter Tryd.func29, Tryd.ntmps29
  go_wp2_with fail; refine (C.out).mono ?_; rintro e w' ⟨rfl, rfl⟩
  go_wp2
  go_ret
  exact ⟨rfl, rfl⟩
set_option maxHeartbeats 400000 in
theorem ofDecade_any (n : Int) (w : World) (h : 0 ≤ n) (h' : n < 1000) (hT : TabMD w) :
    Calls Tryd.prog 30 #[.int .i64 n] w fun e w' => e = .returned (.int .i64 (mon (120 * n))) ∧ w = w' := by
  have c := ofYear_any (10 * n) w (by omega) (by omega) hT
  rw [show 12 * (10 * n) = 120 * n by omega] at c
  have C := Lib.hid c
  clear hT c
  go_enter Tryd.func30, Tryd.ntmps30
  go_wp2_with fail; refine (C.out).mono ?_; rintro e w' ⟨rfl, rfl⟩
  go_wp2
  go_ret
  exact ⟨rfl, rfl⟩
set_option maxHeartbeats 400000 in
theorem ofCentury_any (n : Int) (w : World) (h : 0 ≤ n) (h' : n < 100) (hT : TabMD w) :
    Calls Tryd.prog 31 #[.int .i64 n] w fun e w' => e = .returned (.int .i64 (mon (1200 * n))) ∧ w = w' := by
  have c := ofYear_any (100 * n) w (by omega) (by omega) hT
  rw [show 12 * (100 * n) = 1200 * n by omega] at c
  have C := Lib.hid c
  clear hT c
  go_enter Tryd.func31, Tryd.ntmps31
  go_wp2_with fail; refine (C.out).mono ?_; rintro e w' ⟨rfl, rfl⟩
  go_wp2
  go_ret
  exact ⟨rfl, rfl⟩
end Go.Proofs.YtfopcacoacedcaaDoor
