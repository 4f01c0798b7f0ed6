/-
  Contracts of package civil: Leap, Days, Valid.
-/
import Derived.Test.YtfopcacoacedcaaDoorCal
import Derived.Test.YtfopcacoacedcaaDoorInts
import Derived.Lib.LaidTab
namespace Go.Proofs.YtfopcacoacedcaaDoor
open Go.RowKit
set_option linter.unusedVariables false

/-- the table of the months' lengths -/
def TabMD (w : World) : Prop := Lib.TabIs Tryd.prog w "lustrum/civil.monthDays" .i64 [0, 31, 28, 31, 30, 31, 30, 31, 31, 30, 31, 30, 31]
theorem gMD : Tryd.prog.globalNamed "lustrum/civil.monthDays" = some 1 := by kernel_rfl
theorem TabMD.cell {w : World} (h : TabMD w) (i : Nat) (hi : i < 13) : w.cell? ⟨1, i, none⟩ = some (.int .i64 ([0, 31, 28, 31, 30, 31, 30, 31, 31, 30, 31, 30, 31].getD i 0)) :=
  Lib.TabIs.cell h gMD i hi

theorem tmod_beq (y k : Int) : (y.tmod k == 0) = (y % k == 0) := by
  rw [Bool.eq_iff_iff]; simp only [beq_iff_eq]
  rw [← Int.dvd_iff_tmod_eq_zero, ← Int.dvd_iff_emod_eq_zero]

set_option maxHeartbeats 400000 in
theorem leap_any (y : Int) (w : World) :
    Calls Tryd.prog 19 #[.int .i64 y] w fun e w' => e = .returned (.bool (lpB y)) ∧ w = w' := by
  have K : Hid (lpB y = ((y % 4 == 0) && !(y % 100 == 0) || (y % 400 == 0))) := by
    unfold Hid lpB; rw [Bool.eq_iff_iff]; simp
  have t1 := tmod_beq y 4
  have t2 := tmod_beq y 100
  have t3 := tmod_beq y 400
  rcases Bool.eq_false_or_eq_true (y % 4 == 0) with h1 | h1 <;> rcases Bool.eq_false_or_eq_true (y % 100 == 0) with h2 | h2 <;> rcases Bool.eq_false_or_eq_true (y % 400 == 0) with h3 | h3
  all_goals
    have L := K.out
    clear K
    rw [h1, h2, h3] at L
    rw [L]
    clear L
    rw [h1] at t1
    rw [h2] at t2
    rw [h3] at t3
    have t2' : (y.tmod 100 != 0) = !(y.tmod 100 == 0) := rfl
    rw [t2] at t2'
    have h2' : (y % 100 != 0) = !(y % 100 == 0) := rfl
    rw [h2] at h2'
    simp only [Bool.not_true, Bool.not_false] at t2' h2'
    go_enter Tryd.func19, Tryd.ntmps19
    go_wp2
    go_ret
    exact ⟨rfl, rfl⟩

set_option maxHeartbeats 1000000 in
theorem days_any (y m : Int) (w : World) (hT : TabMD w) :
    Calls Tryd.prog 18 #[.int .i64 y, .int .i64 m] w fun e w' => e = .returned (.int .i64 (dim y m)) ∧ w = w' := by
  by_cases h1 : m < 1
  · rw [show dim y m = 0 by unfold dim; rw [if_pos (by omega)]]
    clear hT
    go_enter Tryd.func18, Tryd.ntmps18
    go_wp2
    go_ret
    exact ⟨rfl, rfl⟩
  by_cases h2 : 12 < m
  · rw [show dim y m = 0 by unfold dim; rw [if_pos (by omega)]]
    clear hT
    go_enter Tryd.func18, Tryd.ntmps18
    go_wp2
    go_ret
    exact ⟨rfl, rfl⟩
  by_cases h3 : m = 2
  · subst h3
    have c := hT.cell 2 (by omega)
    simp only [List.getD_cons_succ, List.getD_cons_zero] at c
    rcases Bool.eq_false_or_eq_true (lpB y) with l | l
    · rw [show dim y 2 = 29 by unfold dim; simp [l]]
      have C := leap_any y
      rw [l] at C
      have C1 := Lib.hid C
      clear C l hT h1 h2
      go_enter Tryd.func18, Tryd.ntmps18
      go_wp2_with fail; refine ((C1.out _)).mono ?_; rintro e w' ⟨rfl, rfl⟩
      go_wp2
      go_ret
      exact ⟨rfl, rfl⟩
    · rw [show dim y 2 = 28 by unfold dim; simp [l]]
      have C := leap_any y
      rw [l] at C
      have C1 := Lib.hid C
      clear C l hT h1 h2
      go_enter Tryd.func18, Tryd.ntmps18
      go_wp2_with fail; refine ((C1.out _)).mono ?_; rintro e w' ⟨rfl, rfl⟩
      go_wp2
      go_ret
      exact ⟨rfl, rfl⟩
  have : m = 1 ∨ m = 3 ∨ m = 4 ∨ m = 5 ∨ m = 6 ∨ m = 7 ∨ m = 8 ∨ m = 9 ∨ m = 10 ∨ m = 11 ∨ m = 12 := by omega
  clear h1 h2 h3
  rcases this with rfl | rfl | rfl | rfl | rfl | rfl | rfl | rfl | rfl | rfl | rfl
  · have c := hT.cell 1 (by omega)
    simp only [List.getD_cons_succ, List.getD_cons_zero] at c
    rw [show dim y 1 = 31 by unfold dim; simp]
    clear hT
    go_enter Tryd.func18, Tryd.ntmps18
    go_wp2
    go_ret
    exact ⟨rfl, rfl⟩
  · have c := hT.cell 3 (by omega)
    simp only [List.getD_cons_succ, List.getD_cons_zero] at c
    rw [show dim y 3 = 31 by unfold dim; simp]
    clear hT
    go_enter Tryd.func18, Tryd.ntmps18
    go_wp2
    go_ret
    exact ⟨rfl, rfl⟩
  · have c := hT.cell 4 (by omega)
    simp only [List.getD_cons_succ, List.getD_cons_zero] at c
    rw [show dim y 4 = 30 by unfold dim; simp]
    clear hT
    go_enter Tryd.func18, Tryd.ntmps18
    go_wp2
    go_ret
    exact ⟨rfl, rfl⟩
  · have c := hT.cell 5 (by omega)
    simp only [List.getD_cons_succ, List.getD_cons_zero] at c
    rw [show dim y 5 = 31 by unfold dim; simp]
    clear hT
    go_enter Tryd.func18, Tryd.ntmps18
    go_wp2
    go_ret
    exact ⟨rfl, rfl⟩
  · have c := hT.cell 6 (by omega)
    simp only [List.getD_cons_succ, List.getD_cons_zero] at c
    rw [show dim y 6 = 30 by unfold dim; simp]
    clear hT
    go_enter Tryd.func18, Tryd.ntmps18
    go_wp2
    go_ret
    exact ⟨rfl, rfl⟩
  · have c := hT.cell 7 (by omega)
    simp only [List.getD_cons_succ, List.getD_cons_zero] at c
    rw [show dim y 7 = 31 by unfold dim; simp]
    clear hT
    go_enter Tryd.func18, Tryd.ntmps18
    go_wp2
    go_ret
    exact ⟨rfl, rfl⟩
  · have c := hT.cell 8 (by omega)
    simp only [List.getD_cons_succ, List.getD_cons_zero] at c
    rw [show dim y 8 = 31 by unfold dim; simp]
    clear hT
    go_enter Tryd.func18, Tryd.ntmps18
    go_wp2
    go_ret
    exact ⟨rfl, rfl⟩
  · have c := hT.cell 9 (by omega)
    simp only [List.getD_cons_succ, List.getD_cons_zero] at c
    rw [show dim y 9 = 30 by unfold dim; simp]
    clear hT
    go_enter Tryd.func18, Tryd.ntmps18
    go_wp2
    go_ret
    exact ⟨rfl, rfl⟩
  · have c := hT.cell 10 (by omega)
    simp only [List.getD_cons_succ, List.getD_cons_zero] at c
    rw [show dim y 10 = 31 by unfold dim; simp]
    clear hT
    go_enter Tryd.func18, Tryd.ntmps18
    go_wp2
    go_ret
    exact ⟨rfl, rfl⟩
  · have c := hT.cell 11 (by omega)
    simp only [List.getD_cons_succ, List.getD_cons_zero] at c
    rw [show dim y 11 = 30 by unfold dim; simp]
    clear hT
    go_enter Tryd.func18, Tryd.ntmps18
    go_wp2
    go_ret
    exact ⟨rfl, rfl⟩
  · have c := hT.cell 12 (by omega)
    simp only [List.getD_cons_succ, List.getD_cons_zero] at c
    rw [show dim y 12 = 31 by unfold dim; simp]
    clear hT
    go_enter Tryd.func18, Tryd.ntmps18
    go_wp2
    go_ret
    exact ⟨rfl, rfl⟩

set_option maxHeartbeats 400000 in
theorem valid_any (y m d : Int) (w : World) (hT : TabMD w) :
    Calls Tryd.prog 47 #[.int .i64 y, .int .i64 m, .int .i64 d] w fun e w' => e = .returned (.bool (vldB y m d)) ∧ w = w' := by
  have C1 := Lib.hid (days_any y m w hT)
  have K : Hid (vldB y m d = decide (0 ≤ y ∧ y ≤ 9999 ∧ 1 ≤ d ∧ d ≤ dim y m)) := rfl
  clear hT
  generalize vldB y m d = v, dim y m = D at *
  go_enter Tryd.func47, Tryd.ntmps47
  go_wp2_with (go_at_call 18; refine C1.out.mono ?_; rintro e w' ⟨rfl, rfl⟩)
  all_goals go_ret
  all_goals refine ⟨?_, rfl⟩
  all_goals refine ret_bool ?_
  all_goals rw [K.out, Bool.eq_iff_iff]
  all_goals simp
  all_goals try omega
end Go.Proofs.YtfopcacoacedcaaDoor
