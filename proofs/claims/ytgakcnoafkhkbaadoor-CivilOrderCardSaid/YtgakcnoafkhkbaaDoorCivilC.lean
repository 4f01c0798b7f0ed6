/-
  Contracts of package civil's Weekday, and of the document's own answers for layer 2.
-/
import Derived.Test.YtgakcnoafkhkbaaDoorCivilB
namespace Go.Proofs.YtgakcnoafkhkbaaDoor
open Go.RowKit
set_option linter.unusedVariables false

/-- the table of the weekdays -/
def TabWD (w : World) : Prop := Lib.TabIs Tryd.prog w "lustrum/civil.weekdays" .i64 [5, 6, 0, 1, 2, 3, 4]
theorem gWD : Tryd.prog.globalNamed "lustrum/civil.weekdays" = some 1 := by kernel_rfl
theorem TabWD.cell {w : World} (h : TabWD w) (i : Nat) (hi : i < 7) : w.cell? ⟨1, i, none⟩ = some (.int .i64 ([5, 6, 0, 1, 2, 3, 4].getD i 0)) :=
  Lib.TabIs.cell h gWD i hi

set_option maxHeartbeats 400000 in
theorem weekday_any (n : Int) (w : World) (hn : -9223372036854775808 ≤ n) (hn' : n ≤ 9223372036854775807) (hT : TabWD w) :
    Calls Tryd.prog 19 #[.int .i64 n] w fun e w' => e = .returned (.int .i64 (wkd n)) ∧ w = w' := by
  have C1 := Lib.hid (isDay_any n w)
  by_cases c : n < 0 ∨ 3652424 < n
  · rw [show wkd n = -1 by unfold wkd; rw [if_pos c]]
    rw [show dayB n = false by unfold dayB; simp; omega] at C1
    clear hT c
    go_enter Tryd.func19, Tryd.ntmps19
    go_wp2_with fail; refine (C1.out).mono ?_; rintro e w' ⟨rfl, rfl⟩
    go_wp2
    go_ret
    exact ⟨rfl, rfl⟩
  · rw [show dayB n = true by unfold dayB; simp; omega] at C1
    have r : n % 7 = 0 ∧ wkd n = 5 ∨ n % 7 = 1 ∧ wkd n = 6 ∨ n % 7 = 2 ∧ wkd n = 0 ∨ n % 7 = 3 ∧ wkd n = 1 ∨ n % 7 = 4 ∧ wkd n = 2 ∨ n % 7 = 5 ∧ wkd n = 3 ∨ n % 7 = 6 ∧ wkd n = 4 := by
      unfold wkd; rw [if_neg c]; omega
    have c2 := md_any n 7 w hn hn' (by omega) (by omega)
    clear c
    rcases r with ⟨r1, r2⟩ | ⟨r1, r2⟩ | ⟨r1, r2⟩ | ⟨r1, r2⟩ | ⟨r1, r2⟩ | ⟨r1, r2⟩ | ⟨r1, r2⟩ <;> rw [r1] at c2 <;> rw [r2] <;> clear r1 r2
    · have k := hT.cell 0 (by omega)
      simp only [List.getD_cons_zero] at k
      have C2 := Lib.hid c2
      clear c2 hT
      go_enter Tryd.func19, Tryd.ntmps19
      go_wp2_with fail; refine (C1.out).mono ?_; rintro e w' ⟨rfl, rfl⟩
      go_wp2_with fail; refine (C2.out).mono ?_; rintro e w' ⟨rfl, rfl⟩
      go_wp2
      go_ret
      exact ⟨rfl, rfl⟩
    · have k := hT.cell 1 (by omega)
      simp only [List.getD_cons_succ, List.getD_cons_zero] at k
      have C2 := Lib.hid c2
      clear c2 hT
      go_enter Tryd.func19, Tryd.ntmps19
      go_wp2_with fail; refine (C1.out).mono ?_; rintro e w' ⟨rfl, rfl⟩
      go_wp2_with fail; refine (C2.out).mono ?_; rintro e w' ⟨rfl, rfl⟩
      go_wp2
      go_ret
      exact ⟨rfl, rfl⟩
    · have k := hT.cell 2 (by omega)
      simp only [List.getD_cons_succ, List.getD_cons_zero] at k
      have C2 := Lib.hid c2
      clear c2 hT
      go_enter Tryd.func19, Tryd.ntmps19
      go_wp2_with fail; refine (C1.out).mono ?_; rintro e w' ⟨rfl, rfl⟩
      go_wp2_with fail; refine (C2.out).mono ?_; rintro e w' ⟨rfl, rfl⟩
      go_wp2
      go_ret
      exact ⟨rfl, rfl⟩
    · have k := hT.cell 3 (by omega)
      simp only [List.getD_cons_succ, List.getD_cons_zero] at k
      have C2 := Lib.hid c2
      clear c2 hT
      go_enter Tryd.func19, Tryd.ntmps19
      go_wp2_with fail; refine (C1.out).mono ?_; rintro e w' ⟨rfl, rfl⟩
      go_wp2_with fail; refine (C2.out).mono ?_; rintro e w' ⟨rfl, rfl⟩
      go_wp2
      go_ret
      exact ⟨rfl, rfl⟩
    · have k := hT.cell 4 (by omega)
      simp only [List.getD_cons_succ, List.getD_cons_zero] at k
      have C2 := Lib.hid c2
      clear c2 hT
      go_enter Tryd.func19, Tryd.ntmps19
      go_wp2_with fail; refine (C1.out).mono ?_; rintro e w' ⟨rfl, rfl⟩
      go_wp2_with fail; refine (C2.out).mono ?_; rintro e w' ⟨rfl, rfl⟩
      go_wp2
      go_ret
      exact ⟨rfl, rfl⟩
    · have k := hT.cell 5 (by omega)
      simp only [List.getD_cons_succ, List.getD_cons_zero] at k
      have C2 := Lib.hid c2
      clear c2 hT
      go_enter Tryd.func19, Tryd.ntmps19
      go_wp2_with fail; refine (C1.out).mono ?_; rintro e w' ⟨rfl, rfl⟩
      go_wp2_with fail; refine (C2.out).mono ?_; rintro e w' ⟨rfl, rfl⟩
      go_wp2
      go_ret
      exact ⟨rfl, rfl⟩
    · have k := hT.cell 6 (by omega)
      simp only [List.getD_cons_succ, List.getD_cons_zero] at k
      have C2 := Lib.hid c2
      clear c2 hT
      go_enter Tryd.func19, Tryd.ntmps19
      go_wp2_with fail; refine (C1.out).mono ?_; rintro e w' ⟨rfl, rfl⟩
      go_wp2_with fail; refine (C2.out).mono ?_; rintro e w' ⟨rfl, rfl⟩
      go_wp2
      go_ret
      exact ⟨rfl, rfl⟩
end Go.Proofs.YtgakcnoafkhkbaaDoor
