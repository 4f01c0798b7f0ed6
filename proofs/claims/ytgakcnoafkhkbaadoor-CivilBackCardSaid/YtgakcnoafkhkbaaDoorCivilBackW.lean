/-
  CivilBack: the walk.
-/
import Derived.Test.YtgakcnoafkhkbaaDoorCivilAw
namespace Go.Proofs.YtgakcnoafkhkbaaDoor
open Go.RowKit
set_option linter.unusedVariables false
set_option maxHeartbeats 1000000 in
theorem civilBack_walk (y m d n : Int) (w : World) (hT : Tabs w) (y1 : -9223372036854775808 ≤ y) (y2 : y ≤ 9223372036854775807) (m1 : -9223372036854775808 ≤ m) (m2 : m ≤ 9223372036854775807)
    (d1 : -9223372036854775808 ≤ d) (d2 : d ≤ 9223372036854775807) (n1 : -9223372036854775808 ≤ n) (n2 : n ≤ 9223372036854775807) :
    Calls Tryd.prog 4 #[.int .i64 y, .int .i64 m, .int .i64 d, .int .i64 n] w fun e w' => e = .returned (.bool true) ∧ w = w' := by
  have c1 := fun w h => number_v y m d w h
  have c2 := fun w h => valid_any y m d w h
  have c3 := fun w h => date_any n w n1 n2 h
  have HT := Lib.hid hT
  clear hT
  rcases Bool.eq_false_or_eq_true (vldB y m d) with v | v
  · have r := num_range v
    have c5 := fun w h => date_any (num y m d) w (by omega) (by omega) h
    rw [dte_of v] at c5
    rw [v, numv_yes v] at c1
    rw [v] at c2
    obtain ⟨a, ha⟩ : ∃ a, a = num y m d := ⟨_, rfl⟩
    rw [← ha] at c1 c5 r
    clear ha
    by_cases c : n < 0 ∨ 3652424 < n
    · rw [dte_no n c] at c3
      have c4 := fun w h => number_v 0 0 0 w h
      rw [show vldB 0 0 0 = false by decide, show numv 0 0 0 = 0 by decide] at c4
      have C1 := Lib.hid c1
      have C2 := Lib.hid c2
      have C3 := Lib.hid c3
      have C4 := Lib.hid c4
      have C5 := Lib.hid c5
      clear c1 c2 c3 c4 c5 v
      by_cases k : n < 0
      · clear c
        go_enter Tryd.func4, Tryd.ntmps4
        go_wp2_with fail; refine ((awake2 _ HT.out)).mono ?_; rintro e w' ⟨rfl, rfl⟩
        go_wp2_with fail; refine ((C1.out _ HT.out.1)).mono ?_; rintro e w' ⟨rfl, rfl⟩
        go_wp2_with fail; refine ((C2.out _ HT.out.1)).mono ?_; rintro e w' ⟨rfl, rfl⟩
        go_wp2_with fail; refine ((C5.out _ HT.out.1)).mono ?_; rintro e w' ⟨rfl, rfl⟩
        go_wp2_with fail; refine ((C3.out _ HT.out.1)).mono ?_; rintro e w' ⟨rfl, rfl⟩
        go_wp2_with fail; refine ((C4.out _ HT.out.1)).mono ?_; rintro e w' ⟨rfl, rfl⟩
        go_wp2
        go_ret
        exact ⟨rfl, rfl⟩
      · have k2 : 3652424 < n := by omega
        clear c
        go_enter Tryd.func4, Tryd.ntmps4
        go_wp2_with fail; refine ((awake2 _ HT.out)).mono ?_; rintro e w' ⟨rfl, rfl⟩
        go_wp2_with fail; refine ((C1.out _ HT.out.1)).mono ?_; rintro e w' ⟨rfl, rfl⟩
        go_wp2_with fail; refine ((C2.out _ HT.out.1)).mono ?_; rintro e w' ⟨rfl, rfl⟩
        go_wp2_with fail; refine ((C5.out _ HT.out.1)).mono ?_; rintro e w' ⟨rfl, rfl⟩
        go_wp2_with fail; refine ((C3.out _ HT.out.1)).mono ?_; rintro e w' ⟨rfl, rfl⟩
        go_wp2_with fail; refine ((C4.out _ HT.out.1)).mono ?_; rintro e w' ⟨rfl, rfl⟩
        go_wp2
        go_ret
        exact ⟨rfl, rfl⟩
    · obtain ⟨e1, e2⟩ := dte_yes n (by omega) (by omega)
      have c4 := fun w h => number_v (dte n).1 (dte n).2.1 (dte n).2.2 w h
      rw [numv_yes e1, e1, e2] at c4
      have k1 : ¬ n < 0 := by omega
      have k2 : ¬ 3652424 < n := by omega
      clear e1 e2 c
      generalize (dte n).1 = p, (dte n).2.1 = q, (dte n).2.2 = u at *
      have C1 := Lib.hid c1
      have C2 := Lib.hid c2
      have C3 := Lib.hid c3
      have C4 := Lib.hid c4
      have C5 := Lib.hid c5
      clear c1 c2 c3 c4 c5 v
      go_enter Tryd.func4, Tryd.ntmps4
      go_wp2_with fail; refine ((awake2 _ HT.out)).mono ?_; rintro e w' ⟨rfl, rfl⟩
      go_wp2_with fail; refine ((C1.out _ HT.out.1)).mono ?_; rintro e w' ⟨rfl, rfl⟩
      go_wp2_with fail; refine ((C2.out _ HT.out.1)).mono ?_; rintro e w' ⟨rfl, rfl⟩
      go_wp2_with fail; refine ((C5.out _ HT.out.1)).mono ?_; rintro e w' ⟨rfl, rfl⟩
      go_wp2_with fail; refine ((C3.out _ HT.out.1)).mono ?_; rintro e w' ⟨rfl, rfl⟩
      go_wp2_with fail; refine ((C4.out _ HT.out.1)).mono ?_; rintro e w' ⟨rfl, rfl⟩
      go_wp2
      go_ret
      exact ⟨rfl, rfl⟩
  · rw [v] at c1 c2
    rw [show numv y m d = 0 by unfold numv; rw [v]; rfl] at c1
    by_cases c : n < 0 ∨ 3652424 < n
    · rw [dte_no n c] at c3
      have c4 := fun w h => number_v 0 0 0 w h
      rw [show vldB 0 0 0 = false by decide, show numv 0 0 0 = 0 by decide] at c4
      have C1 := Lib.hid c1
      have C2 := Lib.hid c2
      have C3 := Lib.hid c3
      have C4 := Lib.hid c4
      clear c1 c2 c3 c4 v
      by_cases k : n < 0
      · clear c
        go_enter Tryd.func4, Tryd.ntmps4
        go_wp2_with fail; refine ((awake2 _ HT.out)).mono ?_; rintro e w' ⟨rfl, rfl⟩
        go_wp2_with fail; refine ((C1.out _ HT.out.1)).mono ?_; rintro e w' ⟨rfl, rfl⟩
        go_wp2_with fail; refine ((C2.out _ HT.out.1)).mono ?_; rintro e w' ⟨rfl, rfl⟩
        go_wp2_with fail; refine ((C3.out _ HT.out.1)).mono ?_; rintro e w' ⟨rfl, rfl⟩
        go_wp2_with fail; refine ((C4.out _ HT.out.1)).mono ?_; rintro e w' ⟨rfl, rfl⟩
        go_wp2
        go_ret
        exact ⟨rfl, rfl⟩
      · have k2 : 3652424 < n := by omega
        clear c
        go_enter Tryd.func4, Tryd.ntmps4
        go_wp2_with fail; refine ((awake2 _ HT.out)).mono ?_; rintro e w' ⟨rfl, rfl⟩
        go_wp2_with fail; refine ((C1.out _ HT.out.1)).mono ?_; rintro e w' ⟨rfl, rfl⟩
        go_wp2_with fail; refine ((C2.out _ HT.out.1)).mono ?_; rintro e w' ⟨rfl, rfl⟩
        go_wp2_with fail; refine ((C3.out _ HT.out.1)).mono ?_; rintro e w' ⟨rfl, rfl⟩
        go_wp2_with fail; refine ((C4.out _ HT.out.1)).mono ?_; rintro e w' ⟨rfl, rfl⟩
        go_wp2
        go_ret
        exact ⟨rfl, rfl⟩
    · obtain ⟨e1, e2⟩ := dte_yes n (by omega) (by omega)
      have c4 := fun w h => number_v (dte n).1 (dte n).2.1 (dte n).2.2 w h
      rw [numv_yes e1, e1, e2] at c4
      have k1 : ¬ n < 0 := by omega
      have k2 : ¬ 3652424 < n := by omega
      clear e1 e2 c
      generalize (dte n).1 = p, (dte n).2.1 = q, (dte n).2.2 = u at *
      have C1 := Lib.hid c1
      have C2 := Lib.hid c2
      have C3 := Lib.hid c3
      have C4 := Lib.hid c4
      clear c1 c2 c3 c4 v
      go_enter Tryd.func4, Tryd.ntmps4
      go_wp2_with fail; refine ((awake2 _ HT.out)).mono ?_; rintro e w' ⟨rfl, rfl⟩
      go_wp2_with fail; refine ((C1.out _ HT.out.1)).mono ?_; rintro e w' ⟨rfl, rfl⟩
      go_wp2_with fail; refine ((C2.out _ HT.out.1)).mono ?_; rintro e w' ⟨rfl, rfl⟩
      go_wp2_with fail; refine ((C3.out _ HT.out.1)).mono ?_; rintro e w' ⟨rfl, rfl⟩
      go_wp2_with fail; refine ((C4.out _ HT.out.1)).mono ?_; rintro e w' ⟨rfl, rfl⟩
      go_wp2
      go_ret
      exact ⟨rfl, rfl⟩
end Go.Proofs.YtgakcnoafkhkbaaDoor
