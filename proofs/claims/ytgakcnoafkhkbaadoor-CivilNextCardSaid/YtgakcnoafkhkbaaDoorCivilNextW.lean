/-
  CivilNext: the walk.
-/
import Derived.Test.YtgakcnoafkhkbaaDoorCivilAw
import Derived.Test.YtgakcnoafkhkbaaDoorMask
namespace Go.Proofs.YtgakcnoafkhkbaaDoor
open Go.RowKit
set_option linter.unusedVariables false
theorem next_date {n : Int} (h : 0 ≤ n) (h' : n < 3652424) {p q r : Int} (e : dte n = (p, q, r)) :
    vldB p q r = true ∧ (r < dim p q → dte (n + 1) = (p, q, r + 1)) ∧ (¬ r < dim p q → q < 12 → dte (n + 1) = (p, q + 1, 1)) ∧ (¬ r < dim p q → ¬ q < 12 → dte (n + 1) = (p + 1, 1, 1)) := by
  obtain ⟨a, b⟩ := dte_yes n h (by omega)
  rw [e] at a b
  simp only at a b
  have v := vld_bd a
  refine ⟨a, fun c => ?_, fun c d => ?_, fun c d => ?_⟩
  · exact dte_eq ((vld_iff _ _ _).2 ⟨by omega, by omega, by omega, by omega⟩) (by unfold num at b ⊢; omega)
  · have s := cum_succ p q (by omega) (by omega)
    have dp := dim_pos p (q + 1) (by omega) (by omega)
    exact dte_eq ((vld_iff _ _ _).2 ⟨by omega, by omega, by omega, by omega⟩) (by unfold num at b ⊢; omega)
  · have q12 : q = 12 := by omega
    subst q12
    have s := cum_succ p 12 (by omega) (by omega)
    have s2 := sty_succ p (by omega)
    have o := cum_one (p + 1)
    have d1 : dim (p + 1) 1 = 31 := by unfold dim; simp
    have e13 : (12 : Int) + 1 = 13 := by omega
    rw [e13] at s
    have p9 : p ≠ 9999 := by
      rintro rfl
      have := sty_max
      simp at s2
      unfold num at b; omega
    exact dte_eq ((vld_iff _ _ _).2 ⟨by omega, by omega, by omega, by omega⟩) (by unfold num at b ⊢; omega)
theorem wkd_next {n : Int} (h : 0 ≤ n) (h' : n < 3652424) : wkd (n + 1) = (wkd n + 1) % 7 ∧ 0 ≤ wkd n ∧ wkd n ≤ 6 := by
  unfold wkd; rw [if_neg (by omega), if_neg (by omega)]; omega
set_option maxHeartbeats 1000000 in
theorem civilNext_walk (k : Int) (w : World) (hT : Tabs w) (k1 : -9223372036854775808 ≤ k) (k2 : k ≤ 9223372036854775807) :
    Calls Tryd.prog 5 #[.int .i64 k] w fun e w' => e = .returned (.bool true) ∧ w = w' := by
  have a := and22 k
  obtain ⟨n, hn⟩ : ∃ n, n = k % 4194304 := ⟨_, rfl⟩
  rw [← hn] at a
  have n1 : 0 ≤ n := by omega
  have n2 : n ≤ 4194303 := by omega
  have HT := Lib.hid hT
  clear hT hn
  have c1 := fun w h => weekday_any (n + 1) w (by omega) (by omega) h
  by_cases c : 3652424 ≤ n
  · rw [show wkd (n + 1) = -1 by unfold wkd; rw [if_pos (by omega)]] at c1
    have C1 := Lib.hid c1
    clear c1
    go_enter Tryd.func5, Tryd.ntmps5
    go_wp2_with fail; refine ((awake2 _ HT.out)).mono ?_; rintro e w' ⟨rfl, rfl⟩
    go_wp2_with fail; refine ((C1.out _ HT.out.2)).mono ?_; rintro e w' ⟨rfl, rfl⟩
    go_wp2
    go_ret
    exact ⟨rfl, rfl⟩
  · obtain ⟨wn, w0, w6⟩ := wkd_next n1 (show n < 3652424 by omega)
    have c2 := fun w h => weekday_any n w (by omega) (by omega) h
    have c3 := fun w h => date_any n w (by omega) (by omega) h
    have c4 := fun w h => date_any (n + 1) w (by omega) (by omega) h
    obtain ⟨p, q, r, e⟩ : ∃ p q r, dte n = (p, q, r) := ⟨_, _, _, rfl⟩
    obtain ⟨v, f1, f2, f3⟩ := next_date n1 (show n < 3652424 by omega) e
    have vb := vld_bd v
    have c5 := fun w h => days_any p q w h
    rw [e] at c3
    rw [wn] at c1
    clear wn e v
    generalize wkd n = u at *
    by_cases g : r < dim p q
    · rw [f1 g] at c4
      clear f1 f2 f3
      generalize dim p q = D at *
      have C1 := Lib.hid c1
      have C2 := Lib.hid c2
      have C3 := Lib.hid c3
      have C4 := Lib.hid c4
      have C5 := Lib.hid c5
      clear c1 c2 c3 c4 c5
      go_enter Tryd.func5, Tryd.ntmps5
      go_wp2_with fail; refine ((awake2 _ HT.out)).mono ?_; rintro e w' ⟨rfl, rfl⟩
      go_wp2_with fail; refine ((C3.out _ HT.out.1)).mono ?_; rintro e w' ⟨rfl, rfl⟩
      go_wp2_with fail; refine ((C4.out _ HT.out.1)).mono ?_; rintro e w' ⟨rfl, rfl⟩
      go_wp2_with fail; refine ((C1.out _ HT.out.2)).mono ?_; rintro e w' ⟨rfl, rfl⟩
      go_wp2_with fail; refine ((C2.out _ HT.out.2)).mono ?_; rintro e w' ⟨rfl, rfl⟩
      go_wp2_with fail; refine ((C5.out _ HT.out.1)).mono ?_; rintro e w' ⟨rfl, rfl⟩
      go_wp2
      go_ret
      exact ⟨rfl, rfl⟩
    · by_cases q12 : q < 12
      · rw [f2 g q12] at c4
        clear f1 f2 f3
        generalize dim p q = D at *
        have C1 := Lib.hid c1
        have C2 := Lib.hid c2
        have C3 := Lib.hid c3
        have C4 := Lib.hid c4
        have C5 := Lib.hid c5
        clear c1 c2 c3 c4 c5
        go_enter Tryd.func5, Tryd.ntmps5
        go_wp2_with fail; refine ((awake2 _ HT.out)).mono ?_; rintro e w' ⟨rfl, rfl⟩
        go_wp2_with fail; refine ((C3.out _ HT.out.1)).mono ?_; rintro e w' ⟨rfl, rfl⟩
        go_wp2_with fail; refine ((C4.out _ HT.out.1)).mono ?_; rintro e w' ⟨rfl, rfl⟩
        go_wp2_with fail; refine ((C1.out _ HT.out.2)).mono ?_; rintro e w' ⟨rfl, rfl⟩
        go_wp2_with fail; refine ((C2.out _ HT.out.2)).mono ?_; rintro e w' ⟨rfl, rfl⟩
        go_wp2_with fail; refine ((C5.out _ HT.out.1)).mono ?_; rintro e w' ⟨rfl, rfl⟩
        go_wp2
        go_ret
        exact ⟨rfl, rfl⟩
      · rw [f3 g q12] at c4
        clear f1 f2 f3
        generalize dim p q = D at *
        have C1 := Lib.hid c1
        have C2 := Lib.hid c2
        have C3 := Lib.hid c3
        have C4 := Lib.hid c4
        have C5 := Lib.hid c5
        clear c1 c2 c3 c4 c5
        go_enter Tryd.func5, Tryd.ntmps5
        go_wp2_with fail; refine ((awake2 _ HT.out)).mono ?_; rintro e w' ⟨rfl, rfl⟩
        go_wp2_with fail; refine ((C3.out _ HT.out.1)).mono ?_; rintro e w' ⟨rfl, rfl⟩
        go_wp2_with fail; refine ((C4.out _ HT.out.1)).mono ?_; rintro e w' ⟨rfl, rfl⟩
        go_wp2_with fail; refine ((C1.out _ HT.out.2)).mono ?_; rintro e w' ⟨rfl, rfl⟩
        go_wp2_with fail; refine ((C2.out _ HT.out.2)).mono ?_; rintro e w' ⟨rfl, rfl⟩
        go_wp2_with fail; refine ((C5.out _ HT.out.1)).mono ?_; rintro e w' ⟨rfl, rfl⟩
        go_wp2
        go_ret
        exact ⟨rfl, rfl⟩
end Go.Proofs.YtgakcnoafkhkbaaDoor
