/-
  Contracts of the document's own answers for layer 2.
-/
import Derived.Test.YtfopcacoacedcaaDoorCivilB
namespace Go.Proofs.YtfopcacoacedcaaDoor
open Go.RowKit
set_option linter.unusedVariables false

set_option maxHeartbeats 400000 in
theorem rleap_any (y : Int) (w : World) :
    Calls Tryd.prog 45 #[.int .i64 y] w fun e w' => e = .returned (.bool (lpB y)) ∧ w = w' := by
  have K : Hid (lpB y = ((y % 4 == 0) && !(y % 100 == 0) || (y % 400 == 0))) := by
    unfold Hid lpB; rw [Bool.eq_iff_iff]; simp
  have t1 := tmod_beq y 4
  have t2 := tmod_beq y 100
  have t3 := tmod_beq y 400
  rcases Bool.eq_false_or_eq_true (y % 4 == 0) with h1 | h1 <;> rcases Bool.eq_false_or_eq_true (y % 100 == 0) with h2 | h2 <;> rcases Bool.eq_false_or_eq_true (y % 400 == 0) with h3 | h3
  all_goals
    have L := K.out
    clear K
    rw [h1, h2, h3] at L
    rw [L]
    clear L
    rw [h1] at t1
    rw [h2] at t2
    rw [h3] at t3
    have t2' : (y.tmod 100 != 0) = !(y.tmod 100 == 0) := rfl
    rw [t2] at t2'
    have h2' : (y % 100 != 0) = !(y % 100 == 0) := rfl
    rw [h2] at h2'
    simp only [Bool.not_true, Bool.not_false] at t2' h2'
    go_enter Tryd.func45, Tryd.ntmps45
    go_wp2
    go_ret
    exact ⟨rfl, rfl⟩

set_option maxHeartbeats 1000000 in
theorem rdays_any (y m : Int) (w : World) :
    Calls Tryd.prog 34 #[.int .i64 y, .int .i64 m] w fun e w' => e = .returned (.int .i64 (dim y m)) ∧ w = w' := by
  by_cases h1 : m < 1 ∨ 12 < m
  · rw [show dim y m = 0 by unfold dim; rw [if_pos (by omega)]]
    have e1 : (m == 1) = false := by simp; omega
    have e2 : (m == 2) = false := by simp; omega
    have e3 : (m == 3) = false := by simp; omega
    have e4 : (m == 4) = false := by simp; omega
    have e5 : (m == 5) = false := by simp; omega
    have e6 : (m == 6) = false := by simp; omega
    have e7 : (m == 7) = false := by simp; omega
    have e8 : (m == 8) = false := by simp; omega
    have e9 : (m == 9) = false := by simp; omega
    have e10 : (m == 10) = false := by simp; omega
    have e11 : (m == 11) = false := by simp; omega
    have e12 : (m == 12) = false := by simp; omega
    clear h1
    go_enter Tryd.func34, Tryd.ntmps34
    go_wp2
    go_ret
    exact ⟨rfl, rfl⟩
  have : m = 2 ∨ m = 1 ∨ m = 3 ∨ m = 4 ∨ m = 5 ∨ m = 6 ∨ m = 7 ∨ m = 8 ∨ m = 9 ∨ m = 10 ∨ m = 11 ∨ m = 12 := by omega
  clear h1
  rcases this with rfl | rfl | rfl | rfl | rfl | rfl | rfl | rfl | rfl | rfl | rfl | rfl
  · rcases Bool.eq_false_or_eq_true (lpB y) with l | l
    · rw [show dim y 2 = 29 by unfold dim; simp [l]]
      have C := rleap_any y
      rw [l] at C
      have C1 := Lib.hid C
      clear C l
      go_enter Tryd.func34, Tryd.ntmps34
      go_wp2_with fail; refine ((C1.out _)).mono ?_; rintro e w' ⟨rfl, rfl⟩
      go_wp2
      go_ret
      exact ⟨rfl, rfl⟩
    · rw [show dim y 2 = 28 by unfold dim; simp [l]]
      have C := rleap_any y
      rw [l] at C
      have C1 := Lib.hid C
      clear C l
      go_enter Tryd.func34, Tryd.ntmps34
      go_wp2_with fail; refine ((C1.out _)).mono ?_; rintro e w' ⟨rfl, rfl⟩
      go_wp2
      go_ret
      exact ⟨rfl, rfl⟩
  all_goals
    simp only [dim]
    go_enter Tryd.func34, Tryd.ntmps34
    go_wp2
    go_ret
    exact ⟨by simp, rfl⟩

set_option maxHeartbeats 400000 in
theorem rvalid_any (y m d : Int) (w : World) :
    Calls Tryd.prog 32 #[.int .i64 y, .int .i64 m, .int .i64 d] w fun e w' => e = .returned (.bool (vldB y m d)) ∧ w = w' := by
  have C1 := Lib.hid (rdays_any y m w)
  have K : Hid (vldB y m d = decide (0 ≤ y ∧ y ≤ 9999 ∧ 1 ≤ d ∧ d ≤ dim y m)) := rfl
  generalize vldB y m d = v, dim y m = D at *
  go_enter Tryd.func32, Tryd.ntmps32
  go_wp2_with (go_at_call 34; refine C1.out.mono ?_; rintro e w' ⟨rfl, rfl⟩)
  all_goals go_ret
  all_goals refine ⟨?_, rfl⟩
  all_goals refine ret_bool ?_
  all_goals rw [K.out, Bool.eq_iff_iff]
  all_goals simp
  all_goals try omega

set_option maxHeartbeats 400000 in
theorem rstart_any (y : Int) (w : World) (h : 0 ≤ y) (h' : y ≤ 1000000) :
    Calls Tryd.prog 33 #[.int .i64 y] w fun e w' => e = .returned (.int .i64 (sty y)) ∧ w = w' := by
  go_enter Tryd.func33, Tryd.ntmps33
  go_wp2
  go_ret
  exact ⟨rfl, rfl⟩

set_option maxHeartbeats 400000 in
theorem rnumber_any (y m d : Int) (w : World) :
    Calls Tryd.prog 22 #[.int .i64 y, .int .i64 m, .int .i64 d] w fun e w' => e = .returned (.tuple #[.int .i64 (if vldB y m d then num y m d else 0), .bool (vldB y m d)]) ∧ w = w' := by
  have C1 := Lib.hid (rvalid_any y m d w)
  rcases Bool.eq_false_or_eq_true (vldB y m d) with v | v
  · obtain ⟨h1, h2, h3, h4, h5, h6, h7⟩ := vld_bd v
    have b1 := sty_bd y h1 (by omega)
    rw [v] at C1 ⊢
    have K : Hid (sty y + cum y m + d - 1 = num y m d) := rfl
    rw [if_pos rfl]
    have C2 := Lib.hid (rstart_any y w h1 (by omega))
    clear v h7
    go_enter Tryd.func22, Tryd.ntmps22
    go_wp2_with fail; refine (C1.out).mono ?_; rintro e w' ⟨rfl, rfl⟩
    go_wp2_with fail; refine (C2.out).mono ?_; rintro e w' ⟨rfl, rfl⟩
    go_wp2
    go_loop [8, 9] (fun s i => ∃ k : Int, 1 ≤ k ∧ k ≤ m ∧ i = .int .i64 k ∧ s = .int .i64 (sty y + d - 1 + cum y k)) (fun _ i => (13 - intOf i).toNat)
    case atStart => exact ⟨1, by omega, by omega, rfl, by rw [cum_one]; simp⟩
    case round =>
      obtain ⟨k, hk, hk', rfl, rfl⟩ := hrel
      have d1 := dim_bd y k
      have c1 := cum_bd y k
      by_cases hlt : k < m
      · go_wp2_with (go_at_call 34; refine (rdays_any _ _ _).mono ?_; rintro e w' ⟨rfl, rfl⟩)
        go_round
        case rel => exact ⟨k + 1, by omega, by omega, rfl, by rw [cum_succ y k hk (by omega)]; go_num⟩
        case measure => simp [intOf]; omega
      · go_wp2
        go_ret2
        exact ⟨ret_two (by have h := K.out; rw [show k = m by omega]; omega) rfl, rfl⟩
  · rw [v] at C1 ⊢
    clear v
    go_enter Tryd.func22, Tryd.ntmps22
    go_wp2_with fail; refine (C1.out).mono ?_; rintro e w' ⟨rfl, rfl⟩
    go_wp2
    go_ret2
    exact ⟨rfl, rfl⟩

theorem guess_le (n : Int) (h : 0 ≤ n) (h' : n ≤ 3652424) : sty (n / 366) ≤ n ∧ 0 ≤ n / 366 ∧ n / 366 ≤ 9999 := by unfold sty; omega
set_option maxHeartbeats 400000 in
theorem rdate_any (n : Int) (w : World) (hn : -9223372036854775808 ≤ n) (hn' : n ≤ 9223372036854775807) :
    Calls Tryd.prog 25 #[.int .i64 n] w fun e w' => e = .returned (.tuple #[.int .i64 (dte n).1, .int .i64 (dte n).2.1, .int .i64 (dte n).2.2]) ∧ w = w' := by
  by_cases c : n < 0 ∨ 3652424 < n
  · rw [dte_no n c]
    by_cases c1 : n < 0
    · clear c
      go_enter Tryd.func25, Tryd.ntmps25
      go_wp2
      go_ret3
      exact ⟨rfl, rfl⟩
    · have c2 : 3652424 < n := by omega
      clear c
      go_enter Tryd.func25, Tryd.ntmps25
      go_wp2
      go_ret3
      exact ⟨rfl, rfl⟩
  · obtain ⟨g1, g2, g3⟩ := guess_le n (by omega) (by omega)
    have c1 : ¬ n < 0 := by omega
    have c2 : ¬ 3652424 < n := by omega
    clear c
    go_enter Tryd.func25, Tryd.ntmps25
    go_wp2
    go_loop [5] (fun t => ∃ y : Int, 0 ≤ y ∧ y ≤ 9999 ∧ sty y ≤ n ∧ t = .int .i64 y) (fun t => (9999 - intOf t).toNat)
    case atStart => exact ⟨_, g2, g3, g1, rfl⟩
    case round =>
      clear g1 g2 g3
      obtain ⟨y, y1, y2, y3, rfl⟩ := hrel
      have b2 := sty_bd (y + 1) (by omega) (by omega)
      by_cases hd : sty (y + 1) ≤ n
      · have z9 : y ≠ 9999 := by rintro rfl; have := sty_max; simp at hd; omega
        go_wp2_with (go_at_call 33; refine (rstart_any _ _ (by omega) (by omega)).mono ?_; rintro e w' ⟨rfl, rfl⟩)
        go_round
        case rel => exact ⟨y + 1, by omega, by omega, hd, rfl⟩
        case measure => simp [intOf]; omega
      · have s1 := sty_succ y y1
        have b1 := sty_bd y (by omega) (by omega)
        have k13 := cum_bd y 13
        have y4 : n < sty y + cum y 13 := by omega
        clear s1
        go_wp2_with (go_at_call 33; refine (rstart_any _ _ (by omega) (by omega)).mono ?_; rintro e w' ⟨rfl, rfl⟩)
        go_loop [6, 7] (fun r k => ∃ m : Int, 1 ≤ m ∧ m ≤ 12 ∧ k = .int .i64 m ∧ 0 ≤ n - sty y - cum y m ∧ r = .int .i64 (n - sty y - cum y m)) (fun _ k => (12 - intOf k).toNat)
        case atStart => exact ⟨1, by omega, by omega, rfl, by rw [cum_one]; omega, by rw [cum_one]; simp⟩
        case round =>
          clear hd b2
          obtain ⟨m, m1, m2, rfl, hr, rfl⟩ := hrel
          have cb := cum_bd y m
          have db := dim_bd y m
          by_cases hd : dim y m ≤ n - sty y - cum y m
          · have cs := cum_succ y m m1 m2
            have m12 : m ≠ 12 := by rintro rfl; simp at cs; omega
            have CS := Lib.hid cs
            clear cs
            go_wp2_with (go_at_call 34; refine (rdays_any _ _ _).mono ?_; rintro e w' ⟨rfl, rfl⟩)
            go_round
            case rel => exact ⟨m + 1, by omega, by omega, rfl, by rw [CS.out]; omega, by rw [CS.out]; go_num⟩
            case measure => simp [intOf]; omega
          · have K := Lib.hid (dte_at y1 y2 m1 m2 hr (by omega))
            go_wp2_with (go_at_call 34; refine (rdays_any _ _ _).mono ?_; rintro e w' ⟨rfl, rfl⟩)
            go_ret3
            exact ⟨ret_three (by rw [K.out]) (by rw [K.out]) (by rw [K.out]), rfl⟩

end Go.Proofs.YtfopcacoacedcaaDoor
