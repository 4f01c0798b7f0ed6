/-
  Contracts of package civil: Number, Date, Weekday, and what they call.
-/
import Derived.Test.YtfopcacoacedcaaDoorCivilA
import Derived.LoopTactic
namespace Go.Proofs.YtfopcacoacedcaaDoor
open Go.RowKit
set_option linter.unusedVariables false

theorem fl_any (a b : Int) (w : World) (ha : -9223372036854775808 ≤ a) (ha' : a ≤ 9223372036854775807) (hb : 1 ≤ b) (hb' : b ≤ 9223372036854775807) :
    Calls Tryd.prog 46 #[.int .i64 a, .int .i64 b] w fun e w' => e = .returned (.int .i64 (a / b)) ∧ w = w' := by
  have c := floor_any a b w ha ha' (by omega) hb'
  rw [show flr a b = a / b by unfold flr; rw [if_neg (by omega)]] at c
  exact c

set_option maxHeartbeats 400000 in
theorem ahead_any (y : Int) (w : World) (h : 0 ≤ y) (h' : y ≤ 1000000) :
    Calls Tryd.prog 37 #[.int .i64 y] w fun e w' => e = .returned (.int .i64 (sty y)) ∧ w = w' := by
  have K : Hid (365 * y + ((y - 1) / 4 - (y - 1) / 100 + (y - 1) / 400 + 1) = sty y) := sty_floor y
  go_enter Tryd.func37, Tryd.ntmps37
  go_wp2_with fail; refine ((fl_any _ _ _ (by omega) (by omega) (by omega) (by omega))).mono ?_; rintro e w' ⟨rfl, rfl⟩
  go_wp2_with fail; refine ((fl_any _ _ _ (by omega) (by omega) (by omega) (by omega))).mono ?_; rintro e w' ⟨rfl, rfl⟩
  go_wp2_with fail; refine ((fl_any _ _ _ (by omega) (by omega) (by omega) (by omega))).mono ?_; rintro e w' ⟨rfl, rfl⟩
  go_wp2
  go_ret
  exact ⟨ret_int (by rw [← K.out]), rfl⟩

set_option maxHeartbeats 400000 in
theorem aheadm_any (y m : Int) (w : World) (h : 1 ≤ m) (h' : m ≤ 13) (hT : TabMD w) :
    Calls Tryd.prog 48 #[.int .i64 y, .int .i64 m] w fun e w' => e = .returned (.int .i64 (cum y m)) ∧ w = w' := by
  have HT := Lib.hid hT
  clear hT
  go_enter Tryd.func48, Tryd.ntmps48
  go_wp2
  go_loop [5, 6] (fun s i => ∃ k : Int, 1 ≤ k ∧ k ≤ m ∧ i = .int .i64 k ∧ s = .int .i64 (cum y k)) (fun _ i => (13 - intOf i).toNat)
  case atStart => exact ⟨1, by omega, by omega, rfl, by rw [cum_one]⟩
  case round =>
    obtain ⟨k, hk, hk', rfl, rfl⟩ := hrel
    have d1 := dim_bd y k
    have c1 := cum_bd y k
    by_cases hlt : k < m
    · go_wp2_with (go_at_call 18; refine (days_any _ _ _ HT.out).mono ?_; rintro e w' ⟨rfl, rfl⟩)
      go_round
      case rel => exact ⟨k + 1, by omega, by omega, rfl, by rw [cum_succ y k hk (by omega)]⟩
      case measure => simp [intOf]; omega
    · go_wp2
      go_ret
      exact ⟨ret_int (by rw [show k = m by omega]), rfl⟩

set_option maxHeartbeats 400000 in
theorem number_any (y m d : Int) (w : World) (hT : TabMD w) :
    Calls Tryd.prog 44 #[.int .i64 y, .int .i64 m, .int .i64 d] w fun e w' => e = .returned (.tuple #[.int .i64 (if vldB y m d then num y m d else 0), .bool (vldB y m d)]) ∧ w = w' := by
  have C1 := Lib.hid (valid_any y m d w hT)
  rcases Bool.eq_false_or_eq_true (vldB y m d) with v | v
  · obtain ⟨h1, h2, h3, h4, h5, h6, h7⟩ := vld_bd v
    have b1 := sty_bd y h1 (by omega)
    have b2 := cum_bd y m
    rw [v] at C1 ⊢
    have K : Hid (sty y + cum y m + d - 1 = if (true = true) then num y m d else 0) := by unfold Hid num; rw [if_pos rfl]
    have C2 := Lib.hid (ahead_any y w h1 (by omega))
    have C3 := Lib.hid (aheadm_any y m w h3 (by omega) hT)
    clear v h7 hT
    generalize sty y = s, cum y m = c at *
    go_enter Tryd.func44, Tryd.ntmps44
    go_wp2_with fail; refine (C1.out).mono ?_; rintro e w' ⟨rfl, rfl⟩
    go_wp2_with fail; refine (C2.out).mono ?_; rintro e w' ⟨rfl, rfl⟩
    go_wp2_with fail; refine (C3.out).mono ?_; rintro e w' ⟨rfl, rfl⟩
    go_wp2
    go_ret2
    exact ⟨ret_two K.out rfl, rfl⟩
  · rw [v] at C1 ⊢
    clear v hT
    go_enter Tryd.func44, Tryd.ntmps44
    go_wp2_with fail; refine (C1.out).mono ?_; rintro e w' ⟨rfl, rfl⟩
    go_wp2
    go_ret2
    exact ⟨rfl, rfl⟩

def dayB (n : Int) : Bool := decide (0 ≤ n ∧ n ≤ 3652424)
theorem isDay_any (n : Int) (w : World) :
    Calls Tryd.prog 35 #[.int .i64 n] w fun e w' => e = .returned (.bool (dayB n)) ∧ w = w' := by
  go_enter Tryd.func35, Tryd.ntmps35
  go_wp2
  all_goals go_ret
  all_goals refine ⟨ret_bool ?_, rfl⟩
  all_goals unfold dayB; rw [Bool.eq_iff_iff]
  all_goals simp
  all_goals try omega

def IsYear (n : Int) (w : World) (e : Ending) (w' : World) : Prop := ∃ y : Int, e = .returned (.int .i64 y) ∧ 0 ≤ y ∧ y ≤ 9999 ∧ sty y ≤ n ∧ n < sty (y + 1) ∧ w = w'
set_option maxHeartbeats 400000 in
theorem yearOf_any (n : Int) (w : World) (h : 0 ≤ n) (h' : n ≤ 3652424) :
    Calls Tryd.prog 36 #[.int .i64 n] w (IsYear n w) := by
  go_enter Tryd.func36, Tryd.ntmps36
  go_wp2_with fail; refine ((fl_any _ _ _ (by omega) (by omega) (by omega) (by omega))).mono ?_; rintro e w' ⟨rfl, rfl⟩
  go_wp2
  go_loop [3] (fun t => ∃ y : Int, 0 ≤ y ∧ y ≤ 9999 ∧ t = .int .i64 y) (fun t => (intOf t).toNat)
  case atStart => exact ⟨_, by omega, by omega, rfl⟩
  case round =>
    obtain ⟨y, hy1, hy2, rfl⟩ := hrel
    have b1 := sty_bd y hy1 (by omega)
    by_cases hc : n < sty y
    · go_wp2_with (go_at_call 37; refine (ahead_any _ _ (by omega) (by omega)).mono ?_; rintro e w' ⟨rfl, rfl⟩)
      have y0 : y ≠ 0 := by rintro rfl; rw [sty_0] at hc; omega
      go_round
      case rel => exact ⟨y - 1, by omega, by omega, rfl⟩
      case measure => simp [intOf]; omega
    · go_wp2_with (go_at_call 37; refine (ahead_any _ _ (by omega) (by omega)).mono ?_; rintro e w' ⟨rfl, rfl⟩)
      go_loop [3] (fun t => ∃ y : Int, 0 ≤ y ∧ y ≤ 9999 ∧ sty y ≤ n ∧ t = .int .i64 y) (fun t => (9999 - intOf t).toNat)
      case atStart => exact ⟨y, by omega, by omega, by omega, rfl⟩
      case round =>
        clear b1 hc
        obtain ⟨z, hz1, hz2, hz3, rfl⟩ := hrel
        have b2 := sty_bd (z + 1) (by omega) (by omega)
        by_cases hd : sty (z + 1) ≤ n
        · have z9 : z ≠ 9999 := by rintro rfl; have := sty_max; simp at hd; omega
          go_wp2_with (go_at_call 37; refine (ahead_any _ _ (by omega) (by omega)).mono ?_; rintro e w' ⟨rfl, rfl⟩)
          go_round
          case rel => exact ⟨z + 1, by omega, by omega, hd, rfl⟩
          case measure => simp [intOf]; omega
        · go_wp2_with (go_at_call 37; refine (ahead_any _ _ (by omega) (by omega)).mono ?_; rintro e w' ⟨rfl, rfl⟩)
          go_ret
          exact ⟨z, rfl, hz1, hz2, hz3, by omega, rfl⟩

theorem ret_three {a b c a' b' c' : Int} (h : a = a') (g : b = b') (k : c = c') : Ending.returned (.tuple #[.int .i64 a, .int .i64 b, .int .i64 c]) = .returned (.tuple #[.int .i64 a', .int .i64 b', .int .i64 c']) := by rw [h, g, k]
theorem dte_at {n y m : Int} (h1 : 0 ≤ y) (h2 : y ≤ 9999) (h3 : 1 ≤ m) (h4 : m ≤ 12) (h5 : 0 ≤ n - sty y - cum y m) (h6 : n - sty y - cum y m < dim y m) : dte n = (y, m, n - sty y - cum y m + 1) :=
  dte_eq ((vld_iff _ _ _).2 ⟨h1, h2, by omega, by omega⟩) (by unfold num; omega)

set_option maxHeartbeats 400000 in
theorem date_any (n : Int) (w : World) (hn : -9223372036854775808 ≤ n) (hn' : n ≤ 9223372036854775807) (hT : TabMD w) :
    Calls Tryd.prog 23 #[.int .i64 n] w fun e w' => e = .returned (.tuple #[.int .i64 (dte n).1, .int .i64 (dte n).2.1, .int .i64 (dte n).2.2]) ∧ w = w' := by
  have C1 := Lib.hid (isDay_any n w)
  by_cases c : n < 0 ∨ 3652424 < n
  · rw [dte_no n c]
    rw [show dayB n = false by unfold dayB; simp; omega] at C1
    clear hT c
    go_enter Tryd.func23, Tryd.ntmps23
    go_wp2_with fail; refine (C1.out).mono ?_; rintro e w' ⟨rfl, rfl⟩
    go_wp2
    go_ret3
    exact ⟨rfl, rfl⟩
  · rw [show dayB n = true by unfold dayB; simp; omega] at C1
    have HT := Lib.hid hT
    clear hT
    go_enter Tryd.func23, Tryd.ntmps23
    go_wp2_with fail; refine (C1.out).mono ?_; rintro e w' ⟨rfl, rfl⟩
    go_wp2_with fail
    refine (yearOf_any n _ (by omega) (by omega)).mono ?_
    rintro e w' ⟨y, rfl, y1, y2, y3, y4, rfl⟩
    have s1 := sty_succ y y1
    have b1 := sty_bd y (by omega) (by omega)
    have k13 := cum_bd y 13
    rw [s1] at y4
    clear s1 c
    go_wp2_with fail; refine ((ahead_any _ _ (by omega) (by omega))).mono ?_; rintro e w' ⟨rfl, rfl⟩
    go_wp2
    go_loop [0, 6] (fun r k => ∃ m : Int, 1 ≤ m ∧ m ≤ 12 ∧ k = .int .i64 m ∧ 0 ≤ n - sty y - cum y m ∧ r = .int .i64 (n - sty y - cum y m)) (fun _ k => (12 - intOf k).toNat)
    case atStart => exact ⟨1, by omega, by omega, rfl, by rw [cum_one]; omega, by rw [cum_one]; simp⟩
    case round =>
      obtain ⟨m, m1, m2, rfl, hr, rfl⟩ := hrel
      have cb := cum_bd y m
      have db := dim_bd y m
      by_cases hd : dim y m ≤ n - sty y - cum y m
      · have cs := cum_succ y m m1 m2
        have m12 : m ≠ 12 := by rintro rfl; simp at cs; omega
        have CS := Lib.hid cs
        clear cs
        go_wp2_with (go_at_call 18; refine (days_any _ _ _ HT.out).mono ?_; rintro e w' ⟨rfl, rfl⟩)
        go_round
        case rel => exact ⟨m + 1, by omega, by omega, rfl, by rw [CS.out]; omega, by rw [CS.out]; go_num⟩
        case measure => simp [intOf]; omega
      · have K := Lib.hid (dte_at y1 y2 m1 m2 hr (by omega))
        go_wp2_with (go_at_call 18; refine (days_any _ _ _ HT.out).mono ?_; rintro e w' ⟨rfl, rfl⟩)
        go_ret3
        exact ⟨ret_three (by rw [K.out]) (by rw [K.out]) (by rw [K.out]), rfl⟩
end Go.Proofs.YtfopcacoacedcaaDoor
