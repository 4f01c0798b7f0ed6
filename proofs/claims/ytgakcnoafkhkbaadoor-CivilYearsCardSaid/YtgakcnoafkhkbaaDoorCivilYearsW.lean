/-
  CivilYears: the walk.
-/
import Derived.Test.YtgakcnoafkhkbaaDoorCivilAw
import Derived.Test.YtgakcnoafkhkbaaDoorMask
namespace Go.Proofs.YtgakcnoafkhkbaaDoor
open Go.RowKit
set_option linter.unusedVariables false
theorem first_day (y : Int) (h : 0 ≤ y) (h' : y ≤ 9999) : vldB y 1 1 = true ∧ numv y 1 1 = sty y := by
  have d : dim y 1 = 31 := by unfold dim; simp
  have v : vldB y 1 1 = true := (vld_iff _ _ _).2 ⟨h, h', by omega, by omega⟩
  refine ⟨v, ?_⟩
  rw [numv_yes v]; unfold num; rw [cum_one]; omega
theorem lp_400 (y : Int) : lpB (y + 400) = lpB y := by
  rcases lpB_cases y with ⟨e, h⟩ | ⟨e, h⟩ <;> rcases lpB_cases (y + 400) with ⟨f, g⟩ | ⟨f, g⟩ <;> rw [e, f] <;> omega
theorem sty_400 (y : Int) : sty (y + 400) = sty y + 146097 := by unfold sty; omega
def lpN (b : Bool) : Int := if b then 1 else 0
set_option maxHeartbeats 1000000 in
theorem civilYears_walk (k : Int) (w : World) (hT : Tabs w) (k1 : -9223372036854775808 ≤ k) (k2 : k ≤ 9223372036854775807) :
    Calls Tryd.prog 6 #[.int .i64 k] w fun e w' => e = .returned (.bool true) ∧ w = w' := by
  have mk := and16 k
  obtain ⟨k', hk⟩ : ∃ n, n = k % 65536 := ⟨_, rfl⟩
  rw [← hk] at mk
  have a3 : 0 ≤ k' := by omega
  have a4 : k' < 65536 := by omega
  clear hk
  have HT := Lib.hid hT
  clear hT
  have b1 : 0 ≤ k' % 9999 := by omega
  have b2 : k' % 9999 ≤ 9998 := by omega
  obtain ⟨y, hy⟩ : ∃ y, k' % 9999 = y := ⟨_, rfl⟩
  rw [hy] at b1 b2
  have c1 := fun w h => number_v y 1 1 w h
  have c2 := fun w h => number_v (y + 1) 1 1 w h
  have c3 := fun w h => number_v (y + 400) 1 1 w h
  rw [(first_day y (by omega) (by omega)).1, (first_day y (by omega) (by omega)).2] at c1
  rw [(first_day (y + 1) (by omega) (by omega)).1, (first_day (y + 1) (by omega) (by omega)).2, sty_succ y (by omega), cum_13] at c2
  have c4 := fun w => leap_any y w
  have c5 := fun w => leap_any (y + 400) w
  rw [lp_400] at c5
  have sb := sty_bd y (by omega) (by omega)
  have CY := Lib.hid (fun (k : Int) w h => days_any y k w h)
  have E13 : Hid (cum y 13 = 365 + (if lpB y then 1 else 0)) := cum_13 y
  by_cases z : 9599 < y
  · have v : vldB (y + 400) 1 1 = false := by unfold vldB; simp; omega
    rw [show numv (y + 400) 1 1 = 0 by unfold numv; rw [v]; rfl, v] at c3
    clear v
    rcases Bool.eq_false_or_eq_true (lpB y) with l | l
    all_goals
      rw [l] at c2 c4 c5 E13
      simp only [if_true, Bool.false_eq_true, if_false] at c2 E13
      have C1 := Lib.hid c1
      have C2 := Lib.hid c2
      have C3 := Lib.hid c3
      have C4 := Lib.hid c4
      have C5 := Lib.hid c5
      clear c1 c2 c3 c4 c5 l
      generalize hs : sty y = s at *
      clear hs
      go_enter Tryd.func6, Tryd.ntmps6
      go_wp2_with fail; refine ((awake2 _ HT.out)).mono ?_; rintro e w' ⟨rfl, rfl⟩
      go_wp2_with fail; refine ((C1.out _ HT.out.1)).mono ?_; rintro e w' ⟨rfl, rfl⟩
      go_wp2_with fail; refine ((C2.out _ HT.out.1)).mono ?_; rintro e w' ⟨rfl, rfl⟩
      go_wp2
      go_loop [9, 10] (fun s i => ∃ k : Int, 1 ≤ k ∧ k ≤ 13 ∧ i = .int .i64 k ∧ s = .int .i64 (cum y k)) (fun _ i => (13 - intOf i).toNat)
      case atStart => exact ⟨1, by omega, by omega, rfl, by rw [cum_one]⟩
      case round =>
        obtain ⟨k, hk, hk', rfl, rfl⟩ := hrel
        have d1 := dim_bd y k
        have e1 := cum_bd y k
        by_cases hlt : k ≤ 12
        · go_wp2_with (go_at_call 15; refine (CY.out _ _ HT.out.1).mono ?_; rintro e w' ⟨rfl, rfl⟩)
          go_round
          case rel => exact ⟨k + 1, by omega, by omega, rfl, by rw [cum_succ y k hk (by omega)]⟩
          case measure => simp [intOf]; omega
        · obtain rfl : k = 13 := by omega
          rw [E13.out]
          clear hlt hk hk' d1 e1
          go_wp2_with fail; refine ((C4.out _)).mono ?_; rintro e w' ⟨rfl, rfl⟩
          go_wp2_with fail; refine ((C4.out _)).mono ?_; rintro e w' ⟨rfl, rfl⟩
          go_wp2_with fail; refine ((C5.out _)).mono ?_; rintro e w' ⟨rfl, rfl⟩
          go_wp2_with fail; refine ((C3.out _ HT.out.1)).mono ?_; rintro e w' ⟨rfl, rfl⟩
          go_wp2
          go_ret
          exact ⟨rfl, rfl⟩
  · rw [(first_day (y + 400) (by omega) (by omega)).1, (first_day (y + 400) (by omega) (by omega)).2, sty_400] at c3
    have c6 := fun w h => weekday_any (sty y) w (by omega) (by omega) h
    have c7 := fun w h => weekday_any (sty y + 146097) w (by omega) (by omega) h
    have sm := sty_400 y
    have sb2 := sty_mono (y + 400) 9999 (by omega) (by omega)
    rw [show sty 9999 = 3652060 by decide] at sb2
    rw [show wkd (sty y + 146097) = wkd (sty y) by unfold wkd; rw [if_neg (by omega), if_neg (by omega)]; omega] at c7
    clear sm sb2
    rcases Bool.eq_false_or_eq_true (lpB y) with l | l
    all_goals
      rw [l] at c2 c4 c5 E13
      simp only [if_true, Bool.false_eq_true, if_false] at c2 E13
      have C1 := Lib.hid c1
      have C2 := Lib.hid c2
      have C3 := Lib.hid c3
      have C4 := Lib.hid c4
      have C5 := Lib.hid c5
      have C6 := Lib.hid c6
      have C7 := Lib.hid c7
      clear c1 c2 c3 c4 c5 c6 c7 l
      generalize hu : wkd (sty y) = u at *
      generalize hs : sty y = s at *
      clear hs hu
      go_enter Tryd.func6, Tryd.ntmps6
      go_wp2_with fail; refine ((awake2 _ HT.out)).mono ?_; rintro e w' ⟨rfl, rfl⟩
      go_wp2_with fail; refine ((C1.out _ HT.out.1)).mono ?_; rintro e w' ⟨rfl, rfl⟩
      go_wp2_with fail; refine ((C2.out _ HT.out.1)).mono ?_; rintro e w' ⟨rfl, rfl⟩
      go_wp2
      go_loop [9, 10] (fun s i => ∃ k : Int, 1 ≤ k ∧ k ≤ 13 ∧ i = .int .i64 k ∧ s = .int .i64 (cum y k)) (fun _ i => (13 - intOf i).toNat)
      case atStart => exact ⟨1, by omega, by omega, rfl, by rw [cum_one]⟩
      case round =>
        obtain ⟨k, hk, hk', rfl, rfl⟩ := hrel
        have d1 := dim_bd y k
        have e1 := cum_bd y k
        by_cases hlt : k ≤ 12
        · go_wp2_with (go_at_call 15; refine (CY.out _ _ HT.out.1).mono ?_; rintro e w' ⟨rfl, rfl⟩)
          go_round
          case rel => exact ⟨k + 1, by omega, by omega, rfl, by rw [cum_succ y k hk (by omega)]⟩
          case measure => simp [intOf]; omega
        · obtain rfl : k = 13 := by omega
          rw [E13.out]
          clear hlt hk hk' d1 e1
          go_wp2_with fail; refine ((C4.out _)).mono ?_; rintro e w' ⟨rfl, rfl⟩
          go_wp2_with fail; refine ((C4.out _)).mono ?_; rintro e w' ⟨rfl, rfl⟩
          go_wp2_with fail; refine ((C5.out _)).mono ?_; rintro e w' ⟨rfl, rfl⟩
          go_wp2_with fail; refine ((C3.out _ HT.out.1)).mono ?_; rintro e w' ⟨rfl, rfl⟩
          go_wp2_with fail; refine ((C7.out _ HT.out.2)).mono ?_; rintro e w' ⟨rfl, rfl⟩
          go_wp2_with fail; refine ((C6.out _ HT.out.2)).mono ?_; rintro e w' ⟨rfl, rfl⟩
          go_wp2
          go_ret
          exact ⟨rfl, rfl⟩
end Go.Proofs.YtgakcnoafkhkbaaDoor
