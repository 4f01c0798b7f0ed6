/-
  What the document's own answers for whole numbers give, for every int: contracts.
-/
import Derived.Test.YtgakcnoafkhkbaaInts
namespace Go.Proofs.Ytgakcnoafkhkbaa
open Go.RowKit

theorem rfloor_any (a b : Int) (w : World) (ha : -9223372036854775808 ≤ a) (ha' : a ≤ 9223372036854775807) (hb : -9223372036854775808 ≤ b) (hb' : b ≤ 9223372036854775807) :
    Calls Try.prog 15 #[.int .i64 a, .int .i64 b] w fun e w' => e = .returned (.int .i64 (flr a b)) ∧ w = w' := by
  by_cases c : b < 1
  · have e : flr a b = 0 := by unfold flr; rw [if_pos c]
    rw [e]; clear e
    go_enter Try.func15, Try.ntmps15
    go_wp2
    go_ret
    exact ⟨rfl, rfl⟩
  · have e : flr a b = a / b := by unfold flr; rw [if_neg c]
    have bd := ediv_bd (show 1 ≤ b by omega) ha ha'
    rw [e]; clear e
    by_cases d : a.tmod b < 0
    · have k := flr_neg (show 1 ≤ b by omega) d
      have K : Hid (wrap64 (a.tdiv b - 1) = a / b) := by rw [k]; exact IntWalk.wrap64_in _ bd
      clear k bd
      go_enter Try.func15, Try.ntmps15
      go_wp2
      go_ret
      exact ⟨ret_int K.out, rfl⟩
    · have k := flr_pos (show 1 ≤ b by omega) (show 0 ≤ a.tmod b by omega)
      have K : Hid (a.tdiv b = a / b) := k
      clear k bd
      go_enter Try.func15, Try.ntmps15
      go_wp2
      go_ret
      exact ⟨ret_int K.out, rfl⟩

theorem rmod_any (a b : Int) (w : World) (_ha : -9223372036854775808 ≤ a) (_ha' : a ≤ 9223372036854775807) (hb : -9223372036854775808 ≤ b) (hb' : b ≤ 9223372036854775807) :
    Calls Try.prog 17 #[.int .i64 a, .int .i64 b] w fun e w' => e = .returned (.int .i64 (mdl a b)) ∧ w = w' := by
  by_cases c : b < 1
  · have e : mdl a b = 0 := by unfold mdl; rw [if_pos c]
    rw [e]; clear e
    go_enter Try.func17, Try.ntmps17
    go_wp2
    go_ret
    exact ⟨rfl, rfl⟩
  · have e : mdl a b = a % b := by unfold mdl; rw [if_neg c]
    have p := Int.emod_nonneg a (show b ≠ 0 by omega)
    have q := Int.emod_lt_of_pos a (show 0 < b by omega)
    rw [e]; clear e
    by_cases d : a.tmod b < 0
    · have k := mdl_neg (show 1 ≤ b by omega) d
      have K : Hid (wrap64 (a.tmod b + b) = a % b) := by rw [k]; exact IntWalk.wrap64_in _ (by omega)
      clear k p q
      go_enter Try.func17, Try.ntmps17
      go_wp2
      go_ret
      exact ⟨ret_int K.out, rfl⟩
    · have k := mdl_pos (show 1 ≤ b by omega) (show 0 ≤ a.tmod b by omega)
      have K : Hid (a.tmod b = a % b) := k
      clear k p q
      go_enter Try.func17, Try.ntmps17
      go_wp2
      go_ret
      exact ⟨ret_int K.out, rfl⟩

theorem radd_any (a b : Int) (w : World) (ha : -9223372036854775808 ≤ a) (ha' : a ≤ 9223372036854775807) (hb : -9223372036854775808 ≤ b) (hb' : b ≤ 9223372036854775807) :
    Calls Try.prog 11 #[.int .i64 a, .int .i64 b] w fun e w' => e = .returned (.tuple #[.int .i64 (only (a + b)), .bool (fitsB (a + b))]) ∧ w = w' := by
  rcases Bool.eq_false_or_eq_true (fitsB (a + b)) with f | f
  · have K : Hid (a + b = only (a + b) ∧ true = fitsB (a + b)) := ⟨(only_yes f).symm, f.symm⟩
    have g := fitsB_bd f
    clear f
    by_cases c : 0 < b
    · go_enter Try.func11, Try.ntmps11
      go_wp2
      go_ret2
      exact ⟨ret_two K.out.1 K.out.2, rfl⟩
    · by_cases d : b < 0
      · go_enter Try.func11, Try.ntmps11
        go_wp2
        go_ret2
        exact ⟨ret_two K.out.1 K.out.2, rfl⟩
      · go_enter Try.func11, Try.ntmps11
        go_wp2
        go_ret2
        exact ⟨ret_two K.out.1 K.out.2, rfl⟩
  · have K : Hid (0 = only (a + b) ∧ false = fitsB (a + b)) := ⟨(only_no f).symm, f.symm⟩
    have g := fitsB_bd' f
    clear f
    by_cases c : 0 < b
    · have g2 : 9223372036854775807 - b < a := by omega
      clear g
      go_enter Try.func11, Try.ntmps11
      go_wp2
      go_ret2
      exact ⟨ret_two K.out.1 K.out.2, rfl⟩
    · have d : b < 0 := by omega
      have g2 : a < -9223372036854775808 - b := by omega
      clear g
      go_enter Try.func11, Try.ntmps11
      go_wp2
      go_ret2
      exact ⟨ret_two K.out.1 K.out.2, rfl⟩

def rclamp (n lo hi : Int) : Int := if n < lo then lo else if hi < n then (if hi < lo then lo else hi) else n
theorem rclamp_any (n lo hi : Int) (w : World) (_ha : -9223372036854775808 ≤ n) (_ha' : n ≤ 9223372036854775807) (_hb : -9223372036854775808 ≤ lo) (_hb' : lo ≤ 9223372036854775807) (_hc : -9223372036854775808 ≤ hi) (_hc' : hi ≤ 9223372036854775807) :
    Calls Try.prog 19 #[.int .i64 n, .int .i64 lo, .int .i64 hi] w fun e w' => e = .returned (.int .i64 (rclamp n lo hi)) ∧ w = w' := by
  go_enter Try.func19, Try.ntmps19
  go_wp2
  all_goals go_ret
  all_goals exact ⟨ret_int (by unfold rclamp; (repeat' split) <;> omega), rfl⟩

theorem tdiv_self_neg {b : Int} (h : b ≠ 0) : (-b).tdiv b = -1 := by
  rw [Int.neg_tdiv, Int.tdiv_self h]
theorem rmul_any (a b : Int) (w : World) (ha : -9223372036854775808 ≤ a) (ha' : a ≤ 9223372036854775807) (hb : -9223372036854775808 ≤ b) (hb' : b ≤ 9223372036854775807) :
    Calls Try.prog 13 #[.int .i64 a, .int .i64 b] w fun e w' => e = .returned (.tuple #[.int .i64 (only (a * b)), .bool (fitsB (a * b))]) ∧ w = w' := by
  by_cases a0 : a = 0
  · subst a0
    have K : Hid (0 = only (0 * b) ∧ true = fitsB (0 * b)) := by rw [Int.zero_mul]; exact ⟨by decide, by decide⟩
    go_enter Try.func13, Try.ntmps13
    go_wp2
    go_ret2
    exact ⟨ret_two K.out.1 K.out.2, rfl⟩
  by_cases b0 : b = 0
  · subst b0
    have K : Hid (0 = only (a * 0) ∧ true = fitsB (a * 0)) := by rw [Int.mul_zero]; exact ⟨by decide, by decide⟩
    have a0' : (a == 0) = false := by simpa using a0
    go_enter Try.func13, Try.ntmps13
    go_wp2
    go_ret2
    exact ⟨ret_two K.out.1 K.out.2, rfl⟩
  have a0' : (a == 0) = false := by simpa using a0
  have b0' : (b == 0) = false := by simpa using b0
  by_cases a1 : a = -1
  · subst a1
    by_cases b1 : b = -1
    · subst b1
      have K : Hid (1 = only (-1 * -1) ∧ true = fitsB (-1 * -1)) := ⟨by decide, by decide⟩
      clear ha ha' hb hb' a0' b0' a0 b0
      go_enter Try.func13, Try.ntmps13
      go_wp2
      go_ret2
      exact ⟨ret_two K.out.1 K.out.2, rfl⟩
    have b1' : (b == -1) = false := by simpa using b1
    by_cases b2 : b = -9223372036854775808
    · subst b2
      have K : Hid (0 = only (-1 * -9223372036854775808) ∧ false = fitsB (-1 * -9223372036854775808)) := ⟨by decide, by decide⟩
      clear ha ha' hb hb' a0' b0' a0 b0 b1 b1'
      go_enter Try.func13, Try.ntmps13
      go_wp2
      go_ret2
      exact ⟨ret_two K.out.1 K.out.2, rfl⟩
    have b2' : (b == -9223372036854775808) = false := by simpa using b2
    have f : fitsB (-1 * b) = true := fitsB_yes (by omega) (by omega)
    have K : Hid (wrap64 (-b) = only (-1 * b) ∧ true = fitsB (-1 * b)) := by rw [f, only_yes f]; exact ⟨by rw [IntWalk.wrap64_in _ (by omega)]; omega, rfl⟩
    have t : (wrap64 ((wrap64 (-b)).tdiv b) != -1) = false := by rw [IntWalk.wrap64_in (-b) (by omega), tdiv_self_neg b0, IntWalk.wrap64_in _ (by omega)]; decide
    clear f ha ha' hb hb' a0'
    go_enter Try.func13, Try.ntmps13
    go_wp2
    go_ret2
    exact ⟨ret_two K.out.1 K.out.2, rfl⟩
  have a1' : (a == -1) = false := by simpa using a1
  by_cases b1 : b = -1
  · subst b1
    by_cases a2 : a = -9223372036854775808
    · subst a2
      have K : Hid (0 = only (-9223372036854775808 * -1) ∧ false = fitsB (-9223372036854775808 * -1)) := ⟨by decide, by decide⟩
      clear ha ha' hb hb' a0' b0' a0 b0 a1 a1'
      go_enter Try.func13, Try.ntmps13
      go_wp2
      go_ret2
      exact ⟨ret_two K.out.1 K.out.2, rfl⟩
    have a2' : (a == -9223372036854775808) = false := by simpa using a2
    have f : fitsB (a * -1) = true := fitsB_yes (by omega) (by omega)
    have K : Hid (wrap64 (-a) = only (a * -1) ∧ true = fitsB (a * -1)) := by rw [f, only_yes f]; exact ⟨by rw [IntWalk.wrap64_in _ (by omega)]; omega, rfl⟩
    have t : (wrap64 (-wrap64 (-a)) != a) = false := by rw [IntWalk.wrap64_in (-a) (by omega), IntWalk.wrap64_in _ (by omega)]; simp
    clear f ha ha' hb hb' b0'
    go_enter Try.func13, Try.ntmps13
    go_wp2
    go_ret2
    exact ⟨ret_two K.out.1 K.out.2, rfl⟩
  have b1' : (b == -1) = false := by simpa using b1
  rcases mul_test (b := a) hb hb' b0 b1 with ⟨t, f⟩ | ⟨t, f⟩ <;> rw [Int.mul_comm b a] at t f
  · have K : Hid (0 = only (a * b) ∧ false = fitsB (a * b)) := by rw [f, only_no f]; exact ⟨rfl, rfl⟩
    clear f
    go_enter Try.func13, Try.ntmps13
    go_wp2
    go_ret2
    exact ⟨ret_two K.out.1 K.out.2, rfl⟩
  · have K : Hid (wrap64 (a * b) = only (a * b) ∧ true = fitsB (a * b)) := by rw [f, only_yes f]; exact ⟨IntWalk.wrap64_in _ (fitsB_bd f), rfl⟩
    clear f
    go_enter Try.func13, Try.ntmps13
    go_wp2
    go_ret2
    exact ⟨ret_two K.out.1 K.out.2, rfl⟩
end Go.Proofs.Ytgakcnoafkhkbaa
