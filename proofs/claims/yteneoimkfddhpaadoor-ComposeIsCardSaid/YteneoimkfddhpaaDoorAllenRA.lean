/-
  Contracts of the document's answer for layer 18: the relation.
-/
import Derived.Test.YteneoimkfddhpaaDoorAllenAw
namespace Go.Proofs.YteneoimkfddhpaaDoor
open Go.RowKit
set_option linter.unusedVariables false
set_option maxHeartbeats 1000000 in
set_option maxRecDepth 100000 in
theorem half_0 (a b c d : Int) (w : World) (al : -9223372036854775808 ≤ a) (ah : a ≤ 9223372036854775807) (bl : -9223372036854775808 ≤ b) (bh : b ≤ 9223372036854775807) (cl : -9223372036854775808 ≤ c) (ch : c ≤ 9223372036854775807) (dl : -9223372036854775808 ≤ d) (dh : d ≤ 9223372036854775807) (f1 : decide (b < c) = true) (f2 : decide (a < c) = true) (f3 : decide (c ≤ b) = false) (f4 : decide (b < d) = true) (f5 : (a == c) = false) (f6 : decide (c < a) = false) (f7 : decide (a ≤ d) = true) (f8 : (b == d) = false) (hb : b < c) (f9 : decide (b + 1 < c) = true) :
    Calls Tryd.prog 36 #[.agg #[.int .i64 a, .int .i64 b], .agg #[.int .i64 c, .int .i64 d]] w fun e w' => e = .returned (.tuple #[.int .i64 0, .bool true]) ∧ Kp w w' := by
  go_enter Tryd.func36, Tryd.ntmps36
  go_wp2
  go_ret2
  exact ⟨rfl, kp2 _ _ _⟩
set_option maxHeartbeats 1000000 in
set_option maxRecDepth 100000 in
theorem half_1 (a b c d : Int) (w : World) (al : -9223372036854775808 ≤ a) (ah : a ≤ 9223372036854775807) (bl : -9223372036854775808 ≤ b) (bh : b ≤ 9223372036854775807) (cl : -9223372036854775808 ≤ c) (ch : c ≤ 9223372036854775807) (dl : -9223372036854775808 ≤ d) (dh : d ≤ 9223372036854775807) (f1 : decide (b < c) = true) (f2 : decide (a < c) = true) (f3 : decide (c ≤ b) = false) (f4 : decide (b < d) = true) (f5 : (a == c) = false) (f6 : decide (c < a) = false) (f7 : decide (a ≤ d) = true) (f8 : (b == d) = false) (hb : b < c) (f9 : decide (b + 1 < c) = false) :
    Calls Tryd.prog 36 #[.agg #[.int .i64 a, .int .i64 b], .agg #[.int .i64 c, .int .i64 d]] w fun e w' => e = .returned (.tuple #[.int .i64 1, .bool true]) ∧ Kp w w' := by
  go_enter Tryd.func36, Tryd.ntmps36
  go_wp2
  go_ret2
  exact ⟨rfl, kp2 _ _ _⟩
set_option maxHeartbeats 1000000 in
set_option maxRecDepth 100000 in
theorem half_2 (a b c d : Int) (w : World) (al : -9223372036854775808 ≤ a) (ah : a ≤ 9223372036854775807) (bl : -9223372036854775808 ≤ b) (bh : b ≤ 9223372036854775807) (cl : -9223372036854775808 ≤ c) (ch : c ≤ 9223372036854775807) (dl : -9223372036854775808 ≤ d) (dh : d ≤ 9223372036854775807) (f1 : decide (b < c) = false) (f2 : decide (a < c) = true) (f3 : decide (c ≤ b) = true) (f4 : decide (b < d) = true) (f5 : (a == c) = false) (f6 : decide (c < a) = false) (f7 : decide (a ≤ d) = true) (f8 : (b == d) = false) :
    Calls Tryd.prog 36 #[.agg #[.int .i64 a, .int .i64 b], .agg #[.int .i64 c, .int .i64 d]] w fun e w' => e = .returned (.tuple #[.int .i64 2, .bool true]) ∧ Kp w w' := by
  go_enter Tryd.func36, Tryd.ntmps36
  go_wp2
  go_ret2
  exact ⟨rfl, kp2 _ _ _⟩
set_option maxHeartbeats 1000000 in
set_option maxRecDepth 100000 in
theorem half_3 (a b c d : Int) (w : World) (al : -9223372036854775808 ≤ a) (ah : a ≤ 9223372036854775807) (bl : -9223372036854775808 ≤ b) (bh : b ≤ 9223372036854775807) (cl : -9223372036854775808 ≤ c) (ch : c ≤ 9223372036854775807) (dl : -9223372036854775808 ≤ d) (dh : d ≤ 9223372036854775807) (f1 : decide (b < c) = false) (f2 : decide (a < c) = false) (f3 : decide (c ≤ b) = true) (f4 : decide (b < d) = true) (f5 : (a == c) = true) (f6 : decide (c < a) = false) (f7 : decide (a ≤ d) = true) (f8 : (b == d) = false) :
    Calls Tryd.prog 36 #[.agg #[.int .i64 a, .int .i64 b], .agg #[.int .i64 c, .int .i64 d]] w fun e w' => e = .returned (.tuple #[.int .i64 3, .bool true]) ∧ Kp w w' := by
  go_enter Tryd.func36, Tryd.ntmps36
  go_wp2
  go_ret2
  exact ⟨rfl, kp2 _ _ _⟩
set_option maxHeartbeats 1000000 in
set_option maxRecDepth 100000 in
theorem half_4 (a b c d : Int) (w : World) (al : -9223372036854775808 ≤ a) (ah : a ≤ 9223372036854775807) (bl : -9223372036854775808 ≤ b) (bh : b ≤ 9223372036854775807) (cl : -9223372036854775808 ≤ c) (ch : c ≤ 9223372036854775807) (dl : -9223372036854775808 ≤ d) (dh : d ≤ 9223372036854775807) (f1 : decide (b < c) = false) (f2 : decide (a < c) = false) (f3 : decide (c ≤ b) = true) (f4 : decide (b < d) = true) (f5 : (a == c) = false) (f6 : decide (c < a) = true) (f7 : decide (a ≤ d) = true) (f8 : (b == d) = false) :
    Calls Tryd.prog 36 #[.agg #[.int .i64 a, .int .i64 b], .agg #[.int .i64 c, .int .i64 d]] w fun e w' => e = .returned (.tuple #[.int .i64 4, .bool true]) ∧ Kp w w' := by
  go_enter Tryd.func36, Tryd.ntmps36
  go_wp2
  go_ret2
  exact ⟨rfl, kp2 _ _ _⟩
set_option maxHeartbeats 1000000 in
set_option maxRecDepth 100000 in
theorem half_5 (a b c d : Int) (w : World) (al : -9223372036854775808 ≤ a) (ah : a ≤ 9223372036854775807) (bl : -9223372036854775808 ≤ b) (bh : b ≤ 9223372036854775807) (cl : -9223372036854775808 ≤ c) (ch : c ≤ 9223372036854775807) (dl : -9223372036854775808 ≤ d) (dh : d ≤ 9223372036854775807) (f1 : decide (b < c) = false) (f2 : decide (a < c) = false) (f3 : decide (c ≤ b) = true) (f4 : decide (b < d) = false) (f5 : (a == c) = false) (f6 : decide (c < a) = true) (f7 : decide (a ≤ d) = true) (f8 : (b == d) = true) :
    Calls Tryd.prog 36 #[.agg #[.int .i64 a, .int .i64 b], .agg #[.int .i64 c, .int .i64 d]] w fun e w' => e = .returned (.tuple #[.int .i64 5, .bool true]) ∧ Kp w w' := by
  go_enter Tryd.func36, Tryd.ntmps36
  go_wp2
  go_ret2
  exact ⟨rfl, kp2 _ _ _⟩
set_option maxHeartbeats 1000000 in
set_option maxRecDepth 100000 in
theorem half_6 (a b c d : Int) (w : World) (al : -9223372036854775808 ≤ a) (ah : a ≤ 9223372036854775807) (bl : -9223372036854775808 ≤ b) (bh : b ≤ 9223372036854775807) (cl : -9223372036854775808 ≤ c) (ch : c ≤ 9223372036854775807) (dl : -9223372036854775808 ≤ d) (dh : d ≤ 9223372036854775807) (f1 : decide (b < c) = false) (f2 : decide (a < c) = false) (f3 : decide (c ≤ b) = true) (f4 : decide (b < d) = false) (f5 : (a == c) = true) (f6 : decide (c < a) = false) (f7 : decide (a ≤ d) = true) (f8 : (b == d) = true) :
    Calls Tryd.prog 36 #[.agg #[.int .i64 a, .int .i64 b], .agg #[.int .i64 c, .int .i64 d]] w fun e w' => e = .returned (.tuple #[.int .i64 6, .bool true]) ∧ Kp w w' := by
  go_enter Tryd.func36, Tryd.ntmps36
  go_wp2
  go_ret2
  exact ⟨rfl, kp2 _ _ _⟩
set_option maxHeartbeats 1000000 in
set_option maxRecDepth 100000 in
theorem half_7 (a b c d : Int) (w : World) (al : -9223372036854775808 ≤ a) (ah : a ≤ 9223372036854775807) (bl : -9223372036854775808 ≤ b) (bh : b ≤ 9223372036854775807) (cl : -9223372036854775808 ≤ c) (ch : c ≤ 9223372036854775807) (dl : -9223372036854775808 ≤ d) (dh : d ≤ 9223372036854775807) (f1 : decide (b < c) = false) (f2 : decide (a < c) = true) (f3 : decide (c ≤ b) = true) (f4 : decide (b < d) = false) (f5 : (a == c) = false) (f6 : decide (c < a) = false) (f7 : decide (a ≤ d) = true) (f8 : (b == d) = true) :
    Calls Tryd.prog 36 #[.agg #[.int .i64 a, .int .i64 b], .agg #[.int .i64 c, .int .i64 d]] w fun e w' => e = .returned (.tuple #[.int .i64 0, .bool false]) ∧ Kp w w' := by
  go_enter Tryd.func36, Tryd.ntmps36
  go_wp2
  go_ret2
  exact ⟨rfl, kp2 _ _ _⟩
set_option maxHeartbeats 1000000 in
set_option maxRecDepth 100000 in
theorem half_8 (a b c d : Int) (w : World) (al : -9223372036854775808 ≤ a) (ah : a ≤ 9223372036854775807) (bl : -9223372036854775808 ≤ b) (bh : b ≤ 9223372036854775807) (cl : -9223372036854775808 ≤ c) (ch : c ≤ 9223372036854775807) (dl : -9223372036854775808 ≤ d) (dh : d ≤ 9223372036854775807) (f1 : decide (b < c) = false) (f2 : decide (a < c) = true) (f3 : decide (c ≤ b) = true) (f4 : decide (b < d) = false) (f5 : (a == c) = false) (f6 : decide (c < a) = false) (f7 : decide (a ≤ d) = true) (f8 : (b == d) = false) :
    Calls Tryd.prog 36 #[.agg #[.int .i64 a, .int .i64 b], .agg #[.int .i64 c, .int .i64 d]] w fun e w' => e = .returned (.tuple #[.int .i64 0, .bool false]) ∧ Kp w w' := by
  go_enter Tryd.func36, Tryd.ntmps36
  go_wp2
  go_ret2
  exact ⟨rfl, kp2 _ _ _⟩
set_option maxHeartbeats 1000000 in
set_option maxRecDepth 100000 in
theorem half_9 (a b c d : Int) (w : World) (al : -9223372036854775808 ≤ a) (ah : a ≤ 9223372036854775807) (bl : -9223372036854775808 ≤ b) (bh : b ≤ 9223372036854775807) (cl : -9223372036854775808 ≤ c) (ch : c ≤ 9223372036854775807) (dl : -9223372036854775808 ≤ d) (dh : d ≤ 9223372036854775807) (f1 : decide (b < c) = false) (f2 : decide (a < c) = false) (f3 : decide (c ≤ b) = true) (f4 : decide (b < d) = false) (f5 : (a == c) = true) (f6 : decide (c < a) = false) (f7 : decide (a ≤ d) = true) (f8 : (b == d) = false) :
    Calls Tryd.prog 36 #[.agg #[.int .i64 a, .int .i64 b], .agg #[.int .i64 c, .int .i64 d]] w fun e w' => e = .returned (.tuple #[.int .i64 0, .bool false]) ∧ Kp w w' := by
  go_enter Tryd.func36, Tryd.ntmps36
  go_wp2
  go_ret2
  exact ⟨rfl, kp2 _ _ _⟩
set_option maxHeartbeats 1000000 in
set_option maxRecDepth 100000 in
theorem half_10 (a b c d : Int) (w : World) (al : -9223372036854775808 ≤ a) (ah : a ≤ 9223372036854775807) (bl : -9223372036854775808 ≤ b) (bh : b ≤ 9223372036854775807) (cl : -9223372036854775808 ≤ c) (ch : c ≤ 9223372036854775807) (dl : -9223372036854775808 ≤ d) (dh : d ≤ 9223372036854775807) (f1 : decide (b < c) = false) (f2 : decide (a < c) = false) (f3 : decide (c ≤ b) = true) (f4 : decide (b < d) = false) (f5 : (a == c) = false) (f6 : decide (c < a) = true) (f7 : decide (a ≤ d) = true) (f8 : (b == d) = false) :
    Calls Tryd.prog 36 #[.agg #[.int .i64 a, .int .i64 b], .agg #[.int .i64 c, .int .i64 d]] w fun e w' => e = .returned (.tuple #[.int .i64 0, .bool false]) ∧ Kp w w' := by
  go_enter Tryd.func36, Tryd.ntmps36
  go_wp2
  go_ret2
  exact ⟨rfl, kp2 _ _ _⟩
set_option maxHeartbeats 1000000 in
set_option maxRecDepth 100000 in
theorem half_11 (a b c d : Int) (w : World) (al : -9223372036854775808 ≤ a) (ah : a ≤ 9223372036854775807) (bl : -9223372036854775808 ≤ b) (bh : b ≤ 9223372036854775807) (cl : -9223372036854775808 ≤ c) (ch : c ≤ 9223372036854775807) (dl : -9223372036854775808 ≤ d) (dh : d ≤ 9223372036854775807) (f1 : decide (b < c) = false) (f2 : decide (a < c) = false) (f3 : decide (c ≤ b) = true) (f4 : decide (b < d) = false) (f5 : (a == c) = false) (f6 : decide (c < a) = true) (f7 : decide (a ≤ d) = false) (f8 : (b == d) = false) :
    Calls Tryd.prog 36 #[.agg #[.int .i64 a, .int .i64 b], .agg #[.int .i64 c, .int .i64 d]] w fun e w' => e = .returned (.tuple #[.int .i64 0, .bool false]) ∧ Kp w w' := by
  go_enter Tryd.func36, Tryd.ntmps36
  go_wp2
  go_ret2
  exact ⟨rfl, kp2 _ _ _⟩
def hfB (a b c d : Int) : Bool := decide (rel a b c d ≤ 6)
def hfV (a b c d : Int) : Int := if hfB a b c d then rel a b c d else 0
set_option maxHeartbeats 1000000 in
theorem half_any (a b c d : Int) (w : World) (al : -9223372036854775808 ≤ a) (ah : a ≤ 9223372036854775807) (bl : -9223372036854775808 ≤ b) (bh : b ≤ 9223372036854775807) (cl : -9223372036854775808 ≤ c) (ch : c ≤ 9223372036854775807) (dl : -9223372036854775808 ≤ d) (dh : d ≤ 9223372036854775807) (v1 : a ≤ b) (v2 : c ≤ d) :
    Calls Tryd.prog 36 #[.agg #[.int .i64 a, .int .i64 b], .agg #[.int .i64 c, .int .i64 d]] w fun e w' => e = .returned (.tuple #[.int .i64 (hfV a b c d), .bool (hfB a b c d)]) ∧ Kp w w' := by
  rcases Int.lt_or_le b c with h3 | h3
  · by_cases h5 : b + 1 = c
    · have e : rel a b c d = 1 := by unfold rel; (repeat' split) <;> omega
      have e1 : hfB a b c d = true := by unfold hfB; rw [e]; decide
      rw [show hfV a b c d = 1 by unfold hfV; rw [e1, e]; decide, e1]
      exact half_1 a b c d w al ah bl bh cl ch dl dh (by simp; try omega) (by simp; try omega) (by simp; try omega) (by simp; try omega) (by simp; try omega) (by simp; try omega) (by simp; try omega) (by simp; try omega) (by assumption) (by simp; try omega)
    · have e : rel a b c d = 0 := by unfold rel; (repeat' split) <;> omega
      have e1 : hfB a b c d = true := by unfold hfB; rw [e]; decide
      rw [show hfV a b c d = 0 by unfold hfV; rw [e1, e]; decide, e1]
      exact half_0 a b c d w al ah bl bh cl ch dl dh (by simp; try omega) (by simp; try omega) (by simp; try omega) (by simp; try omega) (by simp; try omega) (by simp; try omega) (by simp; try omega) (by simp; try omega) (by assumption) (by simp; try omega)
  rcases Int.lt_or_le d a with h4 | h4
  · by_cases h5 : d + 1 = a
    · have e : rel a b c d = 11 := by unfold rel; (repeat' split) <;> omega
      have e1 : hfB a b c d = false := by unfold hfB; rw [e]; decide
      rw [show hfV a b c d = 0 by unfold hfV; rw [e1, e]; decide, e1]
      exact half_11 a b c d w al ah bl bh cl ch dl dh (by simp; try omega) (by simp; try omega) (by simp; try omega) (by simp; try omega) (by simp; try omega) (by simp; try omega) (by simp; try omega) (by simp; try omega)
    · have e : rel a b c d = 12 := by unfold rel; (repeat' split) <;> omega
      have e1 : hfB a b c d = false := by unfold hfB; rw [e]; decide
      rw [show hfV a b c d = 0 by unfold hfV; rw [e1, e]; decide, e1]
      exact half_11 a b c d w al ah bl bh cl ch dl dh (by simp; try omega) (by simp; try omega) (by simp; try omega) (by simp; try omega) (by simp; try omega) (by simp; try omega) (by simp; try omega) (by simp; try omega)
  rcases Int.lt_trichotomy a c with h | h | h <;> rcases Int.lt_trichotomy b d with g | g | g
  · have e : rel a b c d = 2 := by unfold rel; (repeat' split) <;> omega
    have e1 : hfB a b c d = true := by unfold hfB; rw [e]; decide
    rw [show hfV a b c d = 2 by unfold hfV; rw [e1, e]; decide, e1]
    exact half_2 a b c d w al ah bl bh cl ch dl dh (by simp; try omega) (by simp; try omega) (by simp; try omega) (by simp; try omega) (by simp; try omega) (by simp; try omega) (by simp; try omega) (by simp; try omega)
  · have e : rel a b c d = 7 := by unfold rel; (repeat' split) <;> omega
    have e1 : hfB a b c d = false := by unfold hfB; rw [e]; decide
    rw [show hfV a b c d = 0 by unfold hfV; rw [e1, e]; decide, e1]
    exact half_7 a b c d w al ah bl bh cl ch dl dh (by simp; try omega) (by simp; try omega) (by simp; try omega) (by simp; try omega) (by simp; try omega) (by simp; try omega) (by simp; try omega) (by simp; try omega)
  · have e : rel a b c d = 8 := by unfold rel; (repeat' split) <;> omega
    have e1 : hfB a b c d = false := by unfold hfB; rw [e]; decide
    rw [show hfV a b c d = 0 by unfold hfV; rw [e1, e]; decide, e1]
    exact half_8 a b c d w al ah bl bh cl ch dl dh (by simp; try omega) (by simp; try omega) (by simp; try omega) (by simp; try omega) (by simp; try omega) (by simp; try omega) (by simp; try omega) (by simp; try omega)
  · have e : rel a b c d = 3 := by unfold rel; (repeat' split) <;> omega
    have e1 : hfB a b c d = true := by unfold hfB; rw [e]; decide
    rw [show hfV a b c d = 3 by unfold hfV; rw [e1, e]; decide, e1]
    exact half_3 a b c d w al ah bl bh cl ch dl dh (by simp; try omega) (by simp; try omega) (by simp; try omega) (by simp; try omega) (by simp; try omega) (by simp; try omega) (by simp; try omega) (by simp; try omega)
  · have e : rel a b c d = 6 := by unfold rel; (repeat' split) <;> omega
    have e1 : hfB a b c d = true := by unfold hfB; rw [e]; decide
    rw [show hfV a b c d = 6 by unfold hfV; rw [e1, e]; decide, e1]
    exact half_6 a b c d w al ah bl bh cl ch dl dh (by simp; try omega) (by simp; try omega) (by simp; try omega) (by simp; try omega) (by simp; try omega) (by simp; try omega) (by simp; try omega) (by simp; try omega)
  · have e : rel a b c d = 9 := by unfold rel; (repeat' split) <;> omega
    have e1 : hfB a b c d = false := by unfold hfB; rw [e]; decide
    rw [show hfV a b c d = 0 by unfold hfV; rw [e1, e]; decide, e1]
    exact half_9 a b c d w al ah bl bh cl ch dl dh (by simp; try omega) (by simp; try omega) (by simp; try omega) (by simp; try omega) (by simp; try omega) (by simp; try omega) (by simp; try omega) (by simp; try omega)
  · have e : rel a b c d = 4 := by unfold rel; (repeat' split) <;> omega
    have e1 : hfB a b c d = true := by unfold hfB; rw [e]; decide
    rw [show hfV a b c d = 4 by unfold hfV; rw [e1, e]; decide, e1]
    exact half_4 a b c d w al ah bl bh cl ch dl dh (by simp; try omega) (by simp; try omega) (by simp; try omega) (by simp; try omega) (by simp; try omega) (by simp; try omega) (by simp; try omega) (by simp; try omega)
  · have e : rel a b c d = 5 := by unfold rel; (repeat' split) <;> omega
    have e1 : hfB a b c d = true := by unfold hfB; rw [e]; decide
    rw [show hfV a b c d = 5 by unfold hfV; rw [e1, e]; decide, e1]
    exact half_5 a b c d w al ah bl bh cl ch dl dh (by simp; try omega) (by simp; try omega) (by simp; try omega) (by simp; try omega) (by simp; try omega) (by simp; try omega) (by simp; try omega) (by simp; try omega)
  · have e : rel a b c d = 10 := by unfold rel; (repeat' split) <;> omega
    have e1 : hfB a b c d = false := by unfold hfB; rw [e]; decide
    rw [show hfV a b c d = 0 by unfold hfV; rw [e1, e]; decide, e1]
    exact half_10 a b c d w al ah bl bh cl ch dl dh (by simp; try omega) (by simp; try omega) (by simp; try omega) (by simp; try omega) (by simp; try omega) (by simp; try omega) (by simp; try omega) (by simp; try omega)
set_option maxHeartbeats 1000000 in
set_option maxRecDepth 100000 in
theorem refOf_any (a b c d : Int) (w : World) (al : -9223372036854775808 ≤ a) (ah : a ≤ 9223372036854775807) (bl : -9223372036854775808 ≤ b) (bh : b ≤ 9223372036854775807) (cl : -9223372036854775808 ≤ c) (ch : c ≤ 9223372036854775807) (dl : -9223372036854775808 ≤ d) (dh : d ≤ 9223372036854775807) :
    Calls Tryd.prog 16 #[.agg #[.int .i64 a, .int .i64 b], .agg #[.int .i64 c, .int .i64 d]] w fun e w' => e = .returned (.tuple #[.int .i64 (relV a b c d), .bool (ivB a b c d)]) ∧ Kp w w' := by
  by_cases h1 : b < a
  · have e : ivB a b c d = false := by unfold ivB; simp; omega
    rw [show relV a b c d = 0 by unfold relV; rw [e]; rfl, e]
    clear e
    go_enter Tryd.func16, Tryd.ntmps16
    go_wp2
    go_ret2
    exact ⟨rfl, kp2 _ _ _⟩
  by_cases h2 : d < c
  · have e : ivB a b c d = false := by unfold ivB; simp; omega
    rw [show relV a b c d = 0 by unfold relV; rw [e]; rfl, e]
    clear e
    go_enter Tryd.func16, Tryd.ntmps16
    go_wp2
    go_ret2
    exact ⟨rfl, kp2 _ _ _⟩
  have e : ivB a b c d = true := by unfold ivB; simp; omega
  rw [show relV a b c d = rel a b c d by unfold relV; rw [e]; rfl, e]
  clear e
  have C1 := Lib.hid (fun w => half_any a b c d w al ah bl bh cl ch dl dh (by omega) (by omega))
  have C2 := Lib.hid (fun w => half_any c d a b w cl ch dl dh al ah bl bh (by omega) (by omega))
  have sum : rel a b c d + rel c d a b = 12 := by unfold rel; (repeat' split) <;> omega
  have bd := rel_bd a b c d
  rcases Bool.eq_false_or_eq_true (hfB a b c d) with g | g
  · rw [show hfV a b c d = rel a b c d by unfold hfV; rw [g]; rfl, g] at C1
    generalize rel a b c d = r at *
    clear C2 sum bd g
    go_enter Tryd.func16, Tryd.ntmps16
    go_wp2_with fail; refine (C1.out _).mono ?_; rintro e w1 ⟨rfl, k1⟩; have K1 := Lib.hid k1; clear k1
    go_wp2
    go_ret2
    exact ⟨rfl, (kp2 _ _ _).trans K1.out⟩
  · have g2 : hfB c d a b = true := by unfold hfB at g ⊢; simp at g ⊢; omega
    rw [show hfV a b c d = 0 by unfold hfV; rw [g]; rfl, g] at C1
    rw [show hfV c d a b = rel c d a b by unfold hfV; rw [g2]; rfl, g2] at C2
    obtain rfl' : rel c d a b = 12 - rel a b c d := by omega
    rw [rfl'] at C2
    have bd2 : 0 ≤ 12 - rel a b c d ∧ 12 - rel a b c d ≤ 12 := by omega
    have E := Lib.hid (show rel a b c d = 12 - (12 - rel a b c d) by omega)
    rw [E.out]
    generalize 12 - rel a b c d = r at *
    clear sum bd g g2 E rfl'
    go_enter Tryd.func16, Tryd.ntmps16
    go_wp2_with fail; refine (C1.out _).mono ?_; rintro e w1 ⟨rfl, k1⟩; have K1 := Lib.hid k1; obtain ⟨⟨x1, x2⟩, x3, x4⟩ := box2 k1; clear k1
    go_wp2_with fail; refine (C2.out _).mono ?_; rintro e w2 ⟨rfl, k2⟩; have K2 := Lib.hid (K1.out.trans k2); clear k2
    go_wp2
    go_ret2
    exact ⟨rfl, (kp2 _ _ _).trans K2.out⟩
theorem refInverse_any (r : Int) (w : World) : Calls Tryd.prog 18 #[.int .i64 r] w fun e w' => e = .returned (.tuple #[.int .i64 (invV r), .bool (invB r)]) ∧ w = w' := by
  by_cases h1 : r < 0
  · rw [show invV r = 0 by unfold invV; rw [show invB r = false by unfold invB; simp; omega]; rfl, show invB r = false by unfold invB; simp; omega]
    go_enter Tryd.func18, Tryd.ntmps18
    go_wp2
    go_ret2
    exact ⟨rfl, rfl⟩
  by_cases h2 : 12 < r
  · rw [show invV r = 0 by unfold invV; rw [show invB r = false by unfold invB; simp; omega]; rfl, show invB r = false by unfold invB; simp; omega]
    go_enter Tryd.func18, Tryd.ntmps18
    go_wp2
    go_ret2
    exact ⟨rfl, rfl⟩
  · rw [show invV r = 12 - r by unfold invV; rw [show invB r = true by unfold invB; simp; omega]; rfl, show invB r = true by unfold invB; simp; omega]
    go_enter Tryd.func18, Tryd.ntmps18
    go_wp2
    go_ret2
    exact ⟨rfl, rfl⟩
end Go.Proofs.YteneoimkfddhpaaDoor
