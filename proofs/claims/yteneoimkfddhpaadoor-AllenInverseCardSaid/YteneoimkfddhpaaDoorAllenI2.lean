/-
  Walk of AllenInverse: far off.
-/
import Derived.Test.YteneoimkfddhpaaDoorAllenAw
namespace Go.Proofs.YteneoimkfddhpaaDoor
open Go.RowKit
set_option linter.unusedVariables false
set_option maxHeartbeats 2000000 in
set_option maxRecDepth 100000 in
theorem ainv_0 (a b c d k : Int) (w : World) (HT : Hid (TabNM w)) (al : -9223372036854775808 ≤ a) (ah : a ≤ 9223372036854775807) (bl : -9223372036854775808 ≤ b) (bh : b ≤ 9223372036854775807) (cl : -9223372036854775808 ≤ c) (ch : c ≤ 9223372036854775807) (dl : -9223372036854775808 ≤ d) (dh : d ≤ 9223372036854775807) (r s : Int) (r1 : 0 ≤ r) (r2 : r ≤ 12) (s1 : 0 ≤ s) (s2 : s ≤ 12) (e12 : (r + s == 12) = true) (C1 : Hid (∀ w, Calls Tryd.prog 15 #[.agg #[.int .i64 a, .int .i64 b], .agg #[.int .i64 c, .int .i64 d]] w fun e w' => e = .returned (.tuple #[.int .i64 r, .bool true]) ∧ Kp w w')) (C2 : Hid (∀ w, Calls Tryd.prog 15 #[.agg #[.int .i64 c, .int .i64 d], .agg #[.int .i64 a, .int .i64 b]] w fun e w' => e = .returned (.tuple #[.int .i64 s, .bool true]) ∧ Kp w w')) (C3 : Hid (∀ w, Calls Tryd.prog 17 #[.int .i64 r] w fun e w' => e = .returned (.tuple #[.int .i64 s, .bool true]) ∧ w = w')) (C4 : Hid (∀ w, Calls Tryd.prog 17 #[.int .i64 s] w fun e w' => e = .returned (.tuple #[.int .i64 r, .bool true]) ∧ w = w'))  (t0 : decide (a < -2305843009213693952) = true) :
    Calls Tryd.prog 5 #[.agg #[.int .i64 a, .int .i64 b], .agg #[.int .i64 c, .int .i64 d], .int .i64 k] w fun e w' => e = .returned (.bool true) ∧ Below w.heap.size w w' := by
  go_enter Tryd.func5, Tryd.ntmps5
  go_wp2_with fail; refine (awake18 _ (HT.out.kp (kp2 _ _ _))).mono ?_; rintro e w1 ⟨rfl, k1⟩; have K1 := Lib.hid k1; obtain ⟨⟨x1, x2⟩, x3, x4⟩ := box2 k1; clear k1
  go_wp2_with fail; refine (C1.out _).mono ?_; rintro e w2 ⟨rfl, k2⟩; have K2 := Lib.hid (K1.out.trans k2); clear x1 x2 x3 x4; obtain ⟨⟨x1, x2⟩, x3, x4⟩ := box2 K2.out; clear k2
  go_wp2_with fail; refine (C2.out _).mono ?_; rintro e w3 ⟨rfl, k3⟩; have K3 := Lib.hid (K2.out.trans k3); clear x1 x2 x3 x4; obtain ⟨⟨x1, x2⟩, x3, x4⟩ := box2 K3.out; clear k3
  go_wp2_with fail; refine ((C3.out _)).mono ?_; rintro e w' ⟨rfl, rfl⟩
  go_wp2_with fail; refine ((C4.out _)).mono ?_; rintro e w' ⟨rfl, rfl⟩
  go_wp2
  go_ret
  exact ⟨rfl, (kp2 _ _ _).trans K3.out⟩
set_option maxHeartbeats 2000000 in
set_option maxRecDepth 100000 in
theorem ainv_1 (a b c d k : Int) (w : World) (HT : Hid (TabNM w)) (al : -9223372036854775808 ≤ a) (ah : a ≤ 9223372036854775807) (bl : -9223372036854775808 ≤ b) (bh : b ≤ 9223372036854775807) (cl : -9223372036854775808 ≤ c) (ch : c ≤ 9223372036854775807) (dl : -9223372036854775808 ≤ d) (dh : d ≤ 9223372036854775807) (r s : Int) (r1 : 0 ≤ r) (r2 : r ≤ 12) (s1 : 0 ≤ s) (s2 : s ≤ 12) (e12 : (r + s == 12) = true) (C1 : Hid (∀ w, Calls Tryd.prog 15 #[.agg #[.int .i64 a, .int .i64 b], .agg #[.int .i64 c, .int .i64 d]] w fun e w' => e = .returned (.tuple #[.int .i64 r, .bool true]) ∧ Kp w w')) (C2 : Hid (∀ w, Calls Tryd.prog 15 #[.agg #[.int .i64 c, .int .i64 d], .agg #[.int .i64 a, .int .i64 b]] w fun e w' => e = .returned (.tuple #[.int .i64 s, .bool true]) ∧ Kp w w')) (C3 : Hid (∀ w, Calls Tryd.prog 17 #[.int .i64 r] w fun e w' => e = .returned (.tuple #[.int .i64 s, .bool true]) ∧ w = w')) (C4 : Hid (∀ w, Calls Tryd.prog 17 #[.int .i64 s] w fun e w' => e = .returned (.tuple #[.int .i64 r, .bool true]) ∧ w = w')) (t0 : decide (a < -2305843009213693952) = false) (t1 : decide (2305843009213693952 < b) = true) :
    Calls Tryd.prog 5 #[.agg #[.int .i64 a, .int .i64 b], .agg #[.int .i64 c, .int .i64 d], .int .i64 k] w fun e w' => e = .returned (.bool true) ∧ Below w.heap.size w w' := by
  go_enter Tryd.func5, Tryd.ntmps5
  go_wp2_with fail; refine (awake18 _ (HT.out.kp (kp2 _ _ _))).mono ?_; rintro e w1 ⟨rfl, k1⟩; have K1 := Lib.hid k1; obtain ⟨⟨x1, x2⟩, x3, x4⟩ := box2 k1; clear k1
  go_wp2_with fail; refine (C1.out _).mono ?_; rintro e w2 ⟨rfl, k2⟩; have K2 := Lib.hid (K1.out.trans k2); clear x1 x2 x3 x4; obtain ⟨⟨x1, x2⟩, x3, x4⟩ := box2 K2.out; clear k2
  go_wp2_with fail; refine (C2.out _).mono ?_; rintro e w3 ⟨rfl, k3⟩; have K3 := Lib.hid (K2.out.trans k3); clear x1 x2 x3 x4; obtain ⟨⟨x1, x2⟩, x3, x4⟩ := box2 K3.out; clear k3
  go_wp2_with fail; refine ((C3.out _)).mono ?_; rintro e w' ⟨rfl, rfl⟩
  go_wp2_with fail; refine ((C4.out _)).mono ?_; rintro e w' ⟨rfl, rfl⟩
  go_wp2
  go_ret
  exact ⟨rfl, (kp2 _ _ _).trans K3.out⟩
set_option maxHeartbeats 2000000 in
set_option maxRecDepth 100000 in
theorem ainv_2 (a b c d k : Int) (w : World) (HT : Hid (TabNM w)) (al : -9223372036854775808 ≤ a) (ah : a ≤ 9223372036854775807) (bl : -9223372036854775808 ≤ b) (bh : b ≤ 9223372036854775807) (cl : -9223372036854775808 ≤ c) (ch : c ≤ 9223372036854775807) (dl : -9223372036854775808 ≤ d) (dh : d ≤ 9223372036854775807) (r s : Int) (r1 : 0 ≤ r) (r2 : r ≤ 12) (s1 : 0 ≤ s) (s2 : s ≤ 12) (e12 : (r + s == 12) = true) (C1 : Hid (∀ w, Calls Tryd.prog 15 #[.agg #[.int .i64 a, .int .i64 b], .agg #[.int .i64 c, .int .i64 d]] w fun e w' => e = .returned (.tuple #[.int .i64 r, .bool true]) ∧ Kp w w')) (C2 : Hid (∀ w, Calls Tryd.prog 15 #[.agg #[.int .i64 c, .int .i64 d], .agg #[.int .i64 a, .int .i64 b]] w fun e w' => e = .returned (.tuple #[.int .i64 s, .bool true]) ∧ Kp w w')) (C3 : Hid (∀ w, Calls Tryd.prog 17 #[.int .i64 r] w fun e w' => e = .returned (.tuple #[.int .i64 s, .bool true]) ∧ w = w')) (C4 : Hid (∀ w, Calls Tryd.prog 17 #[.int .i64 s] w fun e w' => e = .returned (.tuple #[.int .i64 r, .bool true]) ∧ w = w')) (t0 : decide (a < -2305843009213693952) = false) (t1 : decide (2305843009213693952 < b) = false) (t2 : decide (c < -2305843009213693952) = true) :
    Calls Tryd.prog 5 #[.agg #[.int .i64 a, .int .i64 b], .agg #[.int .i64 c, .int .i64 d], .int .i64 k] w fun e w' => e = .returned (.bool true) ∧ Below w.heap.size w w' := by
  go_enter Tryd.func5, Tryd.ntmps5
  go_wp2_with fail; refine (awake18 _ (HT.out.kp (kp2 _ _ _))).mono ?_; rintro e w1 ⟨rfl, k1⟩; have K1 := Lib.hid k1; obtain ⟨⟨x1, x2⟩, x3, x4⟩ := box2 k1; clear k1
  go_wp2_with fail; refine (C1.out _).mono ?_; rintro e w2 ⟨rfl, k2⟩; have K2 := Lib.hid (K1.out.trans k2); clear x1 x2 x3 x4; obtain ⟨⟨x1, x2⟩, x3, x4⟩ := box2 K2.out; clear k2
  go_wp2_with fail; refine (C2.out _).mono ?_; rintro e w3 ⟨rfl, k3⟩; have K3 := Lib.hid (K2.out.trans k3); clear x1 x2 x3 x4; obtain ⟨⟨x1, x2⟩, x3, x4⟩ := box2 K3.out; clear k3
  go_wp2_with fail; refine ((C3.out _)).mono ?_; rintro e w' ⟨rfl, rfl⟩
  go_wp2_with fail; refine ((C4.out _)).mono ?_; rintro e w' ⟨rfl, rfl⟩
  go_wp2
  go_ret
  exact ⟨rfl, (kp2 _ _ _).trans K3.out⟩
end Go.Proofs.YteneoimkfddhpaaDoor
