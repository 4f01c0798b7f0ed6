/-
  Walk of AllenMeans: some of the cases.
-/
import Derived.Test.YteneoimkfddhpaaDoorAllenAw
namespace Go.Proofs.YteneoimkfddhpaaDoor
open Go.RowKit
set_option linter.unusedVariables false
set_option maxHeartbeats 1000000 in
set_option maxRecDepth 100000 in
theorem means_5 (a b c d : Int) (w : World) (HT : Hid (TabNM w)) (al : -9223372036854775808 ≤ a) (ah : a ≤ 9223372036854775807) (bl : -9223372036854775808 ≤ b) (bh : b ≤ 9223372036854775807) (cl : -9223372036854775808 ≤ c) (ch : c ≤ 9223372036854775807) (dl : -9223372036854775808 ≤ d) (dh : d ≤ 9223372036854775807) (C : Hid (∀ w, Calls Tryd.prog 15 #[.agg #[.int .i64 a, .int .i64 b], .agg #[.int .i64 c, .int .i64 d]] w fun e w' => e = .returned (.tuple #[.int .i64 5, .bool true]) ∧ Kp w w')) (f0 : decide (b < a) = false) (f00 : decide (d < c) = false) (f1 : decide (a ≤ d) = true) (f2 : decide (c ≤ b) = true) (f3 : decide (b < c) = false) (f4 : decide (a < c) = false) (f5 : (a == c) = false) (f6 : decide (b < d) = false) (f7 : (b == d) = true) :
    Calls Tryd.prog 4 #[.agg #[.int .i64 a, .int .i64 b], .agg #[.int .i64 c, .int .i64 d]] w fun e w' => e = .returned (.bool true) ∧ Below w.heap.size w w' := by
  go_enter Tryd.func4, Tryd.ntmps4
  go_wp2_with fail; refine (awake18 _ (HT.out.kp (kp2 _ _ _))).mono ?_; rintro e w1 ⟨rfl, k1⟩; have K1 := Lib.hid k1; obtain ⟨⟨x1, x2⟩, x3, x4⟩ := box2 k1; clear k1
  go_wp2_with fail; refine (C.out _).mono ?_; rintro e w2 ⟨rfl, k2⟩; have K2 := Lib.hid k2; clear x1 x2 x3 x4; obtain ⟨⟨x1, x2⟩, x3, x4⟩ := box2 (K1.out.trans k2); clear k2
  go_wp2
  go_ret
  exact ⟨rfl, (kp2 _ _ _).trans (K1.out.trans K2.out)⟩
set_option maxHeartbeats 1000000 in
set_option maxRecDepth 100000 in
theorem means_10 (a b c d : Int) (w : World) (HT : Hid (TabNM w)) (al : -9223372036854775808 ≤ a) (ah : a ≤ 9223372036854775807) (bl : -9223372036854775808 ≤ b) (bh : b ≤ 9223372036854775807) (cl : -9223372036854775808 ≤ c) (ch : c ≤ 9223372036854775807) (dl : -9223372036854775808 ≤ d) (dh : d ≤ 9223372036854775807) (C : Hid (∀ w, Calls Tryd.prog 15 #[.agg #[.int .i64 a, .int .i64 b], .agg #[.int .i64 c, .int .i64 d]] w fun e w' => e = .returned (.tuple #[.int .i64 10, .bool true]) ∧ Kp w w')) (f0 : decide (b < a) = false) (f00 : decide (d < c) = false) (f1 : decide (a ≤ d) = true) (f2 : decide (c ≤ b) = true) (f3 : decide (b < c) = false) (f4 : decide (a < c) = false) (f5 : (a == c) = false) (f6 : decide (b < d) = false) (f7 : (b == d) = false) :
    Calls Tryd.prog 4 #[.agg #[.int .i64 a, .int .i64 b], .agg #[.int .i64 c, .int .i64 d]] w fun e w' => e = .returned (.bool true) ∧ Below w.heap.size w w' := by
  go_enter Tryd.func4, Tryd.ntmps4
  go_wp2_with fail; refine (awake18 _ (HT.out.kp (kp2 _ _ _))).mono ?_; rintro e w1 ⟨rfl, k1⟩; have K1 := Lib.hid k1; obtain ⟨⟨x1, x2⟩, x3, x4⟩ := box2 k1; clear k1
  go_wp2_with fail; refine (C.out _).mono ?_; rintro e w2 ⟨rfl, k2⟩; have K2 := Lib.hid k2; clear x1 x2 x3 x4; obtain ⟨⟨x1, x2⟩, x3, x4⟩ := box2 (K1.out.trans k2); clear k2
  go_wp2
  go_ret
  exact ⟨rfl, (kp2 _ _ _).trans (K1.out.trans K2.out)⟩
set_option maxHeartbeats 1000000 in
set_option maxRecDepth 100000 in
theorem means_no2 (a b c d : Int) (w : World) (HT : Hid (TabNM w)) (al : -9223372036854775808 ≤ a) (ah : a ≤ 9223372036854775807) (bl : -9223372036854775808 ≤ b) (bh : b ≤ 9223372036854775807) (cl : -9223372036854775808 ≤ c) (ch : c ≤ 9223372036854775807) (dl : -9223372036854775808 ≤ d) (dh : d ≤ 9223372036854775807) (C : Hid (∀ w, Calls Tryd.prog 15 #[.agg #[.int .i64 a, .int .i64 b], .agg #[.int .i64 c, .int .i64 d]] w fun e w' => e = .returned (.tuple #[.int .i64 0, .bool false]) ∧ Kp w w')) (f0 : decide (b < a) = false) (f00 : decide (d < c) = true) :
    Calls Tryd.prog 4 #[.agg #[.int .i64 a, .int .i64 b], .agg #[.int .i64 c, .int .i64 d]] w fun e w' => e = .returned (.bool true) ∧ Below w.heap.size w w' := by
  go_enter Tryd.func4, Tryd.ntmps4
  go_wp2_with fail; refine (awake18 _ (HT.out.kp (kp2 _ _ _))).mono ?_; rintro e w1 ⟨rfl, k1⟩; have K1 := Lib.hid k1; obtain ⟨⟨x1, x2⟩, x3, x4⟩ := box2 k1; clear k1
  go_wp2_with fail; refine (C.out _).mono ?_; rintro e w2 ⟨rfl, k2⟩; have K2 := Lib.hid k2; clear x1 x2 x3 x4; obtain ⟨⟨x1, x2⟩, x3, x4⟩ := box2 (K1.out.trans k2); clear k2
  go_wp2
  go_ret
  exact ⟨rfl, (kp2 _ _ _).trans (K1.out.trans K2.out)⟩
end Go.Proofs.YteneoimkfddhpaaDoor
