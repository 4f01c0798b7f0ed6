/-
  Walks of the statements of layer 19: examples, three masks, inverses, more.
-/
import Derived.Test.YteneoimkfddhpaaDoorComposeP
import Derived.Test.YteneoimkfddhpaaDoorMask
namespace Go.Proofs.YteneoimkfddhpaaDoor
open Go.RowKit
set_option linter.unusedVariables false
theorem ex_1 : compN 0 0 = 1 := by decide +kernel
theorem ex_2 : compN 4 0 = 1 := by decide +kernel
theorem ex_3 : compN 0 4 = 31 := by decide +kernel
theorem ex_4 : bothP (bA 1) (bA 1) = 1 := by decide +kernel
set_option maxHeartbeats 1000000 in
theorem awake19 (w : World) (hT : TabNM w) :
    Calls Tryd.prog 28 #[] w fun e w' => e = .returned (.bool true) ∧ Kp w w' := by
  have A1 := Lib.hid (fun w h => ccomp_any 0 0 w h)
  have A2 := Lib.hid (fun w h => ccomp_any 4 0 w h)
  have A3 := Lib.hid (fun w h => ccomp_any 0 4 w h)
  have A4 := Lib.hid (fun w => cboth_any 1 1 w)
  rw [ex_1] at A1
  rw [ex_2] at A2
  rw [ex_3] at A3
  rw [ex_4] at A4
  have HT := Lib.hid (fun w' (k : Kp w w') => hT.kp k)
  have K0 := Lib.hid (Kp.refl w)
  clear hT
  go_enter Tryd.func28, Tryd.ntmps28
  go_wp2_with fail; refine (A1.out _ (HT.out _ K0.out)).mono ?_; rintro e w1 ⟨rfl, k1⟩; have K1 := Lib.hid (K0.out.trans k1); clear k1
  go_wp2_with fail; refine (A2.out _ (HT.out _ K1.out)).mono ?_; rintro e w2 ⟨rfl, k1⟩; have K2 := Lib.hid (K1.out.trans k1); clear k1
  go_wp2_with fail; refine (A3.out _ (HT.out _ K2.out)).mono ?_; rintro e w3 ⟨rfl, k1⟩; have K3 := Lib.hid (K2.out.trans k1); clear k1
  go_wp2_with fail; refine (A4.out _).mono ?_; rintro e w4 ⟨rfl, k1⟩; have K4 := Lib.hid (K3.out.trans k1); clear k1
  go_wp2
  go_ret
  exact ⟨rfl, K4.out⟩
set_option maxHeartbeats 1000000 in
theorem composeThree_walk (a b c : Int) (w : World) (hT : TabNM w) :
    Calls Tryd.prog 13 #[.int .i64 a, .int .i64 b, .int .i64 c] w fun e w' => e = .returned (.bool true) ∧ Below w.heap.size w w' := by
  have A0 := Lib.hid (awake19 w hT)
  have A1 := Lib.hid (fun w => cboth_any a b w)
  have A2 := Lib.hid (fun w => cboth_any (bothP (bA a) (bA b) : Nat) c w)
  have A3 := Lib.hid (fun w => cboth_any b c w)
  have A4 := Lib.hid (fun w => cboth_any a (bothP (bA b) (bA c) : Nat) w)
  rw [both_three_I] at A2
  generalize bothP (bA a) (bA (bothP (bA b) (bA c) : Nat)) = z at *
  generalize bothP (bA a) (bA b) = x at *
  generalize bothP (bA b) (bA c) = y at *
  clear hT
  go_enter Tryd.func13, Tryd.ntmps13
  go_wp2_with fail; refine (A0.out).mono ?_; rintro e w1 ⟨rfl, k1⟩; have K1 := Lib.hid (id k1); clear k1
  go_wp2_with fail; refine (A1.out _).mono ?_; rintro e w2 ⟨rfl, k1⟩; have K2 := Lib.hid (K1.out.trans k1); clear k1
  go_wp2_with fail; refine (A2.out _).mono ?_; rintro e w3 ⟨rfl, k1⟩; have K3 := Lib.hid (K2.out.trans k1); clear k1
  go_wp2_with fail; refine (A3.out _).mono ?_; rintro e w4 ⟨rfl, k1⟩; have K4 := Lib.hid (K3.out.trans k1); clear k1
  go_wp2_with fail; refine (A4.out _).mono ?_; rintro e w5 ⟨rfl, k1⟩; have K5 := Lib.hid (K4.out.trans k1); clear k1
  go_wp2
  go_ret
  exact ⟨rfl, K5.out⟩
set_option maxHeartbeats 1000000 in
theorem composeMore_walk (a b c : Int) (w : World) (hT : TabNM w) :
    Calls Tryd.prog 12 #[.int .i64 a, .int .i64 b, .int .i64 c] w fun e w' => e = .returned (.bool true) ∧ Below w.heap.size w w' := by
  have A0 := Lib.hid (awake19 w hT)
  have A1 := Lib.hid (fun w => cboth_any (bits .or .i64 a b) c w)
  have A2 := Lib.hid (fun w => cboth_any a c w)
  have A3 := Lib.hid (fun w => cboth_any b c w)
  have A4 := Lib.hid (fun w => cboth_any c (bits .or .i64 a b) w)
  have A5 := Lib.hid (fun w => cboth_any c a w)
  have A6 := Lib.hid (fun w => cboth_any c b w)
  rw [more_left] at A1
  rw [more_right] at A4
  generalize ((bothP (bA a) (bA c) : Nat) : Int) = x1 at *
  generalize ((bothP (bA b) (bA c) : Nat) : Int) = x2 at *
  generalize ((bothP (bA c) (bA a) : Nat) : Int) = x3 at *
  generalize ((bothP (bA c) (bA b) : Nat) : Int) = x4 at *
  clear hT
  go_enter Tryd.func12, Tryd.ntmps12
  go_wp2_with fail; refine (A0.out).mono ?_; rintro e w1 ⟨rfl, k1⟩; have K1 := Lib.hid (id k1); clear k1
  go_wp2_with fail; refine (A1.out _).mono ?_; rintro e w2 ⟨rfl, k1⟩; have K2 := Lib.hid (K1.out.trans k1); clear k1
  go_wp2_with fail; refine (A2.out _).mono ?_; rintro e w3 ⟨rfl, k1⟩; have K3 := Lib.hid (K2.out.trans k1); clear k1
  go_wp2_with fail; refine (A3.out _).mono ?_; rintro e w4 ⟨rfl, k1⟩; have K4 := Lib.hid (K3.out.trans k1); clear k1
  go_wp2_with fail; refine (A4.out _).mono ?_; rintro e w5 ⟨rfl, k1⟩; have K5 := Lib.hid (K4.out.trans k1); clear k1
  go_wp2_with fail; refine (A5.out _).mono ?_; rintro e w6 ⟨rfl, k1⟩; have K6 := Lib.hid (K5.out.trans k1); clear k1
  go_wp2_with fail; refine (A6.out _).mono ?_; rintro e w7 ⟨rfl, k1⟩; have K7 := Lib.hid (K6.out.trans k1); clear k1
  go_wp2
  go_ret
  exact ⟨rfl, K7.out⟩
set_option maxHeartbeats 1000000 in
theorem composeInverse_walk (a b : Int) (w : World) (hT : TabNM w) :
    Calls Tryd.prog 11 #[.int .i64 a, .int .i64 b] w fun e w' => e = .returned (.bool true) ∧ Below w.heap.size w w' := by
  have A0 := Lib.hid (awake19 w hT)
  have A1 := Lib.hid (fun w => cboth_any a b w)
  have A2 := Lib.hid (fun w => flip_any (bothP (bA a) (bA b) : Nat) w)
  have A3 := Lib.hid (fun w => flip_any b w)
  have A4 := Lib.hid (fun w => flip_any a w)
  have A5 := Lib.hid (fun w => cboth_any (flip b) (flip a) w)
  have A6 := Lib.hid (fun w => cboth_any a 64 w)
  have A7 := Lib.hid (fun w => cboth_any 64 a w)
  have A8 := Lib.hid (fun w => cboth_any a 0 w)
  rw [both_flip] at A2
  rw [both_same] at A6
  rw [same_both] at A7
  rw [both_none] at A8
  have e13 := and13 a
  generalize a % 8192 = m at *
  generalize ((bothP (bA (flip b)) (bA (flip a)) : Nat) : Int) = x1 at *
  generalize ((bothP (bA a) (bA b) : Nat) : Int) = x2 at *
  generalize flip a = x3 at *
  generalize flip b = x4 at *
  clear hT
  go_enter Tryd.func11, Tryd.ntmps11
  go_wp2_with fail; refine (A0.out).mono ?_; rintro e w1 ⟨rfl, k1⟩; have K1 := Lib.hid (id k1); clear k1
  go_wp2_with fail; refine (A1.out _).mono ?_; rintro e w2 ⟨rfl, k1⟩; have K2 := Lib.hid (K1.out.trans k1); clear k1
  go_wp2_with fail; refine ((A2.out _)).mono ?_; rintro e w' ⟨rfl, rfl⟩
  go_wp2_with fail; refine ((A3.out _)).mono ?_; rintro e w' ⟨rfl, rfl⟩
  go_wp2_with fail; refine ((A4.out _)).mono ?_; rintro e w' ⟨rfl, rfl⟩
  go_wp2_with fail; refine (A5.out _).mono ?_; rintro e w3 ⟨rfl, k1⟩; have K3 := Lib.hid (K2.out.trans k1); clear k1
  go_wp2_with fail; refine (A6.out _).mono ?_; rintro e w4 ⟨rfl, k1⟩; have K4 := Lib.hid (K3.out.trans k1); clear k1
  go_wp2_with fail; refine (A7.out _).mono ?_; rintro e w5 ⟨rfl, k1⟩; have K5 := Lib.hid (K4.out.trans k1); clear k1
  go_wp2_with fail; refine (A8.out _).mono ?_; rintro e w6 ⟨rfl, k1⟩; have K6 := Lib.hid (K5.out.trans k1); clear k1
  go_wp2
  go_ret
  exact ⟨rfl, K6.out⟩
end Go.Proofs.YteneoimkfddhpaaDoor
