/-
  Contracts of package compose: small ones.
-/
import Derived.Test.YteneoimkfddhpaaDoorComposeM
import Derived.Test.YteneoimkfddhpaaDoorAllenAw
import Derived.Deep.RegionHeld3
import Derived.Deep.DeepCutAuto
namespace Go.Proofs.YteneoimkfddhpaaDoor
open Go.RowKit
set_option linter.unusedVariables false
set_option maxHeartbeats 1000000 in
theorem chas_any (m : Int) (r : Nat) (w : World) (h : r ≤ 12) :
    Calls Tryd.prog 47 #[.int .i64 m, .int .i64 r] w fun e w' => e = .returned (.bool (bitB m r)) ∧ w = w' := by
  have : r = 0 ∨ r = 1 ∨ r = 2 ∨ r = 3 ∨ r = 4 ∨ r = 5 ∨ r = 6 ∨ r = 7 ∨ r = 8 ∨ r = 9 ∨ r = 10 ∨ r = 11 ∨ r = 12 := by omega
  clear h
  rcases this with rfl | rfl | rfl | rfl | rfl | rfl | rfl | rfl | rfl | rfl | rfl | rfl | rfl
  · have e := bit_0 m; generalize bitB m 0 = v at *; (go_enter Tryd.func47, Tryd.ntmps47); go_wp2; go_ret; exact ⟨rfl, rfl⟩
  · have e := bit_1 m; generalize bitB m 1 = v at *; (go_enter Tryd.func47, Tryd.ntmps47); go_wp2; go_ret; exact ⟨rfl, rfl⟩
  · have e := bit_2 m; generalize bitB m 2 = v at *; (go_enter Tryd.func47, Tryd.ntmps47); go_wp2; go_ret; exact ⟨rfl, rfl⟩
  · have e := bit_3 m; generalize bitB m 3 = v at *; (go_enter Tryd.func47, Tryd.ntmps47); go_wp2; go_ret; exact ⟨rfl, rfl⟩
  · have e := bit_4 m; generalize bitB m 4 = v at *; (go_enter Tryd.func47, Tryd.ntmps47); go_wp2; go_ret; exact ⟨rfl, rfl⟩
  · have e := bit_5 m; generalize bitB m 5 = v at *; (go_enter Tryd.func47, Tryd.ntmps47); go_wp2; go_ret; exact ⟨rfl, rfl⟩
  · have e := bit_6 m; generalize bitB m 6 = v at *; (go_enter Tryd.func47, Tryd.ntmps47); go_wp2; go_ret; exact ⟨rfl, rfl⟩
  · have e := bit_7 m; generalize bitB m 7 = v at *; (go_enter Tryd.func47, Tryd.ntmps47); go_wp2; go_ret; exact ⟨rfl, rfl⟩
  · have e := bit_8 m; generalize bitB m 8 = v at *; (go_enter Tryd.func47, Tryd.ntmps47); go_wp2; go_ret; exact ⟨rfl, rfl⟩
  · have e := bit_9 m; generalize bitB m 9 = v at *; (go_enter Tryd.func47, Tryd.ntmps47); go_wp2; go_ret; exact ⟨rfl, rfl⟩
  · have e := bit_10 m; generalize bitB m 10 = v at *; (go_enter Tryd.func47, Tryd.ntmps47); go_wp2; go_ret; exact ⟨rfl, rfl⟩
  · have e := bit_11 m; generalize bitB m 11 = v at *; (go_enter Tryd.func47, Tryd.ntmps47); go_wp2; go_ret; exact ⟨rfl, rfl⟩
  · have e := bit_12 m; generalize bitB m 12 = v at *; (go_enter Tryd.func47, Tryd.ntmps47); go_wp2; go_ret; exact ⟨rfl, rfl⟩
/-- three intervals, as the cells of a struct -/
def six (a b c d e f : Int) : Value := .agg #[.int .i64 a, .int .i64 b, .int .i64 c, .int .i64 d, .int .i64 e, .int .i64 f]
set_option maxHeartbeats 1000000 in
theorem ofFirst_any (a b c d e f : Int) (w : World) (al : 0 ≤ a) (ah : a ≤ 4) (bl : 0 ≤ b) (bh : b ≤ 4) (cl : 0 ≤ c) (ch : c ≤ 4) (dl : 0 ≤ d) (dh : d ≤ 4) (h1 : a ≤ b) (h2 : c ≤ d) :
    Calls Tryd.prog 48 #[six a b c d e f] w fun e w' => e = .returned (.int .i64 (rel a b c d)) ∧ Kp w w' := by
  have C := Lib.hid (fun w => of_any a b c d w (by omega) (by omega) (by omega) (by omega) (by omega) (by omega) (by omega) (by omega))
  rw [show relV a b c d = rel a b c d by unfold relV ivB; simp [h1, h2], show ivB a b c d = true by unfold ivB; simp [h1, h2]] at C
  generalize rel a b c d = r at *
  unfold six
  go_enter Tryd.func48, Tryd.ntmps48
  go_wp2_with fail; refine (C.out _).mono ?_; rintro e w1 ⟨rfl, k1⟩
  go_wp2
  go_ret
  exact ⟨rfl, (Kp.alloc _ _).trans k1⟩
set_option maxHeartbeats 1000000 in
theorem ofSecond_any (a b c d e f : Int) (w : World) (cl : 0 ≤ c) (ch : c ≤ 4) (dl : 0 ≤ d) (dh : d ≤ 4) (el : 0 ≤ e) (eh : e ≤ 4) (fl : 0 ≤ f) (fh : f ≤ 4) (h1 : c ≤ d) (h2 : e ≤ f) :
    Calls Tryd.prog 51 #[six a b c d e f] w fun e' w' => e' = .returned (.int .i64 (rel c d e f)) ∧ Kp w w' := by
  have C := Lib.hid (fun w => of_any c d e f w (by omega) (by omega) (by omega) (by omega) (by omega) (by omega) (by omega) (by omega))
  rw [show relV c d e f = rel c d e f by unfold relV ivB; simp [h1, h2], show ivB c d e f = true by unfold ivB; simp [h1, h2]] at C
  generalize rel c d e f = r at *
  unfold six
  go_enter Tryd.func51, Tryd.ntmps51
  go_wp2_with fail; refine (C.out _).mono ?_; rintro e w1 ⟨rfl, k1⟩
  go_wp2
  go_ret
  exact ⟨rfl, (Kp.alloc _ _).trans k1⟩
set_option maxHeartbeats 1000000 in
theorem ofBoth_any (a b c d e f : Int) (w : World) (al : 0 ≤ a) (ah : a ≤ 4) (bl : 0 ≤ b) (bh : b ≤ 4) (el : 0 ≤ e) (eh : e ≤ 4) (fl : 0 ≤ f) (fh : f ≤ 4) (h1 : a ≤ b) (h2 : e ≤ f) :
    Calls Tryd.prog 52 #[six a b c d e f] w fun e' w' => e' = .returned (.int .i64 (rel a b e f)) ∧ Kp w w' := by
  have C := Lib.hid (fun w => of_any a b e f w (by omega) (by omega) (by omega) (by omega) (by omega) (by omega) (by omega) (by omega))
  rw [show relV a b e f = rel a b e f by unfold relV ivB; simp [h1, h2], show ivB a b e f = true by unfold ivB; simp [h1, h2]] at C
  generalize rel a b e f = r at *
  unfold six
  go_enter Tryd.func52, Tryd.ntmps52
  go_wp2_with fail; refine (C.out _).mono ?_; rintro e w1 ⟨rfl, k1⟩
  go_wp2
  go_ret
  exact ⟨rfl, (Kp.alloc _ _).trans k1⟩
end Go.Proofs.YteneoimkfddhpaaDoor
