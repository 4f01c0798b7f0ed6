/-
  Walk of AllenInverse: all.
-/
import Derived.Test.YteneoimkfddhpaaDoorAllenI1
import Derived.Test.YteneoimkfddhpaaDoorAllenI2
import Derived.Test.YteneoimkfddhpaaDoorAllenI3
namespace Go.Proofs.YteneoimkfddhpaaDoor
open Go.RowKit
set_option linter.unusedVariables false
set_option maxHeartbeats 1000000 in
theorem allenInverse_walk (a b c d k : Int) (w : World) (hT : TabNM w) (al : -9223372036854775808 ≤ a) (ah : a ≤ 9223372036854775807) (bl : -9223372036854775808 ≤ b) (bh : b ≤ 9223372036854775807) (cl : -9223372036854775808 ≤ c) (ch : c ≤ 9223372036854775807) (dl : -9223372036854775808 ≤ d) (dh : d ≤ 9223372036854775807) (kl : -9223372036854775808 ≤ k) (kh : k ≤ 9223372036854775807) :
    Calls Tryd.prog 5 #[.agg #[.int .i64 a, .int .i64 b], .agg #[.int .i64 c, .int .i64 d], .int .i64 k] w fun e w' => e = .returned (.bool true) ∧ Below w.heap.size w w' := by
  have HT := Lib.hid hT
  have C1 := Lib.hid (fun w => of_any a b c d w al ah bl bh cl ch dl dh)
  have C2 := Lib.hid (fun w => of_any c d a b w cl ch dl dh al ah bl bh)
  by_cases hv : ivB a b c d = true
  · have hv2 : ivB c d a b = true := by unfold ivB at hv ⊢; simp only [decide_eq_true_eq] at hv ⊢; exact ⟨hv.2, hv.1⟩
    rw [hv, show relV a b c d = rel a b c d by unfold relV; rw [hv]; rfl] at C1
    rw [hv2, show relV c d a b = rel c d a b by unfold relV; rw [hv2]; rfl] at C2
    have v := hv
    unfold ivB at v
    simp only [decide_eq_true_eq] at v
    obtain ⟨v1, v2⟩ := v
    have sum : rel a b c d + rel c d a b = 12 := by unfold rel; (repeat' split) <;> omega
    have sh : rel (a + k) (b + k) (c + k) (d + k) = rel a b c d := by unfold rel; (repeat' split) <;> omega
    obtain ⟨r1, r2⟩ := rel_bd a b c d
    obtain ⟨s1, s2⟩ := rel_bd c d a b
    have C5 : a + k ≤ 9223372036854775807 → -9223372036854775808 ≤ a + k → b + k ≤ 9223372036854775807 → -9223372036854775808 ≤ b + k → c + k ≤ 9223372036854775807 → -9223372036854775808 ≤ c + k → d + k ≤ 9223372036854775807 → -9223372036854775808 ≤ d + k → Hid (∀ w, Calls Tryd.prog 15 #[.agg #[.int .i64 (a + k), .int .i64 (b + k)], .agg #[.int .i64 (c + k), .int .i64 (d + k)]] w fun e w' => e = .returned (.tuple #[.int .i64 (rel a b c d), .bool true]) ∧ Kp w w') := by
      intro q1 q2 q3 q4 q5 q6 q7 q8
      have z := fun w => of_any (a + k) (b + k) (c + k) (d + k) w q2 q1 q4 q3 q6 q5 q8 q7
      have hv3 : ivB (a + k) (b + k) (c + k) (d + k) = true := by unfold ivB; simp only [decide_eq_true_eq]; omega
      rw [hv3, show relV (a + k) (b + k) (c + k) (d + k) = rel (a + k) (b + k) (c + k) (d + k) by unfold relV; rw [hv3]; rfl, sh] at z
      exact Lib.hid z
    generalize rel a b c d = r at *
    generalize rel c d a b = s at *
    have C3 := Lib.hid (fun w => inverse_any r w)
    have C4 := Lib.hid (fun w => inverse_any s w)
    have i1 : invB r = true := by unfold invB; simp; omega
    have i2 : invB s = true := by unfold invB; simp; omega
    rw [i1, show invV r = s by unfold invV; rw [i1, if_pos rfl]; omega] at C3
    rw [i2, show invV s = r by unfold invV; rw [i2, if_pos rfl]; omega] at C4
    have e12 : (r + s == 12) = true := by simp; omega
    by_cases t0 : a < -2305843009213693952
    · exact ainv_0 a b c d k w HT al ah bl bh cl ch dl dh r s r1 r2 s1 s2 e12 C1 C2 C3 C4 (by simp; omega)
    by_cases t1 : 2305843009213693952 < b
    · exact ainv_1 a b c d k w HT al ah bl bh cl ch dl dh r s r1 r2 s1 s2 e12 C1 C2 C3 C4 (by simp; omega) (by simp; omega)
    by_cases t2 : c < -2305843009213693952
    · exact ainv_2 a b c d k w HT al ah bl bh cl ch dl dh r s r1 r2 s1 s2 e12 C1 C2 C3 C4 (by simp; omega) (by simp; omega) (by simp; omega)
    by_cases t3 : 2305843009213693952 < d
    · exact ainv_3 a b c d k w HT al ah bl bh cl ch dl dh r s r1 r2 s1 s2 e12 C1 C2 C3 C4 (by simp; omega) (by simp; omega) (by simp; omega) (by simp; omega)
    by_cases t4 : k < -2305843009213693952
    · exact ainv_4 a b c d k w HT al ah bl bh cl ch dl dh r s r1 r2 s1 s2 e12 C1 C2 C3 C4 (by simp; omega) (by simp; omega) (by simp; omega) (by simp; omega) (by simp; omega)
    by_cases t5 : 2305843009213693952 < k
    · exact ainv_5 a b c d k w HT al ah bl bh cl ch dl dh r s r1 r2 s1 s2 e12 C1 C2 C3 C4 (by simp; omega) (by simp; omega) (by simp; omega) (by simp; omega) (by simp; omega) (by simp; omega)
    exact ainv_in a b c d k w HT al ah bl bh cl ch dl dh r s r1 r2 s1 s2 e12 C1 C2 C3 C4 v1 v2 t0 t1 t2 t3 t4 t5 (C5 (by omega) (by omega) (by omega) (by omega) (by omega) (by omega) (by omega) (by omega))
  · have v : ivB a b c d = false := by simpa using hv
    have v2 : ivB c d a b = false := by unfold ivB at v ⊢; simp only [decide_eq_false_iff_not] at v ⊢; omega
    rw [v, show relV a b c d = 0 by unfold relV; rw [v]; rfl] at C1
    rw [v2, show relV c d a b = 0 by unfold relV; rw [v2]; rfl] at C2
    exact ainv_no a b c d k w HT al ah bl bh cl ch dl dh C1 C2
end Go.Proofs.YteneoimkfddhpaaDoor
