/-
  Walk of AllenMeans: all.
-/
import Derived.Test.YteneoimkfddhpaaDoorAllenM1
import Derived.Test.YteneoimkfddhpaaDoorAllenM2
import Derived.Test.YteneoimkfddhpaaDoorAllenM3
import Derived.Test.YteneoimkfddhpaaDoorAllenM4
import Derived.Test.YteneoimkfddhpaaDoorAllenM5
namespace Go.Proofs.YteneoimkfddhpaaDoor
open Go.RowKit
set_option linter.unusedVariables false
set_option maxHeartbeats 1000000 in
theorem allenMeans_walk (a b c d : Int) (w : World) (hT : TabNM w) (al : -9223372036854775808 ≤ a) (ah : a ≤ 9223372036854775807) (bl : -9223372036854775808 ≤ b) (bh : b ≤ 9223372036854775807) (cl : -9223372036854775808 ≤ c) (ch : c ≤ 9223372036854775807) (dl : -9223372036854775808 ≤ d) (dh : d ≤ 9223372036854775807) :
    Calls Tryd.prog 4 #[.agg #[.int .i64 a, .int .i64 b], .agg #[.int .i64 c, .int .i64 d]] w fun e w' => e = .returned (.bool true) ∧ Below w.heap.size w w' := by
  have HT := Lib.hid hT
  have C := Lib.hid (fun w => of_any a b c d w al ah bl bh cl ch dl dh)
  by_cases hv : ivB a b c d = true
  · rw [hv, show relV a b c d = rel a b c d by unfold relV; rw [hv]; rfl] at C
    have v := hv
    unfold ivB at v
    simp only [decide_eq_true_eq] at v
    obtain ⟨v1, v2⟩ := v
    rcases Int.lt_or_le b c with h3 | h3
    · by_cases h5 : b + 1 = c
      · rw [show rel a b c d = 1 by unfold rel; (repeat' split) <;> omega] at C
        exact means_1 a b c d w HT al ah bl bh cl ch dl dh C (by simp; try omega) (by simp; try omega) (by simp; try omega) (by simp; try omega) (by simp; try omega) (by simp; try omega) (by simp; try omega) (by simp; try omega) (by simp; try omega) (by simp; try omega) (by assumption)
      · rw [show rel a b c d = 0 by unfold rel; (repeat' split) <;> omega] at C
        exact means_0 a b c d w HT al ah bl bh cl ch dl dh C (by simp; try omega) (by simp; try omega) (by simp; try omega) (by simp; try omega) (by simp; try omega) (by simp; try omega) (by simp; try omega) (by simp; try omega) (by simp; try omega) (by simp; try omega) (by assumption)
    rcases Int.lt_or_le d a with h4 | h4
    · by_cases h5 : d + 1 = a
      · rw [show rel a b c d = 11 by unfold rel; (repeat' split) <;> omega] at C
        exact means_11 a b c d w HT al ah bl bh cl ch dl dh C (by simp; try omega) (by simp; try omega) (by simp; try omega) (by simp; try omega) (by simp; try omega) (by simp; try omega) (by simp; try omega) (by simp; try omega) (by simp; try omega) (by simp; try omega) (by assumption)
      · rw [show rel a b c d = 12 by unfold rel; (repeat' split) <;> omega] at C
        exact means_12 a b c d w HT al ah bl bh cl ch dl dh C (by simp; try omega) (by simp; try omega) (by simp; try omega) (by simp; try omega) (by simp; try omega) (by simp; try omega) (by simp; try omega) (by simp; try omega) (by simp; try omega) (by simp; try omega) (by assumption)
    rcases Int.lt_trichotomy a c with h | h | h <;> rcases Int.lt_trichotomy b d with g | g | g
    · rw [show rel a b c d = 2 by unfold rel; (repeat' split) <;> omega] at C
      exact means_2 a b c d w HT al ah bl bh cl ch dl dh C (by simp; try omega) (by simp; try omega) (by simp; try omega) (by simp; try omega) (by simp; try omega) (by simp; try omega) (by simp; try omega) (by simp; try omega) (by simp; try omega)
    · rw [show rel a b c d = 7 by unfold rel; (repeat' split) <;> omega] at C
      exact means_7 a b c d w HT al ah bl bh cl ch dl dh C (by simp; try omega) (by simp; try omega) (by simp; try omega) (by simp; try omega) (by simp; try omega) (by simp; try omega) (by simp; try omega) (by simp; try omega) (by simp; try omega)
    · rw [show rel a b c d = 8 by unfold rel; (repeat' split) <;> omega] at C
      exact means_8 a b c d w HT al ah bl bh cl ch dl dh C (by simp; try omega) (by simp; try omega) (by simp; try omega) (by simp; try omega) (by simp; try omega) (by simp; try omega) (by simp; try omega) (by simp; try omega) (by simp; try omega)
    · rw [show rel a b c d = 3 by unfold rel; (repeat' split) <;> omega] at C
      exact means_3 a b c d w HT al ah bl bh cl ch dl dh C (by simp; try omega) (by simp; try omega) (by simp; try omega) (by simp; try omega) (by simp; try omega) (by simp; try omega) (by simp; try omega) (by simp; try omega) (by simp; try omega)
    · rw [show rel a b c d = 6 by unfold rel; (repeat' split) <;> omega] at C
      exact means_6 a b c d w HT al ah bl bh cl ch dl dh C (by simp; try omega) (by simp; try omega) (by simp; try omega) (by simp; try omega) (by simp; try omega) (by simp; try omega) (by simp; try omega) (by simp; try omega) (by simp; try omega)
    · rw [show rel a b c d = 9 by unfold rel; (repeat' split) <;> omega] at C
      exact means_9 a b c d w HT al ah bl bh cl ch dl dh C (by simp; try omega) (by simp; try omega) (by simp; try omega) (by simp; try omega) (by simp; try omega) (by simp; try omega) (by simp; try omega) (by simp; try omega) (by simp; try omega)
    · rw [show rel a b c d = 4 by unfold rel; (repeat' split) <;> omega] at C
      exact means_4 a b c d w HT al ah bl bh cl ch dl dh C (by simp; try omega) (by simp; try omega) (by simp; try omega) (by simp; try omega) (by simp; try omega) (by simp; try omega) (by simp; try omega) (by simp; try omega) (by simp; try omega)
    · rw [show rel a b c d = 5 by unfold rel; (repeat' split) <;> omega] at C
      exact means_5 a b c d w HT al ah bl bh cl ch dl dh C (by simp; try omega) (by simp; try omega) (by simp; try omega) (by simp; try omega) (by simp; try omega) (by simp; try omega) (by simp; try omega) (by simp; try omega) (by simp; try omega)
    · rw [show rel a b c d = 10 by unfold rel; (repeat' split) <;> omega] at C
      exact means_10 a b c d w HT al ah bl bh cl ch dl dh C (by simp; try omega) (by simp; try omega) (by simp; try omega) (by simp; try omega) (by simp; try omega) (by simp; try omega) (by simp; try omega) (by simp; try omega) (by simp; try omega)
  · have v : ivB a b c d = false := by simpa using hv
    rw [v, show relV a b c d = 0 by unfold relV; rw [v]; rfl] at C
    unfold ivB at hv
    simp only [decide_eq_true_eq] at hv
    by_cases h1 : b < a
    · exact means_no1 a b c d w HT al ah bl bh cl ch dl dh C (by simp; omega)
    · exact means_no2 a b c d w HT al ah bl bh cl ch dl dh C (by simp; omega) (by simp; omega)
end Go.Proofs.YteneoimkfddhpaaDoor
