/-
  IntsAdd: the walk.
-/
import Derived.Test.YtgakcnoafkhkbaaAwake1
namespace Go.Proofs.Ytgakcnoafkhkbaa
open Go.RowKit

set_option maxHeartbeats 400000 in
set_option maxRecDepth 100000 in
theorem intsAdd_walk (a b : Int) (w : World) (ha : -9223372036854775808 ≤ a) (ha' : a ≤ 9223372036854775807) (hb : -9223372036854775808 ≤ b) (hb' : b ≤ 9223372036854775807) :
    Calls Try.prog 5 #[.int .i64 a, .int .i64 b] w fun e w' => e = .returned (.bool true) ∧ Below w.heap.size w w' := by
  have c1 := fun w => add_any a b w ha ha' hb hb'
  have c2 := fun w => add_any b a w hb hb' ha ha'
  rw [Int.add_comm b a] at c2
  rcases Bool.eq_false_or_eq_true (fitsB (a + b)) with f | f
  · rw [f, only_yes f] at c1 c2
    have g := fitsB_bd f
    clear f
    have C1 := Lib.hid c1
    have C2 := Lib.hid c2
    clear c1 c2
    by_cases d : b < 0 <;> by_cases d2 : 0 < b
    all_goals
      go_enter Try.func5, Try.ntmps5
      go_wp2_with fail
      refine (awake1 _).mono ?_
      rintro e w' ⟨rfl, rfl⟩
      go_wp2_with fail
      refine (C1.out _).mono ?_
      rintro e w' ⟨rfl, rfl⟩
      go_wp2_with fail
      refine (C2.out _).mono ?_
      rintro e w' ⟨rfl, rfl⟩
      go_wp2
      all_goals go_ret
      all_goals refine ⟨?_, Below.refl _ _⟩
      all_goals first | rfl | (exfalso; omega) | (refine ret_bool ?_; simp; omega)
  · rw [f, only_no f] at c1 c2
    have g := fitsB_bd' f
    clear f
    have C1 := Lib.hid c1
    have C2 := Lib.hid c2
    clear c1 c2
    by_cases d : 0 < a
    · have g2 : 0 < b ∧ wrap64 (a + b) < 0 := by
        obtain ⟨k, h⟩ := wrap64_mod (a + b)
        have := wrap64_bd (a + b)
        omega
      obtain ⟨g2, g3⟩ := g2
      clear g
      go_enter Try.func5, Try.ntmps5
      go_wp2_with fail
      refine (awake1 _).mono ?_
      rintro e w' ⟨rfl, rfl⟩
      go_wp2_with fail
      refine (C1.out _).mono ?_
      rintro e w' ⟨rfl, rfl⟩
      go_wp2_with fail
      refine (C2.out _).mono ?_
      rintro e w' ⟨rfl, rfl⟩
      go_wp2
      all_goals go_ret
      all_goals refine ⟨?_, Below.refl _ _⟩
      all_goals first | rfl | (exfalso; omega) | (refine ret_bool ?_; simp; omega)
    · have g2 : a < 0 ∧ b < 0 ∧ 0 ≤ wrap64 (a + b) := by
        obtain ⟨k, h⟩ := wrap64_mod (a + b)
        have := wrap64_bd (a + b)
        omega
      obtain ⟨g2, g4, g3⟩ := g2
      clear g
      go_enter Try.func5, Try.ntmps5
      go_wp2_with fail
      refine (awake1 _).mono ?_
      rintro e w' ⟨rfl, rfl⟩
      go_wp2_with fail
      refine (C1.out _).mono ?_
      rintro e w' ⟨rfl, rfl⟩
      go_wp2_with fail
      refine (C2.out _).mono ?_
      rintro e w' ⟨rfl, rfl⟩
      go_wp2
      all_goals go_ret
      all_goals refine ⟨?_, Below.refl _ _⟩
      all_goals first | rfl | (exfalso; omega) | (refine ret_bool ?_; simp; omega)

end Go.Proofs.Ytgakcnoafkhkbaa
