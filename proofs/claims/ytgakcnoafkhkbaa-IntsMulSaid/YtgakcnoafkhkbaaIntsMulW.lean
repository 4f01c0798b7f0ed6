/-
  IntsMul: the walk.
-/
import Derived.Test.YtgakcnoafkhkbaaAwake1
namespace Go.Proofs.Ytgakcnoafkhkbaa
open Go.RowKit

theorem mul_small {a b : Int} (f : fitsB (a * b) = false) : (2147483648 < a ∨ a < -2147483648 ∨ 2147483648 < b ∨ b < -2147483648) := by
  rcases Int.lt_or_le 2147483648 a with h1 | h1
  · exact .inl h1
  rcases Int.lt_or_le a (-2147483648) with h2 | h2
  · exact .inr (.inl h2)
  rcases Int.lt_or_le 2147483648 b with h3 | h3
  · exact .inr (.inr (.inl h3))
  rcases Int.lt_or_le b (-2147483648) with h4 | h4
  · exact .inr (.inr (.inr h4))
  exfalso
  have h : (a * b).natAbs ≤ 2147483648 * 2147483648 := by
    rw [Int.natAbs_mul]
    exact Nat.mul_le_mul (by omega) (by omega)
  have := fitsB_bd' f
  omega

set_option maxHeartbeats 400000 in
set_option maxRecDepth 100000 in
theorem intsMul_no (a b : Int) (w : World) (ha : -9223372036854775808 ≤ a) (ha' : a ≤ 9223372036854775807) (hb : -9223372036854775808 ≤ b) (hb' : b ≤ 9223372036854775807) (f : fitsB (a * b) = false) :
    Calls Try.prog 6 #[.int .i64 a, .int .i64 b] w fun e w' => e = .returned (.bool true) ∧ Below w.heap.size w w' := by
  have c1 := fun w => mul_any a b w ha ha' hb hb'
  have c2 := fun w => mul_any b a w hb hb' ha ha'
  rw [Int.mul_comm b a] at c2
  rw [f, only_no f] at c1 c2
  have g := mul_small f
  have a0 : (a != 0) = true := by rw [bne_iff_ne]; rintro rfl; simp [fitsB] at f
  have b0 : (b != 0) = true := by rw [bne_iff_ne]; rintro rfl; simp [fitsB] at f
  have a1 : (a != 1) = true := by rw [bne_iff_ne]; rintro rfl; rw [Int.one_mul, fitsB_yes hb hb'] at f; cases f
  have b1 : (b != 1) = true := by rw [bne_iff_ne]; rintro rfl; rw [Int.mul_one, fitsB_yes ha ha'] at f; cases f
  clear f
  have C1 := Lib.hid c1
  have C2 := Lib.hid c2
  clear c1 c2
  by_cases g1 : 2147483648 < a
  · have k1 : decide (2147483648 < a) = true := by simpa using g1
    clear g g1
    go_enter Try.func6, Try.ntmps6
    go_wp2_with fail; refine ((awake1 _)).mono ?_; rintro e w' ⟨rfl, rfl⟩
    go_wp2_with fail; refine ((C1.out _)).mono ?_; rintro e w' ⟨rfl, rfl⟩
    go_wp2_with fail; refine ((C2.out _)).mono ?_; rintro e w' ⟨rfl, rfl⟩
    go_wp2
    go_ret
    exact ⟨by first | rfl | (refine ret_bool ?_; simp; omega), Below.refl _ _⟩
  have k1 : decide (2147483648 < a) = false := by simpa using g1
  by_cases g2 : a < -2147483648
  · have k2 : decide (a < -2147483648) = true := by simpa using g2
    clear g g1 g2
    go_enter Try.func6, Try.ntmps6
    go_wp2_with fail; refine ((awake1 _)).mono ?_; rintro e w' ⟨rfl, rfl⟩
    go_wp2_with fail; refine ((C1.out _)).mono ?_; rintro e w' ⟨rfl, rfl⟩
    go_wp2_with fail; refine ((C2.out _)).mono ?_; rintro e w' ⟨rfl, rfl⟩
    go_wp2
    go_ret
    exact ⟨by first | rfl | (refine ret_bool ?_; simp; omega), Below.refl _ _⟩
  have k2 : decide (a < -2147483648) = false := by simpa using g2
  by_cases g3 : 2147483648 < b
  · have k3 : decide (2147483648 < b) = true := by simpa using g3
    clear g g1 g2 g3
    go_enter Try.func6, Try.ntmps6
    go_wp2_with fail; refine ((awake1 _)).mono ?_; rintro e w' ⟨rfl, rfl⟩
    go_wp2_with fail; refine ((C1.out _)).mono ?_; rintro e w' ⟨rfl, rfl⟩
    go_wp2_with fail; refine ((C2.out _)).mono ?_; rintro e w' ⟨rfl, rfl⟩
    go_wp2
    go_ret
    exact ⟨by first | rfl | (refine ret_bool ?_; simp; omega), Below.refl _ _⟩
  have k3 : decide (2147483648 < b) = false := by simpa using g3
  have k4 : decide (b < -2147483648) = true := by simp; omega
  clear g g1 g2 g3
  go_enter Try.func6, Try.ntmps6
  go_wp2_with fail; refine ((awake1 _)).mono ?_; rintro e w' ⟨rfl, rfl⟩
  go_wp2_with fail; refine ((C1.out _)).mono ?_; rintro e w' ⟨rfl, rfl⟩
  go_wp2_with fail; refine ((C2.out _)).mono ?_; rintro e w' ⟨rfl, rfl⟩
  go_wp2
  go_ret
  exact ⟨by first | rfl | (refine ret_bool ?_; simp; omega), Below.refl _ _⟩
set_option maxHeartbeats 400000 in
set_option maxRecDepth 100000 in
theorem intsMul_yes (a b : Int) (w : World) (ha : -9223372036854775808 ≤ a) (ha' : a ≤ 9223372036854775807) (hb : -9223372036854775808 ≤ b) (hb' : b ≤ 9223372036854775807) (f : fitsB (a * b) = true) :
    Calls Try.prog 6 #[.int .i64 a, .int .i64 b] w fun e w' => e = .returned (.bool true) ∧ Below w.heap.size w w' := by
  have c1 := fun w => mul_any a b w ha ha' hb hb'
  have c2 := fun w => mul_any b a w hb hb' ha ha'
  rw [Int.mul_comm b a] at c2
  rw [f, only_yes f] at c1 c2
  have fb := fitsB_bd f
  by_cases a0 : a = 0
  · subst a0
    rw [Int.zero_mul] at c1 c2
    have C1 := Lib.hid c1
    have C2 := Lib.hid c2
    clear c1 c2 f fb ha ha'
    go_enter Try.func6, Try.ntmps6
    go_wp2_with fail; refine ((awake1 _)).mono ?_; rintro e w' ⟨rfl, rfl⟩
    go_wp2_with fail; refine ((C1.out _)).mono ?_; rintro e w' ⟨rfl, rfl⟩
    go_wp2_with fail; refine ((C2.out _)).mono ?_; rintro e w' ⟨rfl, rfl⟩
    go_wp2
    go_ret
    exact ⟨by first | rfl | (refine ret_bool ?_; simp; omega), Below.refl _ _⟩
  by_cases b0 : b = 0
  · subst b0
    rw [Int.mul_zero] at c1 c2
    have a0' : (a == 0) = false := by simpa using a0
    have C1 := Lib.hid c1
    have C2 := Lib.hid c2
    clear c1 c2 f fb hb hb'
    go_enter Try.func6, Try.ntmps6
    go_wp2_with fail; refine ((awake1 _)).mono ?_; rintro e w' ⟨rfl, rfl⟩
    go_wp2_with fail; refine ((C1.out _)).mono ?_; rintro e w' ⟨rfl, rfl⟩
    go_wp2_with fail; refine ((C2.out _)).mono ?_; rintro e w' ⟨rfl, rfl⟩
    go_wp2
    go_ret
    exact ⟨by first | rfl | (refine ret_bool ?_; simp; omega), Below.refl _ _⟩
  have a0' : (a == 0) = false := by simpa using a0
  have b0' : (b == 0) = false := by simpa using b0
  have s1 : 0 < a → 0 < b → 0 < a * b := fun h h' => Int.mul_pos h h'
  have s2 : 0 < a → ¬ 0 < b → a * b < 0 := fun h h' => Int.mul_neg_of_pos_of_neg h (by omega)
  have s3 : ¬ 0 < a → 0 < b → a * b < 0 := fun h h' => Int.mul_neg_of_neg_of_pos (by omega) h'
  have s4 : ¬ 0 < a → ¬ 0 < b → 0 < a * b := fun h h' => Int.mul_pos_of_neg_of_neg (by omega) (by omega)
  have t1 : (wrap64 ((a * b).tdiv b) == a) = true := by rw [Int.mul_tdiv_cancel _ b0, IntWalk.wrap64_in _ ⟨ha, ha'⟩]; simp
  have t2 : ((a * b).tmod b == 0) = true := by simp
  have t6 : ((a * b).tdiv b == a) = true := by rw [Int.mul_tdiv_cancel _ b0]; simp
  have t4 : (a * b / b == a) = true := by rw [Int.mul_ediv_cancel _ b0]; simp
  have t5 : (a * b % b == 0) = true := by simp
  by_cases b1 : b = -1
  · subst b1
    have e : a * -1 = -a := by omega
    rw [e] at c1 c2 fb
    have t3 : (wrap64 (-(-a)) == a) = true := by rw [Int.neg_neg, IntWalk.wrap64_in _ ⟨ha, ha'⟩]; simp
    clear s1 s2 s3 s4 t1 t2 t4 t5 t6 b0 f e
    have C1 := Lib.hid c1
    have C2 := Lib.hid c2
    clear c1 c2
    by_cases g1 : 0 < a
    · have k : -a < 0 := by omega
      have k2 : decide (0 < -a) = false := by simp; omega
      have k3 : decide (0 < a) = true := by simp; omega
      clear g1
      go_enter Try.func6, Try.ntmps6
      go_wp2_with fail; refine ((awake1 _)).mono ?_; rintro e w' ⟨rfl, rfl⟩
      go_wp2_with fail; refine ((C1.out _)).mono ?_; rintro e w' ⟨rfl, rfl⟩
      go_wp2_with fail; refine ((C2.out _)).mono ?_; rintro e w' ⟨rfl, rfl⟩
      go_wp2
      go_ret
      exact ⟨by first | rfl | (refine ret_bool ?_; simp; omega), Below.refl _ _⟩
    · have k : 0 < -a := by omega
      have k2 : decide (0 < -a) = true := by simp; omega
      have k3 : decide (0 < a) = false := by simp; omega
      clear g1
      go_enter Try.func6, Try.ntmps6
      go_wp2_with fail; refine ((awake1 _)).mono ?_; rintro e w' ⟨rfl, rfl⟩
      go_wp2_with fail; refine ((C1.out _)).mono ?_; rintro e w' ⟨rfl, rfl⟩
      go_wp2_with fail; refine ((C2.out _)).mono ?_; rintro e w' ⟨rfl, rfl⟩
      go_wp2
      go_ret
      exact ⟨by first | rfl | (refine ret_bool ?_; simp; omega), Below.refl _ _⟩
  clear f
  generalize a * b = p at *
  have C1 := Lib.hid c1
  have C2 := Lib.hid c2
  clear c1 c2
  by_cases g1 : 0 < a <;> by_cases g2 : 0 < b
  · have k := s1 g1 g2
    clear s1 s2 s3 s4
    go_enter Try.func6, Try.ntmps6
    go_wp2_with fail; refine ((awake1 _)).mono ?_; rintro e w' ⟨rfl, rfl⟩
    go_wp2_with fail; refine ((C1.out _)).mono ?_; rintro e w' ⟨rfl, rfl⟩
    go_wp2_with fail; refine ((C2.out _)).mono ?_; rintro e w' ⟨rfl, rfl⟩
    go_wp2
    go_ret
    exact ⟨by first | rfl | (refine ret_bool ?_; simp; omega), Below.refl _ _⟩
  · have k := s2 g1 g2
    clear s1 s2 s3 s4
    go_enter Try.func6, Try.ntmps6
    go_wp2_with fail; refine ((awake1 _)).mono ?_; rintro e w' ⟨rfl, rfl⟩
    go_wp2_with fail; refine ((C1.out _)).mono ?_; rintro e w' ⟨rfl, rfl⟩
    go_wp2_with fail; refine ((C2.out _)).mono ?_; rintro e w' ⟨rfl, rfl⟩
    go_wp2
    go_ret
    exact ⟨by first | rfl | (refine ret_bool ?_; simp; omega), Below.refl _ _⟩
  · have k := s3 g1 g2
    clear s1 s2 s3 s4
    go_enter Try.func6, Try.ntmps6
    go_wp2_with fail; refine ((awake1 _)).mono ?_; rintro e w' ⟨rfl, rfl⟩
    go_wp2_with fail; refine ((C1.out _)).mono ?_; rintro e w' ⟨rfl, rfl⟩
    go_wp2_with fail; refine ((C2.out _)).mono ?_; rintro e w' ⟨rfl, rfl⟩
    go_wp2
    go_ret
    exact ⟨by first | rfl | (refine ret_bool ?_; simp; omega), Below.refl _ _⟩
  · have k := s4 g1 g2
    clear s1 s2 s3 s4
    go_enter Try.func6, Try.ntmps6
    go_wp2_with fail; refine ((awake1 _)).mono ?_; rintro e w' ⟨rfl, rfl⟩
    go_wp2_with fail; refine ((C1.out _)).mono ?_; rintro e w' ⟨rfl, rfl⟩
    go_wp2_with fail; refine ((C2.out _)).mono ?_; rintro e w' ⟨rfl, rfl⟩
    go_wp2
    go_ret
    exact ⟨by first | rfl | (refine ret_bool ?_; simp; omega), Below.refl _ _⟩
theorem intsMul_walk (a b : Int) (w : World) (ha : -9223372036854775808 ≤ a) (ha' : a ≤ 9223372036854775807) (hb : -9223372036854775808 ≤ b) (hb' : b ≤ 9223372036854775807) :
    Calls Try.prog 6 #[.int .i64 a, .int .i64 b] w fun e w' => e = .returned (.bool true) ∧ Below w.heap.size w w' := by
  rcases Bool.eq_false_or_eq_true (fitsB (a * b)) with f | f
  · exact intsMul_yes a b w ha ha' hb hb' f
  · exact intsMul_no a b w ha ha' hb hb' f
end Go.Proofs.Ytgakcnoafkhkbaa
