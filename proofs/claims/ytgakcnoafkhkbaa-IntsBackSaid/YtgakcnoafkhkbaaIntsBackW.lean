/-
  IntsBack: the walk.
-/
import Derived.Test.YtgakcnoafkhkbaaAwake1
namespace Go.Proofs.Ytgakcnoafkhkbaa
open Go.RowKit

theorem back_fact {a b : Int} (ha : -9223372036854775808 ≤ a) (ha' : a ≤ 9223372036854775807) (hb : 1 ≤ b) (hb' : b ≤ 9223372036854775807) :
    0 ≤ mdl a b ∧ mdl a b < b ∧ (wrap64 (wrap64 (flr a b * b) + mdl a b) == a) = true ∧ (0 ≤ a → (flr a b == a / b) = true) ∧ (a < 0 → flr a b < 0) := by
  have e1 : flr a b = a / b := by unfold flr; rw [if_neg (by omega)]
  have e2 : mdl a b = a % b := by unfold mdl; rw [if_neg (by omega)]
  rw [e1, e2]
  have p := Int.emod_nonneg a (show b ≠ 0 by omega)
  have q := Int.emod_lt_of_pos a (show 0 < b by omega)
  have d := Int.ediv_mul_add_emod a b
  refine ⟨p, q, ?_, fun _ => by simp, fun h => Int.ediv_neg_of_neg_of_pos h (by omega)⟩
  obtain ⟨k1, h1⟩ := wrap64_mod (a / b * b)
  obtain ⟨k2, h2⟩ := wrap64_mod (wrap64 (a / b * b) + a % b)
  have b2 := wrap64_bd (wrap64 (a / b * b) + a % b)
  rw [beq_iff_eq]
  omega

set_option maxHeartbeats 400000 in
set_option maxRecDepth 100000 in
theorem intsBack_walk (a b : Int) (w : World) (ha : -9223372036854775808 ≤ a) (ha' : a ≤ 9223372036854775807) (hb : -9223372036854775808 ≤ b) (hb' : b ≤ 9223372036854775807) :
    Calls Try.prog 4 #[.int .i64 a, .int .i64 b] w fun e w' => e = .returned (.bool true) ∧ Below w.heap.size w w' := by
  have c1 := fun w => floor_any a b w ha ha' hb hb'
  have c2 := fun w => mod_any a b w ha ha' hb hb'
  by_cases c : b < 1
  · rw [show flr a b = 0 by unfold flr; rw [if_pos c]] at c1
    rw [show mdl a b = 0 by unfold mdl; rw [if_pos c]] at c2
    have C1 := Lib.hid c1
    have C2 := Lib.hid c2
    clear c1 c2
    go_enter Try.func4, Try.ntmps4
    go_wp2_with (first | (go_at_call 9; refine (awake1 _).mono ?_; rintro e w' ⟨rfl, rfl⟩) | (go_at_call 14; refine (C1.out _).mono ?_; rintro e w' ⟨rfl, rfl⟩) | (go_at_call 16; refine (C2.out _).mono ?_; rintro e w' ⟨rfl, rfl⟩))
    go_ret
    exact ⟨rfl, Below.refl _ _⟩
  · obtain ⟨f1, f2, f3, f4, f5⟩ := back_fact ha ha' (show 1 ≤ b by omega) hb'
    have C1 := Lib.hid c1
    have C2 := Lib.hid c2
    clear c1 c2
    generalize flr a b = q, mdl a b = r at *
    have g1 : decide (0 ≤ r) = true := by simpa using f1
    have g2 : decide (r < b) = true := by simpa using f2
    by_cases d : a < 0
    · have f6 := f5 d
      have g3 : decide (a < 0) = true := by simpa using d
      have g4 : decide (q < 0) = true := by simpa using f6
      have g5 : decide (0 ≤ a) = false := by simpa using d
      clear f4 f5
      go_enter Try.func4, Try.ntmps4
      go_wp2_with (first | (go_at_call 9; refine (awake1 _).mono ?_; rintro e w' ⟨rfl, rfl⟩) | (go_at_call 16; refine (C2.out _).mono ?_; rintro e w' ⟨rfl, rfl⟩))
      go_quiet ((go_at_call 14; exact quiet_same (C1.out _)))
      go_wp2
      go_ret
      exact ⟨rfl, below_drewN (Below.refl _ _) _⟩
    · have f6 := f4 (by omega)
      have g3 : decide (a < 0) = false := by simpa using d
      have g5 : decide (0 ≤ a) = true := by simp; omega
      clear f4 f5
      go_enter Try.func4, Try.ntmps4
      go_wp2_with (first | (go_at_call 9; refine (awake1 _).mono ?_; rintro e w' ⟨rfl, rfl⟩) | (go_at_call 16; refine (C2.out _).mono ?_; rintro e w' ⟨rfl, rfl⟩))
      go_quiet ((go_at_call 14; exact quiet_same (C1.out _)))
      go_wp2
      go_ret
      exact ⟨rfl, below_drewN (Below.refl _ _) _⟩

end Go.Proofs.Ytgakcnoafkhkbaa
