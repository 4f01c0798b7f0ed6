/-
  IntsClamp: the walk.
-/
import Derived.Test.YtgakcnoafkhkbaaAwake1
namespace Go.Proofs.Ytgakcnoafkhkbaa
open Go.RowKit

set_option maxHeartbeats 400000 in
set_option maxRecDepth 100000 in
theorem intsClamp_walk (n m lo hi : Int) (w : World) (hn : -9223372036854775808 ≤ n) (hn' : n ≤ 9223372036854775807) (hm : -9223372036854775808 ≤ m) (hm' : m ≤ 9223372036854775807)
    (hb : -9223372036854775808 ≤ lo) (hb' : lo ≤ 9223372036854775807) (hc : -9223372036854775808 ≤ hi) (hc' : hi ≤ 9223372036854775807) :
    Calls Try.prog 7 #[.int .i64 n, .int .i64 m, .int .i64 lo, .int .i64 hi] w fun e w' => e = .returned (.bool true) ∧ Below w.heap.size w w' := by
  have c1 := fun w => clamp_any n lo hi w hn hn' hb hb' hc hc'
  have c2 := fun w => clamp_any m lo hi w hm hm' hb hb' hc hc'
  obtain ⟨x, hx⟩ : ∃ x, x = clamp n lo hi := ⟨_, rfl⟩
  obtain ⟨y, hy⟩ : ∃ y, y = clamp m lo hi := ⟨_, rfl⟩
  rw [← hx] at c1
  rw [← hy] at c2
  by_cases d : hi < lo
  · have e1 : (x == lo) = true := by rw [hx]; unfold clamp; rw [if_pos (by omega)]; simp
    clear hx hy
    have C1 := Lib.hid c1
    have C2 := Lib.hid c2
    clear c1 c2
    go_enter Try.func7, Try.ntmps7
    go_wp2_with fail; refine ((awake1 _)).mono ?_; rintro e w' ⟨rfl, rfl⟩
    go_wp2_with fail; refine ((C1.out _)).mono ?_; rintro e w' ⟨rfl, rfl⟩
    go_wp2_with fail; refine ((C2.out _)).mono ?_; rintro e w' ⟨rfl, rfl⟩
    go_wp2
    go_ret
    exact ⟨rfl, Below.refl _ _⟩
  · have b1 : lo ≤ x ∧ x ≤ hi ∧ (n < lo ∨ hi < n ∨ n = x) ∧ (m < n ∨ x ≤ y) ∧ clamp x lo hi = x := by
      have h1 : x = clamp n lo hi := hx
      have h2 : y = clamp m lo hi := hy
      unfold clamp at h1 h2 ⊢
      split at h1 <;> split at h2 <;> (repeat' split) <;> omega
    obtain ⟨b1, b2, b3, b4, b5⟩ := b1
    have c3 := fun w => clamp_any x lo hi w (by omega) (by omega) hb hb' hc hc'
    rw [b5] at c3
    clear hx hy b5
    have C1 := Lib.hid c1
    have C2 := Lib.hid c2
    have C3 := Lib.hid c3
    clear c1 c2 c3
    have k1 : decide (lo ≤ x) = true := by simpa using b1
    have k2 : decide (x ≤ hi) = true := by simpa using b2
    rcases b3 with h | h | h
    · have k3 : decide (n < lo) = true := by simpa using h
      clear h
      rcases b4 with g | g
      · have k4 : decide (m < n) = true := by simpa using g
        go_enter Try.func7, Try.ntmps7
        go_wp2_with fail; refine ((awake1 _)).mono ?_; rintro e w' ⟨rfl, rfl⟩
        go_wp2_with fail; refine ((C1.out _)).mono ?_; rintro e w' ⟨rfl, rfl⟩
        go_wp2_with fail; refine ((C2.out _)).mono ?_; rintro e w' ⟨rfl, rfl⟩
        go_wp2_with fail; refine ((C3.out _)).mono ?_; rintro e w' ⟨rfl, rfl⟩
        go_wp2
        go_ret
        exact ⟨rfl, Below.refl _ _⟩
      · have k4 : decide (x ≤ y) = true := by simpa using g
        by_cases k5 : m < n
        all_goals
          go_enter Try.func7, Try.ntmps7
          go_wp2_with fail; refine ((awake1 _)).mono ?_; rintro e w' ⟨rfl, rfl⟩
          go_wp2_with fail; refine ((C1.out _)).mono ?_; rintro e w' ⟨rfl, rfl⟩
          go_wp2_with fail; refine ((C2.out _)).mono ?_; rintro e w' ⟨rfl, rfl⟩
          go_wp2_with fail; refine ((C3.out _)).mono ?_; rintro e w' ⟨rfl, rfl⟩
          go_wp2
          go_ret
          exact ⟨rfl, Below.refl _ _⟩
    · by_cases k6 : n < lo
      · omega
      have k3 : decide (hi < n) = true := by simpa using h
      clear h
      rcases b4 with g | g
      · have k4 : decide (m < n) = true := by simpa using g
        go_enter Try.func7, Try.ntmps7
        go_wp2_with fail; refine ((awake1 _)).mono ?_; rintro e w' ⟨rfl, rfl⟩
        go_wp2_with fail; refine ((C1.out _)).mono ?_; rintro e w' ⟨rfl, rfl⟩
        go_wp2_with fail; refine ((C2.out _)).mono ?_; rintro e w' ⟨rfl, rfl⟩
        go_wp2_with fail; refine ((C3.out _)).mono ?_; rintro e w' ⟨rfl, rfl⟩
        go_wp2
        go_ret
        exact ⟨rfl, Below.refl _ _⟩
      · have k4 : decide (x ≤ y) = true := by simpa using g
        by_cases k5 : m < n
        all_goals
          go_enter Try.func7, Try.ntmps7
          go_wp2_with fail; refine ((awake1 _)).mono ?_; rintro e w' ⟨rfl, rfl⟩
          go_wp2_with fail; refine ((C1.out _)).mono ?_; rintro e w' ⟨rfl, rfl⟩
          go_wp2_with fail; refine ((C2.out _)).mono ?_; rintro e w' ⟨rfl, rfl⟩
          go_wp2_with fail; refine ((C3.out _)).mono ?_; rintro e w' ⟨rfl, rfl⟩
          go_wp2
          go_ret
          exact ⟨rfl, Below.refl _ _⟩
    · subst h
      rcases b4 with g | g
      · have k4 : decide (m < n) = true := by simpa using g
        go_enter Try.func7, Try.ntmps7
        go_wp2_with fail; refine ((awake1 _)).mono ?_; rintro e w' ⟨rfl, rfl⟩
        go_wp2_with fail; refine ((C1.out _)).mono ?_; rintro e w' ⟨rfl, rfl⟩
        go_wp2_with fail; refine ((C2.out _)).mono ?_; rintro e w' ⟨rfl, rfl⟩
        go_wp2_with fail; refine ((C3.out _)).mono ?_; rintro e w' ⟨rfl, rfl⟩
        go_wp2
        go_ret
        exact ⟨rfl, Below.refl _ _⟩
      · have k4 : decide (n ≤ y) = true := by simpa using g
        by_cases k5 : m < n
        all_goals
          go_enter Try.func7, Try.ntmps7
          go_wp2_with fail; refine ((awake1 _)).mono ?_; rintro e w' ⟨rfl, rfl⟩
          go_wp2_with fail; refine ((C1.out _)).mono ?_; rintro e w' ⟨rfl, rfl⟩
          go_wp2_with fail; refine ((C2.out _)).mono ?_; rintro e w' ⟨rfl, rfl⟩
          go_wp2_with fail; refine ((C3.out _)).mono ?_; rintro e w' ⟨rfl, rfl⟩
          go_wp2
          go_ret
          exact ⟨rfl, Below.refl _ _⟩
end Go.Proofs.Ytgakcnoafkhkbaa
