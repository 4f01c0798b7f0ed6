/-
  CivilOrder: the walk.
-/
import Derived.Test.YtgakcnoafkhkbaaDoorCivilAw
import Derived.Test.YtgakcnoafkhkbaaDoorMask
namespace Go.Proofs.YtgakcnoafkhkbaaDoor
open Go.RowKit
set_option linter.unusedVariables false
def befB (p q r s t u : Int) : Bool := decide (p < s ∨ p = s ∧ (q < t ∨ q = t ∧ r < u))
set_option maxHeartbeats 1000000 in
theorem civilOrder_walk (a b : Int) (w : World) (hT : Tabs w) (a1 : -9223372036854775808 ≤ a) (a2 : a ≤ 9223372036854775807) (b1 : -9223372036854775808 ≤ b) (b2 : b ≤ 9223372036854775807) :
    Calls Tryd.prog 7 #[.int .i64 a, .int .i64 b] w fun e w' => e = .returned (.bool true) ∧ w = w' := by
  have ma := and30 a
  have mb := and30 b
  obtain ⟨a', ha⟩ : ∃ n, n = a % 1073741824 := ⟨_, rfl⟩
  obtain ⟨b', hb⟩ : ∃ n, n = b % 1073741824 := ⟨_, rfl⟩
  rw [← ha] at ma
  rw [← hb] at mb
  have a3 : 0 ≤ a' := by omega
  have a4 : a' < 1073741824 := by omega
  have b3 : 0 ≤ b' := by omega
  have b4 : b' < 1073741824 := by omega
  clear ha hb
  have HT := Lib.hid hT
  clear hT
  have r1 : 0 ≤ a' % 3652425 ∧ a' % 3652425 ≤ 3652424 := by omega
  have r2 : 0 ≤ b' % 3652425 ∧ b' % 3652425 ≤ 3652424 := by omega
  have c1 := fun w h => date_any (a' % 3652425) w (by omega) (by omega) h
  have c2 := fun w h => date_any (b' % 3652425) w (by omega) (by omega) h
  obtain ⟨p, q, r, e⟩ : ∃ p q r, dte (a' % 3652425) = (p, q, r) := ⟨_, _, _, rfl⟩
  obtain ⟨s, t, u, f⟩ : ∃ p q r, dte (b' % 3652425) = (p, q, r) := ⟨_, _, _, rfl⟩
  obtain ⟨v1, n1⟩ := dte_yes _ r1.1 r1.2
  obtain ⟨v2, n2⟩ := dte_yes _ r2.1 r2.2
  rw [e] at v1 n1 c1
  rw [f] at v2 n2 c2
  simp only at v1 n1 v2 n2
  have lt := num_lt v1 v2
  rw [n1, n2] at lt
  have c3 := fun w h => valid_any p q r w h
  have c4 := fun w h => valid_any s t u w h
  rw [v1] at c3
  rw [v2] at c4
  clear v1 v2 n1 n2 e f
  obtain ⟨m, hm⟩ : ∃ m, a' % 3652425 = m := ⟨_, rfl⟩
  obtain ⟨n, hn⟩ : ∃ n, b' % 3652425 = n := ⟨_, rfl⟩
  rw [hm] at c1 lt r1
  rw [hn] at c2 lt r2
  have C1 := Lib.hid c1
  have C2 := Lib.hid c2
  have C3 := Lib.hid c3
  have C4 := Lib.hid c4
  clear c1 c2 c3 c4
  rcases Int.lt_trichotomy p s with k1 | k1 | k1
  · have g := lt.2 (.inl k1)
    clear lt
    go_enter Tryd.func7, Tryd.ntmps7
    go_wp2_with fail; refine ((awake2 _ HT.out)).mono ?_; rintro e w' ⟨rfl, rfl⟩
    go_wp2_with fail; refine ((C1.out _ HT.out.1)).mono ?_; rintro e w' ⟨rfl, rfl⟩
    go_wp2_with fail; refine ((C2.out _ HT.out.1)).mono ?_; rintro e w' ⟨rfl, rfl⟩
    go_wp2_with fail; refine ((C3.out _ HT.out.1)).mono ?_; rintro e w' ⟨rfl, rfl⟩
    go_wp2_with fail; refine ((C4.out _ HT.out.1)).mono ?_; rintro e w' ⟨rfl, rfl⟩
    go_wp2
    go_ret
    exact ⟨rfl, rfl⟩
  · subst k1
    have e1 : decide (p < p) = false := by simp
    rcases Int.lt_trichotomy q t with k2 | k2 | k2
    · have g := lt.2 (.inr ⟨rfl, .inl k2⟩)
      clear lt
      go_enter Tryd.func7, Tryd.ntmps7
      go_wp2_with fail; refine ((awake2 _ HT.out)).mono ?_; rintro e w' ⟨rfl, rfl⟩
      go_wp2_with fail; refine ((C1.out _ HT.out.1)).mono ?_; rintro e w' ⟨rfl, rfl⟩
      go_wp2_with fail; refine ((C2.out _ HT.out.1)).mono ?_; rintro e w' ⟨rfl, rfl⟩
      go_wp2_with fail; refine ((C3.out _ HT.out.1)).mono ?_; rintro e w' ⟨rfl, rfl⟩
      go_wp2_with fail; refine ((C4.out _ HT.out.1)).mono ?_; rintro e w' ⟨rfl, rfl⟩
      go_wp2
      go_ret
      exact ⟨rfl, rfl⟩
    · subst k2
      by_cases k3 : r < u
      · have g := lt.2 (.inr ⟨rfl, .inr ⟨rfl, k3⟩⟩)
        clear lt
        go_enter Tryd.func7, Tryd.ntmps7
        go_wp2_with fail; refine ((awake2 _ HT.out)).mono ?_; rintro e w' ⟨rfl, rfl⟩
        go_wp2_with fail; refine ((C1.out _ HT.out.1)).mono ?_; rintro e w' ⟨rfl, rfl⟩
        go_wp2_with fail; refine ((C2.out _ HT.out.1)).mono ?_; rintro e w' ⟨rfl, rfl⟩
        go_wp2_with fail; refine ((C3.out _ HT.out.1)).mono ?_; rintro e w' ⟨rfl, rfl⟩
        go_wp2_with fail; refine ((C4.out _ HT.out.1)).mono ?_; rintro e w' ⟨rfl, rfl⟩
        go_wp2
        go_ret
        exact ⟨rfl, rfl⟩
      · have g : ¬ m < n := fun h => by have := lt.1 h; omega
        clear lt
        go_enter Tryd.func7, Tryd.ntmps7
        go_wp2_with fail; refine ((awake2 _ HT.out)).mono ?_; rintro e w' ⟨rfl, rfl⟩
        go_wp2_with fail; refine ((C1.out _ HT.out.1)).mono ?_; rintro e w' ⟨rfl, rfl⟩
        go_wp2_with fail; refine ((C2.out _ HT.out.1)).mono ?_; rintro e w' ⟨rfl, rfl⟩
        go_wp2_with fail; refine ((C3.out _ HT.out.1)).mono ?_; rintro e w' ⟨rfl, rfl⟩
        go_wp2_with fail; refine ((C4.out _ HT.out.1)).mono ?_; rintro e w' ⟨rfl, rfl⟩
        go_wp2
        go_ret
        exact ⟨rfl, rfl⟩
    · have g : ¬ m < n := fun h => by have := lt.1 h; omega
      have e2 : (q == t) = false := by simp; omega
      clear lt
      go_enter Tryd.func7, Tryd.ntmps7
      go_wp2_with fail; refine ((awake2 _ HT.out)).mono ?_; rintro e w' ⟨rfl, rfl⟩
      go_wp2_with fail; refine ((C1.out _ HT.out.1)).mono ?_; rintro e w' ⟨rfl, rfl⟩
      go_wp2_with fail; refine ((C2.out _ HT.out.1)).mono ?_; rintro e w' ⟨rfl, rfl⟩
      go_wp2_with fail; refine ((C3.out _ HT.out.1)).mono ?_; rintro e w' ⟨rfl, rfl⟩
      go_wp2_with fail; refine ((C4.out _ HT.out.1)).mono ?_; rintro e w' ⟨rfl, rfl⟩
      go_wp2
      go_ret
      exact ⟨rfl, rfl⟩
  · have g : ¬ m < n := fun h => by have := lt.1 h; omega
    have e2 : (p == s) = false := by simp; omega
    clear lt
    go_enter Tryd.func7, Tryd.ntmps7
    go_wp2_with fail; refine ((awake2 _ HT.out)).mono ?_; rintro e w' ⟨rfl, rfl⟩
    go_wp2_with fail; refine ((C1.out _ HT.out.1)).mono ?_; rintro e w' ⟨rfl, rfl⟩
    go_wp2_with fail; refine ((C2.out _ HT.out.1)).mono ?_; rintro e w' ⟨rfl, rfl⟩
    go_wp2_with fail; refine ((C3.out _ HT.out.1)).mono ?_; rintro e w' ⟨rfl, rfl⟩
    go_wp2_with fail; refine ((C4.out _ HT.out.1)).mono ?_; rintro e w' ⟨rfl, rfl⟩
    go_wp2
    go_ret
    exact ⟨rfl, rfl⟩
end Go.Proofs.YtgakcnoafkhkbaaDoor
