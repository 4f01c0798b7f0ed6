/-
  UnitRows: the walk.
-/
import Derived.Test.YtfopcacoacedcaaDoorUnitAw
namespace Go.Proofs.YtfopcacoacedcaaDoor
open Go.RowKit
set_option linter.unusedVariables false
set_option maxHeartbeats 1000000 in
set_option maxRecDepth 100000 in
theorem unitRows_walk (k i : Int) (w : World) (hT : Tabs w) (y1 : -9223372036854775808 ≤ k) (y2 : k ≤ 9223372036854775807) (m1 : -9223372036854775808 ≤ i) (m2 : i ≤ 9223372036854775807) :
    Calls Tryd.prog 4 #[.int .i64 k, .int .i64 i] w fun e w' => e = .returned (.bool true) ∧ Below w.heap.size w w' := by
  have HT := Lib.hid hT
  clear hT
  have nb := cnt_bd k
  have c1 := countC k
  have c2 := firstC k i
  have c3 := lastC k i
  have c4 := firstC k (i + 1)
  rcases Bool.eq_false_or_eq_true (okU k i) with o | o
  · obtain ⟨i0, i1⟩ := (okU_iff k i).1 o
    rw [firV_yes i0 i1, o] at c2
    rw [lasV_yes i0 i1, o] at c3
    have sp := span_bd i0 i1
    have z1 : i = 0 → k = 2 → fst k i = 60 := by rintro rfl rfl; decide
    have z2 : i = 0 → k ≠ 2 → fst k i = 0 := by
      rintro rfl h
      rcases cnt_six (k := k) (by omega) with rfl | rfl | rfl | rfl | rfl | rfl
      · decide
      · decide
      · exact absurd rfl h
      · decide
      · decide
      · decide
    have z3 : i = cnt k - 1 → lst k i = 3652424 := fun h => by unfold lst; rw [if_pos h]
    have z4 : i ≠ cnt k - 1 → okU k (i + 1) = true ∧ firV k (i + 1) = lst k i + 1 := fun h => by
      refine ⟨okU_yes (by omega) (by omega), ?_⟩
      rw [firV_yes (by omega) (by omega)]; unfold lst; rw [if_neg h]; omega
    have z5 : i = cnt k - 1 → okU k (i + 1) = false ∧ firV k (i + 1) = 0 := fun h => by
      have := okU_no (k := k) (i := i + 1) (.inr (by omega))
      exact ⟨this, firV_no this⟩
    clear o
    generalize hn : cnt k = n at *
    generalize ha : fst k i = a at *
    generalize hb : lst k i = b at *
    clear hn ha hb
    have e0 : (i == 0) = true ∧ (k != 2) = false ∧ (a != 60) = false ∧ (a != 0) = true ∨ (i == 0) = true ∧ (a != 0) = false ∨ (i == 0) = false := by
      by_cases h : i = 0
      · by_cases h2 : k = 2
        · left; have := z1 h h2; subst this; simp [h, h2]
        · right; left; have := z2 h h2; subst this; simp [h]
      · right; right; simpa using h
    clear z1 z2
    by_cases zz : i = n - 1
    · have f1 := z3 zz
      obtain ⟨f2, f3⟩ := z5 zz
      rw [f2, f3] at c4
      have f4 : (i == n - 1) = true := by simpa using zz
      have f5 : (b != 3652424) = false := by simpa using f1
      have f6 : decide (i < n - 1) = false := by simp; omega
      clear z3 z4 z5 zz f1 f2 f3
      have C1 := Lib.hid c1
      have C2 := Lib.hid c2
      have C3 := Lib.hid c3
      have C4 := Lib.hid c4
      clear c1 c2 c3 c4
      rcases e0 with ⟨e1, e2, e3, e4⟩ | ⟨e1, e2⟩ | e1
      · go_enter Tryd.func4, Tryd.ntmps4
        go_wp2_with fail; refine (awake3 _ HT.out).mono ?_; rintro e w0 ⟨rfl, k0⟩; have H0 := Lib.hid (HT.out.kp k0)
        go_wp2_with fail; refine (C1.out _ H0.out).mono ?_; rintro e w1 ⟨rfl, k1⟩; have H1 := Lib.hid (H0.out.kp k1)
        go_wp2_with fail; refine (C2.out _ H1.out).mono ?_; rintro e w2 ⟨rfl, k2⟩; have H2 := Lib.hid (H1.out.kp k2)
        go_wp2_with fail; refine (C3.out _ H2.out).mono ?_; rintro e w3 ⟨rfl, k3⟩; have H3 := Lib.hid (H2.out.kp k3)
        go_wp2_with fail; refine (C4.out _ H3.out).mono ?_; rintro e w4 ⟨rfl, k4⟩; have H4 := Lib.hid (H3.out.kp k4)
        go_wp2
        go_ret
        exact ⟨rfl, k0.trans (k1.trans (k2.trans (k3.trans (k4))))⟩
      · go_enter Tryd.func4, Tryd.ntmps4
        go_wp2_with fail; refine (awake3 _ HT.out).mono ?_; rintro e w0 ⟨rfl, k0⟩; have H0 := Lib.hid (HT.out.kp k0)
        go_wp2_with fail; refine (C1.out _ H0.out).mono ?_; rintro e w1 ⟨rfl, k1⟩; have H1 := Lib.hid (H0.out.kp k1)
        go_wp2_with fail; refine (C2.out _ H1.out).mono ?_; rintro e w2 ⟨rfl, k2⟩; have H2 := Lib.hid (H1.out.kp k2)
        go_wp2_with fail; refine (C3.out _ H2.out).mono ?_; rintro e w3 ⟨rfl, k3⟩; have H3 := Lib.hid (H2.out.kp k3)
        go_wp2_with fail; refine (C4.out _ H3.out).mono ?_; rintro e w4 ⟨rfl, k4⟩; have H4 := Lib.hid (H3.out.kp k4)
        go_wp2
        go_ret
        exact ⟨rfl, k0.trans (k1.trans (k2.trans (k3.trans (k4))))⟩
      · go_enter Tryd.func4, Tryd.ntmps4
        go_wp2_with fail; refine (awake3 _ HT.out).mono ?_; rintro e w0 ⟨rfl, k0⟩; have H0 := Lib.hid (HT.out.kp k0)
        go_wp2_with fail; refine (C1.out _ H0.out).mono ?_; rintro e w1 ⟨rfl, k1⟩; have H1 := Lib.hid (H0.out.kp k1)
        go_wp2_with fail; refine (C2.out _ H1.out).mono ?_; rintro e w2 ⟨rfl, k2⟩; have H2 := Lib.hid (H1.out.kp k2)
        go_wp2_with fail; refine (C3.out _ H2.out).mono ?_; rintro e w3 ⟨rfl, k3⟩; have H3 := Lib.hid (H2.out.kp k3)
        go_wp2_with fail; refine (C4.out _ H3.out).mono ?_; rintro e w4 ⟨rfl, k4⟩; have H4 := Lib.hid (H3.out.kp k4)
        go_wp2
        go_ret
        exact ⟨rfl, k0.trans (k1.trans (k2.trans (k3.trans (k4))))⟩
    · obtain ⟨f2, f3⟩ := z4 zz
      rw [f2, f3] at c4
      have f4 : (i == n - 1) = false := by simpa using zz
      have f6 : decide (i < n - 1) = true := by simp; omega
      clear z3 z4 z5 zz f2 f3
      have C1 := Lib.hid c1
      have C2 := Lib.hid c2
      have C3 := Lib.hid c3
      have C4 := Lib.hid c4
      clear c1 c2 c3 c4
      rcases e0 with ⟨e1, e2, e3, e4⟩ | ⟨e1, e2⟩ | e1
      · go_enter Tryd.func4, Tryd.ntmps4
        go_wp2_with fail; refine (awake3 _ HT.out).mono ?_; rintro e w0 ⟨rfl, k0⟩; have H0 := Lib.hid (HT.out.kp k0)
        go_wp2_with fail; refine (C1.out _ H0.out).mono ?_; rintro e w1 ⟨rfl, k1⟩; have H1 := Lib.hid (H0.out.kp k1)
        go_wp2_with fail; refine (C2.out _ H1.out).mono ?_; rintro e w2 ⟨rfl, k2⟩; have H2 := Lib.hid (H1.out.kp k2)
        go_wp2_with fail; refine (C3.out _ H2.out).mono ?_; rintro e w3 ⟨rfl, k3⟩; have H3 := Lib.hid (H2.out.kp k3)
        go_wp2_with fail; refine (C4.out _ H3.out).mono ?_; rintro e w4 ⟨rfl, k4⟩; have H4 := Lib.hid (H3.out.kp k4)
        go_wp2
        go_ret
        exact ⟨rfl, k0.trans (k1.trans (k2.trans (k3.trans (k4))))⟩
      · go_enter Tryd.func4, Tryd.ntmps4
        go_wp2_with fail; refine (awake3 _ HT.out).mono ?_; rintro e w0 ⟨rfl, k0⟩; have H0 := Lib.hid (HT.out.kp k0)
        go_wp2_with fail; refine (C1.out _ H0.out).mono ?_; rintro e w1 ⟨rfl, k1⟩; have H1 := Lib.hid (H0.out.kp k1)
        go_wp2_with fail; refine (C2.out _ H1.out).mono ?_; rintro e w2 ⟨rfl, k2⟩; have H2 := Lib.hid (H1.out.kp k2)
        go_wp2_with fail; refine (C3.out _ H2.out).mono ?_; rintro e w3 ⟨rfl, k3⟩; have H3 := Lib.hid (H2.out.kp k3)
        go_wp2_with fail; refine (C4.out _ H3.out).mono ?_; rintro e w4 ⟨rfl, k4⟩; have H4 := Lib.hid (H3.out.kp k4)
        go_wp2
        go_ret
        exact ⟨rfl, k0.trans (k1.trans (k2.trans (k3.trans (k4))))⟩
      · go_enter Tryd.func4, Tryd.ntmps4
        go_wp2_with fail; refine (awake3 _ HT.out).mono ?_; rintro e w0 ⟨rfl, k0⟩; have H0 := Lib.hid (HT.out.kp k0)
        go_wp2_with fail; refine (C1.out _ H0.out).mono ?_; rintro e w1 ⟨rfl, k1⟩; have H1 := Lib.hid (H0.out.kp k1)
        go_wp2_with fail; refine (C2.out _ H1.out).mono ?_; rintro e w2 ⟨rfl, k2⟩; have H2 := Lib.hid (H1.out.kp k2)
        go_wp2_with fail; refine (C3.out _ H2.out).mono ?_; rintro e w3 ⟨rfl, k3⟩; have H3 := Lib.hid (H2.out.kp k3)
        go_wp2_with fail; refine (C4.out _ H3.out).mono ?_; rintro e w4 ⟨rfl, k4⟩; have H4 := Lib.hid (H3.out.kp k4)
        go_wp2
        go_ret
        exact ⟨rfl, k0.trans (k1.trans (k2.trans (k3.trans (k4))))⟩
  · rw [firV_no o, o] at c2
    rw [lasV_no o, o] at c3
    have g : i < 0 ∨ cnt k ≤ i := by
      have : ¬ okU k i = true := by simp [o]
      rw [okU_iff] at this; omega
    clear o c4
    generalize hn : cnt k = n at *
    clear hn
    have C1 := Lib.hid c1
    have C2 := Lib.hid c2
    have C3 := Lib.hid c3
    clear c1 c2 c3
    by_cases g1 : i < 0
    · clear g
      go_enter Tryd.func4, Tryd.ntmps4
      go_wp2_with fail; refine (awake3 _ HT.out).mono ?_; rintro e w0 ⟨rfl, k0⟩; have H0 := Lib.hid (HT.out.kp k0)
      go_wp2_with fail; refine (C1.out _ H0.out).mono ?_; rintro e w1 ⟨rfl, k1⟩; have H1 := Lib.hid (H0.out.kp k1)
      go_wp2_with fail; refine (C2.out _ H1.out).mono ?_; rintro e w2 ⟨rfl, k2⟩; have H2 := Lib.hid (H1.out.kp k2)
      go_wp2_with fail; refine (C3.out _ H2.out).mono ?_; rintro e w3 ⟨rfl, k3⟩; have H3 := Lib.hid (H2.out.kp k3)
      go_wp2
      go_ret
      exact ⟨rfl, k0.trans (k1.trans (k2.trans (k3)))⟩
    · have g2 : n ≤ i := by omega
      clear g
      go_enter Tryd.func4, Tryd.ntmps4
      go_wp2_with fail; refine (awake3 _ HT.out).mono ?_; rintro e w0 ⟨rfl, k0⟩; have H0 := Lib.hid (HT.out.kp k0)
      go_wp2_with fail; refine (C1.out _ H0.out).mono ?_; rintro e w1 ⟨rfl, k1⟩; have H1 := Lib.hid (H0.out.kp k1)
      go_wp2_with fail; refine (C2.out _ H1.out).mono ?_; rintro e w2 ⟨rfl, k2⟩; have H2 := Lib.hid (H1.out.kp k2)
      go_wp2_with fail; refine (C3.out _ H2.out).mono ?_; rintro e w3 ⟨rfl, k3⟩; have H3 := Lib.hid (H2.out.kp k3)
      go_wp2
      go_ret
      exact ⟨rfl, k0.trans (k1.trans (k2.trans (k3)))⟩
end Go.Proofs.YtfopcacoacedcaaDoor
