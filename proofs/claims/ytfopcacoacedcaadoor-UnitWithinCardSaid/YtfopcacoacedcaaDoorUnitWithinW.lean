/-
  UnitWithin: the walk.
-/
import Derived.Test.YtfopcacoacedcaaDoorUnitAw
namespace Go.Proofs.YtfopcacoacedcaaDoor
open Go.RowKit
set_option linter.unusedVariables false
theorem month_unit {i : Int} (h : 0 ≤ i) (h' : i < 120000) : okU 1 i = true ∧ 0 ≤ firV 1 i ∧ firV 1 i ≤ 3652424 ∧ mo (firV 1 i) = i ∧ 0 ≤ lasV 1 i ∧ lasV 1 i ≤ 3652424 ∧ mo (lasV 1 i) = i := by
  have c : cnt 1 = 120000 := by decide
  have o := okU_yes (k := 1) h (by omega)
  rw [firV_yes h (by omega), lasV_yes h (by omega)]
  have sp := span_bd (k := 1) h (by omega)
  have u1 := (unum_iff (k := 1) h (by omega) sp.1 (by omega)).1 ⟨Int.le_refl _, sp.2.1⟩
  have u2 := (unum_iff (k := 1) h (by omega) (show 0 ≤ lst 1 i by omega) sp.2.2).1 ⟨sp.2.1, Int.le_refl _⟩
  rw [unum_mo] at u1 u2
  exact ⟨o, sp.1, by omega, by simpa using u1, by omega, sp.2.2, by simpa using u2⟩
theorem of_mo {k d : Int} (h : 0 ≤ d) (h' : d ≤ 3652424) (c : 0 < cnt k) (g : ¬ (k = 2 ∧ mo d < 2)) : okO k d = true := (okO_iff k d).2 ⟨c, h, h', g⟩
set_option maxHeartbeats 1000000 in
set_option maxRecDepth 100000 in
theorem unitWithin_walk (k : Int) (w : World) (hT : Tabs w) (k1 : -9223372036854775808 ≤ k) (k2 : k ≤ 9223372036854775807) :
    Calls Tryd.prog 6 #[.int .i64 k] w fun e w' => e = .returned (.bool true) ∧ Below w.heap.size w w' := by
  have HT := Lib.hid hT
  clear hT
  have mk := and24 k
  obtain ⟨k', hk⟩ : ∃ n, n = k % 16777216 := ⟨_, rfl⟩
  rw [← hk] at mk
  have a3 : 0 ≤ k' := by omega
  have a4 : k' < 16777216 := by omega
  clear hk
  have b1 : 0 ≤ k' % 120000 := by omega
  have b2 : k' % 120000 ≤ 119999 := by omega
  obtain ⟨i, hd⟩ : ∃ y, k' % 120000 = y := ⟨_, rfl⟩
  rw [hd] at b1 b2
  obtain ⟨o, p1, p2, p3, q1, q2, q3⟩ := month_unit b1 (show i < 120000 by omega)
  have c1 := firstC 1 i
  have c2 := lastC 1 i
  rw [o] at c1 c2
  generalize firV 1 i = a, lasV 1 i = b at *
  have ya := of_mo (k := 3) p1 p2 (by decide) (by omega)
  have yb := of_mo (k := 3) q1 q2 (by decide) (by omega)
  have db := of_mo (k := 4) q1 q2 (by decide) (by omega)
  have ca := of_mo (k := 5) p1 p2 (by decide) (by omega)
  have c3 := ofC 3 a
  have c4 := ofC 3 b
  have c5 := ofC 2 a
  have c6 := ofC 2 b
  have c7 := ofC 4 b
  have c8 := ofC 5 a
  rw [ofV_yes ya, ya, unum_mo, p3] at c3
  rw [ofV_yes yb, yb, unum_mo, q3] at c4
  rw [ofV_yes db, db, unum_mo, q3] at c7
  rw [ofV_yes ca, ca, unum_mo, p3] at c8
  simp only [show (3 : Int) ≠ 0 by decide, show (3 : Int) ≠ 1 by decide, show (3 : Int) ≠ 2 by decide, if_true, if_false] at c3 c4
  simp only [show (4 : Int) ≠ 0 by decide, show (4 : Int) ≠ 1 by decide, show (4 : Int) ≠ 2 by decide, show (4 : Int) ≠ 3 by decide, if_true, if_false] at c7
  simp only [show (5 : Int) ≠ 0 by decide, show (5 : Int) ≠ 1 by decide, show (5 : Int) ≠ 2 by decide, show (5 : Int) ≠ 3 by decide, show (5 : Int) ≠ 4 by decide, if_false] at c8
  have e1 : (i / 12 / 100 == i / 12 / 10 / 10) = true := by simp; omega
  by_cases s : 2 ≤ i
  · have sa := of_mo (k := 2) p1 p2 (by decide) (by omega)
    have sb := of_mo (k := 2) q1 q2 (by decide) (by omega)
    rw [ofV_yes sa, sa, unum_mo, p3] at c5
    rw [ofV_yes sb, sb, unum_mo, q3] at c6
    simp only [show (2 : Int) ≠ 0 by decide, show (2 : Int) ≠ 1 by decide, if_true, if_false] at c5 c6
    rw [show seaN i = (i - 2) / 3 by unfold seaN; rw [if_neg (by omega)]] at c5 c6
    clear sa sb ya yb db ca p3 q3 o
    have e2 : decide (2 ≤ i) = true := by simpa using s
    have C1 := Lib.hid c1
    have C2 := Lib.hid c2
    have C3 := Lib.hid c3
    have C4 := Lib.hid c4
    have C5 := Lib.hid c5
    have C6 := Lib.hid c6
    have C7 := Lib.hid c7
    have C8 := Lib.hid c8
    clear c1 c2 c3 c4 c5 c6 c7 c8
    go_enter Tryd.func6, Tryd.ntmps6
    go_wp2_with fail; refine (awake3 _ HT.out).mono ?_; rintro e w0 ⟨rfl, k0⟩; have H0 := Lib.hid (HT.out.kp k0)
    go_wp2_with fail; refine (C1.out _ H0.out).mono ?_; rintro e w1 ⟨rfl, k1⟩; have H1 := Lib.hid (H0.out.kp k1)
    go_wp2_with fail; refine (C2.out _ H1.out).mono ?_; rintro e w2 ⟨rfl, k2⟩; have H2 := Lib.hid (H1.out.kp k2)
    go_wp2_with fail; refine (C3.out _ H2.out).mono ?_; rintro e w3 ⟨rfl, k3⟩; have H3 := Lib.hid (H2.out.kp k3)
    go_wp2_with fail; refine (C4.out _ H3.out).mono ?_; rintro e w4 ⟨rfl, k4⟩; have H4 := Lib.hid (H3.out.kp k4)
    go_wp2_with fail; refine (C5.out _ H4.out).mono ?_; rintro e w5 ⟨rfl, k5⟩; have H5 := Lib.hid (H4.out.kp k5)
    go_wp2_with fail; refine (C6.out _ H5.out).mono ?_; rintro e w6 ⟨rfl, k6⟩; have H6 := Lib.hid (H5.out.kp k6)
    go_wp2_with fail; refine (C7.out _ H6.out).mono ?_; rintro e w7 ⟨rfl, k7⟩; have H7 := Lib.hid (H6.out.kp k7)
    go_wp2_with fail; refine (C8.out _ H7.out).mono ?_; rintro e w8 ⟨rfl, k8⟩; have H8 := Lib.hid (H7.out.kp k8)
    go_wp2
    go_ret
    exact ⟨rfl, k0.trans (k1.trans (k2.trans (k3.trans (k4.trans (k5.trans (k6.trans (k7.trans (k8))))))))⟩
  · have sa : okO 2 a = false := by
      rcases Bool.eq_false_or_eq_true (okO 2 a) with h | h
      · have := ((okO_iff 2 a).1 h).2.2.2; omega
      · exact h
    have sb : okO 2 b = false := by
      rcases Bool.eq_false_or_eq_true (okO 2 b) with h | h
      · have := ((okO_iff 2 b).1 h).2.2.2; omega
      · exact h
    rw [ofV_no sa, sa] at c5
    rw [ofV_no sb, sb] at c6
    clear sa sb ya yb db ca p3 q3 o
    have e2 : decide (2 ≤ i) = false := by simpa using s
    have C1 := Lib.hid c1
    have C2 := Lib.hid c2
    have C3 := Lib.hid c3
    have C4 := Lib.hid c4
    have C5 := Lib.hid c5
    have C6 := Lib.hid c6
    have C7 := Lib.hid c7
    have C8 := Lib.hid c8
    clear c1 c2 c3 c4 c5 c6 c7 c8
    go_enter Tryd.func6, Tryd.ntmps6
    go_wp2_with fail; refine (awake3 _ HT.out).mono ?_; rintro e w0 ⟨rfl, k0⟩; have H0 := Lib.hid (HT.out.kp k0)
    go_wp2_with fail; refine (C1.out _ H0.out).mono ?_; rintro e w1 ⟨rfl, k1⟩; have H1 := Lib.hid (H0.out.kp k1)
    go_wp2_with fail; refine (C2.out _ H1.out).mono ?_; rintro e w2 ⟨rfl, k2⟩; have H2 := Lib.hid (H1.out.kp k2)
    go_wp2_with fail; refine (C3.out _ H2.out).mono ?_; rintro e w3 ⟨rfl, k3⟩; have H3 := Lib.hid (H2.out.kp k3)
    go_wp2_with fail; refine (C4.out _ H3.out).mono ?_; rintro e w4 ⟨rfl, k4⟩; have H4 := Lib.hid (H3.out.kp k4)
    go_wp2_with fail; refine (C5.out _ H4.out).mono ?_; rintro e w5 ⟨rfl, k5⟩; have H5 := Lib.hid (H4.out.kp k5)
    go_wp2_with fail; refine (C6.out _ H5.out).mono ?_; rintro e w6 ⟨rfl, k6⟩; have H6 := Lib.hid (H5.out.kp k6)
    go_wp2_with fail; refine (C7.out _ H6.out).mono ?_; rintro e w7 ⟨rfl, k7⟩; have H7 := Lib.hid (H6.out.kp k7)
    go_wp2_with fail; refine (C8.out _ H7.out).mono ?_; rintro e w8 ⟨rfl, k8⟩; have H8 := Lib.hid (H7.out.kp k8)
    go_wp2
    go_ret
    exact ⟨rfl, k0.trans (k1.trans (k2.trans (k3.trans (k4.trans (k5.trans (k6.trans (k7.trans (k8))))))))⟩
end Go.Proofs.YtfopcacoacedcaaDoor
