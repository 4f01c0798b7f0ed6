/-
  UnitSizes: the walk.
-/
import Derived.Test.YtfopcacoacedcaaDoorUnitAw
namespace Go.Proofs.YtfopcacoacedcaaDoor
open Go.RowKit
set_option linter.unusedVariables false
theorem fst_mon {k i : Int} (h : 0 ≤ i) (h' : i < cnt k) (k0 : k ≠ 0) : firV k i = mon (sm k i) ∧ lasV k i = mon (em k i) - 1 := by
  rw [firV_yes h h', lasV_yes h h']; exact ⟨(months h h' k0).2.2.2.1, (months h h' k0).2.2.2.2⟩
theorem size_1 {i : Int} (h : 0 ≤ i) (h' : i < 120000) : lasV 1 i - firV 1 i + 1 = dim (i / 12) (i % 12 + 1) := by
  obtain ⟨a, b⟩ := fst_mon (k := 1) h (by rw [show cnt 1 = 120000 by decide]; omega) (by decide)
  have := mon_succ i h
  rw [a, b]; simp [sm, em]; omega
theorem size_2 {i : Int} (h : 0 ≤ i) (h' : i < 40000) : (90 ≤ lasV 2 i - firV 2 i + 1 ∧ lasV 2 i - firV 2 i + 1 ≤ 92 ∧ i ≠ 39999) ∨ (i = 39999 ∧ lasV 2 i - firV 2 i + 1 = 31) := by
  obtain ⟨a, b⟩ := fst_mon (k := 2) h (by rw [show cnt 2 = 40000 by decide]; omega) (by decide)
  rw [a, b]
  by_cases z : i = 39999
  · right; subst z; simp [sm, em]; decide
  · left
    rw [show em 2 i = 2 + 3 * i + 1 + 1 + 1 by unfold em; rw [if_neg (by omega)]; simp [sm]; omega, show sm 2 i = 2 + 3 * i by simp [sm]]
    have s1 := mon_succ (2 + 3 * i) (by omega)
    have s2 := mon_succ (2 + 3 * i + 1) (by omega)
    have s3 := mon_succ (2 + 3 * i + 1 + 1) (by omega)
    have q : dim ((2 + 3 * i) / 12) ((2 + 3 * i) % 12 + 1) + dim ((2 + 3 * i + 1) / 12) ((2 + 3 * i + 1) % 12 + 1) + dim ((2 + 3 * i + 1 + 1) / 12) ((2 + 3 * i + 1 + 1) % 12 + 1) ≤ 92 ∧ 90 ≤ dim ((2 + 3 * i) / 12) ((2 + 3 * i) % 12 + 1) + dim ((2 + 3 * i + 1) / 12) ((2 + 3 * i + 1) % 12 + 1) + dim ((2 + 3 * i + 1 + 1) / 12) ((2 + 3 * i + 1 + 1) % 12 + 1) := by
      have r : (2 + 3 * i) % 12 = 2 ∧ (2 + 3 * i + 1) % 12 = 3 ∧ (2 + 3 * i + 1 + 1) % 12 = 4 ∨ (2 + 3 * i) % 12 = 5 ∧ (2 + 3 * i + 1) % 12 = 6 ∧ (2 + 3 * i + 1 + 1) % 12 = 7 ∨ (2 + 3 * i) % 12 = 8 ∧ (2 + 3 * i + 1) % 12 = 9 ∧ (2 + 3 * i + 1 + 1) % 12 = 10 ∨ (2 + 3 * i) % 12 = 11 ∧ (2 + 3 * i + 1) % 12 = 0 ∧ (2 + 3 * i + 1 + 1) % 12 = 1 := by omega
      rcases r with ⟨r1, r2, r3⟩ | ⟨r1, r2, r3⟩ | ⟨r1, r2, r3⟩ | ⟨r1, r2, r3⟩ <;> rw [r1, r2, r3] <;> simp [dim]
      split <;> omega
    omega
theorem sty_year {i : Int} (h : 0 ≤ i) : sty (i + 1) - sty i = 365 ∧ lpB i = false ∨ sty (i + 1) - sty i = 366 ∧ lpB i = true := by
  have := sty_succ i h
  rw [cum_13] at this
  rcases Bool.eq_false_or_eq_true (lpB i) with l | l <;> rw [l] at this <;> simp at this
  · right; exact ⟨by omega, l⟩
  · left; exact ⟨by omega, l⟩
theorem size_3 {i : Int} (h : 0 ≤ i) (h' : i < 10000) : lasV 3 i - firV 3 i + 1 = 365 ∨ lasV 3 i - firV 3 i + 1 = 366 ∧ lpB i = true := by
  obtain ⟨a, b⟩ := fst_mon (k := 3) h (by rw [show cnt 3 = 10000 by decide]; omega) (by decide)
  rw [a, b, show em 3 i = 12 * (i + 1) by simp [em, sm], show sm 3 i = 12 * i by simp [sm], mon_12 i h, mon_12 (i + 1) (by omega)]
  rcases sty_year h with ⟨q, _⟩ | ⟨q, l⟩
  · left; omega
  · right; exact ⟨by omega, l⟩
theorem size_4 {i : Int} (h : 0 ≤ i) (h' : i < 1000) : lasV 4 i - firV 4 i + 1 = 3652 ∨ lasV 4 i - firV 4 i + 1 = 3653 := by
  obtain ⟨a, b⟩ := fst_mon (k := 4) h (by rw [show cnt 4 = 1000 by decide]; omega) (by decide)
  rw [a, b, show em 4 i = 12 * (10 * (i + 1)) by simp [em, sm]; omega, show sm 4 i = 12 * (10 * i) by simp [sm]; omega, mon_12 _ (by omega), mon_12 _ (by omega)]
  have h1 : (10 * (i + 1) + 99) / 100 - (10 * i + 99) / 100 = if i % 10 = 0 then 1 else 0 := by split <;> omega
  have h2 : (10 * (i + 1) + 399) / 400 - (10 * i + 399) / 400 = if i % 40 = 0 then 1 else 0 := by split <;> omega
  have h3 : (10 * (i + 1) + 3) / 4 - (10 * i + 3) / 4 = if i % 2 = 0 then 3 else 2 := by split <;> omega
  have h4 : i % 40 = 0 → i % 10 = 0 := by omega
  have h5 : i % 10 = 0 → i % 2 = 0 := by omega
  unfold sty
  split at h1 <;> split at h2 <;> split at h3 <;> omega
theorem size_5 {i : Int} (h : 0 ≤ i) (h' : i < 100) : lasV 5 i - firV 5 i + 1 = 36524 ∨ lasV 5 i - firV 5 i + 1 = 36525 ∧ i % 4 = 0 := by
  obtain ⟨a, b⟩ := fst_mon (k := 5) h (by rw [show cnt 5 = 100 by decide]; omega) (by decide)
  rw [a, b, show em 5 i = 12 * (100 * (i + 1)) by simp [em, sm]; omega, show sm 5 i = 12 * (100 * i) by simp [sm]; omega, mon_12 _ (by omega), mon_12 _ (by omega)]
  unfold sty; omega
theorem val_bd (k i : Int) : 0 ≤ firV k i ∧ firV k i ≤ 3652424 ∧ 0 ≤ lasV k i ∧ lasV k i ≤ 3652424 := by
  rcases Bool.eq_false_or_eq_true (okU k i) with u | u
  · obtain ⟨i0, i1⟩ := (okU_iff k i).1 u
    rw [firV_yes i0 i1, lasV_yes i0 i1]
    have := span_bd i0 i1; omega
  · rw [firV_no u, lasV_no u]; omega
theorem daysC (y m : Int) (w : World) (h : Tabs w) : Calls Tryd.prog 18 #[.int .i64 y, .int .i64 m] w fun e w' => e = .returned (.int .i64 (dim y m)) ∧ Kp w w' := (days_any y m w h.1).mono fun e w' ⟨a, b⟩ => ⟨a, by subst b; exact Kp.refl _⟩
theorem leapC (y : Int) (w : World) (h : Tabs w) : Calls Tryd.prog 19 #[.int .i64 y] w fun e w' => e = .returned (.bool (lpB y)) ∧ Kp w w' := (leap_any y w).mono fun e w' ⟨a, b⟩ => ⟨a, by subst b; exact Kp.refl _⟩
set_option maxHeartbeats 1000000 in
set_option maxRecDepth 100000 in
theorem sizes_0 (k : Int) (w : World) (hT : Tabs w) (y1 : -9223372036854775808 ≤ k) (y2 : k ≤ 9223372036854775807) :
    Calls Tryd.prog 7 #[.int .i64 0, .int .i64 k] w fun e w' => e = .returned (.bool true) ∧ Below w.heap.size w w' := by
  have HT := Lib.hid hT
  clear hT
  have mk := and30 k
  obtain ⟨k', hk⟩ : ∃ n, n = k % 1073741824 := ⟨_, rfl⟩
  rw [← hk] at mk
  have a3 : 0 ≤ k' := by omega
  have a4 : k' < 1073741824 := by omega
  clear hk
  have b1 : 0 ≤ k' % 3652425 := by omega
  have b2 : k' % 3652425 < 3652425 := by omega
  obtain ⟨i, hd⟩ : ∃ y, k' % 3652425 = y := ⟨_, rfl⟩
  rw [hd] at b1 b2
  have o : okU 0 i = true := okU_yes b1 (by rw [show cnt 0 = 3652425 by decide]; omega)
  have c0 := countC 0
  rw [show cnt 0 = 3652425 by decide] at c0
  have c1 := firstC 0 i
  have c2 := lastC 0 i
  rw [o] at c1 c2
  have vb := val_bd 0 i
  have e : lasV 0 i - firV 0 i + 1 = 1 := by
    obtain ⟨i0, i1⟩ := (okU_iff 0 i).1 o
    rw [firV_yes i0 i1, lasV_yes i0 i1, fst_zero, lst_zero]; omega
  clear o
  generalize firV 0 i = a, lasV 0 i = b at *
  obtain rfl : a = b := by omega
  clear e
  have C0 := Lib.hid c0
  have C1 := Lib.hid c1
  have C2 := Lib.hid c2
  clear c0 c1 c2
  go_enter Tryd.func7, Tryd.ntmps7
  go_wp2_with fail; refine (awake3 _ HT.out).mono ?_; rintro e w0 ⟨rfl, k0⟩; have H0 := Lib.hid (HT.out.kp k0)
  go_wp2_with fail; refine (C0.out _ H0.out).mono ?_; rintro e w1 ⟨rfl, k1⟩; have H1 := Lib.hid (H0.out.kp k1)
  go_wp2_with fail; refine (C1.out _ H1.out).mono ?_; rintro e w2 ⟨rfl, k2⟩; have H2 := Lib.hid (H1.out.kp k2)
  go_wp2_with fail; refine (C2.out _ H2.out).mono ?_; rintro e w3 ⟨rfl, k3⟩; have H3 := Lib.hid (H2.out.kp k3)
  go_wp2
  go_ret
  exact ⟨rfl, k0.trans (k1.trans (k2.trans (k3)))⟩
set_option maxHeartbeats 1000000 in
set_option maxRecDepth 100000 in
theorem sizes_1 (k : Int) (w : World) (hT : Tabs w) (y1 : -9223372036854775808 ≤ k) (y2 : k ≤ 9223372036854775807) :
    Calls Tryd.prog 7 #[.int .i64 1, .int .i64 k] w fun e w' => e = .returned (.bool true) ∧ Below w.heap.size w w' := by
  have HT := Lib.hid hT
  clear hT
  have mk := and30 k
  obtain ⟨k', hk⟩ : ∃ n, n = k % 1073741824 := ⟨_, rfl⟩
  rw [← hk] at mk
  have a3 : 0 ≤ k' := by omega
  have a4 : k' < 1073741824 := by omega
  clear hk
  have b1 : 0 ≤ k' % 120000 := by omega
  have b2 : k' % 120000 < 120000 := by omega
  obtain ⟨i, hd⟩ : ∃ y, k' % 120000 = y := ⟨_, rfl⟩
  rw [hd] at b1 b2
  have o : okU 1 i = true := okU_yes b1 (by rw [show cnt 1 = 120000 by decide]; omega)
  have c0 := countC 1
  rw [show cnt 1 = 120000 by decide] at c0
  have c1 := firstC 1 i
  have c2 := lastC 1 i
  rw [o] at c1 c2
  have vb := val_bd 1 i
  have e := size_1 b1 b2
  have c3 := daysC (i / 12) (i % 12 + 1)
  have db := dim_bd (i / 12) (i % 12 + 1)
  clear o
  generalize firV 1 i = a, lasV 1 i = b at *
  generalize dim (i / 12) (i % 12 + 1) = D at *
  have e1 : (b - a + 1 == D) = true := by simpa using e
  clear e
  have C0 := Lib.hid c0
  have C1 := Lib.hid c1
  have C2 := Lib.hid c2
  have C3 := Lib.hid c3
  clear c0 c1 c2 c3
  go_enter Tryd.func7, Tryd.ntmps7
  go_wp2_with fail; refine (awake3 _ HT.out).mono ?_; rintro e w0 ⟨rfl, k0⟩; have H0 := Lib.hid (HT.out.kp k0)
  go_wp2_with fail; refine (C0.out _ H0.out).mono ?_; rintro e w1 ⟨rfl, k1⟩; have H1 := Lib.hid (H0.out.kp k1)
  go_wp2_with fail; refine (C1.out _ H1.out).mono ?_; rintro e w2 ⟨rfl, k2⟩; have H2 := Lib.hid (H1.out.kp k2)
  go_wp2_with fail; refine (C2.out _ H2.out).mono ?_; rintro e w3 ⟨rfl, k3⟩; have H3 := Lib.hid (H2.out.kp k3)
  go_wp2_with fail; refine (C3.out _ H3.out).mono ?_; rintro e w4 ⟨rfl, k4⟩; have H4 := Lib.hid (H3.out.kp k4)
  go_wp2
  go_ret
  exact ⟨rfl, k0.trans (k1.trans (k2.trans (k3.trans (k4))))⟩
set_option maxHeartbeats 1000000 in
set_option maxRecDepth 100000 in
theorem sizes_2 (k : Int) (w : World) (hT : Tabs w) (y1 : -9223372036854775808 ≤ k) (y2 : k ≤ 9223372036854775807) :
    Calls Tryd.prog 7 #[.int .i64 2, .int .i64 k] w fun e w' => e = .returned (.bool true) ∧ Below w.heap.size w w' := by
  have HT := Lib.hid hT
  clear hT
  have mk := and30 k
  obtain ⟨k', hk⟩ : ∃ n, n = k % 1073741824 := ⟨_, rfl⟩
  rw [← hk] at mk
  have a3 : 0 ≤ k' := by omega
  have a4 : k' < 1073741824 := by omega
  clear hk
  have b1 : 0 ≤ k' % 40000 := by omega
  have b2 : k' % 40000 < 40000 := by omega
  obtain ⟨i, hd⟩ : ∃ y, k' % 40000 = y := ⟨_, rfl⟩
  rw [hd] at b1 b2
  have o : okU 2 i = true := okU_yes b1 (by rw [show cnt 2 = 40000 by decide]; omega)
  have c0 := countC 2
  rw [show cnt 2 = 40000 by decide] at c0
  have c1 := firstC 2 i
  have c2 := lastC 2 i
  rw [o] at c1 c2
  have vb := val_bd 2 i
  have e := size_2 b1 b2
  clear o
  generalize firV 2 i = a, lasV 2 i = b at *
  have C0 := Lib.hid c0
  have C1 := Lib.hid c1
  have C2 := Lib.hid c2
  clear c0 c1 c2
  rcases e with ⟨e1, e2, e3⟩ | ⟨e1, e2⟩
  · clear e3
    have f1 : decide (90 ≤ b - a + 1) = true := by simpa using e1
    have f2 : decide (b - a + 1 ≤ 92) = true := by simpa using e2
    go_enter Tryd.func7, Tryd.ntmps7
    go_wp2_with fail; refine (awake3 _ HT.out).mono ?_; rintro e w0 ⟨rfl, k0⟩; have H0 := Lib.hid (HT.out.kp k0)
    go_wp2_with fail; refine (C0.out _ H0.out).mono ?_; rintro e w1 ⟨rfl, k1⟩; have H1 := Lib.hid (H0.out.kp k1)
    go_wp2_with fail; refine (C1.out _ H1.out).mono ?_; rintro e w2 ⟨rfl, k2⟩; have H2 := Lib.hid (H1.out.kp k2)
    go_wp2_with fail; refine (C2.out _ H2.out).mono ?_; rintro e w3 ⟨rfl, k3⟩; have H3 := Lib.hid (H2.out.kp k3)
    go_wp2
    go_ret
    exact ⟨rfl, k0.trans (k1.trans (k2.trans (k3)))⟩
  · have f1 : decide (90 ≤ b - a + 1) = false := by simp; omega
    have f2 : (i == 39999) = true := by simpa using e1
    have f3 : (b - a + 1 == 31) = true := by simpa using e2
    clear e1 e2
    go_enter Tryd.func7, Tryd.ntmps7
    go_wp2_with fail; refine (awake3 _ HT.out).mono ?_; rintro e w0 ⟨rfl, k0⟩; have H0 := Lib.hid (HT.out.kp k0)
    go_wp2_with fail; refine (C0.out _ H0.out).mono ?_; rintro e w1 ⟨rfl, k1⟩; have H1 := Lib.hid (H0.out.kp k1)
    go_wp2_with fail; refine (C1.out _ H1.out).mono ?_; rintro e w2 ⟨rfl, k2⟩; have H2 := Lib.hid (H1.out.kp k2)
    go_wp2_with fail; refine (C2.out _ H2.out).mono ?_; rintro e w3 ⟨rfl, k3⟩; have H3 := Lib.hid (H2.out.kp k3)
    go_wp2
    go_ret
    exact ⟨rfl, k0.trans (k1.trans (k2.trans (k3)))⟩
set_option maxHeartbeats 1000000 in
set_option maxRecDepth 100000 in
theorem sizes_3 (k : Int) (w : World) (hT : Tabs w) (y1 : -9223372036854775808 ≤ k) (y2 : k ≤ 9223372036854775807) :
    Calls Tryd.prog 7 #[.int .i64 3, .int .i64 k] w fun e w' => e = .returned (.bool true) ∧ Below w.heap.size w w' := by
  have HT := Lib.hid hT
  clear hT
  have mk := and30 k
  obtain ⟨k', hk⟩ : ∃ n, n = k % 1073741824 := ⟨_, rfl⟩
  rw [← hk] at mk
  have a3 : 0 ≤ k' := by omega
  have a4 : k' < 1073741824 := by omega
  clear hk
  have b1 : 0 ≤ k' % 10000 := by omega
  have b2 : k' % 10000 < 10000 := by omega
  obtain ⟨i, hd⟩ : ∃ y, k' % 10000 = y := ⟨_, rfl⟩
  rw [hd] at b1 b2
  have o : okU 3 i = true := okU_yes b1 (by rw [show cnt 3 = 10000 by decide]; omega)
  have c0 := countC 3
  rw [show cnt 3 = 10000 by decide] at c0
  have c1 := firstC 3 i
  have c2 := lastC 3 i
  rw [o] at c1 c2
  have vb := val_bd 3 i
  have e := size_3 b1 b2
  have c3 := leapC i
  clear o
  generalize firV 3 i = a, lasV 3 i = b at *
  rcases e with e | ⟨e, l⟩
  · have f1 : (b - a + 1 == 365) = true := by simpa using e
    clear e c3
    have C0 := Lib.hid c0
    have C1 := Lib.hid c1
    have C2 := Lib.hid c2
    clear c0 c1 c2
    go_enter Tryd.func7, Tryd.ntmps7
    go_wp2_with fail; refine (awake3 _ HT.out).mono ?_; rintro e w0 ⟨rfl, k0⟩; have H0 := Lib.hid (HT.out.kp k0)
    go_wp2_with fail; refine (C0.out _ H0.out).mono ?_; rintro e w1 ⟨rfl, k1⟩; have H1 := Lib.hid (H0.out.kp k1)
    go_wp2_with fail; refine (C1.out _ H1.out).mono ?_; rintro e w2 ⟨rfl, k2⟩; have H2 := Lib.hid (H1.out.kp k2)
    go_wp2_with fail; refine (C2.out _ H2.out).mono ?_; rintro e w3 ⟨rfl, k3⟩; have H3 := Lib.hid (H2.out.kp k3)
    go_wp2
    go_ret
    exact ⟨rfl, k0.trans (k1.trans (k2.trans (k3)))⟩
  · rw [l] at c3
    have f1 : (b - a + 1 == 365) = false := by simp; omega
    have f2 : (b - a + 1 == 366) = true := by simpa using e
    clear e l
    have C0 := Lib.hid c0
    have C1 := Lib.hid c1
    have C2 := Lib.hid c2
    have C3 := Lib.hid c3
    clear c0 c1 c2 c3
    go_enter Tryd.func7, Tryd.ntmps7
    go_wp2_with fail; refine (awake3 _ HT.out).mono ?_; rintro e w0 ⟨rfl, k0⟩; have H0 := Lib.hid (HT.out.kp k0)
    go_wp2_with fail; refine (C0.out _ H0.out).mono ?_; rintro e w1 ⟨rfl, k1⟩; have H1 := Lib.hid (H0.out.kp k1)
    go_wp2_with fail; refine (C1.out _ H1.out).mono ?_; rintro e w2 ⟨rfl, k2⟩; have H2 := Lib.hid (H1.out.kp k2)
    go_wp2_with fail; refine (C2.out _ H2.out).mono ?_; rintro e w3 ⟨rfl, k3⟩; have H3 := Lib.hid (H2.out.kp k3)
    go_wp2_with fail; refine (C3.out _ H3.out).mono ?_; rintro e w4 ⟨rfl, k4⟩; have H4 := Lib.hid (H3.out.kp k4)
    go_wp2
    go_ret
    exact ⟨rfl, k0.trans (k1.trans (k2.trans (k3.trans (k4))))⟩
set_option maxHeartbeats 1000000 in
set_option maxRecDepth 100000 in
theorem sizes_4 (k : Int) (w : World) (hT : Tabs w) (y1 : -9223372036854775808 ≤ k) (y2 : k ≤ 9223372036854775807) :
    Calls Tryd.prog 7 #[.int .i64 4, .int .i64 k] w fun e w' => e = .returned (.bool true) ∧ Below w.heap.size w w' := by
  have HT := Lib.hid hT
  clear hT
  have mk := and30 k
  obtain ⟨k', hk⟩ : ∃ n, n = k % 1073741824 := ⟨_, rfl⟩
  rw [← hk] at mk
  have a3 : 0 ≤ k' := by omega
  have a4 : k' < 1073741824 := by omega
  clear hk
  have b1 : 0 ≤ k' % 1000 := by omega
  have b2 : k' % 1000 < 1000 := by omega
  obtain ⟨i, hd⟩ : ∃ y, k' % 1000 = y := ⟨_, rfl⟩
  rw [hd] at b1 b2
  have o : okU 4 i = true := okU_yes b1 (by rw [show cnt 4 = 1000 by decide]; omega)
  have c0 := countC 4
  rw [show cnt 4 = 1000 by decide] at c0
  have c1 := firstC 4 i
  have c2 := lastC 4 i
  rw [o] at c1 c2
  have vb := val_bd 4 i
  have e := size_4 b1 b2
  clear o
  generalize firV 4 i = a, lasV 4 i = b at *
  have C0 := Lib.hid c0
  have C1 := Lib.hid c1
  have C2 := Lib.hid c2
  clear c0 c1 c2
  rcases e with e | e
  · have f1 : (b - a + 1 == 3652) = true := by simpa using e
    clear e
    go_enter Tryd.func7, Tryd.ntmps7
    go_wp2_with fail; refine (awake3 _ HT.out).mono ?_; rintro e w0 ⟨rfl, k0⟩; have H0 := Lib.hid (HT.out.kp k0)
    go_wp2_with fail; refine (C0.out _ H0.out).mono ?_; rintro e w1 ⟨rfl, k1⟩; have H1 := Lib.hid (H0.out.kp k1)
    go_wp2_with fail; refine (C1.out _ H1.out).mono ?_; rintro e w2 ⟨rfl, k2⟩; have H2 := Lib.hid (H1.out.kp k2)
    go_wp2_with fail; refine (C2.out _ H2.out).mono ?_; rintro e w3 ⟨rfl, k3⟩; have H3 := Lib.hid (H2.out.kp k3)
    go_wp2
    go_ret
    exact ⟨rfl, k0.trans (k1.trans (k2.trans (k3)))⟩
  · have f1 : (b - a + 1 == 3652) = false := by simp; omega
    have f2 : (b - a + 1 == 3653) = true := by simpa using e
    clear e
    go_enter Tryd.func7, Tryd.ntmps7
    go_wp2_with fail; refine (awake3 _ HT.out).mono ?_; rintro e w0 ⟨rfl, k0⟩; have H0 := Lib.hid (HT.out.kp k0)
    go_wp2_with fail; refine (C0.out _ H0.out).mono ?_; rintro e w1 ⟨rfl, k1⟩; have H1 := Lib.hid (H0.out.kp k1)
    go_wp2_with fail; refine (C1.out _ H1.out).mono ?_; rintro e w2 ⟨rfl, k2⟩; have H2 := Lib.hid (H1.out.kp k2)
    go_wp2_with fail; refine (C2.out _ H2.out).mono ?_; rintro e w3 ⟨rfl, k3⟩; have H3 := Lib.hid (H2.out.kp k3)
    go_wp2
    go_ret
    exact ⟨rfl, k0.trans (k1.trans (k2.trans (k3)))⟩
set_option maxHeartbeats 1000000 in
set_option maxRecDepth 100000 in
theorem sizes_5 (k : Int) (w : World) (hT : Tabs w) (y1 : -9223372036854775808 ≤ k) (y2 : k ≤ 9223372036854775807) :
    Calls Tryd.prog 7 #[.int .i64 5, .int .i64 k] w fun e w' => e = .returned (.bool true) ∧ Below w.heap.size w w' := by
  have HT := Lib.hid hT
  clear hT
  have mk := and30 k
  obtain ⟨k', hk⟩ : ∃ n, n = k % 1073741824 := ⟨_, rfl⟩
  rw [← hk] at mk
  have a3 : 0 ≤ k' := by omega
  have a4 : k' < 1073741824 := by omega
  clear hk
  have b1 : 0 ≤ k' % 100 := by omega
  have b2 : k' % 100 < 100 := by omega
  obtain ⟨i, hd⟩ : ∃ y, k' % 100 = y := ⟨_, rfl⟩
  rw [hd] at b1 b2
  have o : okU 5 i = true := okU_yes b1 (by rw [show cnt 5 = 100 by decide]; omega)
  have c0 := countC 5
  rw [show cnt 5 = 100 by decide] at c0
  have c1 := firstC 5 i
  have c2 := lastC 5 i
  rw [o] at c1 c2
  have vb := val_bd 5 i
  have e := size_5 b1 b2
  clear o
  generalize firV 5 i = a, lasV 5 i = b at *
  have C0 := Lib.hid c0
  have C1 := Lib.hid c1
  have C2 := Lib.hid c2
  clear c0 c1 c2
  rcases e with e | ⟨e, l⟩
  · have f1 : (b - a + 1 == 36524) = true := by simpa using e
    clear e
    go_enter Tryd.func7, Tryd.ntmps7
    go_wp2_with fail; refine (awake3 _ HT.out).mono ?_; rintro e w0 ⟨rfl, k0⟩; have H0 := Lib.hid (HT.out.kp k0)
    go_wp2_with fail; refine (C0.out _ H0.out).mono ?_; rintro e w1 ⟨rfl, k1⟩; have H1 := Lib.hid (H0.out.kp k1)
    go_wp2_with fail; refine (C1.out _ H1.out).mono ?_; rintro e w2 ⟨rfl, k2⟩; have H2 := Lib.hid (H1.out.kp k2)
    go_wp2_with fail; refine (C2.out _ H2.out).mono ?_; rintro e w3 ⟨rfl, k3⟩; have H3 := Lib.hid (H2.out.kp k3)
    go_wp2
    go_ret
    exact ⟨rfl, k0.trans (k1.trans (k2.trans (k3)))⟩
  · have f1 : (b - a + 1 == 36524) = false := by simp; omega
    have f2 : (b - a + 1 == 36525) = true := by simpa using e
    have f3 : (i % 4 == 0) = true := by simpa using l
    clear e l
    go_enter Tryd.func7, Tryd.ntmps7
    go_wp2_with fail; refine (awake3 _ HT.out).mono ?_; rintro e w0 ⟨rfl, k0⟩; have H0 := Lib.hid (HT.out.kp k0)
    go_wp2_with fail; refine (C0.out _ H0.out).mono ?_; rintro e w1 ⟨rfl, k1⟩; have H1 := Lib.hid (H0.out.kp k1)
    go_wp2_with fail; refine (C1.out _ H1.out).mono ?_; rintro e w2 ⟨rfl, k2⟩; have H2 := Lib.hid (H1.out.kp k2)
    go_wp2_with fail; refine (C2.out _ H2.out).mono ?_; rintro e w3 ⟨rfl, k3⟩; have H3 := Lib.hid (H2.out.kp k3)
    go_wp2
    go_ret
    exact ⟨rfl, k0.trans (k1.trans (k2.trans (k3)))⟩
set_option maxHeartbeats 1000000 in
set_option maxRecDepth 100000 in
theorem unitSizes_walk (kind k : Int) (w : World) (hT : Tabs w) (kind1 : -9223372036854775808 ≤ kind) (kind2 : kind ≤ 9223372036854775807) (k1 : -9223372036854775808 ≤ k) (k2 : k ≤ 9223372036854775807) :
    Calls Tryd.prog 7 #[.int .i64 kind, .int .i64 k] w fun e w' => e = .returned (.bool true) ∧ Below w.heap.size w w' := by
  have HT := Lib.hid hT
  clear hT
  by_cases z : cnt kind = 0
  · have c0 := countC kind
    rw [z] at c0
    clear z
    have C0 := Lib.hid c0
    clear c0
    go_enter Tryd.func7, Tryd.ntmps7
    go_wp2_with fail; refine (awake3 _ HT.out).mono ?_; rintro e w0 ⟨rfl, k0⟩; have H0 := Lib.hid (HT.out.kp k0)
    go_wp2_with fail; refine (C0.out _ H0.out).mono ?_; rintro e w1 ⟨rfl, k1⟩; have H1 := Lib.hid (H0.out.kp k1)
    go_wp2
    go_ret
    exact ⟨rfl, k0.trans (k1)⟩
  have cb := cnt_bd kind
  rcases cnt_six (k := kind) (by omega) with rfl | rfl | rfl | rfl | rfl | rfl
  · exact sizes_0 k w HT.out k1 k2
  · exact sizes_1 k w HT.out k1 k2
  · exact sizes_2 k w HT.out k1 k2
  · exact sizes_3 k w HT.out k1 k2
  · exact sizes_4 k w HT.out k1 k2
  · exact sizes_5 k w HT.out k1 k2
end Go.Proofs.YtfopcacoacedcaaDoor
