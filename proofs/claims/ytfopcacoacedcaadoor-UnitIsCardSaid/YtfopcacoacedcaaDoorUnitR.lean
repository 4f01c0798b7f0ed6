/-
  Contracts of the document's own answers for layer 3.
-/
import Derived.Test.YtfopcacoacedcaaDoorUnitE
import Derived.Test.YtfopcacoacedcaaDoorCivilR
namespace Go.Proofs.YtfopcacoacedcaaDoor
open Go.RowKit
set_option linter.unusedVariables false
set_option maxHeartbeats 1000000 in
set_option maxRecDepth 100000 in
theorem rcount_any (k : Int) (w : World) : Calls Tryd.prog 17 #[.int .i64 k] w fun e w' => e = .returned (.int .i64 (cnt k)) ∧ w = w' := by
  by_cases c : k < 0 ∨ 5 < k
  · rw [cnt_no c]
    have e0 : (k == 0) = false := by simp; omega
    have e1 : (k == 1) = false := by simp; omega
    have e2 : (k == 2) = false := by simp; omega
    have e3 : (k == 3) = false := by simp; omega
    have e4 : (k == 4) = false := by simp; omega
    have e5 : (k == 5) = false := by simp; omega
    clear c
    go_enter Tryd.func17, Tryd.ntmps17
    go_wp2
    go_ret
    exact ⟨rfl, rfl⟩
  have : k = 0 ∨ k = 1 ∨ k = 2 ∨ k = 3 ∨ k = 4 ∨ k = 5 := by omega
  clear c
  rcases this with rfl | rfl | rfl | rfl | rfl | rfl
  · rw [show cnt 0 = 3652425 by decide]
    go_enter Tryd.func17, Tryd.ntmps17
    go_wp2
    go_ret
    exact ⟨rfl, rfl⟩
  · rw [show cnt 1 = 120000 by decide]
    go_enter Tryd.func17, Tryd.ntmps17
    go_wp2
    go_ret
    exact ⟨rfl, rfl⟩
  · rw [show cnt 2 = 40000 by decide]
    go_enter Tryd.func17, Tryd.ntmps17
    go_wp2
    go_ret
    exact ⟨rfl, rfl⟩
  · rw [show cnt 3 = 10000 by decide]
    go_enter Tryd.func17, Tryd.ntmps17
    go_wp2
    go_ret
    exact ⟨rfl, rfl⟩
  · rw [show cnt 4 = 1000 by decide]
    go_enter Tryd.func17, Tryd.ntmps17
    go_wp2
    go_ret
    exact ⟨rfl, rfl⟩
  · rw [show cnt 5 = 100 by decide]
    go_enter Tryd.func17, Tryd.ntmps17
    go_wp2
    go_ret
    exact ⟨rfl, rfl⟩
set_option maxHeartbeats 1000000 in
set_option maxRecDepth 100000 in
theorem rfirst_0 (i : Int) (w : World) (h : 0 ≤ i) (h' : i < 3652425) :
    Calls Tryd.prog 11 #[.int .i64 0, .int .i64 i] w fun e w' => e = .returned (.tuple #[.int .i64 (fst 0 i), .bool true]) ∧ w = w' := by
  have c1 := fun w => rcount_any 0 w
  rw [show cnt 0 = 3652425 by decide] at c1
  have K : Hid (i = fst 0 i) := by unfold fst; rfl
  have C1 := Lib.hid c1
  clear c1
  go_enter Tryd.func11, Tryd.ntmps11
  go_wp2_with fail; refine ((C1.out _)).mono ?_; rintro e w' ⟨rfl, rfl⟩
  go_wp2
  go_ret2
  exact ⟨ret_two K.out rfl, rfl⟩
set_option maxHeartbeats 1000000 in
set_option maxRecDepth 100000 in
theorem rfirst_1 (i : Int) (w : World) (h : 0 ≤ i) (h' : i < 120000) :
    Calls Tryd.prog 11 #[.int .i64 1, .int .i64 i] w fun e w' => e = .returned (.tuple #[.int .i64 (fst 1 i), .bool true]) ∧ w = w' := by
  have c1 := fun w => rcount_any 1 w
  rw [show cnt 1 = 120000 by decide] at c1
  obtain ⟨v, e⟩ := mon_num (j := i) (by omega) (by omega)
  have c2 := fun w => rnumber_any (i / 12) (i % 12 + 1) 1 w
  rw [v, if_pos rfl, e] at c2
  have K : Hid (mon (i) = fst 1 i) := by unfold fst; rfl
  clear v e
  have C1 := Lib.hid c1
  have C2 := Lib.hid c2
  clear c1 c2
  go_enter Tryd.func11, Tryd.ntmps11
  go_wp2_with fail; refine ((C1.out _)).mono ?_; rintro e w' ⟨rfl, rfl⟩
  go_wp2_with fail; refine ((C2.out _)).mono ?_; rintro e w' ⟨rfl, rfl⟩
  go_wp2
  go_ret2
  exact ⟨ret_two K.out rfl, rfl⟩
set_option maxHeartbeats 1000000 in
set_option maxRecDepth 100000 in
theorem rfirst_2 (i : Int) (w : World) (h : 0 ≤ i) (h' : i < 40000) :
    Calls Tryd.prog 11 #[.int .i64 2, .int .i64 i] w fun e w' => e = .returned (.tuple #[.int .i64 (fst 2 i), .bool true]) ∧ w = w' := by
  have c1 := fun w => rcount_any 2 w
  rw [show cnt 2 = 40000 by decide] at c1
  obtain ⟨v, e⟩ := mon_num (j := 2 + 3 * i) (by omega) (by omega)
  rw [show (2 + 3 * i) / 12 = i / 4 by omega, show (2 + 3 * i) % 12 + 1 = i % 4 * 3 + 3 by omega] at v e
  have c2 := fun w => rnumber_any (i / 4) (i % 4 * 3 + 3) 1 w
  rw [v, if_pos rfl, e] at c2
  have K : Hid (mon (2 + 3 * i) = fst 2 i) := by unfold fst; rfl
  clear v e
  have C1 := Lib.hid c1
  have C2 := Lib.hid c2
  clear c1 c2
  go_enter Tryd.func11, Tryd.ntmps11
  go_wp2_with fail; refine ((C1.out _)).mono ?_; rintro e w' ⟨rfl, rfl⟩
  go_wp2_with fail; refine ((C2.out _)).mono ?_; rintro e w' ⟨rfl, rfl⟩
  go_wp2
  go_ret2
  exact ⟨ret_two K.out rfl, rfl⟩
set_option maxHeartbeats 1000000 in
set_option maxRecDepth 100000 in
theorem rfirst_3 (i : Int) (w : World) (h : 0 ≤ i) (h' : i < 10000) :
    Calls Tryd.prog 11 #[.int .i64 3, .int .i64 i] w fun e w' => e = .returned (.tuple #[.int .i64 (fst 3 i), .bool true]) ∧ w = w' := by
  have c1 := fun w => rcount_any 3 w
  rw [show cnt 3 = 10000 by decide] at c1
  obtain ⟨v, e⟩ := mon_num (j := 12 * i) (by omega) (by omega)
  rw [show (12 * i) / 12 = i by omega, show (12 * i) % 12 + 1 = 1 by omega] at v e
  have c2 := fun w => rnumber_any (i) (1) 1 w
  rw [v, if_pos rfl, e] at c2
  have K : Hid (mon (12 * i) = fst 3 i) := by unfold fst; rfl
  clear v e
  have C1 := Lib.hid c1
  have C2 := Lib.hid c2
  clear c1 c2
  go_enter Tryd.func11, Tryd.ntmps11
  go_wp2_with fail; refine ((C1.out _)).mono ?_; rintro e w' ⟨rfl, rfl⟩
  go_wp2_with fail; refine ((C2.out _)).mono ?_; rintro e w' ⟨rfl, rfl⟩
  go_wp2
  go_ret2
  exact ⟨ret_two K.out rfl, rfl⟩
set_option maxHeartbeats 1000000 in
set_option maxRecDepth 100000 in
theorem rfirst_4 (i : Int) (w : World) (h : 0 ≤ i) (h' : i < 1000) :
    Calls Tryd.prog 11 #[.int .i64 4, .int .i64 i] w fun e w' => e = .returned (.tuple #[.int .i64 (fst 4 i), .bool true]) ∧ w = w' := by
  have c1 := fun w => rcount_any 4 w
  rw [show cnt 4 = 1000 by decide] at c1
  obtain ⟨v, e⟩ := mon_num (j := 120 * i) (by omega) (by omega)
  rw [show (120 * i) / 12 = i * 10 by omega, show (120 * i) % 12 + 1 = 1 by omega] at v e
  have c2 := fun w => rnumber_any (i * 10) (1) 1 w
  rw [v, if_pos rfl, e] at c2
  have K : Hid (mon (120 * i) = fst 4 i) := by unfold fst; rfl
  clear v e
  have C1 := Lib.hid c1
  have C2 := Lib.hid c2
  clear c1 c2
  go_enter Tryd.func11, Tryd.ntmps11
  go_wp2_with fail; refine ((C1.out _)).mono ?_; rintro e w' ⟨rfl, rfl⟩
  go_wp2_with fail; refine ((C2.out _)).mono ?_; rintro e w' ⟨rfl, rfl⟩
  go_wp2
  go_ret2
  exact ⟨ret_two K.out rfl, rfl⟩
set_option maxHeartbeats 1000000 in
set_option maxRecDepth 100000 in
theorem rfirst_5 (i : Int) (w : World) (h : 0 ≤ i) (h' : i < 100) :
    Calls Tryd.prog 11 #[.int .i64 5, .int .i64 i] w fun e w' => e = .returned (.tuple #[.int .i64 (fst 5 i), .bool true]) ∧ w = w' := by
  have c1 := fun w => rcount_any 5 w
  rw [show cnt 5 = 100 by decide] at c1
  obtain ⟨v, e⟩ := mon_num (j := 1200 * i) (by omega) (by omega)
  rw [show (1200 * i) / 12 = i * 100 by omega, show (1200 * i) % 12 + 1 = 1 by omega] at v e
  have c2 := fun w => rnumber_any (i * 100) (1) 1 w
  rw [v, if_pos rfl, e] at c2
  have K : Hid (mon (1200 * i) = fst 5 i) := by unfold fst; rfl
  clear v e
  have C1 := Lib.hid c1
  have C2 := Lib.hid c2
  clear c1 c2
  go_enter Tryd.func11, Tryd.ntmps11
  go_wp2_with fail; refine ((C1.out _)).mono ?_; rintro e w' ⟨rfl, rfl⟩
  go_wp2_with fail; refine ((C2.out _)).mono ?_; rintro e w' ⟨rfl, rfl⟩
  go_wp2
  go_ret2
  exact ⟨ret_two K.out rfl, rfl⟩
set_option maxHeartbeats 1000000 in
set_option maxRecDepth 100000 in
theorem rfirst_any (k i : Int) (w : World) :
    Calls Tryd.prog 11 #[.int .i64 k, .int .i64 i] w fun e w' => e = .returned (.tuple #[.int .i64 (firV k i), .bool (okU k i)]) ∧ w = w' := by
  by_cases n : i < 0
  · have o := okU_no (k := k) (.inl n)
    rw [show firV k i = 0 by unfold firV; rw [o]; rfl, o]
    clear o
    go_enter Tryd.func11, Tryd.ntmps11
    go_wp2
    go_ret2
    exact ⟨rfl, rfl⟩
  by_cases c : cnt k ≤ i
  · have o := okU_no (k := k) (.inr c)
    rw [show firV k i = 0 by unfold firV; rw [o]; rfl, o]
    have C1 := Lib.hid (rcount_any k w)
    clear o
    go_enter Tryd.func11, Tryd.ntmps11
    go_wp2_with fail; refine (C1.out).mono ?_; rintro e w' ⟨rfl, rfl⟩
    go_wp2
    go_ret2
    exact ⟨rfl, rfl⟩
  have o := okU_yes (k := k) (show 0 ≤ i by omega) (show i < cnt k by omega)
  rw [show firV k i = fst k i by unfold firV; rw [o]; rfl, o]
  rcases cnt_six (k := k) (by omega) with rfl | rfl | rfl | rfl | rfl | rfl
  · exact rfirst_0 i w (by omega) (by have : cnt 0 = 3652425 := rfl; omega)
  · exact rfirst_1 i w (by omega) (by have : cnt 1 = 120000 := rfl; omega)
  · exact rfirst_2 i w (by omega) (by have : cnt 2 = 40000 := rfl; omega)
  · exact rfirst_3 i w (by omega) (by have : cnt 3 = 10000 := rfl; omega)
  · exact rfirst_4 i w (by omega) (by have : cnt 4 = 1000 := rfl; omega)
  · exact rfirst_5 i w (by omega) (by have : cnt 5 = 100 := rfl; omega)
theorem fst_bd (k i : Int) (h : 0 ≤ i) (h' : i < cnt k) : 0 ≤ fst k i ∧ fst k i ≤ 3652424 := by
  rcases cnt_six (k := k) (by omega) with rfl | rfl | rfl | rfl | rfl | rfl
  · have : cnt 0 = 3652425 := rfl
    simp [fst]; omega
  · have : cnt 1 = 120000 := rfl
    simp [fst]; exact mon_bd (by omega) (by omega)
  · have : cnt 2 = 40000 := rfl
    simp [fst]; exact mon_bd (by omega) (by omega)
  · have : cnt 3 = 10000 := rfl
    simp [fst]; exact mon_bd (by omega) (by omega)
  · have : cnt 4 = 1000 := rfl
    simp [fst]; exact mon_bd (by omega) (by omega)
  · have : cnt 5 = 100 := rfl
    simp [fst]; exact mon_bd (by omega) (by omega)
set_option maxHeartbeats 1000000 in
set_option maxRecDepth 100000 in
theorem rlast_any (k i : Int) (w : World) :
    Calls Tryd.prog 13 #[.int .i64 k, .int .i64 i] w fun e w' => e = .returned (.tuple #[.int .i64 (lasV k i), .bool (okU k i)]) ∧ w = w' := by
  by_cases n : i < 0
  · have o := okU_no (k := k) (.inl n)
    rw [show lasV k i = 0 by unfold lasV; rw [o]; rfl, o]
    clear o
    go_enter Tryd.func13, Tryd.ntmps13
    go_wp2
    go_ret2
    exact ⟨rfl, rfl⟩
  by_cases c : cnt k ≤ i
  · have o := okU_no (k := k) (.inr c)
    rw [show lasV k i = 0 by unfold lasV; rw [o]; rfl, o]
    have C1 := Lib.hid (rcount_any k w)
    clear o
    go_enter Tryd.func13, Tryd.ntmps13
    go_wp2_with fail; refine (C1.out).mono ?_; rintro e w' ⟨rfl, rfl⟩
    go_wp2
    go_ret2
    exact ⟨rfl, rfl⟩
  have o := okU_yes (k := k) (show 0 ≤ i by omega) (show i < cnt k by omega)
  rw [show lasV k i = lst k i by unfold lasV; rw [o]; rfl, o]
  have c1 := fun w => rcount_any k w
  have c2 := fun w => rfirst_any k (i + 1) w
  have cb := cnt_bd k
  clear o
  by_cases z : i = cnt k - 1
  · have u := okU_no (k := k) (i := i + 1) (.inr (by omega))
    rw [show firV k (i + 1) = 0 by unfold firV; rw [u]; rfl, u] at c2
    rw [show lst k i = 3652424 by unfold lst; rw [if_pos z]]
    clear u z
    generalize cnt k = N at *
    have C1 := Lib.hid c1
    have C2 := Lib.hid c2
    clear c1 c2
    go_enter Tryd.func13, Tryd.ntmps13
    go_wp2_with fail; refine ((C1.out _)).mono ?_; rintro e w' ⟨rfl, rfl⟩
    go_wp2_with fail; refine ((C2.out _)).mono ?_; rintro e w' ⟨rfl, rfl⟩
    go_wp2
    go_ret2
    exact ⟨rfl, rfl⟩
  · have u := okU_yes (k := k) (i := i + 1) (by omega) (by omega)
    rw [show firV k (i + 1) = fst k (i + 1) by unfold firV; rw [u]; rfl, u] at c2
    rw [show lst k i = fst k (i + 1) - 1 by unfold lst; rw [if_neg z]]
    have fb := fst_bd k (i + 1) (by omega) (by omega)
    clear u z
    generalize cnt k = N, fst k (i + 1) = f at *
    have C1 := Lib.hid c1
    have C2 := Lib.hid c2
    clear c1 c2
    go_enter Tryd.func13, Tryd.ntmps13
    go_wp2_with fail; refine ((C1.out _)).mono ?_; rintro e w' ⟨rfl, rfl⟩
    go_wp2_with fail; refine ((C2.out _)).mono ?_; rintro e w' ⟨rfl, rfl⟩
    go_wp2
    go_ret2
    exact ⟨rfl, rfl⟩
theorem okO_day {k day : Int} (c : 0 < cnt k) (h : 0 ≤ day) (h' : day ≤ 3652424) (g : ¬ (k = 2 ∧ 12 * (dte day).1 + (dte day).2.1 - 1 < 2)) : okO k day = true ∧ ofV k day = unum k day := by
  have o : okO k day = true := by unfold okO; exact decide_eq_true ⟨c, h, h', g⟩
  exact ⟨o, by unfold ofV; rw [o]; rfl⟩
theorem okO_bad {k day : Int} (g : ¬ (0 < cnt k ∧ 0 ≤ day ∧ day ≤ 3652424 ∧ ¬ (k = 2 ∧ 12 * (dte day).1 + (dte day).2.1 - 1 < 2))) : okO k day = false ∧ ofV k day = 0 := by
  have o : okO k day = false := by unfold okO; exact decide_eq_false g
  exact ⟨o, by unfold ofV; rw [o]; rfl⟩
set_option maxHeartbeats 1000000 in
set_option maxRecDepth 100000 in
theorem rof_any (k day : Int) (w : World) (d1 : -9223372036854775808 ≤ day) (d2 : day ≤ 9223372036854775807) :
    Calls Tryd.prog 15 #[.int .i64 k, .int .i64 day] w fun e w' => e = .returned (.tuple #[.int .i64 (ofV k day), .bool (okO k day)]) ∧ w = w' := by
  have c1 := fun w => rdate_any day w d1 d2
  by_cases n : day < 0 ∨ 3652424 < day
  · obtain ⟨o, q⟩ := okO_bad (k := k) (day := day) (by omega)
    rw [q, o]
    rw [dte_no day n] at c1
    clear o q n
    have C1 := Lib.hid c1
    clear c1
    go_enter Tryd.func15, Tryd.ntmps15
    go_wp2_with fail; refine ((C1.out _)).mono ?_; rintro e w' ⟨rfl, rfl⟩
    go_wp2
    go_ret2
    exact ⟨rfl, rfl⟩
  have v := vld_bd (dte_yes day (by omega) (by omega)).1
  have cb := cnt_bd k
  by_cases z : k < 0 ∨ 5 < k
  · obtain ⟨o, q⟩ := okO_bad (k := k) (day := day) (by rw [cnt_no z]; omega)
    rw [q, o]
    clear o q
    generalize (dte day).1 = y, (dte day).2.1 = m, (dte day).2.2 = d at *
    obtain ⟨v1, v2, v3, v4, _⟩ := v
    have m0 : (m == 0) = false := by simp; omega
    have e0 : (k == 0) = false := by simp; omega
    have e1 : (k == 1) = false := by simp; omega
    have e2 : (k == 2) = false := by simp; omega
    have e3 : (k == 3) = false := by simp; omega
    have e4 : (k == 4) = false := by simp; omega
    have e5 : (k == 5) = false := by simp; omega
    clear z cb
    have C1 := Lib.hid c1
    clear c1
    go_enter Tryd.func15, Tryd.ntmps15
    go_wp2_with fail; refine ((C1.out _)).mono ?_; rintro e w' ⟨rfl, rfl⟩
    go_wp2
    go_ret2
    exact ⟨rfl, rfl⟩
  have : k = 0 ∨ k = 1 ∨ k = 2 ∨ k = 3 ∨ k = 4 ∨ k = 5 := by omega
  clear z
  rcases this with rfl | rfl | rfl | rfl | rfl | rfl
  · obtain ⟨o, q⟩ := okO_day (k := 0) (day := day) (by decide) (by omega) (by omega) (by omega)
    have K : unum 0 day = day := rfl
    rw [q, o, K]
    clear o q K
    generalize (dte day).1 = y, (dte day).2.1 = m, (dte day).2.2 = d at *
    obtain ⟨v1, v2, v3, v4, _⟩ := v
    have m0 : (m == 0) = false := by simp; omega
    clear cb
    have C1 := Lib.hid c1
    clear c1
    go_enter Tryd.func15, Tryd.ntmps15
    go_wp2_with fail; refine ((C1.out _)).mono ?_; rintro e w' ⟨rfl, rfl⟩
    go_wp2
    go_ret2
    exact ⟨ret_two (by omega) rfl, rfl⟩
  · obtain ⟨o, q⟩ := okO_day (k := 1) (day := day) (by decide) (by omega) (by omega) (by omega)
    have K : unum 1 day = 12 * (dte day).1 + (dte day).2.1 - 1 := rfl
    rw [q, o, K]
    clear o q K
    generalize (dte day).1 = y, (dte day).2.1 = m, (dte day).2.2 = d at *
    obtain ⟨v1, v2, v3, v4, _⟩ := v
    have m0 : (m == 0) = false := by simp; omega
    clear cb
    have C1 := Lib.hid c1
    clear c1
    go_enter Tryd.func15, Tryd.ntmps15
    go_wp2_with fail; refine ((C1.out _)).mono ?_; rintro e w' ⟨rfl, rfl⟩
    go_wp2
    go_ret2
    exact ⟨ret_two (by omega) rfl, rfl⟩
  · by_cases g : 12 * (dte day).1 + (dte day).2.1 - 1 < 2
    · obtain ⟨o, q⟩ := okO_bad (k := 2) (day := day) (by omega)
      rw [q, o]
      clear o q
      generalize (dte day).1 = y, (dte day).2.1 = m, (dte day).2.2 = d at *
      obtain ⟨v1, v2, v3, v4, _⟩ := v
      have m0 : (m == 0) = false := by simp; omega
      clear cb
      have C1 := Lib.hid c1
      clear c1
      go_enter Tryd.func15, Tryd.ntmps15
      go_wp2_with fail; refine ((C1.out _)).mono ?_; rintro e w' ⟨rfl, rfl⟩
      go_wp2
      go_ret2
      exact ⟨ret_two (by omega) (by simp; omega), rfl⟩
    · obtain ⟨o, q⟩ := okO_day (k := 2) (day := day) (by decide) (by omega) (by omega) (by omega)
      have K : unum 2 day = seaN (12 * (dte day).1 + (dte day).2.1 - 1) := rfl
      rw [q, o, K]
      clear o q K
      rw [show seaN (12 * (dte day).1 + (dte day).2.1 - 1) = (12 * (dte day).1 + (dte day).2.1 - 1 - 2) / 3 by unfold seaN; rw [if_neg g]]
      generalize (dte day).1 = y, (dte day).2.1 = m, (dte day).2.2 = d at *
      obtain ⟨v1, v2, v3, v4, _⟩ := v
      have m0 : (m == 0) = false := by simp; omega
      have g2 : 0 ≤ y * 4 + m / 3 - 1 := by omega
      clear cb
      have C1 := Lib.hid c1
      clear c1
      go_enter Tryd.func15, Tryd.ntmps15
      go_wp2_with fail; refine ((C1.out _)).mono ?_; rintro e w' ⟨rfl, rfl⟩
      go_wp2
      go_ret2
      exact ⟨ret_two (by omega) (by simp; omega), rfl⟩
  · obtain ⟨o, q⟩ := okO_day (k := 3) (day := day) (by decide) (by omega) (by omega) (by omega)
    have K : unum 3 day = (12 * (dte day).1 + (dte day).2.1 - 1) / 12 := rfl
    rw [q, o, K]
    clear o q K
    generalize (dte day).1 = y, (dte day).2.1 = m, (dte day).2.2 = d at *
    obtain ⟨v1, v2, v3, v4, _⟩ := v
    have m0 : (m == 0) = false := by simp; omega
    clear cb
    have C1 := Lib.hid c1
    clear c1
    go_enter Tryd.func15, Tryd.ntmps15
    go_wp2_with fail; refine ((C1.out _)).mono ?_; rintro e w' ⟨rfl, rfl⟩
    go_wp2
    go_ret2
    exact ⟨ret_two (by omega) rfl, rfl⟩
  · obtain ⟨o, q⟩ := okO_day (k := 4) (day := day) (by decide) (by omega) (by omega) (by omega)
    have K : unum 4 day = (12 * (dte day).1 + (dte day).2.1 - 1) / 12 / 10 := rfl
    rw [q, o, K]
    clear o q K
    generalize (dte day).1 = y, (dte day).2.1 = m, (dte day).2.2 = d at *
    obtain ⟨v1, v2, v3, v4, _⟩ := v
    have m0 : (m == 0) = false := by simp; omega
    clear cb
    have C1 := Lib.hid c1
    clear c1
    go_enter Tryd.func15, Tryd.ntmps15
    go_wp2_with fail; refine ((C1.out _)).mono ?_; rintro e w' ⟨rfl, rfl⟩
    go_wp2
    go_ret2
    exact ⟨ret_two (by omega) rfl, rfl⟩
  · obtain ⟨o, q⟩ := okO_day (k := 5) (day := day) (by decide) (by omega) (by omega) (by omega)
    have K : unum 5 day = (12 * (dte day).1 + (dte day).2.1 - 1) / 12 / 100 := rfl
    rw [q, o, K]
    clear o q K
    generalize (dte day).1 = y, (dte day).2.1 = m, (dte day).2.2 = d at *
    obtain ⟨v1, v2, v3, v4, _⟩ := v
    have m0 : (m == 0) = false := by simp; omega
    clear cb
    have C1 := Lib.hid c1
    clear c1
    go_enter Tryd.func15, Tryd.ntmps15
    go_wp2_with fail; refine ((C1.out _)).mono ?_; rintro e w' ⟨rfl, rfl⟩
    go_wp2
    go_ret2
    exact ⟨ret_two (by omega) rfl, rfl⟩
end Go.Proofs.YtfopcacoacedcaaDoor
