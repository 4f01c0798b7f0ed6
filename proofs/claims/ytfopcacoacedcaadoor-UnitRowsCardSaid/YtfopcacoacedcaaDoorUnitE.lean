/-
  Contracts of package unit: First, Last, Of, for any kind and number.
-/
import Derived.Test.YtfopcacoacedcaaDoorUnitB
import Derived.Test.YtfopcacoacedcaaDoorUnitD
namespace Go.Proofs.YtfopcacoacedcaaDoor
open Go.RowKit
set_option linter.unusedVariables false
def okU (k i : Int) : Bool := decide (0 ≤ i ∧ i < cnt k)
def firV (k i : Int) : Int := if okU k i then fst k i else 0
def lst (k i : Int) : Int := if i = cnt k - 1 then 3652424 else fst k (i + 1) - 1
def lasV (k i : Int) : Int := if okU k i then lst k i else 0
theorem okU_yes {k i : Int} (h : 0 ≤ i) (h' : i < cnt k) : okU k i = true := by unfold okU; simp; exact ⟨h, h'⟩
theorem okU_no {k i : Int} (h : i < 0 ∨ cnt k ≤ i) : okU k i = false := by unfold okU; simp; omega
theorem okU_iff (k i : Int) : okU k i = true ↔ 0 ≤ i ∧ i < cnt k := by unfold okU; simp
set_option maxHeartbeats 400000 in
theorem first_any (k i : Int) (w : World) (hT : TabMD w) (hU : TabUC w) :
    Calls Tryd.prog 10 #[.int .i64 k, .int .i64 i] w fun e w' => e = .returned (.tuple #[.int .i64 (firV k i), .bool (okU k i)]) ∧ Kp w w' := by
  by_cases n : i < 0
  · have o := okU_no (k := k) (.inl n)
    rw [show firV k i = 0 by unfold firV; rw [o]; rfl, o]
    clear o hT hU
    go_enter Tryd.func10, Tryd.ntmps10
    go_wp2
    go_ret2
    exact ⟨rfl, Kp.refl _⟩
  by_cases c : cnt k ≤ i
  · have o := okU_no (k := k) (.inr c)
    rw [show firV k i = 0 by unfold firV; rw [o]; rfl, o]
    have C1 := Lib.hid (count_any k w hU)
    clear o hT hU
    go_enter Tryd.func10, Tryd.ntmps10
    go_wp2_with fail; refine (C1.out).mono ?_; rintro e w' ⟨rfl, rfl⟩
    go_wp2
    go_ret2
    exact ⟨rfl, Kp.refl _⟩
  have o := okU_yes (k := k) (show 0 ≤ i by omega) (show i < cnt k by omega)
  rw [show firV k i = fst k i by unfold firV; rw [o]; rfl, o]
  rcases cnt_six (k := k) (by omega) with rfl | rfl | rfl | rfl | rfl | rfl
  · exact first_0 i w (by omega) (by have : cnt 0 = 3652425 := rfl; omega) hT hU
  · exact first_1 i w (by omega) (by have : cnt 1 = 120000 := rfl; omega) hT hU
  · exact first_2 i w (by omega) (by have : cnt 2 = 40000 := rfl; omega) hT hU
  · exact first_3 i w (by omega) (by have : cnt 3 = 10000 := rfl; omega) hT hU
  · exact first_4 i w (by omega) (by have : cnt 4 = 1000 := rfl; omega) hT hU
  · exact first_5 i w (by omega) (by have : cnt 5 = 100 := rfl; omega) hT hU
set_option maxHeartbeats 400000 in
theorem last_any (k i : Int) (w : World) (hT : TabMD w) (hU : TabUC w) :
    Calls Tryd.prog 12 #[.int .i64 k, .int .i64 i] w fun e w' => e = .returned (.tuple #[.int .i64 (lasV k i), .bool (okU k i)]) ∧ Kp w w' := by
  by_cases n : i < 0
  · have o := okU_no (k := k) (.inl n)
    rw [show lasV k i = 0 by unfold lasV; rw [o]; rfl, o]
    clear o hT hU
    go_enter Tryd.func12, Tryd.ntmps12
    go_wp2
    go_ret2
    exact ⟨rfl, Kp.refl _⟩
  by_cases c : cnt k ≤ i
  · have o := okU_no (k := k) (.inr c)
    rw [show lasV k i = 0 by unfold lasV; rw [o]; rfl, o]
    have C1 := Lib.hid (count_any k w hU)
    clear o hT hU
    go_enter Tryd.func12, Tryd.ntmps12
    go_wp2_with fail; refine (C1.out).mono ?_; rintro e w' ⟨rfl, rfl⟩
    go_wp2
    go_ret2
    exact ⟨rfl, Kp.refl _⟩
  have o := okU_yes (k := k) (show 0 ≤ i by omega) (show i < cnt k by omega)
  rw [show lasV k i = lst k i by unfold lasV; rw [o]; rfl, o]
  by_cases z : i = cnt k - 1
  · rw [show lst k i = 3652424 by unfold lst; rw [if_pos z]]
    have C1 := Lib.hid (count_any k w hU)
    have e : (i == cnt k - 1) = true := by simpa using z
    have cb := cnt_bd k
    clear o hT hU z
    generalize cnt k = N at *
    go_enter Tryd.func12, Tryd.ntmps12
    go_wp2_with fail; refine (C1.out).mono ?_; rintro e w' ⟨rfl, rfl⟩
    go_wp2_with fail; refine (C1.out).mono ?_; rintro e w' ⟨rfl, rfl⟩
    go_wp2
    go_ret2
    exact ⟨rfl, Kp.refl _⟩
  rw [show lst k i = fst k (i + 1) - 1 by unfold lst; rw [if_neg z]]
  rcases cnt_six (k := k) (by omega) with rfl | rfl | rfl | rfl | rfl | rfl
  · exact last_0 i w (by omega) (by have : cnt 0 = 3652425 := rfl; omega) hT hU
  · exact last_1 i w (by omega) (by have : cnt 1 = 120000 := rfl; omega) hT hU
  · exact last_2 i w (by omega) (by have : cnt 2 = 40000 := rfl; omega) hT hU
  · exact last_3 i w (by omega) (by have : cnt 3 = 10000 := rfl; omega) hT hU
  · exact last_4 i w (by omega) (by have : cnt 4 = 1000 := rfl; omega) hT hU
  · exact last_5 i w (by omega) (by have : cnt 5 = 100 := rfl; omega) hT hU

noncomputable def okO (k day : Int) : Bool := decide (0 < cnt k ∧ 0 ≤ day ∧ day ≤ 3652424 ∧ ¬ (k = 2 ∧ 12 * (dte day).1 + (dte day).2.1 - 1 < 2))
noncomputable def ofV (k day : Int) : Int := if okO k day then unum k day else 0
set_option maxHeartbeats 400000 in
theorem of_any (k day : Int) (w : World) (hT : TabMD w) (hU : TabUC w) :
    Calls Tryd.prog 14 #[.int .i64 k, .int .i64 day] w fun e w' => e = .returned (.tuple #[.int .i64 (ofV k day), .bool (okO k day)]) ∧ Kp w w' := by
  have C1 := Lib.hid (count_any k w hU)
  have cb := cnt_bd k
  by_cases z : cnt k = 0
  · have o : okO k day = false := by unfold okO; simp; omega
    rw [show ofV k day = 0 by unfold ofV; rw [o]; rfl, o]
    rw [z] at C1
    clear o hT hU z cb
    go_enter Tryd.func14, Tryd.ntmps14
    go_wp2_with fail; refine (C1.out).mono ?_; rintro e w' ⟨rfl, rfl⟩
    go_wp2
    go_ret2
    exact ⟨rfl, Kp.refl _⟩
  have zb : (cnt k == 0) = false := by simpa using z
  by_cases n : day < 0
  · have o : okO k day = false := by unfold okO; simp; omega
    rw [show ofV k day = 0 by unfold ofV; rw [o]; rfl, o]
    clear o hT hU z
    generalize cnt k = N at *
    go_enter Tryd.func14, Tryd.ntmps14
    go_wp2_with fail; refine (C1.out).mono ?_; rintro e w' ⟨rfl, rfl⟩
    go_wp2
    go_ret2
    exact ⟨rfl, Kp.refl _⟩
  by_cases m : 3652424 < day
  · have o : okO k day = false := by unfold okO; simp; omega
    rw [show ofV k day = 0 by unfold ofV; rw [o]; rfl, o]
    clear o hT hU z
    generalize cnt k = N at *
    go_enter Tryd.func14, Tryd.ntmps14
    go_wp2_with fail; refine (C1.out).mono ?_; rintro e w' ⟨rfl, rfl⟩
    go_wp2
    go_ret2
    exact ⟨rfl, Kp.refl _⟩
  clear C1 zb
  by_cases g : k = 2 ∧ 12 * (dte day).1 + (dte day).2.1 - 1 < 2
  · have o : okO k day = false := by unfold okO; simp; omega
    rw [show ofV k day = 0 by unfold ofV; rw [o]; rfl, o]
    obtain ⟨rfl, g⟩ := g
    exact of_2n day w (by omega) (by omega) g hT hU
  have o : okO k day = true := by unfold okO; simp; omega
  rw [show ofV k day = unum k day by unfold ofV; rw [o]; rfl, o]
  rcases cnt_six (k := k) (by omega) with rfl | rfl | rfl | rfl | rfl | rfl
  · exact of_0 day w (by omega) (by omega) hT hU
  · exact of_1 day w (by omega) (by omega) hT hU
  · exact of_2 day w (by omega) (by omega) (fun h => g ⟨rfl, h⟩) hT hU
  · exact of_3 day w (by omega) (by omega) hT hU
  · exact of_4 day w (by omega) (by omega) hT hU
  · exact of_5 day w (by omega) (by omega) hT hU
end Go.Proofs.YtfopcacoacedcaaDoor
