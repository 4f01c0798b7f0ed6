/-
  The document's example of layer 3 holds; the tables.
-/
import Derived.Test.YtfopcacoacedcaaDoorUnitM
import Derived.Test.YtfopcacoacedcaaDoorMask
namespace Go.Proofs.YtfopcacoacedcaaDoor
open Go.RowKit
set_option linter.unusedVariables false
def Tabs (w : World) : Prop := TabMD w ∧ TabUC w
theorem Tabs.kp {w w' : World} (h : Tabs w) (k : Kp w w') : Tabs w' := ⟨h.1.kp k, h.2.kp k⟩
theorem firV_yes {k i : Int} (h : 0 ≤ i) (h' : i < cnt k) : firV k i = fst k i := by unfold firV; rw [okU_yes h h']; rfl
theorem lasV_yes {k i : Int} (h : 0 ≤ i) (h' : i < cnt k) : lasV k i = lst k i := by unfold lasV; rw [okU_yes h h']; rfl
theorem firV_no {k i : Int} (h : okU k i = false) : firV k i = 0 := by unfold firV; rw [h]; rfl
theorem lasV_no {k i : Int} (h : okU k i = false) : lasV k i = 0 := by unfold lasV; rw [h]; rfl
theorem ofV_yes {k d : Int} (h : okO k d = true) : ofV k d = unum k d := by unfold ofV; rw [h]; rfl
theorem ofV_no {k d : Int} (h : okO k d = false) : ofV k d = 0 := by unfold ofV; rw [h]; rfl
/-- the contracts, with the tables in one word -/
theorem firstC (k i : Int) (w : World) (h : Tabs w) : Calls Tryd.prog 10 #[.int .i64 k, .int .i64 i] w fun e w' => e = .returned (.tuple #[.int .i64 (firV k i), .bool (okU k i)]) ∧ Kp w w' := first_any k i w h.1 h.2
theorem lastC (k i : Int) (w : World) (h : Tabs w) : Calls Tryd.prog 12 #[.int .i64 k, .int .i64 i] w fun e w' => e = .returned (.tuple #[.int .i64 (lasV k i), .bool (okU k i)]) ∧ Kp w w' := last_any k i w h.1 h.2
theorem ofC (k i : Int) (w : World) (h : Tabs w) : Calls Tryd.prog 14 #[.int .i64 k, .int .i64 i] w fun e w' => e = .returned (.tuple #[.int .i64 (ofV k i), .bool (okO k i)]) ∧ Kp w w' := of_any k i w h.1 h.2
theorem countC (k : Int) (w : World) (h : Tabs w) : Calls Tryd.prog 16 #[.int .i64 k] w fun e w' => e = .returned (.int .i64 (cnt k)) ∧ Kp w w' := (count_any k w h.2).mono fun e w' ⟨a, b⟩ => ⟨a, by subst b; exact Kp.refl _⟩
set_option maxHeartbeats 400000 in
theorem awake3 (w : World) (hT : Tabs w) : Calls Tryd.prog 9 #[] w fun e w' => e = .returned (.bool true) ∧ Kp w w' := by
  have c1 := firstC 2 7999
  rw [show firV 2 7999 = 730454 by decide, show okU 2 7999 = true by decide] at c1
  have c2 := lastC 2 7999
  rw [show lasV 2 7999 = 730544 by decide, show okU 2 7999 = true by decide] at c2
  obtain ⟨o1, o2⟩ := okO_of (k := 4) (i := 200) (day := 730485) (by omega) (by decide) (by decide) (by decide)
  have c3 := ofC 4 730485
  rw [ofV_yes o1, o1, o2] at c3
  have c4 := countC 1
  rw [show cnt 1 = 120000 by decide] at c4
  have C1 := Lib.hid c1
  have C2 := Lib.hid c2
  have C3 := Lib.hid c3
  have C4 := Lib.hid c4
  have HT := Lib.hid hT
  clear c1 c2 c3 c4 hT o1 o2
  go_enter Tryd.func9, Tryd.ntmps9
  go_wp2_with fail; refine (C1.out _ HT.out).mono ?_; rintro e w1 ⟨rfl, k1⟩; have H1 := Lib.hid (HT.out.kp k1)
  go_wp2_with fail; refine (C2.out _ H1.out).mono ?_; rintro e w2 ⟨rfl, k2⟩; have H2 := Lib.hid (H1.out.kp k2)
  go_wp2_with fail; refine (C3.out _ H2.out).mono ?_; rintro e w3 ⟨rfl, k3⟩; have H3 := Lib.hid (H2.out.kp k3)
  go_wp2_with fail; refine (C4.out _ H3.out).mono ?_; rintro e w4 ⟨rfl, k4⟩; have H4 := Lib.hid (H3.out.kp k4)
  go_wp2
  go_ret
  exact ⟨rfl, k1.trans (k2.trans (k3.trans k4))⟩
end Go.Proofs.YtfopcacoacedcaaDoor
