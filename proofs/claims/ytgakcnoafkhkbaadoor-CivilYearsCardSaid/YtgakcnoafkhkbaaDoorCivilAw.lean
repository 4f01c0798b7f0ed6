/-
  The document's examples of layer 2 hold; the tables.
-/
import Derived.Test.YtgakcnoafkhkbaaDoorCivilC
import Derived.Test.YtgakcnoafkhkbaaDoorCivilR
namespace Go.Proofs.YtgakcnoafkhkbaaDoor
open Go.RowKit
set_option linter.unusedVariables false
def numv (y m d : Int) : Int := if vldB y m d then num y m d else 0
theorem numv_yes {y m d : Int} (h : vldB y m d = true) : numv y m d = num y m d := by unfold numv; rw [if_pos h]
theorem number_v (y m d : Int) (w : World) (hT : TabMD w) :
    Calls Tryd.prog 9 #[.int .i64 y, .int .i64 m, .int .i64 d] w fun e w' => e = .returned (.tuple #[.int .i64 (numv y m d), .bool (vldB y m d)]) ∧ w = w' := number_any y m d w hT
theorem rnumber_v (y m d : Int) (w : World) :
    Calls Tryd.prog 10 #[.int .i64 y, .int .i64 m, .int .i64 d] w fun e w' => e = .returned (.tuple #[.int .i64 (numv y m d), .bool (vldB y m d)]) ∧ w = w' := rnumber_any y m d w
def Tabs (w : World) : Prop := TabMD w ∧ TabWD w
set_option maxHeartbeats 400000 in
theorem awake2 (w : World) (hT : Tabs w) : Calls Tryd.prog 8 #[] w fun e w' => e = .returned (.bool true) ∧ w = w' := by
  have v1 : vldB 2000 1 1 = true := by decide
  have v2 : vldB 9999 12 31 = true := by decide
  have c1 := fun w h => number_any 2000 1 1 w h
  rw [v1, if_pos rfl, show num 2000 1 1 = 730485 by decide] at c1
  have c2 := fun w h => date_any 3652424 w (by omega) (by omega) h
  rw [dte_eq v2 (by decide)] at c2
  have c3 := fun w h => weekday_any 730485 w (by omega) (by omega) h
  rw [show wkd 730485 = 5 by decide] at c3
  have c4 := fun w => leap_any 0 w
  rw [show lpB 0 = true by decide] at c4
  have c5 := fun w h => days_any 0 2 w h
  rw [show dim 0 2 = 29 by decide] at c5
  have C1 := Lib.hid c1
  have C2 := Lib.hid c2
  have C3 := Lib.hid c3
  have C4 := Lib.hid c4
  have C5 := Lib.hid c5
  have HT := Lib.hid hT
  clear c1 c2 c3 c4 c5 hT v1 v2
  go_enter Tryd.func8, Tryd.ntmps8
  go_wp2_with fail; refine ((C1.out _ HT.out.1)).mono ?_; rintro e w' ⟨rfl, rfl⟩
  go_wp2_with fail; refine ((C2.out _ HT.out.1)).mono ?_; rintro e w' ⟨rfl, rfl⟩
  go_wp2_with fail; refine ((C3.out _ HT.out.2)).mono ?_; rintro e w' ⟨rfl, rfl⟩
  go_wp2_with fail; refine ((C4.out _)).mono ?_; rintro e w' ⟨rfl, rfl⟩
  go_wp2_with fail; refine ((C5.out _ HT.out.1)).mono ?_; rintro e w' ⟨rfl, rfl⟩
  go_wp2
  go_ret
  exact ⟨rfl, rfl⟩
end Go.Proofs.YtgakcnoafkhkbaaDoor
