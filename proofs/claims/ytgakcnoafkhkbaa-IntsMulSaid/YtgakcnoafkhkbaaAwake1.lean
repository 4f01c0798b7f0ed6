/-
  The document's examples of layer 1 hold.
-/
import Derived.Test.YtgakcnoafkhkbaaIntsRef
namespace Go.Proofs.Ytgakcnoafkhkbaa
open Go.RowKit
theorem awake1 (w : World) : Calls Try.prog 9 #[] w fun e w' => e = .returned (.bool true) ∧ w = w' := by
  have c1 := fun w => mul_any 4294967296 2147483648 w (by omega) (by omega) (by omega) (by omega)
  rw [show only (4294967296 * 2147483648) = 0 by decide, show fitsB (4294967296 * 2147483648) = false by decide] at c1
  have c2 := fun w => add_any 2 3 w (by omega) (by omega) (by omega) (by omega)
  rw [show only (2 + 3) = 5 by decide, show fitsB (2 + 3) = true by decide] at c2
  have c3 := fun w => floor_any (-7) 2 w (by omega) (by omega) (by omega) (by omega)
  rw [show flr (-7) 2 = -4 by decide] at c3
  have c4 := fun w => mod_any (-7) 2 w (by omega) (by omega) (by omega) (by omega)
  rw [show mdl (-7) 2 = 1 by decide] at c4
  have c5 := fun w => clamp_any 9 1 5 w (by omega) (by omega) (by omega) (by omega) (by omega) (by omega)
  rw [show clamp 9 1 5 = 5 by decide] at c5
  have C1 := Lib.hid c1
  have C2 := Lib.hid c2
  have C3 := Lib.hid c3
  have C4 := Lib.hid c4
  have C5 := Lib.hid c5
  clear c1 c2 c3 c4 c5
  go_enter Try.func9, Try.ntmps9
  go_wp2_with fail
  refine (C1.out _).mono ?_
  rintro e w' ⟨rfl, rfl⟩
  go_wp2_with fail
  refine (C2.out _).mono ?_
  rintro e w' ⟨rfl, rfl⟩
  go_wp2_with fail
  refine (C3.out _).mono ?_
  rintro e w' ⟨rfl, rfl⟩
  go_wp2_with fail
  refine (C4.out _).mono ?_
  rintro e w' ⟨rfl, rfl⟩
  go_wp2_with fail
  refine (C5.out _).mono ?_
  rintro e w' ⟨rfl, rfl⟩
  go_wp2_with fail
  go_ret
  exact ⟨rfl, rfl⟩
end Go.Proofs.Ytgakcnoafkhkbaa
