/-
  Calls that leave what was there as it was: worlds that grow.
-/
import Derived.Test.YtndmohamjffpcaaDoorKit
import Derived.Below
import Derived.WalkSmall
namespace Go.Proofs.YtndmohamjffpcaaDoor
open Go.RowKit
set_option linter.unusedVariables false
/-- what was there is as it was -/
def Kp (w w' : World) : Prop := Below w.heap.size w w'
theorem Kp.refl (w : World) : Kp w w := Below.refl _ _
theorem Kp.trans {a b c : World} (h : Kp a b) (g : Kp b c) : Kp a c := Below.trans h (Below.mono g h.size)
theorem Kp.alloc (w : World) (o : Obj) : Kp w (w.alloc o) := (Below.refl _ _).alloc (Nat.le_refl _) o
theorem Kp.drewN (w : World) (n : Nat) : Kp w (w.drewN n) := below_drewN (Below.refl _ _) n
theorem Kp.drew (w : World) : Kp w w.drew := (Below.refl _ _).drew
theorem var_lt {P : Program} {g : Nat} {w : World} {n : String} {cs : Array Value} (hg : P.globalNamed n = some g) (hv : w.var? P n = some cs) : g < w.heap.size := by
  unfold World.var? at hv
  simp only [hg, Option.bind_some] at hv
  rcases Nat.lt_or_ge g w.heap.size with h | h
  · exact h
  · rw [Array.getElem?_eq_none h] at hv; cases hv
end Go.Proofs.YtndmohamjffpcaaDoor
