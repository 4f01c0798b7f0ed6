/-
  Boxes of a call's own: stores of several cells into one, and what stays.
-/
import Derived.Test.YtjdnejglapnbbaaGreatDoorGBa
import Derived.Test.YtjdnejglapnbbaaGreatDoorGLeafA
import Derived.Deep.MidRow
import Derived.Deep.CutRange
namespace Go.Proofs.YtjdnejglapnbbaaGreatDoor
open Go.RowKit
set_option linter.unusedVariables false
set_option linter.unusedSimpArgs false
theorem bx_heap1 {w : World} {B : Nat} {t : TypeId} {c : Array Value} {fr : Nat × Nat} (hB : w.heap[B]? = some (.cells c t fr)) (o : Nat) (x : Value) : (w.setCell ⟨B, o, none⟩ x).heap[B]? = some (.cells (c.setIfInBounds o x) t fr) := by
  unfold World.setCell
  simp only
  rw [Array.getElem?_modify, if_pos rfl, hB]
  rfl
theorem row4 {W : World} {B : Nat} {a b c d : Value} {t : TypeId} {fr : Nat × Nat} (h : W.heap[B]? = some (.cells #[a, b, c, d] t fr)) : W.cell? ⟨B, 0, none⟩ = some a ∧ W.cell? ⟨B, 1, none⟩ = some b ∧ W.cell? ⟨B, 2, none⟩ = some c ∧ W.cell? ⟨B, 3, none⟩ = some d := by
  refine ⟨?_, ?_, ?_, ?_⟩ <;> simp [World.cell?, h]
theorem row2 {W : World} {B : Nat} {a b : Value} {t : TypeId} {fr : Nat × Nat} (h : W.heap[B]? = some (.cells #[a, b] t fr)) : W.cell? ⟨B, 0, none⟩ = some a ∧ W.cell? ⟨B, 1, none⟩ = some b := by
  refine ⟨?_, ?_⟩ <;> simp [World.cell?, h]
end Go.Proofs.YtjdnejglapnbbaaGreatDoor
