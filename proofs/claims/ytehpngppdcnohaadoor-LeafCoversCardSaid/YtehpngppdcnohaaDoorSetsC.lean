/-
  Contracts of package sets: Minus.
-/
import Derived.Test.YtehpngppdcnohaaDoorSetsB
import Derived.Test.YtehpngppdcnohaaDoorSetsN
namespace Go.Proofs.YtehpngppdcnohaaDoor
open Go.RowKit
set_option linter.unusedVariables false
set_option linter.unusedSimpArgs false
/-- a box of a run -/
structure Box (w : World) (b : Nat) (x y : Int) : Prop where
  c0 : w.cell? ⟨b, 0, none⟩ = some (.int .i64 x)
  c1 : w.cell? ⟨b, 1, none⟩ = some (.int .i64 y)
  f : w.frozen? ⟨b, 0, none⟩ = false
  lt : b < w.heap.size
theorem Box.kp {w w' : World} {b : Nat} {x y : Int} (h : Box w b x y) (k : Kp w w') : Box w' b x y :=
  ⟨(k.cell (p := ⟨b, 0, none⟩) h.lt).trans h.c0, (k.cell (p := ⟨b, 1, none⟩) h.lt).trans h.c1, (k.frozen (p := ⟨b, 0, none⟩) h.lt).trans h.f, Nat.lt_of_lt_of_le h.lt k.size⟩
theorem Box.grown {w w' : World} {b : Nat} {x y : Int} {row : Option Nat} (h : Box w b x y) (g : w.grownBy w' row) (hn : ∀ j, row = some j → j ≠ b) : Box w' b x y :=
  ⟨(grown_cell g h.lt hn).trans h.c0, (grown_cell g h.lt hn).trans h.c1, (grown_frozen g h.lt hn).trans h.f, Nat.lt_of_lt_of_le h.lt g.size⟩
theorem Box.set {w : World} {b : Nat} {x y : Int} (h : Box w b x y) (z : Int) : Box (w.setCell ⟨b, 0, none⟩ (.int .i64 z)) b z y :=
  ⟨World.cell?_setCell_same' _ _ _ (by rw [h.c0]; rfl), by rw [World.cell?_setCell_other _ _ _ _ (by simp)]; exact h.c1, by rw [World.frozen?_setCell]; exact h.f, by have := h.lt; simp [World.setCell]; omega⟩
theorem box_new (w : World) (x y : Int) (t : TypeId) : Box (w.alloc (.cells #[.int .i64 x, .int .i64 y] t)) w.heap.size x y :=
  ⟨by simp, by simp, by rw [show (w.alloc _).frozen? _ = w.frozen? _ from RowKit.frozen?_alloc_cells _ _ _ _]; simp [World.frozen?], by simp⟩
end Go.Proofs.YtehpngppdcnohaaDoor
