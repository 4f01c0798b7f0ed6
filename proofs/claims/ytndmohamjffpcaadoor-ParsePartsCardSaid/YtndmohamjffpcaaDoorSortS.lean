/-
  The sort of runs: an exchange of two that may be one.
-/
import Derived.Test.YtndmohamjffpcaaDoorSortA
namespace Go.Proofs.YtndmohamjffpcaaDoor
open Go.RowKit Go.Sort Go.Shelf
set_option linter.unusedVariables false
theorem RowR.swap2 {w0 W : World} {b off n : Nat} {d : Array R} (r : RowR w0 b off n) (h : SW w0 b off d W) (hs : d.size = n) (i j : Nat) (hi : i < n) (hj : j < n) :
    ∃ x1 x2 y1 y2 : Int,
      (W.cell? ⟨b, off + i * 2, none⟩ = some (.int .i64 x1) ∧ W.cell? ⟨b, off + i * 2 + 1, none⟩ = some (.int .i64 x2) ∧ W.frozen? ⟨b, off + i * 2, none⟩ = false ∧ W.frozen? ⟨b, off + i * 2 + 1, none⟩ = false) ∧
      (W.cell? ⟨b, off + j * 2, none⟩ = some (.int .i64 y1) ∧ W.cell? ⟨b, off + j * 2 + 1, none⟩ = some (.int .i64 y2) ∧ W.frozen? ⟨b, off + j * 2, none⟩ = false ∧ W.frozen? ⟨b, off + j * 2 + 1, none⟩ = false) ∧
      ((W.setCell ⟨b, off + i * 2, none⟩ (.int .i64 y1)).cell? ⟨b, off + j * 2, none⟩ = some (.int .i64 y1) ∧ ((W.setCell ⟨b, off + i * 2, none⟩ (.int .i64 y1)).setCell ⟨b, off + i * 2 + 1, none⟩ (.int .i64 y2)).cell? ⟨b, off + j * 2 + 1, none⟩ = some (.int .i64 y2)) ∧
      Hid (SW w0 b off (swp d i j) ((((W.setCell ⟨b, off + i * 2, none⟩ (.int .i64 y1)).setCell ⟨b, off + i * 2 + 1, none⟩ (.int .i64 y2)).setCell ⟨b, off + j * 2, none⟩ (.int .i64 x1)).setCell ⟨b, off + j * 2 + 1, none⟩ (.int .i64 x2)).drew) := by
  obtain ⟨x1, x2, y1, y2, f, g, HS⟩ := r.swap h hs i j hi hj
  refine ⟨x1, x2, y1, y2, f, g, ?_, HS⟩
  by_cases e : i = j
  · subst e
    exact ⟨World.cell?_setCell_same' _ _ _ (by rw [f.1]; rfl), World.cell?_setCell_same' _ _ _ (by rw [World.cell?_setCell_other _ _ _ _ (by intro h; simp only [Addr.mk.injEq] at h; omega), f.2.1]; rfl)⟩
  · refine ⟨?_, ?_⟩
    · rw [World.cell?_setCell_other _ _ _ _ (by intro h; simp only [Addr.mk.injEq] at h; omega)]; exact g.1
    · rw [World.cell?_setCell_other _ _ _ _ (by intro h; simp only [Addr.mk.injEq] at h; omega), World.cell?_setCell_other _ _ _ _ (by intro h; simp only [Addr.mk.injEq] at h; omega)]; exact g.2.1
end Go.Proofs.YtndmohamjffpcaaDoor
