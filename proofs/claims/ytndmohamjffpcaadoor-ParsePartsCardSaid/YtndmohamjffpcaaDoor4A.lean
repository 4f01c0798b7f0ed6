/-
  Contracts of the document's answer for layer 4: Sane.
-/
import Derived.Test.YtndmohamjffpcaaDoorRunsB
namespace Go.Proofs.YtndmohamjffpcaaDoor
open Go.RowKit
set_option linter.unusedVariables false
set_option linter.unusedSimpArgs false
theorem rd_at {w wr : World} {b off : Nat} {l : List R} (hx : ∀ i, i < l.length → w.cell? ⟨b, off + i * 2, none⟩ = some (.int .i64 (at_ l i).1) ∧ w.cell? ⟨b, off + i * 2 + 1, none⟩ = some (.int .i64 (at_ l i).2)) (k : Kp w wr) (i : Nat) (hi : i < l.length) :
    wr.cell? ⟨b, off + i * 2, none⟩ = some (.int .i64 (at_ l i).1) ∧ wr.cell? ⟨b, off + i * 2 + 1, none⟩ = some (.int .i64 (at_ l i).2) := by
  obtain ⟨c1, c2⟩ := hx i hi
  exact ⟨(Below.cell (p := ⟨b, off + i * 2, none⟩) k (World.block_lt_of_cell? _ _ c1)).trans c1, (Below.cell (p := ⟨b, off + i * 2 + 1, none⟩) k (World.block_lt_of_cell? _ _ c2)).trans c2⟩
end Go.Proofs.YtndmohamjffpcaaDoor
