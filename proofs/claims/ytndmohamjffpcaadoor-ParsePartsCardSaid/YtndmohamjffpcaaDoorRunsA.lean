/-
  Slices of runs in memory.
-/
import Derived.Test.YtndmohamjffpcaaDoorKp
import Derived.Test.YtndmohamjffpcaaDoorRunsM
import Derived.LoopTactic
import Derived.Laws.AppendOwn
import Derived.Laws.OwnMore
namespace Go.Proofs.YtndmohamjffpcaaDoor
open Go.RowKit
set_option linter.unusedVariables false
def at_ (l : List R) (i : Nat) : R := l.getD i (0, 0)
/-- all numbers are ints -/
def I64R (l : List R) : Prop := ∀ r ∈ l, -9223372036854775808 ≤ r.1 ∧ r.1 ≤ 9223372036854775807 ∧ -9223372036854775808 ≤ r.2 ∧ r.2 ≤ 9223372036854775807
/-- a slice of runs reads as this list -/
def RunsAt (w : World) (v : Value) (l : List R) : Prop :=
  (∃ ad cp, v = .slice ad 0 cp ∧ l = []) ∨ ∃ b off cap, v = .slice (some ⟨b, off, none⟩) l.length cap ∧ l.length ≤ cap ∧ cap ≤ maxLen ∧
    ∀ i, i < l.length → w.cell? ⟨b, off + i * 2, none⟩ = some (.int .i64 (at_ l i).1) ∧ w.cell? ⟨b, off + i * 2 + 1, none⟩ = some (.int .i64 (at_ l i).2)
theorem RunsAt.kp {w w' : World} {v : Value} {l : List R} (h : RunsAt w v l) (k : Kp w w') : RunsAt w' v l := by
  rcases h with h | ⟨b, off, cap, e, h1, h2, h3⟩
  · exact .inl h
  · refine .inr ⟨b, off, cap, e, h1, h2, fun i hi => ?_⟩
    obtain ⟨c1, c2⟩ := h3 i hi
    have b1 := World.block_lt_of_cell? _ _ c1
    exact ⟨(Below.cell (p := ⟨b, off + i * 2, none⟩) k b1).trans c1, (Below.cell (p := ⟨b, off + i * 2 + 1, none⟩) k b1).trans c2⟩
theorem I64R.at_ {l : List R} (h : I64R l) {i : Nat} (hi : i < l.length) : -9223372036854775808 ≤ (at_ l i).1 ∧ (at_ l i).1 ≤ 9223372036854775807 ∧ -9223372036854775808 ≤ (at_ l i).2 ∧ (at_ l i).2 ≤ 9223372036854775807 := by
  have e : Proofs.YtndmohamjffpcaaDoor.at_ l i = l[i] := by unfold Proofs.YtndmohamjffpcaaDoor.at_; simp [List.getD, hi]
  rw [e]; exact h _ (List.getElem_mem hi)
theorem sane_idx : ∀ (l : List R), sane l ↔ ∀ i, i < l.length → okR (at_ l i) ∧ (0 < i → (at_ l (i - 1)).2 + 1 < (at_ l i).1) := by
  intro l
  induction l with
  | nil => exact ⟨fun _ i hi => by simp at hi, fun _ => trivial⟩
  | cons r t ih =>
    constructor
    · intro h i hi
      cases i with
      | zero => exact ⟨sane_head h, fun h => by omega⟩
      | succ j =>
        have hj : j < t.length := by simpa using hi
        have g := (ih.1 h.2.2) j hj
        refine ⟨by simpa [at_] using g.1, fun _ => ?_⟩
        cases j with
        | zero =>
          cases t with
          | nil => simp at hj
          | cons s u => simpa [at_] using h.2.1
        | succ m => simpa [at_] using g.2 (by omega)
    · intro h
      refine sane_cons (by simpa [at_] using (h 0 (by simp)).1) ?_ (ih.2 fun i hi => ?_)
      · intro s u e
        subst e
        simpa [at_] using (h 1 (by simp)).2 (by omega)
      · have g := h (i + 1) (by simpa using hi)
        refine ⟨by simpa [at_] using g.1, fun hp => ?_⟩
        have g2 := g.2 (by omega)
        obtain ⟨m, rfl⟩ : ∃ m, i = m + 1 := ⟨i - 1, by omega⟩
        simpa [at_] using g2
end Go.Proofs.YtndmohamjffpcaaDoor
