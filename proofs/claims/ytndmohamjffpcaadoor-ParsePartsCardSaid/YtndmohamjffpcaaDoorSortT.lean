/-
  The sort of runs: the scans.
-/
import Derived.Test.YtndmohamjffpcaaDoorSortS
import Derived.Deep.Cut
import Derived.Deep.CutRange
namespace Go.Proofs.YtndmohamjffpcaaDoor
open Go.RowKit Go.Sort Go.Shelf
set_option linter.unusedVariables false
set_option linter.unusedSimpArgs false
theorem su_go (p : R → Bool) (d : Array R) (j i : Nat) (h : i ≤ j) (hp : p d[i]! = true) : scanUp p d j i = scanUp p d j (i + 1) := by
  rw [scanUp, if_pos (by simp [h, hp])]
theorem su_stop (p : R → Bool) (d : Array R) (j i : Nat) (h : ¬ i ≤ j ∨ p d[i]! = false) : scanUp p d j i = i := by
  rw [scanUp, if_neg]
  rcases h with h | h <;> simp [h]
theorem su_bd (p : R → Bool) (d : Array R) (j : Nat) : ∀ (m i : Nat), j + 1 - i ≤ m → i ≤ j + 1 → i ≤ scanUp p d j i ∧ scanUp p d j i ≤ j + 1 := by
  intro m
  induction m with
  | zero => intro i h h2; rw [su_stop p d j i (.inl (by omega))]; omega
  | succ m ih =>
    intro i h h2
    by_cases c : i ≤ j
    · cases hp : p d[i]! with
      | true => rw [su_go p d j i c hp]; have := ih (i + 1) (by omega) (by omega); omega
      | false => rw [su_stop p d j i (.inr hp)]; omega
    · rw [su_stop p d j i (.inl c)]; omega
theorem sd_go (p : R → Bool) (d : Array R) (i j : Nat) (h : i ≤ j + 1) (hp : p d[j + 1]! = true) : scanDown p d i (j + 1) = scanDown p d i j := by
  rw [scanDown, if_pos (by simp [h, hp])]
theorem sd_stop (p : R → Bool) (d : Array R) (i j : Nat) (h0 : 1 ≤ i) (h : ¬ i ≤ j ∨ p d[j]! = false) : scanDown p d i j = j := by
  cases j with
  | zero => rw [scanDown]
  | succ j =>
    rw [scanDown, if_neg]
    rcases h with h | h <;> simp [h]
theorem sd_bd (p : R → Bool) (d : Array R) (i : Nat) (h0 : 1 ≤ i) : ∀ j, i ≤ j + 1 → i ≤ scanDown p d i j + 1 ∧ scanDown p d i j ≤ j := by
  intro j
  induction j with
  | zero => intro h; rw [scanDown]; omega
  | succ j ih =>
    intro h
    by_cases c : i ≤ j + 1
    · cases hp : p d[j + 1]! with
      | true => rw [sd_go p d i j c hp]; have := ih (by omega); omega
      | false => rw [sd_stop p d i (j + 1) h0 (.inr hp)]; omega
    · rw [sd_stop p d i (j + 1) h0 (.inl c)]; omega
end Go.Proofs.YtndmohamjffpcaaDoor
