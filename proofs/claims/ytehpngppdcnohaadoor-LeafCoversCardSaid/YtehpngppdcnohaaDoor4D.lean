/-
  Contracts of the document's answer for layer 4: Has, Count, Next, Prev.
-/
import Derived.Test.YtehpngppdcnohaaDoor4F
namespace Go.Proofs.YtehpngppdcnohaaDoor
open Go.RowKit
set_option linter.unusedVariables false
set_option linter.unusedSimpArgs false
theorem has_no {l : List R} {n : Int} (hs : sane l) (h : ∀ i, i < l.length → ¬ ((at_ l i).1 ≤ n ∧ n ≤ (at_ l i).2)) : hasB l n = false := by
  rcases Bool.eq_false_or_eq_true (hasB l n) with g | g
  · obtain ⟨r, hr, h1⟩ := (has_sane hs n).1 g
    obtain ⟨i, hi, e⟩ := List.getElem_of_mem hr
    refine absurd ?_ (h i hi)
    unfold at_; simp [List.getD, hi, e]; exact h1
  · exact g
theorem has_yes {l : List R} {n : Int} (hs : sane l) {k : Nat} (hk : k < l.length) (h : (at_ l k).1 ≤ n ∧ n ≤ (at_ l k).2) : hasB l n = true := (has_sane hs n).2 ⟨_, at_mem hk, h⟩
end Go.Proofs.YtehpngppdcnohaaDoor
