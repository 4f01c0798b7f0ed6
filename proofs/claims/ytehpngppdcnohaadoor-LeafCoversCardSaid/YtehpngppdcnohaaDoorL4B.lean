/-
  Layer 4: the walk of RunsMake.
-/
import Derived.Test.YtehpngppdcnohaaDoorL4A
namespace Go.Proofs.YtehpngppdcnohaaDoor
open Go.RowKit
set_option linter.unusedVariables false
set_option linter.unusedSimpArgs false
theorem memR_take (l : List R) (k : Nat) (n : Int) (h : k < l.length) : memR (l.take (k + 1)) n ↔ memR (l.take k) n ∨ ((at_ l k).1 ≤ n ∧ n ≤ (at_ l k).2 ∧ -1099511627776 ≤ n ∧ n ≤ 1099511627776) := by
  rw [take_at l k h, memR_append, memR_cons]
  have := memR_nil n
  constructor
  · rintro (q | q | q)
    · exact .inl q
    · exact .inr q
    · exact absurd q this
  · rintro (q | q)
    · exact .inl q
    · exact .inr (.inl q)
theorem hasB_nf (l : List R) (n : Int) : hasB (nf l) n = true ↔ memR l n := by
  rw [has_sane (nf_sane l) n, ← nf_mem l n]
  constructor
  · rintro ⟨r, hr, h⟩
    have := sane_ok (nf_sane l) r hr
    obtain ⟨o1, o2, o3⟩ := this
    exact ⟨r, hr, h.1, h.2, by omega, by omega⟩
  · rintro ⟨r, hr, h⟩
    exact ⟨r, hr, h.1, h.2.1⟩
theorem bool_iff {a b : Bool} (h : a = true ↔ b = true) : a = b := by cases a <;> cases b <;> simp_all
end Go.Proofs.YtehpngppdcnohaaDoor
