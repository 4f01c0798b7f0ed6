/-
  Layer 4: the walk of RunsNext.
-/
import Derived.Test.YtehpngppdcnohaaDoorL4B
namespace Go.Proofs.YtehpngppdcnohaaDoor
open Go.RowKit
set_option linter.unusedVariables false
set_option linter.unusedSimpArgs false
theorem mem_cons_sane {r : R} {t : List R} (h : sane (r :: t)) (n : Int) : memR (r :: t) n ↔ (r.1 ≤ n ∧ n ≤ r.2) ∨ memR t n := sane_mem_head h n
theorem nxt_spec : ∀ (l : List R) (n : Int), sane l → (nxt l n = (0, false) ∧ ∀ m, memR l m → m < n) ∨ ∃ a, nxt l n = (a, true) ∧ n ≤ a ∧ memR l a ∧ ∀ m, memR l m → n ≤ m → a ≤ m := by
  intro l
  induction l with
  | nil => intro n _; exact .inl ⟨rfl, fun m h => absurd h (memR_nil m)⟩
  | cons r t ih =>
    intro n hs
    rw [nxt]
    have hr := (sane_head hs).1
    have B := sane_beyond hs
    by_cases c : n ≤ r.2
    · rw [if_pos c]
      refine .inr ⟨max n r.1, rfl, by omega, (mem_cons_sane hs _).2 (.inl ⟨by omega, by omega⟩), fun m hm hn => ?_⟩
      rcases (mem_cons_sane hs m).1 hm with g | g
      · omega
      · have := B m g; omega
    · rw [if_neg c]
      rcases ih n (sane_tail hs) with ⟨e, h⟩ | ⟨a, e, h1, h2, h3⟩
      · refine .inl ⟨e, fun m hm => ?_⟩
        rcases (mem_cons_sane hs m).1 hm with g | g
        · omega
        · exact h m g
      · refine .inr ⟨a, e, h1, (mem_cons_sane hs _).2 (.inr h2), fun m hm hn => ?_⟩
        rcases (mem_cons_sane hs m).1 hm with g | g
        · omega
        · exact h3 m g hn
theorem prv_spec : ∀ (l : List R) (n : Int), sane l → (prv l n = (0, false) ∧ ∀ m, memR l m → n < m) ∨ ∃ a, prv l n = (a, true) ∧ a ≤ n ∧ memR l a ∧ ∀ m, memR l m → m ≤ n → m ≤ a := by
  intro l
  induction l with
  | nil => intro n _; exact .inl ⟨rfl, fun m h => absurd h (memR_nil m)⟩
  | cons r t ih =>
    intro n hs
    rw [prv]
    have hr := (sane_head hs).1
    have B := sane_beyond hs
    rcases ih n (sane_tail hs) with ⟨e, h⟩ | ⟨a, e, h1, h2, h3⟩
    · rw [e, if_neg (by simp)]
      by_cases c : r.1 ≤ n
      · rw [if_pos c]
        refine .inr ⟨min n r.2, rfl, by omega, (mem_cons_sane hs _).2 (.inl ⟨by omega, by omega⟩), fun m hm hn => ?_⟩
        rcases (mem_cons_sane hs m).1 hm with g | g
        · omega
        · have := h m g; omega
      · rw [if_neg c]
        refine .inl ⟨rfl, fun m hm => ?_⟩
        rcases (mem_cons_sane hs m).1 hm with g | g
        · omega
        · exact h m g
    · rw [e, if_pos rfl]
      refine .inr ⟨a, rfl, h1, (mem_cons_sane hs _).2 (.inr h2), fun m hm hn => ?_⟩
      rcases (mem_cons_sane hs m).1 hm with g | g
      · have := B a h2; omega
      · exact h3 m g hn
theorem mem_at {l : List R} (h : sane l) {k : Nat} (hk : k < l.length) : memR l (at_ l k).1 ∧ memR l (at_ l k).2 := by
  obtain ⟨o1, o2, o3⟩ := sane_ok h _ (at_mem hk)
  exact ⟨⟨_, at_mem hk, Int.le_refl _, o1, by omega, by omega⟩, ⟨_, at_mem hk, o1, Int.le_refl _, by omega, by omega⟩⟩
theorem hasB_sane {l : List R} (h : sane l) (n : Int) : hasB l n = true ↔ memR l n := by
  have := hasB_nf l n
  rwa [nf_of_sane h] at this
theorem hasB_no {l : List R} (h : sane l) {n : Int} (g : ¬ memR l n) : hasB l n = false := by
  rcases Bool.eq_false_or_eq_true (hasB l n) with e | e
  · exact absurd ((hasB_sane h n).1 e) g
  · exact e
theorem mem_bd {l : List R} {n : Int} (h : memR l n) : -1099511627776 ≤ n ∧ n ≤ 1099511627776 := by
  obtain ⟨r, _, _, _, h3, h4⟩ := h; exact ⟨h3, h4⟩
theorem no_mem {l : List R} (h : sane l) (g : ∀ m, ¬ memR l m) : l = [] := by
  cases l with
  | nil => rfl
  | cons r t => exact absurd ((mem_cons_sane h r.1).2 (.inl ⟨Int.le_refl _, (sane_head h).1⟩)) (g _)
/-- what the walk is told of the set, and of the two answers -/
structure NX (L : List R) (n a b : Int) (ok is : Bool) : Prop where
  hok : ok = true → n ≤ a ∧ memR L a ∧ ∀ m, memR L m → n ≤ m → a ≤ m
  hno : ok = false → a = 0 ∧ ∀ m, memR L m → m < n
  his : is = true → b ≤ n ∧ memR L b ∧ ∀ m, memR L m → m ≤ n → m ≤ b
  hio : is = false → b = 0 ∧ ∀ m, memR L m → n < m
end Go.Proofs.YtehpngppdcnohaaDoor
