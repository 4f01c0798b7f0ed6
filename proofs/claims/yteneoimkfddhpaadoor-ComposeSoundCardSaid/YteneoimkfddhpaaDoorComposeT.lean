/-
  Layer 19: of three masks it does not matter which two are taken first: by the table (kernel arithmetic).
-/
import Derived.Test.YteneoimkfddhpaaDoorComposeM
namespace Go.Proofs.YteneoimkfddhpaaDoor
open Go.RowKit
set_option linter.unusedVariables false
def tabL : List (List Nat) := [[1, 1, 1, 1, 31, 31, 1, 1, 1, 1, 31, 31, 8191], [1, 1, 1, 2, 28, 28, 2, 1, 1, 2, 28, 224, 7936], [1, 1, 7, 4, 28, 28, 4, 7, 391, 388, 2044, 1792, 7936], [1, 1, 7, 8, 16, 16, 8, 7, 391, 584, 1072, 2048, 4096], [1, 1, 31, 16, 16, 16, 16, 31, 8191, 7216, 7216, 4096, 4096], [1, 2, 28, 16, 16, 32, 32, 224, 7936, 7168, 7168, 4096, 4096], [1, 2, 4, 8, 16, 32, 64, 128, 256, 512, 1024, 2048, 4096], [1, 2, 4, 4, 28, 224, 128, 128, 256, 256, 1792, 1792, 7936], [391, 388, 388, 388, 2044, 1792, 256, 256, 256, 256, 1792, 1792, 7936], [391, 388, 388, 584, 1072, 1024, 512, 256, 256, 512, 1024, 2048, 4096], [391, 388, 2044, 1072, 1072, 1024, 1024, 1792, 7936, 7168, 7168, 4096, 4096], [391, 584, 1072, 1072, 1072, 2048, 2048, 2048, 4096, 4096, 4096, 4096, 4096], [8191, 7216, 7216, 7216, 7216, 4096, 4096, 4096, 4096, 4096, 4096, 4096, 4096]]
def tb (r s : Nat) : Nat := (tabL.getD r []).getD s 0
def row (r s : Nat) : Nat := bothP (fun x => x == r) (fun x => x == s)
set_option maxRecDepth 100000 in
theorem row_tab : ∀ r : Nat, r < 13 → ∀ s : Nat, s < 13 → row r s = tb r s := by decide +kernel
def orL (m t : Nat) : Nat := (List.range 13).foldl (fun acc u => if m.testBit u then acc ||| tb u t else acc) 0
def orR (r m : Nat) : Nat := (List.range 13).foldl (fun acc v => if m.testBit v then acc ||| tb r v else acc) 0
set_option maxRecDepth 100000 in
theorem assoc_tab : ∀ r : Nat, r < 13 → ∀ s : Nat, s < 13 → ∀ t : Nat, t < 13 → orL (tb r s) t = orR r (tb s t) := by decide +kernel
theorem row_bit (r s x : Nat) : (row r s).testBit x = true ↔ Tri r s x := by
  unfold row
  rw [both_bit]
  constructor
  · rintro ⟨r', s', h1, h2, h⟩
    simp at h1 h2
    subst h1 h2
    exact h
  · intro h; exact ⟨r, s, by simp, by simp, h⟩
theorem tb_bit (r s x : Nat) (hr : r ≤ 12) (hs : s ≤ 12) : (tb r s).testBit x = true ↔ Tri r s x := by
  rw [← row_tab r (by omega) s (by omega), row_bit]
theorem foldl_or_bit (f : Nat → Nat) (m x : Nat) : ∀ k acc, ((List.range k).foldl (fun acc u => if m.testBit u then acc ||| f u else acc) acc).testBit x = true ↔ acc.testBit x = true ∨ ∃ u, u < k ∧ m.testBit u = true ∧ (f u).testBit x = true := by
  intro k
  induction k with
  | zero => intro acc; simp
  | succ k ih =>
    intro acc
    rw [List.range_succ, List.foldl_append]
    simp only [List.foldl_cons, List.foldl_nil]
    by_cases h : m.testBit k = true
    · rw [if_pos h, Nat.testBit_or, Bool.or_eq_true, ih]
      constructor
      · rintro ((h1 | ⟨u, h1, h2, h3⟩) | h1)
        · exact .inl h1
        · exact .inr ⟨u, by omega, h2, h3⟩
        · exact .inr ⟨k, by omega, h, h1⟩
      · rintro (h1 | ⟨u, h1, h2, h3⟩)
        · exact .inl (.inl h1)
        · by_cases e : u = k
          · subst e; exact .inr h3
          · exact .inl (.inr ⟨u, by omega, h2, h3⟩)
    · rw [if_neg h, ih]
      constructor
      · rintro (h1 | ⟨u, h1, h2⟩)
        · exact .inl h1
        · exact .inr ⟨u, by omega, h2⟩
      · rintro (h1 | ⟨u, h1, h2, h3⟩)
        · exact .inl h1
        · by_cases e : u = k
          · subst e; exact absurd h2 h
          · exact .inr ⟨u, by omega, h2, h3⟩
theorem orL_bit (r s t x : Nat) (hr : r ≤ 12) (hs : s ≤ 12) (ht : t ≤ 12) : (orL (tb r s) t).testBit x = true ↔ ∃ u, Tri r s u ∧ Tri u t x := by
  unfold orL
  rw [foldl_or_bit (fun u => tb u t)]
  simp only [Nat.zero_testBit, Bool.false_eq_true, false_or]
  constructor
  · rintro ⟨u, h1, h2, h3⟩
    exact ⟨u, (tb_bit r s u hr hs).1 h2, (tb_bit u t x (by omega) ht).1 h3⟩
  · rintro ⟨u, h1, h2⟩
    have b := tri_bd h1
    exact ⟨u, by omega, (tb_bit r s u hr hs).2 h1, (tb_bit u t x (by omega) ht).2 h2⟩
theorem orR_bit (r s t x : Nat) (hr : r ≤ 12) (hs : s ≤ 12) (ht : t ≤ 12) : (orR r (tb s t)).testBit x = true ↔ ∃ v, Tri s t v ∧ Tri r v x := by
  unfold orR
  rw [foldl_or_bit (fun v => tb r v)]
  simp only [Nat.zero_testBit, Bool.false_eq_true, false_or]
  constructor
  · rintro ⟨v, h1, h2, h3⟩
    exact ⟨v, (tb_bit s t v hs ht).1 h2, (tb_bit r v x hr (by omega)).1 h3⟩
  · rintro ⟨v, h1, h2⟩
    have b := tri_bd h1
    exact ⟨v, by omega, (tb_bit s t v hs ht).2 h1, (tb_bit r v x hr (by omega)).2 h2⟩
theorem tri_assoc (r s t x : Nat) (hr : r ≤ 12) (hs : s ≤ 12) (ht : t ≤ 12) : (∃ u, Tri r s u ∧ Tri u t x) ↔ ∃ v, Tri s t v ∧ Tri r v x := by
  rw [← orL_bit r s t x hr hs ht, ← orR_bit r s t x hr hs ht, assoc_tab r (by omega) s (by omega) t (by omega)]
/-- of three masks it does not matter which two are taken first -/
theorem both_three (A B C : Nat → Bool) : bothP (fun r => (bothP A B).testBit r) C = bothP A (fun r => (bothP B C).testBit r) := by
  apply both_ext
  intro x
  constructor
  · rintro ⟨u, t, h1, h2, h3⟩
    obtain ⟨r, s, hr, hs, h4⟩ := (both_bit A B u).1 h1
    have b1 := tri_bd h3
    have b2 := tri_bd h4
    obtain ⟨v, h5, h6⟩ := (tri_assoc r s t x b2.1 b2.2.1 b1.2.1).1 ⟨u, h4, h3⟩
    exact ⟨r, v, hr, (both_bit B C v).2 ⟨s, t, hs, h2, h5⟩, h6⟩
  · rintro ⟨r, v, h1, h2, h3⟩
    obtain ⟨s, t, hs, ht, h4⟩ := (both_bit B C v).1 h2
    have b1 := tri_bd h3
    have b2 := tri_bd h4
    obtain ⟨u, h5, h6⟩ := (tri_assoc r s t x b1.1 b2.1 b2.2.1).2 ⟨v, h4, h3⟩
    exact ⟨u, t, (both_bit A B u).2 ⟨r, s, h1, hs, h5⟩, ht, h6⟩
end Go.Proofs.YteneoimkfddhpaaDoor
