/-
  Joined: 4F, 4D, 4E, L4A.
-/
import Derived.Test.YtndmohamjffpcaaDoor4C
import Derived.Test.YtndmohamjffpcaaDoorSortW
import Derived.Test.YtndmohamjffpcaaDoor4A
import Derived.Test.YtndmohamjffpcaaDoorRunsS
namespace Go.Proofs.YtndmohamjffpcaaDoor
open Go.RowKit
set_option linter.unusedVariables false
set_option linter.unusedSimpArgs false
/-- the greatest number that is not above n -/
def prv : List R → Int → Int × Bool
  | [], _ => (0, false)
  | r :: t, n => if (prv t n).2 = true then prv t n else if r.1 ≤ n then (min n r.2, true) else (0, false)
theorem prv_at : ∀ (l : List R) (n : Int) (i : Nat), i ≤ l.length → (∀ k, i ≤ k → k < l.length → n < (at_ l k).1) → (0 < i → (at_ l (i - 1)).1 ≤ n) → prv l n = if i = 0 then (0, false) else (min n (at_ l (i - 1)).2, true) := by
  intro l
  induction l with
  | nil => intro n i hi _ _; simp at hi; subst hi; rfl
  | cons r t ih =>
    intro n i hi h1 h2
    have e : ∀ k, at_ (r :: t) (k + 1) = at_ t k := fun k => by unfold at_; simp
    have e0 : at_ (r :: t) 0 = r := by unfold at_; simp
    rw [prv]
    cases i with
    | zero =>
      have g := ih n 0 (by omega) (fun k _ hk => by have := h1 (k + 1) (by omega) (by simpa using hk); rwa [e] at this) (fun h => by omega)
      rw [if_pos rfl] at g
      have g0 := h1 0 (by omega) (by simp)
      rw [e0] at g0
      rw [g, if_neg (by simp), if_neg (by omega), if_pos rfl]
    | succ j =>
      have g := ih n j (by simpa using hi) (fun k hk hk2 => by have := h1 (k + 1) (by omega) (by simpa using hk2); rwa [e] at this) (fun h => by
        have := h2 (by omega)
        rw [show j + 1 - 1 = (j - 1) + 1 by omega, e] at this
        exact this)
      have g0 := h2 (by omega)
      simp only [Nat.add_sub_cancel] at g0
      cases j with
      | zero =>
        rw [if_pos rfl] at g
        rw [e0] at g0
        rw [g, if_neg (by simp), if_pos g0, if_neg (by omega)]
        simp only [Nat.zero_add, Nat.sub_self, e0]
      | succ m =>
        rw [if_neg (by omega)] at g
        rw [g, if_pos rfl, if_neg (by omega)]
        simp only [Nat.add_sub_cancel, e]
def fP (l : List R) (n : Int) (k : Nat) : Bool := decide (l.length ≤ k) || decide (n < (at_ l k).1)
theorem sane_lo {l : List R} (h : sane l) : ∀ a b, a ≤ b → b < l.length → (at_ l a).1 ≤ (at_ l b).1 := by
  intro a b hab
  induction b with
  | zero => intro _; have e : a = 0 := by omega
            rw [e]; exact Int.le_refl _
  | succ b ih =>
    intro hb
    by_cases e : a = b + 1
    · subst e; exact Int.le_refl _
    · have g := ih (by omega) (by omega)
      have s := (sane_idx l).1 h (b + 1) hb
      have t := (sane_idx l).1 h b (by omega)
      have := s.2 (by omega)
      obtain ⟨o1, _⟩ := t.1
      simp only [Nat.add_sub_cancel] at this
      omega
theorem fP_mono {l : List R} (h : sane l) (n : Int) : ∀ a b, a ≤ b → fP l n a = true → fP l n b = true := by
  intro a b hab ha
  unfold fP at ha ⊢
  simp only [Bool.or_eq_true, decide_eq_true_eq] at ha ⊢
  by_cases c : l.length ≤ b
  · exact .inl c
  · right
    rcases ha with ha | ha
    · omega
    · have := sane_lo h a b hab (by omega); omega
end Go.Proofs.YtndmohamjffpcaaDoor

namespace Go.Proofs.YtndmohamjffpcaaDoor
open Go.RowKit
set_option linter.unusedVariables false
set_option linter.unusedSimpArgs false
theorem has_no {l : List R} {n : Int} (hs : sane l) (h : ∀ i, i < l.length → ¬ ((at_ l i).1 ≤ n ∧ n ≤ (at_ l i).2)) : hasB l n = false := by
  rcases Bool.eq_false_or_eq_true (hasB l n) with g | g
  · obtain ⟨r, hr, h1⟩ := (has_sane hs n).1 g
    obtain ⟨i, hi, e⟩ := List.getElem_of_mem hr
    refine absurd ?_ (h i hi)
    unfold at_; simp [List.getD, hi, e]; exact h1
  · exact g
theorem has_yes {l : List R} {n : Int} (hs : sane l) {k : Nat} (hk : k < l.length) (h : (at_ l k).1 ≤ n ∧ n ≤ (at_ l k).2) : hasB l n = true := (has_sane hs n).2 ⟨_, at_mem hk, h⟩
end Go.Proofs.YtndmohamjffpcaaDoor

namespace Go.Proofs.YtndmohamjffpcaaDoor
open Go.RowKit
set_option linter.unusedVariables false
set_option linter.unusedSimpArgs false
theorem at_ext {l m : List R} (hn : l.length = m.length) (h : ∀ i, i < l.length → at_ l i = at_ m i) : l = m := by
  apply List.ext_getElem hn
  intro i h1 h2
  have := h i h1
  unfold at_ at this
  simpa [List.getD, h1, h2] using this
theorem same_ne {l m : List R} {k : Nat} (h : at_ l k ≠ at_ m k) : decide (l = m) = false := decide_eq_false fun e => h (by rw [e])
end Go.Proofs.YtndmohamjffpcaaDoor

namespace Go.Proofs.YtndmohamjffpcaaDoor
open Go.RowKit
set_option linter.unusedVariables false
set_option linter.unusedSimpArgs false
theorem lit_at (w : World) (l : List R) (cs : Array Value) (t : TypeId) (hc : cs.toList = cellsR l) (hn : l.length ≤ maxLen) : RunsAt (w.alloc (.cells cs t)) (.slice (some ⟨w.heap.size, 0, none⟩) l.length l.length) l := by
  refine .inr ⟨w.heap.size, 0, l.length, rfl, Nat.le_refl _, hn, fun i hi => ?_⟩
  have c : ∀ j, j < l.length * 2 → (w.alloc (.cells cs t)).cell? ⟨w.heap.size, j, none⟩ = (cellsR l)[j]? := by
    intro j hj
    rw [← hc]
    have : j < cs.size := by rw [← Array.length_toList, hc, cellsR_length]; exact hj
    unfold World.cell?
    rw [heap_alloc_new]
    simp [this]
  rw [Nat.zero_add, c _ (by omega), c _ (by omega), cells_idx l _ (by omega), cells_idx l _ (by omega)]
  have e1 : i * 2 / 2 = i := by omega
  have e2 : (i * 2 + 1) / 2 = i := by omega
  have e3 : i * 2 % 2 = 0 := by omega
  have e4 : ¬ (i * 2 + 1) % 2 = 0 := by omega
  rw [e1, e2, if_pos e3, if_neg e4]
  exact ⟨rfl, rfl⟩
theorem ilit_at (w : World) (l : List Int) (cs : Array Value) (t : TypeId) (hc : cs.toList = l.map (Value.int .i64)) (hn : l.length ≤ maxLen) : IntsAt (w.alloc (.cells cs t)) (.slice (some ⟨w.heap.size, 0, none⟩) l.length l.length) l := by
  refine .inr ⟨w.heap.size, 0, l.length, rfl, Nat.le_refl _, hn, fun i hi => ?_⟩
  have : i < cs.size := by rw [← Array.length_toList, hc]; simpa using hi
  rw [Nat.zero_add]
  have e : cs[i]? = (l.map (Value.int .i64))[i]? := by rw [← hc]; simp
  unfold World.cell?
  rw [heap_alloc_new]
  simp [e, hi, List.getD]
theorem sane_list {l : List R} (h : saneB l = true) : sane l := by unfold saneB at h; exact of_decide_eq_true h
end Go.Proofs.YtndmohamjffpcaaDoor
