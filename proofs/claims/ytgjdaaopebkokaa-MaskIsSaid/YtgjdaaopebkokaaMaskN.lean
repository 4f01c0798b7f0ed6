/-
  Layer 6: the set of what matches: plain mathematics of lists of runs.
-/
import Derived.Test.YtgjdaaopebkokaaMaskM
import Derived.Test.YtgjdaaopebkokaaRunsC
namespace Go.Proofs.Ytgjdaaopebkokaa
open Go.RowKit
set_option linter.unusedVariables false
def digR (b : Nat) (lo : Int) (j : Nat) : List R := (List.range j).map fun (i : Nat) => (10 * (lo + i) + ((b : Int) - 48), 10 * (lo + i) + ((b : Int) - 48))
theorem digR_snoc (b : Nat) (lo : Int) (j : Nat) : digR b lo (j + 1) = digR b lo j ++ [(10 * (lo + j) + ((b : Int) - 48), 10 * (lo + j) + ((b : Int) - 48))] := by
  unfold digR; rw [List.range_succ]; simp
theorem digR_len (b : Nat) (lo : Int) (j : Nat) : (digR b lo j).length = j := by unfold digR; simp
def furR (b : Nat) (r : R) : List R := if b = 88 then [(10 * r.1, 10 * r.2 + 9)] else digR b r.1 (r.2 - r.1 + 1).toNat
def furL (b : Nat) (l : List R) : List R := l.flatMap (furR b)
theorem furL_append (b : Nat) (l m : List R) : furL b (l ++ m) = furL b l ++ furL b m := by unfold furL; simp
theorem furL_snoc (b : Nat) (l : List R) (k : Nat) (h : k < l.length) : furL b (l.take (k + 1)) = furL b (l.take k) ++ furR b (at_ l k) := by
  rw [take_at l k h, furL_append]; unfold furL; simp
theorem furL_take_len (b : Nat) (l : List R) (k : Nat) : (furL b (l.take k)).length ≤ (furL b l).length := by
  have := furL_append b (l.take k) (l.drop k)
  rw [List.take_append_drop] at this
  rw [this, List.length_append]; omega
def tot : List R → Nat
  | [] => 0
  | r :: t => (r.2 - r.1 + 1).toNat + tot t
theorem tot_append (a b : List R) : tot (a ++ b) = tot a + tot b := by
  induction a with
  | nil => simp [tot]
  | cons r t ih => rw [List.cons_append, tot, tot, ih]; omega
def Gd (m : Int) (l : List R) : Prop := ∀ r ∈ l, 0 ≤ r.1 ∧ r.1 ≤ r.2 ∧ r.2 < m
theorem Gd.tot {m : Int} {l : List R} (h : Gd m l) : l.length ≤ Proofs.Ytgjdaaopebkokaa.tot l := by
  induction l with
  | nil => exact Nat.zero_le _
  | cons r t ih =>
    have g := h r (by simp)
    have := ih (fun x hx => h x (by simp [hx]))
    rw [List.length_cons, Proofs.Ytgjdaaopebkokaa.tot]; omega
theorem digR_tot (b : Nat) (lo : Int) (j : Nat) : tot (digR b lo j) = j := by
  induction j with
  | zero => rfl
  | succ j ih => rw [digR_snoc, tot_append, ih, tot, tot]; omega
theorem furR_tot (b : Nat) (r : R) (h : r.1 ≤ r.2) : tot (furR b r) ≤ 10 * (r.2 - r.1 + 1).toNat := by
  unfold furR
  split
  · rw [tot, tot]; simp only; omega
  · rw [digR_tot]; omega
theorem furL_tot {b : Nat} {m : Int} {l : List R} (h : Gd m l) : tot (furL b l) ≤ 10 * tot l := by
  induction l with
  | nil => simp [furL, tot]
  | cons r t ih =>
    have g := h r (by simp)
    have i := ih (fun x hx => h x (by simp [hx]))
    have e : furL b (r :: t) = furR b r ++ furL b t := by unfold furL; simp
    have f := furR_tot b r g.2.1
    rw [e, tot_append, tot]; omega
theorem furL_gd {b : Nat} {m : Int} {l : List R} (h : Gd m l) (hb : b = 88 ∨ (48 ≤ b ∧ b ≤ 57)) : Gd (10 * m) (furL b l) := by
  intro x hx
  unfold furL at hx
  obtain ⟨r, hr, hx⟩ := List.mem_flatMap.1 hx
  obtain ⟨g1, g2, g3⟩ := h r hr
  unfold furR at hx
  split at hx
  · simp only [List.mem_singleton] at hx
    subst hx
    simp only
    omega
  · unfold digR at hx
    obtain ⟨i, hi, rfl⟩ := List.mem_map.1 hx
    have hi := List.mem_range.1 hi
    simp only
    omega
def setK (s : ByteArray) : Nat → List R
  | 0 => [(0, 0)]
  | k + 1 => furL (bt s k) (setK s k)
def setM (s : ByteArray) : List R := if saneM s then setK s s.size else []
def T10 : Nat → Nat
  | 0 => 1
  | k + 1 => 10 * T10 k
theorem T10_le (k : Nat) (h : k ≤ 4) : T10 k ≤ 10000 := by
  have : k = 0 ∨ k = 1 ∨ k = 2 ∨ k = 3 ∨ k = 4 := by omega
  rcases this with rfl | rfl | rfl | rfl | rfl <;> decide
theorem T10_P10 (k : Nat) : ((T10 k : Nat) : Int) = P10 k := by
  induction k with
  | zero => rfl
  | succ k ih => rw [T10, P10]; omega
theorem setK_ok (s : ByteArray) (h : ∀ i, i < s.size → bt s i = 88 ∨ (48 ≤ bt s i ∧ bt s i ≤ 57)) : ∀ k, k ≤ s.size → Gd (P10 k) (setK s k) ∧ tot (setK s k) ≤ T10 k ∧ setK s k ≠ [] := by
  intro k
  induction k with
  | zero =>
    intro _
    refine ⟨?_, (show ((0 : Int) - 0 + 1).toNat + 0 ≤ 1 by decide), by simp [setK]⟩
    intro r hr
    simp [setK] at hr
    subst hr
    decide
  | succ k ih =>
    intro hk
    obtain ⟨g, t, n⟩ := ih (by omega)
    have hb := h k (by omega)
    refine ⟨furL_gd g hb, ?_, ?_⟩
    · have := furL_tot (b := bt s k) g
      rw [setK, T10]; omega
    · rw [setK]
      intro c
      cases e : setK s k with
      | nil => exact n e
      | cons r u =>
        rw [e] at c g
        have gr := g r (by simp)
        have e2 : furL (bt s k) (r :: u) = furR (bt s k) r ++ furL (bt s k) u := by unfold furL; simp
        rw [e2] at c
        have c2 := (List.append_eq_nil_iff.1 c).1
        unfold furR at c2
        split at c2
        · cases c2
        · have := congrArg List.length c2
          rw [digR_len] at this
          simp at this
          omega
end Go.Proofs.Ytgjdaaopebkokaa
