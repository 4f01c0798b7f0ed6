/-
  Layer 6: how many runs: plain mathematics.
-/
import Derived.Test.YtgjdaaopebkokaaMaskAw
import Derived.RegionTactic
namespace Go.Proofs.Ytgjdaaopebkokaa
open Go.RowKit
set_option linter.unusedVariables false
/-- how many runs, and how long each, of the first signs -/
def fw (s : ByteArray) : Nat → Int × Int
  | 0 => (1, 1)
  | k + 1 => if bt s k = 88 then ((fw s k).1, 10 * (fw s k).2) else ((fw s k).1 * (fw s k).2, 1)
theorem fw_pos (s : ByteArray) (k : Nat) : 1 ≤ (fw s k).1 ∧ 1 ≤ (fw s k).2 := by
  induction k with
  | zero => show (1 : Int) ≤ 1 ∧ (1 : Int) ≤ 1; omega
  | succ k ih =>
    rw [fw]
    split
    · simp only; omega
    · simp only
      exact ⟨Int.mul_pos (by omega) (by omega), by omega⟩
def Uni (l : List R) (L W : Int) : Prop := (l.length : Int) = L ∧ ∀ r ∈ l, r.2 - r.1 + 1 = W
theorem uni_dig (b : Nat) (h : b ≠ 88) (W : Int) (hW : 1 ≤ W) : ∀ (l : List R), (∀ r ∈ l, r.2 - r.1 + 1 = W) → ((furL b l).length : Int) = l.length * W ∧ ∀ r ∈ furL b l, r.2 - r.1 + 1 = 1 := by
  intro l
  induction l with
  | nil => intro _; simp [furL]
  | cons r t ih =>
    intro hl
    obtain ⟨i1, i2⟩ := ih (fun x hx => hl x (by simp [hx]))
    have hr := hl r (by simp)
    have e : furL b (r :: t) = furR b r ++ furL b t := by unfold furL; simp
    have f : furR b r = digR b r.1 (r.2 - r.1 + 1).toNat := by unfold furR; rw [if_neg h]
    rw [e, f]
    constructor
    · rw [List.length_append, digR_len, List.length_cons]
      rw [show (((r.2 - r.1 + 1).toNat + (furL b t).length : Nat) : Int) = W + (furL b t).length by omega, i1, show ((t.length + 1 : Nat) : Int) = 1 + t.length by omega, Int.add_mul, Int.one_mul]
    · intro x hx
      rcases List.mem_append.1 hx with hx | hx
      · unfold digR at hx
        obtain ⟨i, hi, rfl⟩ := List.mem_map.1 hx
        simp only; omega
      · exact i2 x hx
theorem uni_x (W : Int) : ∀ (l : List R), (∀ r ∈ l, r.2 - r.1 + 1 = W) → ((furL 88 l).length : Int) = l.length ∧ ∀ r ∈ furL 88 l, r.2 - r.1 + 1 = 10 * W := by
  intro l
  induction l with
  | nil => intro _; simp [furL]
  | cons r t ih =>
    intro hl
    obtain ⟨i1, i2⟩ := ih (fun x hx => hl x (by simp [hx]))
    have hr := hl r (by simp)
    have e : furL 88 (r :: t) = (10 * r.1, 10 * r.2 + 9) :: furL 88 t := by unfold furL furR; simp
    rw [e]
    constructor
    · rw [List.length_cons, List.length_cons]; omega
    · intro x hx
      rcases List.mem_cons.1 hx with rfl | hx
      · simp only; omega
      · exact i2 x hx
theorem uni_fw (s : ByteArray) (k : Nat) : Uni (setK s k) (fw s k).1 (fw s k).2 := by
  induction k with
  | zero => exact ⟨rfl, fun r hr => by simp [setK] at hr; subst hr; rfl⟩
  | succ k ih =>
    obtain ⟨i1, i2⟩ := ih
    have p := fw_pos s k
    rw [setK, fw]
    by_cases h : bt s k = 88
    · rw [if_pos h, h]
      have u := uni_x _ _ i2
      exact ⟨by rw [u.1, i1], u.2⟩
    · rw [if_neg h]
      have u := uni_dig (bt s k) h _ p.2 _ i2
      exact ⟨by rw [u.1, i1], u.2⟩
/-- from the last sign on: how many, how long, has there been a digit -/
def rowM (s : ByteArray) : Nat → Int × Int × Bool
  | 0 => (1, 1, false)
  | j + 1 => if bt s (s.size - 1 - j) = 88 then (if (rowM s j).2.2 = true then ((rowM s j).1 * 10, (rowM s j).2.1, true) else ((rowM s j).1, (rowM s j).2.1 * 10, false)) else ((rowM s j).1, (rowM s j).2.1, true)
theorem row_fin (s : ByteArray) : ∀ j, j ≤ s.size → ((rowM s j).2.2 = false → (rowM s j).1 = 1) ∧ fw s s.size = if (rowM s j).2.2 = true then ((fw s (s.size - j)).1 * (fw s (s.size - j)).2 * (rowM s j).1, (rowM s j).2.1) else ((fw s (s.size - j)).1, (fw s (s.size - j)).2 * (rowM s j).2.1) := by
  intro j
  induction j with
  | zero => intro _; simp [rowM]
  | succ j ih =>
    intro hj
    obtain ⟨i1, i2⟩ := ih (by omega)
    have e : s.size - j = (s.size - (j + 1)) + 1 := by omega
    have e2 : s.size - 1 - j = s.size - (j + 1) := by omega
    rw [e, fw] at i2
    rw [rowM, e2]
    generalize s.size - (j + 1) = p at *
    generalize rowM s j = R at *
    obtain ⟨m, l, d⟩ := R
    simp only at i1 i2 ⊢
    by_cases h : bt s p = 88
    · rw [if_pos h] at i2 ⊢
      cases d
      · simp only [Bool.false_eq_true, if_false] at i2 ⊢
        refine ⟨fun _ => i1 rfl, ?_⟩
        rw [i2]
        congr 1
        ac_rfl
      · simp only [if_true] at i2 ⊢
        refine ⟨fun h => (by cases h), ?_⟩
        rw [i2]
        congr 1
        ac_rfl
    · rw [if_neg h] at i2 ⊢
      cases d
      · simp only [Bool.false_eq_true, if_false, if_true] at i2 ⊢
        refine ⟨fun h => (by cases h), ?_⟩
        rw [i2, i1 rfl]
        congr 1 <;> omega
      · simp only [if_true] at i2 ⊢
        refine ⟨fun h => (by cases h), ?_⟩
        rw [i2]
        congr 1
        rw [Int.mul_one]
theorem row_all (s : ByteArray) : Uni (setK s s.size) (rowM s s.size).1 (rowM s s.size).2.1 := by
  have u := uni_fw s s.size
  obtain ⟨i1, i2⟩ := row_fin s s.size (Nat.le_refl _)
  rw [i2, Nat.sub_self] at u
  rcases Bool.eq_false_or_eq_true (rowM s s.size).2.2 with h | h
  · rw [if_pos h] at u
    simpa [fw] using u
  · rw [if_neg (by rw [h]; simp)] at u
    rw [i1 h]
    simpa [fw] using u
theorem row_bd (s : ByteArray) (j : Nat) : 1 ≤ (rowM s j).1 ∧ (rowM s j).1 ≤ P10 j ∧ 1 ≤ (rowM s j).2.1 ∧ (rowM s j).2.1 ≤ P10 j := by
  induction j with
  | zero => show (1 : Int) ≤ 1 ∧ (1 : Int) ≤ 1 ∧ (1 : Int) ≤ 1 ∧ (1 : Int) ≤ 1; omega
  | succ j ih =>
    rw [rowM, P10]
    have := P10_pos j
    split
    · split <;> simp only <;> omega
    · simp only; omega
end Go.Proofs.Ytgjdaaopebkokaa
