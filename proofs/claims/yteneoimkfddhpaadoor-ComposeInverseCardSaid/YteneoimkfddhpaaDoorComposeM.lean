/-
  Layer 19: what follows of two masks, by the fifteen intervals: plain mathematics.
-/
import Derived.Test.YteneoimkfddhpaaDoorAllenMM
namespace Go.Proofs.YteneoimkfddhpaaDoor
open Go.RowKit
set_option linter.unusedVariables false
/-- the fifteen intervals of the days 0 to 4, in the order of the loops -/
def ivs : List (Int × Int) := [(0, 0), (0, 1), (0, 2), (0, 3), (0, 4), (1, 1), (1, 2), (1, 3), (1, 4), (2, 2), (2, 3), (2, 4), (3, 3), (3, 4), (4, 4)]
def iv (k : Nat) : Int × Int := ivs.getD k (0, 0)
/-- the relation as a small number -/
def relN (p q : Int × Int) : Nat := (rel p.1 p.2 q.1 q.2).toNat
theorem relN_eq (p q : Int × Int) : ((relN p q : Nat) : Int) = rel p.1 p.2 q.1 q.2 := by
  unfold relN; have := rel_bd p.1 p.2 q.1 q.2; omega
theorem relN_bd (p q : Int × Int) : relN p q ≤ 12 := by unfold relN; have := rel_bd p.1 p.2 q.1 q.2; omega
def thirdK (B : Nat → Bool) (p q : Int × Int) (acc : Nat) : Nat → Nat
  | 0 => acc
  | k + 1 => if B (relN q (iv k)) then thirdK B p q acc k ||| 2 ^ relN p (iv k) else thirdK B p q acc k
def secondK (A B : Nat → Bool) (p : Int × Int) (acc : Nat) : Nat → Nat
  | 0 => acc
  | k + 1 => if A (relN p (iv k)) then thirdK B p (iv k) (secondK A B p acc k) 15 else secondK A B p acc k
def firstK (A B : Nat → Bool) : Nat → Nat
  | 0 => 0
  | k + 1 => secondK A B (iv k) (firstK A B k) 15
def bothP (A B : Nat → Bool) : Nat := firstK A B 15
theorem third_bit (B : Nat → Bool) (p q : Int × Int) (acc x : Nat) : ∀ k, (thirdK B p q acc k).testBit x = true ↔ acc.testBit x = true ∨ ∃ l, l < k ∧ B (relN q (iv l)) = true ∧ relN p (iv l) = x := by
  intro k
  induction k with
  | zero => simp [thirdK]
  | succ k ih =>
    rw [thirdK]
    by_cases h : B (relN q (iv k)) = true
    · rw [if_pos h, Nat.testBit_or, Bool.or_eq_true, ih, Nat.testBit_two_pow, decide_eq_true_eq]
      constructor
      · rintro ((h1 | ⟨l, h1, h2, h3⟩) | h1)
        · exact .inl h1
        · exact .inr ⟨l, by omega, h2, h3⟩
        · exact .inr ⟨k, by omega, h, h1⟩
      · rintro (h1 | ⟨l, h1, h2, h3⟩)
        · exact .inl (.inl h1)
        · by_cases e : l = k
          · subst e; exact .inr h3
          · exact .inl (.inr ⟨l, by omega, h2, h3⟩)
    · rw [if_neg h, ih]
      constructor
      · rintro (h1 | ⟨l, h1, h2, h3⟩)
        · exact .inl h1
        · exact .inr ⟨l, by omega, h2, h3⟩
      · rintro (h1 | ⟨l, h1, h2, h3⟩)
        · exact .inl h1
        · by_cases e : l = k
          · subst e; exact absurd h2 h
          · exact .inr ⟨l, by omega, h2, h3⟩
theorem second_bit (A B : Nat → Bool) (p : Int × Int) (acc x : Nat) : ∀ k, (secondK A B p acc k).testBit x = true ↔ acc.testBit x = true ∨ ∃ j l, j < k ∧ l < 15 ∧ A (relN p (iv j)) = true ∧ B (relN (iv j) (iv l)) = true ∧ relN p (iv l) = x := by
  intro k
  induction k with
  | zero => simp [secondK]
  | succ k ih =>
    rw [secondK]
    by_cases h : A (relN p (iv k)) = true
    · rw [if_pos h, third_bit, ih]
      constructor
      · rintro ((h1 | ⟨j, l, h1, h2⟩) | ⟨l, h1, h2, h3⟩)
        · exact .inl h1
        · exact .inr ⟨j, l, by omega, h2⟩
        · exact .inr ⟨k, l, by omega, h1, h, h2, h3⟩
      · rintro (h1 | ⟨j, l, h1, h2, h3, h4, h5⟩)
        · exact .inl (.inl h1)
        · by_cases e : j = k
          · subst e; exact .inr ⟨l, h2, h4, h5⟩
          · exact .inl (.inr ⟨j, l, by omega, h2, h3, h4, h5⟩)
    · rw [if_neg h, ih]
      constructor
      · rintro (h1 | ⟨j, l, h1, h2⟩)
        · exact .inl h1
        · exact .inr ⟨j, l, by omega, h2⟩
      · rintro (h1 | ⟨j, l, h1, h2, h3, h4⟩)
        · exact .inl h1
        · by_cases e : j = k
          · subst e; exact absurd h3 h
          · exact .inr ⟨j, l, by omega, h2, h3, h4⟩
/-- three of the fifteen stand so -/
def Tri (r s x : Nat) : Prop := ∃ i j l, i < 15 ∧ j < 15 ∧ l < 15 ∧ relN (iv i) (iv j) = r ∧ relN (iv j) (iv l) = s ∧ relN (iv i) (iv l) = x
theorem first_bit (A B : Nat → Bool) (x : Nat) : ∀ k, (firstK A B k).testBit x = true ↔ ∃ i j l, i < k ∧ j < 15 ∧ l < 15 ∧ A (relN (iv i) (iv j)) = true ∧ B (relN (iv j) (iv l)) = true ∧ relN (iv i) (iv l) = x := by
  intro k
  induction k with
  | zero => simp [firstK]
  | succ k ih =>
    rw [firstK, second_bit, ih]
    constructor
    · rintro (⟨i, j, l, h1, h2⟩ | ⟨j, l, h1⟩)
      · exact ⟨i, j, l, by omega, h2⟩
      · exact ⟨k, j, l, by omega, h1⟩
    · rintro ⟨i, j, l, h1, h2⟩
      by_cases e : i = k
      · subst e; exact .inr ⟨j, l, h2⟩
      · exact .inl ⟨i, j, l, by omega, h2⟩
theorem both_bit (A B : Nat → Bool) (x : Nat) : (bothP A B).testBit x = true ↔ ∃ r s, A r = true ∧ B s = true ∧ Tri r s x := by
  unfold bothP
  rw [first_bit]
  constructor
  · rintro ⟨i, j, l, h1, h2, h3, h4, h5, h6⟩
    exact ⟨_, _, h4, h5, i, j, l, h1, h2, h3, rfl, rfl, h6⟩
  · rintro ⟨r, s, hr, hs, i, j, l, h1, h2, h3, rfl, rfl, h6⟩
    exact ⟨i, j, l, h1, h2, h3, hr, hs, h6⟩
theorem tri_bd {r s x : Nat} (h : Tri r s x) : r ≤ 12 ∧ s ≤ 12 ∧ x ≤ 12 := by
  obtain ⟨i, j, l, _, _, _, rfl, rfl, rfl⟩ := h
  exact ⟨relN_bd _ _, relN_bd _ _, relN_bd _ _⟩
theorem lt13_of_bits {m : Nat} (h : ∀ x, m.testBit x = true → x ≤ 12) : m < 8192 := by
  have : m < 2 ^ 13 := Nat.lt_pow_two_of_testBit m (fun i hi => by
    rcases hb : m.testBit i with _ | _
    · rfl
    · have := h i hb; omega)
  omega
theorem both_lt (A B : Nat → Bool) : bothP A B < 8192 := lt13_of_bits fun x hx => by
  obtain ⟨r, s, _, _, h⟩ := (both_bit A B x).1 hx
  exact (tri_bd h).2.2
theorem third_lt (B : Nat → Bool) (p q : Int × Int) (acc k : Nat) (h : acc < 8192) : thirdK B p q acc k < 8192 := lt13_of_bits fun x hx => by
  rcases (third_bit B p q acc x k).1 hx with h1 | ⟨l, _, _, rfl⟩
  · rcases Nat.lt_or_ge 12 x with h2 | h2
    · have := Nat.testBit_lt_two_pow (x := acc) (i := x) (Nat.lt_of_lt_of_le h (show 8192 ≤ 2 ^ x from by have := Nat.pow_le_pow_right (n := 2) (by omega) (show 13 ≤ x from h2); omega))
      rw [this] at h1; cases h1
    · exact h2
  · exact relN_bd _ _
theorem second_lt (A B : Nat → Bool) (p : Int × Int) (acc k : Nat) (h : acc < 8192) : secondK A B p acc k < 8192 := by
  induction k with
  | zero => exact h
  | succ k ih => rw [secondK]; split; exact third_lt _ _ _ _ _ ih; exact ih
theorem first_lt (A B : Nat → Bool) (k : Nat) : firstK A B k < 8192 := by
  induction k with
  | zero => show (0 : Nat) < 8192; omega
  | succ k ih => exact second_lt _ _ _ _ _ ih
theorem both_ext {A B C D : Nat → Bool} (h : ∀ x, (∃ r s, A r = true ∧ B s = true ∧ Tri r s x) ↔ ∃ r s, C r = true ∧ D s = true ∧ Tri r s x) : bothP A B = bothP C D := by
  apply Nat.eq_of_testBit_eq
  intro x
  rw [Bool.eq_iff_iff, both_bit, both_bit]
  exact h x
theorem iv_bd (k : Nat) : 0 ≤ (iv k).1 ∧ (iv k).1 ≤ (iv k).2 ∧ (iv k).2 ≤ 4 := by
  rcases Nat.lt_or_ge k 15 with h | h
  · revert k; decide
  · have e : ivs[k]? = none := List.getElem?_eq_none (by simpa [ivs] using h)
    unfold iv
    rw [List.getD_eq_getElem?_getD, e]
    decide
theorem iv_all (s t : Nat) (h : s ≤ t) (h2 : t ≤ 4) : ∃ i, i < 15 ∧ iv i = ((s : Int), (t : Int)) := by
  have a : s = 0 ∨ s = 1 ∨ s = 2 ∨ s = 3 ∨ s = 4 := by omega
  have b : t = 0 ∨ t = 1 ∨ t = 2 ∨ t = 3 ∨ t = 4 := by omega
  rcases a with rfl | rfl | rfl | rfl | rfl <;> rcases b with rfl | rfl | rfl | rfl | rfl <;> first | omega | exact ⟨0, by omega, rfl⟩ | exact ⟨1, by omega, rfl⟩ | exact ⟨2, by omega, rfl⟩ | exact ⟨3, by omega, rfl⟩ | exact ⟨4, by omega, rfl⟩ | exact ⟨5, by omega, rfl⟩ | exact ⟨6, by omega, rfl⟩ | exact ⟨7, by omega, rfl⟩ | exact ⟨8, by omega, rfl⟩ | exact ⟨9, by omega, rfl⟩ | exact ⟨10, by omega, rfl⟩ | exact ⟨11, by omega, rfl⟩ | exact ⟨12, by omega, rfl⟩ | exact ⟨13, by omega, rfl⟩ | exact ⟨14, by omega, rfl⟩
theorem rel_same {a b c d a' b' c' d' : Int} (h1 : b < c ↔ b' < c') (h2 : b + 1 = c ↔ b' + 1 = c') (h3 : d < a ↔ d' < a') (h4 : d + 1 = a ↔ d' + 1 = a') (h5 : a < c ↔ a' < c') (h6 : a = c ↔ a' = c') (h7 : b < d ↔ b' < d') (h8 : b = d ↔ b' = d') : rel a b c d = rel a' b' c' d' := by
  unfold rel; simp only [h1, h2, h3, h4, h5, h6, h7, h8]
theorem rel_symm (a b c d : Int) (h1 : a ≤ b) (h2 : c ≤ d) : rel c d a b = 12 - rel a b c d := by unfold rel; (repeat' split) <;> omega
def rk (E : List Int) (v : Int) : Nat := (E.filter (· < v)).length
theorem rk_cons (E : List Int) (x v : Int) : rk (x :: E) v = (if x < v then 1 else 0) + rk E v := by
  unfold rk
  rw [List.filter_cons]
  by_cases h : x < v
  · rw [if_pos (by simpa using h), if_pos h, List.length_cons]; omega
  · rw [if_neg (by simpa using h), if_neg h]; omega
theorem rk_le (E : List Int) {u v : Int} (h : u ≤ v) : rk E u ≤ rk E v := by
  induction E with
  | nil => exact Nat.le_refl _
  | cons x E ih => rw [rk_cons, rk_cons]; split <;> split <;> omega
theorem rk_lt (E : List Int) {u v : Int} (hu : u ∈ E) (h : u < v) : rk E u < rk E v := by
  induction E with
  | nil => cases hu
  | cons x E ih =>
    have le := rk_le E (Int.le_of_lt h)
    rw [rk_cons, rk_cons]
    rcases List.mem_cons.1 hu with rfl | hu
    · rw [if_neg (Int.lt_irrefl _), if_pos h]; omega
    · have := ih hu; split <;> split <;> omega
theorem rk_top (E : List Int) (v : Int) (h : v ∈ E) : rk E v < E.length := by
  induction E with
  | nil => cases h
  | cons x E ih =>
    rw [rk_cons, List.length_cons]
    rcases List.mem_cons.1 h with rfl | h
    · rw [if_neg (Int.lt_irrefl _)]; have : rk E v ≤ E.length := List.length_filter_le _ _; omega
    · have := ih h; split <;> omega
theorem rk_facts (E : List Int) {u v : Int} (hu : u ∈ E) (hv : v ∈ E) : (u < v ↔ rk E u < rk E v) ∧ (u = v ↔ rk E u = rk E v) := by
  rcases Int.lt_trichotomy u v with h | h | h
  · have := rk_lt E hu h; omega
  · subst h; omega
  · have := rk_lt E hv h; omega
theorem rel_rank (a b c d : Int) (A B C D : Nat) (ab : A < B) (cd : C < D) (ac : (a < c ↔ A < C) ∧ (a = c ↔ A = C)) (ad : (d + 1 < a ↔ D < A) ∧ (d + 1 = a ↔ D = A)) (bc : (b + 1 < c ↔ B < C) ∧ (b + 1 = c ↔ B = C)) (bd : (b + 1 < d + 1 ↔ B < D) ∧ (b + 1 = d + 1 ↔ B = D)) :
    rel a b c d = rel A ((B - 1 : Nat) : Int) C ((D - 1 : Nat) : Int) := by
  obtain ⟨ac, ac'⟩ := ac
  obtain ⟨ad, ad'⟩ := ad
  obtain ⟨bc, bc'⟩ := bc
  obtain ⟨bd, bd'⟩ := bd
  apply rel_same
  · clear ac ac' ad ad' bd bd'; omega
  · clear ac ac' ad ad' bd bd'; omega
  · clear ac ac' bc bc' bd bd'; omega
  · clear ac ac' bc bc' bd bd'; omega
  · clear ad ad' bc bc' bd bd'; omega
  · clear ad ad' bc bc' bd bd'; omega
  · clear ad ad' bc bc' ac ac'; omega
  · clear ad ad' bc bc' ac ac'; omega
/-- any three intervals stand to one another as some three of the fifteen -/
theorem tri_any (a b c d e f : Int) (h1 : a ≤ b) (h2 : c ≤ d) (h3 : e ≤ f) : Tri (rel a b c d).toNat (rel c d e f).toNat (rel a b e f).toNat := by
  obtain ⟨E, hE⟩ : ∃ E, E = [a, b + 1, c, d + 1, e, f + 1] := ⟨_, rfl⟩
  have len : E.length = 6 := by rw [hE]; rfl
  have ma : a ∈ E := by rw [hE]; simp
  have mb : b + 1 ∈ E := by rw [hE]; simp
  have mc : c ∈ E := by rw [hE]; simp
  have md : d + 1 ∈ E := by rw [hE]; simp
  have me : e ∈ E := by rw [hE]; simp
  have mf : f + 1 ∈ E := by rw [hE]; simp
  have ta := rk_top E _ ma
  have tb := rk_top E _ mb
  have tc := rk_top E _ mc
  have td := rk_top E _ md
  have te := rk_top E _ me
  have tf := rk_top E _ mf
  rw [len] at ta tb tc td te tf
  have ab : rk E a < rk E (b + 1) := rk_lt E ma (by omega)
  have cd : rk E c < rk E (d + 1) := rk_lt E mc (by omega)
  have ef : rk E e < rk E (f + 1) := rk_lt E me (by omega)
  have r1 := rel_rank a b c d _ _ _ _ ab cd (rk_facts E ma mc) (rk_facts E md ma) (rk_facts E mb mc) (rk_facts E mb md)
  have r2 := rel_rank c d e f _ _ _ _ cd ef (rk_facts E mc me) (rk_facts E mf mc) (rk_facts E md me) (rk_facts E md mf)
  have r3 := rel_rank a b e f _ _ _ _ ab ef (rk_facts E ma me) (rk_facts E mf ma) (rk_facts E mb me) (rk_facts E mb mf)
  rw [r1, r2, r3]
  clear hE len ma mb mc md me mf r1 r2 r3
  generalize rk E a = A at *
  generalize rk E (b + 1) = B at *
  generalize rk E c = C at *
  generalize rk E (d + 1) = D at *
  generalize rk E e = G at *
  generalize rk E (f + 1) = H at *
  obtain ⟨i, hi, ei⟩ := iv_all A (B - 1) (by omega) (by omega)
  obtain ⟨j, hj, ej⟩ := iv_all C (D - 1) (by omega) (by omega)
  obtain ⟨l, hl, el⟩ := iv_all G (H - 1) (by omega) (by omega)
  refine ⟨i, j, l, hi, hj, hl, ?_, ?_, ?_⟩
  · unfold relN; rw [ei, ej]
  · unfold relN; rw [ej, el]
  · unfold relN; rw [ei, el]
theorem tri_sym {r s x : Nat} (h : Tri r s x) : Tri (12 - s) (12 - r) (12 - x) := by
  obtain ⟨i, j, l, h1, h2, h3, rfl, rfl, rfl⟩ := h
  have bi := iv_bd i
  have bj := iv_bd j
  have bl := iv_bd l
  refine ⟨l, j, i, h3, h2, h1, ?_, ?_, ?_⟩
  · have := rel_symm _ _ _ _ bj.2.1 bl.2.1; have b := relN_eq (iv j) (iv l); have b' := relN_eq (iv l) (iv j); omega
  · have := rel_symm _ _ _ _ bi.2.1 bj.2.1; have b := relN_eq (iv i) (iv j); have b' := relN_eq (iv j) (iv i); omega
  · have := rel_symm _ _ _ _ bi.2.1 bl.2.1; have b := relN_eq (iv i) (iv l); have b' := relN_eq (iv l) (iv i); omega
end Go.Proofs.YteneoimkfddhpaaDoor
