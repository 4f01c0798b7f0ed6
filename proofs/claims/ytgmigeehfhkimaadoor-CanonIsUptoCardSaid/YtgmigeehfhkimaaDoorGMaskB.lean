/-
  Joined: MaskE, MaskP, MaskV1.
-/
import Derived.Test.YtgmigeehfhkimaaDoorGMask
import Derived.Deep.DeepMust
import Derived.Laws.BytesArg
import Derived.Test.YtgmigeehfhkimaaDoorRunsS
namespace Go.Proofs.YtgmigeehfhkimaaDoor
open Go.RowKit Go.Lib
set_option linter.unusedVariables false
end Go.Proofs.YtgmigeehfhkimaaDoor

namespace Go.Proofs.YtgmigeehfhkimaaDoor
open Go.RowKit
set_option linter.unusedVariables false
theorem fits_at {s : ByteArray} {n : Int} {k : Nat} (h : fitsM s n k = true) : ∀ i, i < k → fitB (bt s i) n (P10 (s.size - 1 - i)) = true := by
  induction k with
  | zero => intro i hi; omega
  | succ k ih =>
    intro i hi
    rw [fitsM, Bool.and_eq_true] at h
    by_cases e : i = k
    · subst e; exact h.2
    · exact ih h.1 i (by omega)
theorem fits_of {s : ByteArray} {n : Int} : ∀ {k : Nat}, (∀ i, i < k → fitB (bt s i) n (P10 (s.size - 1 - i)) = true) → fitsM s n k = true := by
  intro k
  induction k with
  | zero => intro _; rfl
  | succ k ih => intro h; rw [fitsM, ih (fun i hi => h i (by omega)), h k (by omega)]; rfl
theorem match_iff {s : ByteArray} (h : saneM s = true) (n : Int) : matchM s n = true ↔ 0 ≤ n ∧ n < P10 s.size ∧ ∀ i, i < s.size → bt s i = 88 ∨ (bt s i : Int) - 48 = n / P10 (s.size - 1 - i) % 10 := by
  unfold matchM
  rw [h]
  simp only [Bool.true_and, Bool.and_eq_true, decide_eq_true_eq, and_assoc]
  constructor
  · rintro ⟨h1, h2, h3⟩
    refine ⟨h1, h2, fun i hi => ?_⟩
    have := fits_at h3 i hi
    unfold fitB at this
    simpa using this
  · rintro ⟨h1, h2, h3⟩
    refine ⟨h1, h2, fits_of fun i hi => ?_⟩
    unfold fitB
    simpa using h3 i hi
end Go.Proofs.YtgmigeehfhkimaaDoor

namespace Go.Proofs.YtgmigeehfhkimaaDoor
open Go.RowKit
set_option linter.unusedVariables false
theorem sane_append : ∀ (a b : List R), sane a → sane b → (∀ x ∈ a, ∀ y ∈ b, x.2 + 1 < y.1) → sane (a ++ b) := by
  intro a
  induction a with
  | nil => intro b _ hb _; exact hb
  | cons r t ih =>
    intro b ha hb h
    rw [List.cons_append]
    refine sane_cons (sane_head ha) ?_ (ih b (sane_tail ha) hb (fun x hx y hy => h x (by simp [hx]) y hy))
    intro q u e
    cases t with
    | nil => simp at e; subst e; exact h r (by simp) q (by simp)
    | cons p v =>
      simp at e
      have := ha.2.1
      rw [← e.1]; exact this
theorem sane_one (r : R) (h : okR r) : sane [r] := sane_cons h (fun _ _ e => by cases e) trivial
theorem digR_mem {b : Nat} {lo : Int} {j : Nat} {x : R} (h : x ∈ digR b lo j) : ∃ i : Nat, i < j ∧ x = (10 * (lo + i) + ((b : Int) - 48), 10 * (lo + i) + ((b : Int) - 48)) := by
  unfold digR at h
  obtain ⟨i, hi, e⟩ := List.mem_map.1 h
  exact ⟨i, List.mem_range.1 hi, e.symm⟩
theorem digR_sane (b : Nat) (lo : Int) (hb : 48 ≤ b ∧ b ≤ 57) (h0 : 0 ≤ lo) : ∀ j : Nat, lo + j ≤ 100000 → sane (digR b lo j) := by
  intro j
  induction j with
  | zero => intro _; exact trivial
  | succ j ih =>
    intro hj
    rw [digR_snoc]
    refine sane_append _ _ (ih (by omega)) (sane_one _ ⟨by simp, by simp only; omega, by simp only; omega⟩) ?_
    intro x hx y hy
    obtain ⟨i, hi, rfl⟩ := digR_mem hx
    simp only [List.mem_singleton] at hy
    subst hy
    simp only
    omega
theorem furR_rng {b : Nat} {r : R} (hb : b = 88 ∨ (48 ≤ b ∧ b ≤ 57)) {x : R} (h : x ∈ furR b r) : 10 * r.1 ≤ x.1 ∧ x.2 ≤ 10 * r.2 + 9 := by
  unfold furR at h
  split at h
  · simp only [List.mem_singleton] at h; subst h; simp only; omega
  · obtain ⟨i, hi, rfl⟩ := digR_mem h
    simp only; omega
theorem furR_sane {b : Nat} {r : R} (hb : b = 88 ∨ (48 ≤ b ∧ b ≤ 57)) (h : 0 ≤ r.1 ∧ r.1 ≤ r.2 ∧ r.2 < 10000) : sane (furR b r) := by
  unfold furR
  split
  · exact sane_one _ ⟨by simp only; omega, by simp only; omega, by simp only; omega⟩
  · exact digR_sane b r.1 (by omega) h.1 _ (by omega)
theorem furL_cons (b : Nat) (r : R) (t : List R) : furL b (r :: t) = furR b r ++ furL b t := by unfold furL; simp
theorem furL_sane {b : Nat} (hb : b = 88 ∨ (48 ≤ b ∧ b ≤ 57)) : ∀ {l : List R}, sane l → Gd 10000 l → sane (furL b l) := by
  intro l
  induction l with
  | nil => intro _ _; exact trivial
  | cons r t ih =>
    intro hs hg
    rw [furL_cons]
    refine sane_append _ _ (furR_sane hb (hg r (by simp))) (ih (sane_tail hs) (fun x hx => hg x (by simp [hx]))) ?_
    intro x hx y hy
    have x1 := furR_rng hb hx
    unfold furL at hy
    obtain ⟨q, hq, hy⟩ := List.mem_flatMap.1 hy
    have y1 := furR_rng hb hy
    have gq := hg q (by simp [hq])
    have bq := sane_beyond hs q.1 ⟨q, hq, Int.le_refl _, gq.2.1, by omega, by omega⟩
    omega
theorem setK_sane (s : ByteArray) (h : ∀ i, i < s.size → bt s i = 88 ∨ (48 ≤ bt s i ∧ bt s i ≤ 57)) (h4 : s.size ≤ 4) : ∀ k, k ≤ s.size → sane (setK s k) := by
  intro k
  induction k with
  | zero => intro _; exact sane_one _ ⟨by decide, by decide, by decide⟩
  | succ k ih =>
    intro hk
    have g := (setK_ok s h k (by omega)).1
    have p := P10_le k (by omega)
    exact furL_sane (h k (by omega)) (ih (by omega)) (fun r hr => by have := g r hr; omega)
theorem setM_sane (s : ByteArray) : sane (setM s) := by
  unfold setM
  split
  · rename_i h
    have m := mk_of h
    exact setK_sane s m.ok m.hi s.size (Nat.le_refl _)
  · exact trivial
def inL (l : List R) (n : Int) : Prop := ∃ r ∈ l, r.1 ≤ n ∧ n ≤ r.2
theorem inL_fur {b : Nat} (hb : b = 88 ∨ (48 ≤ b ∧ b ≤ 57)) (l : List R) (h : ∀ r ∈ l, r.1 ≤ r.2) (n : Int) : inL (furL b l) n ↔ inL l (n / 10) ∧ (b = 88 ∨ (b : Int) - 48 = n % 10) := by
  constructor
  · rintro ⟨x, hx, x1, x2⟩
    unfold furL at hx
    obtain ⟨r, hr, hx⟩ := List.mem_flatMap.1 hx
    unfold furR at hx
    split at hx
    · simp only [List.mem_singleton] at hx
      subst hx
      simp only at x1 x2
      exact ⟨⟨r, hr, by omega, by omega⟩, by omega⟩
    · obtain ⟨i, hi, rfl⟩ := digR_mem hx
      simp only at x1 x2
      exact ⟨⟨r, hr, by omega, by omega⟩, by omega⟩
  · rintro ⟨⟨r, hr, r1, r2⟩, g⟩
    have hrr := h r hr
    by_cases c : b = 88
    · refine ⟨(10 * r.1, 10 * r.2 + 9), ?_, by simp only; omega, by simp only; omega⟩
      unfold furL
      refine List.mem_flatMap.2 ⟨r, hr, ?_⟩
      unfold furR
      rw [if_pos c]; simp
    · refine ⟨(10 * (r.1 + ((n / 10 - r.1).toNat : Nat)) + ((b : Int) - 48), 10 * (r.1 + ((n / 10 - r.1).toNat : Nat)) + ((b : Int) - 48)), ?_, by simp only; omega, by simp only; omega⟩
      unfold furL
      refine List.mem_flatMap.2 ⟨r, hr, ?_⟩
      unfold furR
      rw [if_neg c]
      unfold digR
      exact List.mem_map.2 ⟨(n / 10 - r.1).toNat, List.mem_range.2 (by omega), rfl⟩
theorem inL_set (s : ByteArray) (h : ∀ i, i < s.size → bt s i = 88 ∨ (48 ≤ bt s i ∧ bt s i ≤ 57)) : ∀ k, k ≤ s.size → ∀ n, inL (setK s k) n ↔ 0 ≤ n ∧ n < P10 k ∧ ∀ i, i < k → bt s i = 88 ∨ (bt s i : Int) - 48 = n / P10 (k - 1 - i) % 10 := by
  intro k
  induction k with
  | zero =>
    intro _ n
    unfold inL setK P10
    simp only [List.mem_singleton, exists_eq_left]
    constructor
    · rintro ⟨h1, h2⟩; exact ⟨h1, by omega, fun i hi => by omega⟩
    · rintro ⟨h1, h2, _⟩; exact ⟨h1, by omega⟩
  | succ k ih =>
    intro hk n
    have g := (setK_ok s h k (by omega)).1
    have hb := h k (by omega)
    rw [setK, inL_fur hb _ (fun r hr => (g r hr).2.1), ih (by omega), P10]
    have pk := P10_pos k
    have dv : ∀ i, i < k → n / 10 / P10 (k - 1 - i) = n / P10 (k - i) := fun i hi => by
      have e : k - i = (k - 1 - i) + 1 := by omega
      rw [e, P10, Int.ediv_ediv, if_neg (by omega), Int.sub_zero]
    constructor
    · rintro ⟨⟨h1, h2, h3⟩, h4⟩
      refine ⟨by omega, by omega, fun i hi => ?_⟩
      by_cases e : i = k
      · subst e
        rw [show i + 1 - 1 - i = 0 by omega, P10, Int.ediv_one]
        exact h4
      · have := h3 i (by omega)
        rw [dv i (by omega)] at this
        rwa [show k + 1 - 1 - i = k - i by omega]
    · rintro ⟨h1, h2, h3⟩
      refine ⟨⟨by omega, by omega, fun i hi => ?_⟩, ?_⟩
      · have := h3 i (by omega)
        rw [dv i hi]
        rwa [show k + 1 - 1 - i = k - i by omega] at this
      · have := h3 k (by omega)
        rwa [show k + 1 - 1 - k = 0 by omega, P10, Int.ediv_one] at this
theorem setM_has (s : ByteArray) (n : Int) : hasB (setM s) n = matchM s n := by
  rw [Bool.eq_iff_iff, has_sane (setM_sane s)]
  rcases Bool.eq_false_or_eq_true (saneM s) with h | h
  · have m := mk_of h
    rw [match_iff h]
    have e : setM s = setK s s.size := by unfold setM; rw [h]; rfl
    rw [e]
    exact inL_set s m.ok s.size (Nat.le_refl _) n
  · have e : setM s = [] := by unfold setM; rw [h]; rfl
    rw [e]
    unfold matchM
    rw [h]
    simp
end Go.Proofs.YtgmigeehfhkimaaDoor
