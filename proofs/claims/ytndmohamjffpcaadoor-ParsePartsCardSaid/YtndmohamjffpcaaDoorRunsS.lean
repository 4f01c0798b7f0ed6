/-
  Contracts of package runs, of what is a set: asSet, Count, Next, Has.
-/
import Derived.Test.YtndmohamjffpcaaDoorRunsC
import Derived.LoopTactic
import Derived.Shelf.Abstract
import Derived.Deep.QuietTactic
import Derived.BigQuiet
namespace Go.Proofs.YtndmohamjffpcaaDoor
open Go.RowKit
set_option linter.unusedVariables false
def sumR : List R → Int
  | [] => 0
  | r :: t => r.2 - r.1 + 1 + sumR t
theorem sumR_append (a b : List R) : sumR (a ++ b) = sumR a + sumR b := by
  induction a with
  | nil => simp [sumR]
  | cons r t ih => rw [List.cons_append, sumR, sumR, ih]; omega
theorem sumR_take (l : List R) (k : Nat) (h : k < l.length) : sumR (l.take (k + 1)) = sumR (l.take k) + ((at_ l k).2 - (at_ l k).1 + 1) := by
  rw [take_at l k h, sumR_append, sumR, sumR]; omega
theorem sumR_bd : ∀ (l : List R) (lo : Int), sane l → (∀ r t, l = r :: t → lo ≤ r.1) → lo ≤ 1099511627777 → 0 ≤ sumR l ∧ sumR l ≤ 1099511627777 - lo := by
  intro l
  induction l with
  | nil => intro lo _ _ h; simp [sumR]; omega
  | cons r t ih =>
    intro lo hs hl hlo
    have g := sane_head hs
    have t' := sane_tail hs
    have l0 := hl r t rfl
    obtain ⟨g1, g2, g3⟩ := g
    have i := ih (r.2 + 1) t' (fun s u e => by
      subst e
      have := hs.2.1
      omega) (by omega)
    rw [sumR]
    omega
theorem sumR_take_bd (l : List R) (k : Nat) (h : sane l) : 0 ≤ sumR (l.take k) ∧ sumR (l.take k) ≤ sumR l := by
  have e := sumR_append (l.take k) (l.drop k)
  rw [List.take_append_drop] at e
  have pos : ∀ m : List R, (∀ r ∈ m, okR r) → 0 ≤ sumR m := by
    intro m
    induction m with
    | nil => intro _; simp [sumR]
    | cons r t ih =>
      intro hm
      have := hm r (by simp)
      have i := ih (fun x hx => hm x (by simp [hx]))
      obtain ⟨g1, _⟩ := this
      rw [sumR]; omega
  have al : ∀ r ∈ l, okR r := by
    intro r hr
    obtain ⟨i, hi, e⟩ := List.getElem_of_mem hr
    have := ((sane_idx l).1 h i hi).1
    unfold at_ at this
    simp [List.getD, hi, e] at this
    exact this
  have p1 := pos (l.take k) (fun r hr => al r (List.mem_of_mem_take hr))
  have p2 := pos (l.drop k) (fun r hr => al r (List.mem_of_mem_drop hr))
  omega
/-- the first place from which on all hold -/
def Cut (F : Nat → Bool) (N i : Nat) : Prop := i ≤ N ∧ (∀ k, k < i → F k = false) ∧ ∀ k, i ≤ k → k < N → F k = true
/-- the least number that is not below n -/
def nxt : List R → Int → Int × Bool
  | [], _ => (0, false)
  | r :: t, n => if n ≤ r.2 then (max n r.1, true) else nxt t n
theorem nxt_at : ∀ (l : List R) (n : Int) (i : Nat), i ≤ l.length → (∀ k, k < i → (at_ l k).2 < n) → (i < l.length → n ≤ (at_ l i).2) → nxt l n = if i = l.length then (0, false) else (max n (at_ l i).1, true) := by
  intro l
  induction l with
  | nil => intro n i hi _ _; simp at hi; subst hi; rfl
  | cons r t ih =>
    intro n i hi h1 h2
    rw [nxt]
    cases i with
    | zero =>
      have g := h2 (by simp)
      simp only [at_, List.getD_cons_zero] at g
      rw [if_pos g, if_neg (by simp)]
      simp [at_]
    | succ j =>
      have g := h1 0 (by omega)
      simp only [at_, List.getD_cons_zero] at g
      rw [if_neg (by omega)]
      have e : ∀ k, at_ (r :: t) (k + 1) = at_ t k := fun k => by unfold at_; simp
      rw [ih n j (by simpa using hi) (fun k hk => by have := h1 (k + 1) (by omega); rwa [e] at this) (fun hj => by have := h2 (by simpa using hj); rwa [e] at this), e]
      simp
def fB (l : List R) (n : Int) (k : Nat) : Bool := decide (l.length ≤ k) || decide (n ≤ (at_ l k).2)
theorem sane_up {l : List R} (h : sane l) : ∀ a b, a ≤ b → b < l.length → (at_ l a).2 ≤ (at_ l b).2 := by
  intro a b hab
  induction b with
  | zero =>
    intro _
    have e : a = 0 := by omega
    rw [e]
    exact Int.le_refl _
  | succ b ih =>
    intro hb
    by_cases e : a = b + 1
    · subst e; exact Int.le_refl _
    · have g := ih (by omega) (by omega)
      have s := (sane_idx l).1 h (b + 1) hb
      have := s.2 (by omega)
      obtain ⟨o1, _⟩ := s.1
      simp only [Nat.add_sub_cancel] at this
      omega
theorem fB_mono {l : List R} (h : sane l) (n : Int) : ∀ a b, a ≤ b → fB l n a = true → fB l n b = true := by
  intro a b hab ha
  unfold fB at ha ⊢
  simp only [Bool.or_eq_true, decide_eq_true_eq] at ha ⊢
  by_cases c : l.length ≤ b
  · exact .inl c
  · right
    rcases ha with ha | ha
    · omega
    · have := sane_up h a b hab (by omega); omega
theorem RunsAt.set {w : World} {v : Value} {l : List R} (h : RunsAt w v l) {B : Nat} {ad : Option Addr} {ln cp : Nat} {u : Value} (c : w.cell? ⟨B, 0, none⟩ = some (.slice ad ln cp)) : RunsAt (w.setCell ⟨B, 0, none⟩ u) v l := by
  rcases h with h | ⟨b, off, cap, e, h1, h2, h3⟩
  · exact .inl h
  · refine .inr ⟨b, off, cap, e, h1, h2, fun i hi => ?_⟩
    obtain ⟨c1, c2⟩ := h3 i hi
    constructor
    · rw [World.cell?_setCell_other _ _ _ _ (fun q => by rw [← q, c] at c1; cases c1)]; exact c1
    · rw [World.cell?_setCell_other _ _ _ _ (fun q => by rw [← q, c] at c2; cases c2)]; exact c2
theorem RunsAt.slice {w : World} {v : Value} {l : List R} (h : RunsAt w v l) : ∃ ad c, v = .slice ad l.length c := by
  rcases h with ⟨ad0, cp0, rfl, rfl⟩ | ⟨b, off, cap, rfl, _⟩
  · exact ⟨_, _, rfl⟩
  · exact ⟨_, _, rfl⟩
def hasB (l : List R) (n : Int) : Bool := (nxt l n).2 && ((nxt l n).1 == n)
theorem has_sane : ∀ {l : List R}, sane l → ∀ n, hasB l n = true ↔ ∃ r ∈ l, r.1 ≤ n ∧ n ≤ r.2 := by
  intro l
  induction l with
  | nil => intro _ n; unfold hasB; simp [nxt]
  | cons r t ih =>
    intro hs n
    have i := ih (sane_tail hs) n
    unfold hasB at i ⊢
    rw [nxt]
    by_cases c : n ≤ r.2
    · rw [if_pos c]
      simp only [Bool.true_and, beq_iff_eq]
      constructor
      · intro h
        exact ⟨r, by simp, by omega, c⟩
      · rintro ⟨q, hq, q1, q2⟩
        rcases List.mem_cons.1 hq with rfl | hq
        · omega
        · exfalso
          obtain ⟨k, hk, e⟩ := List.getElem_of_mem hq
          have b := sane_beyond hs q.1 ⟨q, hq, Int.le_refl _, by omega, by
            have g := ((sane_idx t).1 (sane_tail hs) k hk).1
            unfold at_ at g
            simp [List.getD, hk, e] at g
            exact ⟨g.2.1, by have := g.1; have := g.2.2; omega⟩⟩
          omega
    · rw [if_neg c, i]
      constructor
      · rintro ⟨q, hq, h⟩; exact ⟨q, by simp [hq], h⟩
      · rintro ⟨q, hq, q1, q2⟩
        rcases List.mem_cons.1 hq with rfl | hq
        · omega
        · exact ⟨q, hq, q1, q2⟩
end Go.Proofs.YtndmohamjffpcaaDoor
