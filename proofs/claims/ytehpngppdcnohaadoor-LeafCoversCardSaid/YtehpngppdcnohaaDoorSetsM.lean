/-
  Two sets gone over at once: what both have, what one has without the other: plain lists.
-/
import Derived.Test.YtehpngppdcnohaaDoorL4B
namespace Go.Proofs.YtehpngppdcnohaaDoor
set_option linter.unusedVariables false
set_option linter.unusedSimpArgs false
def inn (L : List R) (k : Nat) (n : Int) : Prop := (at_ L k).1 ≤ n ∧ n ≤ (at_ L k).2
theorem memI {L : List R} (h : sane L) (n : Int) : memR L n ↔ ∃ k, k < L.length ∧ inn L k n := by
  constructor
  · rintro ⟨r, hr, g1, g2, _⟩
    obtain ⟨i, hi, e⟩ := List.getElem_of_mem hr
    refine ⟨i, hi, ?_⟩
    unfold inn at_
    simp [List.getD, hi, e]
    exact ⟨g1, g2⟩
  · rintro ⟨k, hk, g1, g2⟩
    obtain ⟨o1, o2, o3⟩ := sane_ok h _ (at_mem hk)
    exact ⟨_, at_mem hk, g1, g2, by omega, by omega⟩
theorem gapI {L : List R} (h : sane L) : ∀ {j k : Nat}, j < k → k < L.length → (at_ L j).2 + 1 < (at_ L k).1 := by
  intro j k hjk hk
  induction k with
  | zero => omega
  | succ k ih =>
    have g := ((sane_idx L).1 h (k + 1) hk).2 (by omega)
    simp only [Nat.add_sub_cancel] at g
    by_cases e : j = k
    · subst e; exact g
    · have := ih (by omega) (by omega)
      have o := ((sane_idx L).1 h k (by omega)).1.1
      omega
theorem okI {L : List R} (h : sane L) {k : Nat} (hk : k < L.length) : okR (at_ L k) := ((sane_idx L).1 h k hk).1
/-- no later run of a set has an end that is less -/
theorem upI {L : List R} (h : sane L) {j k : Nat} (hjk : j ≤ k) (hk : k < L.length) : (at_ L j).2 ≤ (at_ L k).2 := by
  by_cases e : j = k
  · subst e; exact Int.le_refl _
  · have := gapI h (show j < k by omega) hk
    have := (okI h hk).1
    omega
/-- what the output has when the runs of A ahead of i, and of run i those of B ahead of a, are done -/
structure MI (A B : List R) (i a : Nat) (out : List R) : Prop where
  s : sane out
  m : ∀ n, memR out n ↔ (∃ k, k < i ∧ inn A k n ∧ memR B n) ∨ (inn A i n ∧ ∃ j, j < a ∧ inn B j n)
  g : ∀ q ∈ out, (∃ j, j < a ∧ q.2 ≤ (at_ B j).2) ∨ (∃ k, k < i ∧ q.2 ≤ (at_ A k).2)
  b : ∀ j, j < a → (at_ B j).2 ≤ (at_ A i).2
structure MO (A B : List R) (i a : Nat) (out : List R) : Prop where
  s : sane out
  m : ∀ n, memR out n ↔ ∃ k, k < i ∧ inn A k n ∧ memR B n
  g : ∀ q ∈ out, (∃ j, j < a ∧ q.2 ≤ (at_ B j).2) ∨ (∃ k, k < i ∧ q.2 ≤ (at_ A k).2)
  b : ∀ j, j < a → ∃ k, k < i ∧ (at_ B j).2 ≤ (at_ A k).2
section
variable {A B : List R} (hA : sane A) (hB : sane B)
theorem MO.start : MO A B 0 0 [] := ⟨trivial, fun n => ⟨fun h => absurd h (memR_nil n), fun ⟨k, h, _⟩ => by omega⟩, fun q h => (by cases h), fun j h => by omega⟩
include hA in
theorem MO.inner {i a : Nat} {out : List R} (h : MO A B i a out) (hi : i < A.length) : MI A B i a out := by
  refine ⟨h.s, fun n => ?_, h.g, fun j hj => ?_⟩
  · rw [h.m]
    refine ⟨.inl, fun g => g.elim id ?_⟩
    rintro ⟨⟨g1, g2⟩, j, hj, _, g4⟩
    obtain ⟨k, hk, g5⟩ := h.b j hj
    have := gapI hA hk hi
    omega
  · obtain ⟨k, hk, g5⟩ := h.b j hj
    have := gapI hA hk hi
    have := (okI hA hi).1
    omega
include hA hB in
/-- the next run of B begins behind run i -/
theorem MI.past {i a : Nat} {out : List R} (h : MI A B i a out) (hi : i < A.length) (ha : a < B.length) (c : (at_ A i).2 < (at_ B a).1) : MO A B (i + 1) a out := by
  have _ := hA
  refine ⟨h.s, fun n => ?_, fun q hq => (h.g q hq).imp id (fun ⟨k, hk, g⟩ => ⟨k, by omega, g⟩), fun j hj => ⟨i, by omega, h.b j hj⟩⟩
  rw [h.m]
  constructor
  · rintro (⟨k, hk, g⟩ | ⟨g, j, hj, g2⟩)
    · exact ⟨k, by omega, g⟩
    · exact ⟨i, by omega, g, (memI hB n).2 ⟨j, by omega, g2⟩⟩
  · rintro ⟨k, hk, g, g2⟩
    by_cases e : k < i
    · exact .inl ⟨k, e, g, g2⟩
    · obtain rfl : k = i := by omega
      obtain ⟨j, hj, g3⟩ := (memI hB n).1 g2
      refine .inr ⟨g, j, ?_, g3⟩
      rcases Nat.lt_or_ge j a with q | q
      · exact q
      · exfalso
        have h1 := g.2
        have h2 := g3.1
        by_cases e2 : j = a
        · subst e2; omega
        · have := gapI hB (show a < j by omega) hj
          have := (okI hB ha).1
          omega
include hA hB in
/-- what run i and run a of B have in common, laid behind the others -/
theorem MI.put {i a : Nat} {out : List R} (h : MI A B i a out) (hi : i < A.length) (ha : a < B.length) (c1 : (at_ B a).1 ≤ (at_ A i).2) (c2 : (at_ A i).1 ≤ (at_ B a).2) :
    sane (out ++ [(max (at_ A i).1 (at_ B a).1, min (at_ A i).2 (at_ B a).2)]) ∧
    (∀ n, memR (out ++ [(max (at_ A i).1 (at_ B a).1, min (at_ A i).2 (at_ B a).2)]) n ↔ (∃ k, k < i ∧ inn A k n ∧ memR B n) ∨ (inn A i n ∧ ∃ j, j < a + 1 ∧ inn B j n)) := by
  obtain ⟨o1, o2, o3⟩ := okI hA hi
  obtain ⟨p1, p2, p3⟩ := okI hB ha
  have ok : okR (max (at_ A i).1 (at_ B a).1, min (at_ A i).2 (at_ B a).2) := ⟨by simp only; omega, by simp only; omega, by simp only; omega⟩
  refine ⟨sane_snoc.2 ⟨h.s, ok, fun b q e => ?_⟩, fun n => ?_⟩
  · simp only
    rcases h.g q (by rw [e]; simp) with ⟨j, hj, g⟩ | ⟨k, hk, g⟩
    · have := gapI hB hj ha; omega
    · have := gapI hA hk hi; omega
  · rw [memR_append, h.m, memR_cons]
    have := memR_nil n
    simp only
    constructor
    · rintro ((g | ⟨g, j, hj, g2⟩) | g | g)
      · exact .inl g
      · exact .inr ⟨g, j, by omega, g2⟩
      · exact .inr ⟨⟨by omega, by omega⟩, a, by omega, ⟨by omega, by omega⟩⟩
      · exact absurd g this
    · rintro (g | ⟨g, j, hj, g2⟩)
      · exact .inl (.inl g)
      · by_cases e : j < a
        · exact .inl (.inr ⟨g, j, e, g2⟩)
        · obtain rfl : j = a := by omega
          exact .inr (.inl ⟨by have := g.1; have := g2.1; omega, by have := g.2; have := g2.2; omega, by have := g.1; omega, by have := g.2; omega⟩)
include hA hB in
theorem MI.skip {i a : Nat} {out : List R} (h : MI A B i a out) (hi : i < A.length) (ha : a < B.length) (c2 : (at_ B a).2 < (at_ A i).1) :
    ∀ n, memR out n ↔ (∃ k, k < i ∧ inn A k n ∧ memR B n) ∨ (inn A i n ∧ ∃ j, j < a + 1 ∧ inn B j n) := by
  have _ := hA
  have _ := hB
  intro n
  rw [h.m]
  constructor
  · rintro (g | ⟨g, j, hj, g2⟩)
    · exact .inl g
    · exact .inr ⟨g, j, by omega, g2⟩
  · rintro (g | ⟨g, j, hj, g2⟩)
    · exact .inl g
    · by_cases e : j < a
      · exact .inr ⟨g, j, e, g2⟩
      · obtain rfl : j = a := by omega
        exfalso
        have := g.1; have := g2.2; omega
include hA hB in
/-- run a of B ends no later than run i: the next one of B -/
theorem MI.next {i a : Nat} {out out' : List R} (h : MI A B i a out) (hi : i < A.length) (ha : a < B.length) (c : (at_ B a).2 ≤ (at_ A i).2) (hs : sane out')
    (hm : ∀ n, memR out' n ↔ (∃ k, k < i ∧ inn A k n ∧ memR B n) ∨ (inn A i n ∧ ∃ j, j < a + 1 ∧ inn B j n)) (hq : ∀ q ∈ out', q ∈ out ∨ q.2 ≤ (at_ B a).2) : MI A B i (a + 1) out' := by
  have _ := hA
  have _ := hB
  refine ⟨hs, hm, fun q h2 => ?_, fun j hj => ?_⟩
  · rcases hq q h2 with g | g
    · exact (h.g q g).imp (fun ⟨j, hj, g⟩ => ⟨j, by omega, g⟩) id
    · exact .inl ⟨a, by omega, g⟩
  · by_cases e : j < a
    · exact h.b j e
    · obtain rfl : j = a := by omega
      exact c
include hA hB in
/-- run a of B ends later: the next run of A -/
theorem MI.over {i a : Nat} {out out' : List R} (h : MI A B i a out) (hi : i < A.length) (ha : a < B.length) (c : (at_ A i).2 < (at_ B a).2) (hs : sane out')
    (hm : ∀ n, memR out' n ↔ (∃ k, k < i ∧ inn A k n ∧ memR B n) ∨ (inn A i n ∧ ∃ j, j < a + 1 ∧ inn B j n)) (hq : ∀ q ∈ out', q ∈ out ∨ q.2 ≤ (at_ A i).2) : MO A B (i + 1) a out' := by
  have _ := hA
  refine ⟨hs, fun n => ?_, fun q h2 => ?_, fun j hj => ⟨i, by omega, h.b j hj⟩⟩
  · rw [hm]
    constructor
    · rintro (⟨k, hk, g⟩ | ⟨g, j, hj, g2⟩)
      · exact ⟨k, by omega, g⟩
      · exact ⟨i, by omega, g, (memI hB n).2 ⟨j, by omega, g2⟩⟩
    · rintro ⟨k, hk, g, g2⟩
      by_cases e : k < i
      · exact .inl ⟨k, e, g, g2⟩
      · obtain rfl : k = i := by omega
        obtain ⟨j, hj, g3⟩ := (memI hB n).1 g2
        refine .inr ⟨g, j, ?_, g3⟩
        rcases Nat.lt_or_ge j (a + 1) with q | q
        · exact q
        · exfalso
          have h1 := g.2
          have h2 := g3.1
          have := gapI hB (show a < j by omega) hj
          omega
  · rcases hq q h2 with g | g
    · exact (h.g q g).imp id (fun ⟨k, hk, g⟩ => ⟨k, by omega, g⟩)
    · exact .inr ⟨i, by omega, g⟩
include hA hB in
theorem MI.done {i : Nat} {out : List R} (h : MI A B i B.length out) (hi : i < A.length) (n : Int) : memR out n ↔ memR A n ∧ memR B n := by
  rw [h.m, memI hA]
  constructor
  · rintro (⟨k, hk, g, g2⟩ | ⟨g, j, hj, g2⟩)
    · exact ⟨⟨k, by omega, g⟩, g2⟩
    · exact ⟨⟨i, hi, g⟩, (memI hB n).2 ⟨j, hj, g2⟩⟩
  · rintro ⟨⟨k, hk, g⟩, g2⟩
    obtain ⟨j, hj, g3⟩ := (memI hB n).1 g2
    by_cases e : k < i
    · exact .inl ⟨k, e, g, g2⟩
    · by_cases e2 : k = i
      · subst e2; exact .inr ⟨g, j, hj, g3⟩
      · exfalso
        have := gapI hA (show i < k by omega) hk
        have := h.b j hj
        have h1 := g.1
        have h2 := g3.2
        omega
include hA in
theorem MO.done {a : Nat} {out : List R} (h : MO A B A.length a out) (n : Int) : memR out n ↔ memR A n ∧ memR B n := by
  rw [h.m, memI hA]
  exact ⟨fun ⟨k, hk, g, g2⟩ => ⟨⟨k, hk, g⟩, g2⟩, fun ⟨⟨k, hk, g⟩, g2⟩ => ⟨k, hk, g, g2⟩⟩
end
/-- the numbers in both -/
def interR (a b : List R) : List R := nf (a.flatMap fun r => b.map fun s => (max r.1 s.1, min r.2 s.2))
theorem interR_mem (a b : List R) (n : Int) : memR (interR a b) n ↔ memR a n ∧ memR b n := by
  unfold interR
  rw [nf_mem]
  unfold memR
  constructor
  · rintro ⟨r, hr, g1, g2, g3⟩
    simp only [List.mem_flatMap, List.mem_map] at hr
    obtain ⟨x, hx, y, hy, rfl⟩ := hr
    simp only at g1 g2
    exact ⟨⟨x, hx, by omega, by omega, g3⟩, ⟨y, hy, by omega, by omega, g3⟩⟩
  · rintro ⟨⟨x, hx, g1, g2, g3⟩, ⟨y, hy, g4, g5, _⟩⟩
    refine ⟨(max x.1 y.1, min x.2 y.2), ?_, by simp only; omega, by simp only; omega, g3⟩
    simp only [List.mem_flatMap, List.mem_map]
    exact ⟨x, hx, y, hy, rfl⟩
theorem interR_sane (a b : List R) : sane (interR a b) := nf_sane _
end Go.Proofs.YtehpngppdcnohaaDoor
