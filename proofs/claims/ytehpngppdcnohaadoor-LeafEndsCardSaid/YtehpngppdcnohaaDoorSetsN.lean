/-
  Two sets gone over at once: what one has without the other: plain lists.
-/
import Derived.Test.YtehpngppdcnohaaDoorSetsM
namespace Go.Proofs.YtehpngppdcnohaaDoor
set_option linter.unusedVariables false
set_option linter.unusedSimpArgs false
structure NO (A B : List R) (i a : Nat) (out : List R) : Prop where
  s : sane out
  m : ∀ n, memR out n ↔ ∃ k, k < i ∧ inn A k n ∧ ¬ memR B n
  g : ∀ q ∈ out, ∃ k, k < i ∧ q.2 ≤ (at_ A k).2
  b : ∀ j, j < a → ∃ k, k < i ∧ (at_ B j).2 ≤ (at_ A k).2
/-- run i is done up to x -/
structure NI (A B : List R) (i a : Nat) (x : Int) (out : List R) : Prop where
  s : sane out
  m : ∀ n, memR out n ↔ (∃ k, k < i ∧ inn A k n ∧ ¬ memR B n) ∨ (inn A i n ∧ n < x ∧ ¬ memR B n)
  g : ∀ q ∈ out, q.2 + 1 < x ∧ ((∃ k, k < i ∧ q.2 ≤ (at_ A k).2) ∨ q.2 ≤ (at_ A i).2)
  b : ∀ j, j < a → (at_ B j).2 < x
  x1 : (at_ A i).1 ≤ x
  x2 : x ≤ (at_ A i).2
section
variable {A B : List R}
theorem NO.start : NO A B 0 0 [] := ⟨trivial, fun n => ⟨fun h => absurd h (memR_nil n), fun ⟨k, h, _⟩ => by omega⟩, fun q h => (by cases h), fun j h => by omega⟩
theorem NO.inner (hA : sane A) {i a : Nat} {out : List R} (h : NO A B i a out) (hi : i < A.length) : NI A B i a (at_ A i).1 out := by
  refine ⟨h.s, fun n => ?_, fun q hq => ?_, fun j hj => ?_, Int.le_refl _, (okI hA hi).1⟩
  · rw [h.m]
    refine ⟨.inl, fun g => g.elim id ?_⟩
    rintro ⟨⟨g1, _⟩, g2, _⟩
    omega
  · obtain ⟨k, hk, g⟩ := h.g q hq
    have := gapI hA hk hi
    exact ⟨by omega, .inl ⟨k, hk, g⟩⟩
  · obtain ⟨k, hk, g5⟩ := h.b j hj
    have := gapI hA hk hi
    omega
/-- what is free of B from x on -/
theorem free_of (hB : sane B) {a : Nat} {x y : Int} (hb : ∀ j, j < a → (at_ B j).2 < x) (ha : ∀ j, a ≤ j → j < B.length → y < (at_ B j).1) {n : Int} (h1 : x ≤ n) (h2 : n ≤ y) : ¬ memR B n := by
  intro g
  obtain ⟨j, hj, g1, g2⟩ := (memI hB n).1 g
  by_cases e : j < a
  · have := hb j e; omega
  · have := ha j (by omega) hj; omega
/-- the rest of run i, laid behind the others -/
theorem NI.rest (hA : sane A) (hB : sane B) {i a : Nat} {x : Int} {out : List R} (h : NI A B i a x out) (hi : i < A.length) (c : ∀ j, a ≤ j → j < B.length → (at_ A i).2 < (at_ B j).1) : NO A B (i + 1) a (out ++ [(x, (at_ A i).2)]) := by
  obtain ⟨o1, o2, o3⟩ := okI hA hi
  have hx1 := h.x1
  have hx2 := h.x2
  refine ⟨sane_snoc.2 ⟨h.s, ⟨hx2, by simp only; omega, o3⟩, fun b q e => (h.g q (by rw [e]; simp)).1⟩, fun n => ?_, fun q hq => ?_, fun j hj => ⟨i, by omega, by have := h.b j hj; omega⟩⟩
  · rw [memR_append, h.m, memR_cons]
    have := memR_nil n
    simp only
    constructor
    · rintro ((⟨k, hk, g⟩ | ⟨g, _, g2⟩) | g | g)
      · exact ⟨k, by omega, g⟩
      · exact ⟨i, by omega, g, g2⟩
      · exact ⟨i, by omega, ⟨by omega, g.2.1⟩, free_of hB h.b c g.1 g.2.1⟩
      · exact absurd g this
    · rintro ⟨k, hk, g, g2⟩
      by_cases e : k < i
      · exact .inl (.inl ⟨k, e, g, g2⟩)
      · obtain rfl : k = i := by omega
        by_cases e2 : n < x
        · exact .inl (.inr ⟨g, e2, g2⟩)
        · exact .inr (.inl ⟨by omega, g.2, by have := g.1; omega, by have := g.2; omega⟩)
  · rcases List.mem_append.1 hq with q1 | q1
    · rcases (h.g q q1).2 with ⟨k, hk, g⟩ | g
      · exact ⟨k, by omega, g⟩
      · exact ⟨i, by omega, g⟩
    · rw [List.mem_singleton] at q1
      subst q1
      exact ⟨i, by omega, Int.le_refl _⟩
/-- what run i has ahead of run a of B -/
theorem NI.cut (hA : sane A) (hB : sane B) {i a : Nat} {x : Int} {out : List R} (h : NI A B i a x out) (hi : i < A.length) (ha : a < B.length) (c : (at_ B a).1 ≤ (at_ A i).2) :
    ∃ out', out' = (if x < (at_ B a).1 then out ++ [(x, (at_ B a).1 - 1)] else out) ∧ sane out' ∧
      (∀ n, memR out' n ↔ (∃ k, k < i ∧ inn A k n ∧ ¬ memR B n) ∨ (inn A i n ∧ n < max x ((at_ B a).2 + 1) ∧ ¬ memR B n)) ∧
      (∀ q ∈ out', q.2 + 1 < max x ((at_ B a).2 + 1) ∧ ((∃ k, k < i ∧ q.2 ≤ (at_ A k).2) ∨ q.2 ≤ (at_ A i).2)) ∧ out'.length ≤ out.length + 1 := by
  obtain ⟨o1, o2, o3⟩ := okI hA hi
  obtain ⟨p1, p2, p3⟩ := okI hB ha
  have hx1 := h.x1
  have hx2 := h.x2
  refine ⟨_, rfl, ?_⟩
  have inB : ∀ n, (at_ B a).1 ≤ n → n ≤ (at_ B a).2 → memR B n := fun n g1 g2 => (memI hB n).2 ⟨a, ha, g1, g2⟩
  by_cases c1 : x < (at_ B a).1
  · rw [if_pos c1]
    have FR : ∀ n, x ≤ n → n ≤ (at_ B a).1 - 1 → ¬ memR B n := fun n g1 g2 => free_of hB h.b (y := (at_ B a).1 - 1) (fun j hj hj2 => by
      by_cases e : j = a
      · subst e; omega
      · have := gapI hB (show a < j by omega) hj2; omega) g1 g2
    refine ⟨sane_snoc.2 ⟨h.s, ⟨by simp only; omega, by simp only; omega, by simp only; omega⟩, fun b q e => (h.g q (by rw [e]; simp)).1⟩, fun n => ?_, fun q hq => ?_, by simp⟩
    · rw [memR_append, h.m, memR_cons]
      have := memR_nil n
      simp only
      constructor
      · rintro ((g | ⟨g, g1, g2⟩) | g | g)
        · exact .inl g
        · exact .inr ⟨g, by omega, g2⟩
        · exact .inr ⟨⟨by omega, by omega⟩, by omega, FR n g.1 g.2.1⟩
        · exact absurd g this
      · rintro (g | ⟨g, g1, g2⟩)
        · exact .inl (.inl g)
        · by_cases e : n < x
          · exact .inl (.inr ⟨g, e, g2⟩)
          · by_cases e2 : n < (at_ B a).1
            · exact .inr (.inl ⟨by omega, by omega, by have := g.1; omega, by have := g.2; omega⟩)
            · exact absurd (inB n (by omega) (by omega)) g2
    · rcases List.mem_append.1 hq with q1 | q1
      · obtain ⟨g1, g2⟩ := h.g q q1
        exact ⟨by omega, g2⟩
      · rw [List.mem_singleton] at q1
        subst q1
        exact ⟨by simp only; omega, .inr (by simp only; omega)⟩
  · rw [if_neg c1]
    refine ⟨h.s, fun n => ?_, fun q hq => ⟨by have := (h.g q hq).1; omega, (h.g q hq).2⟩, by omega⟩
    rw [h.m]
    constructor
    · rintro (g | ⟨g, g1, g2⟩)
      · exact .inl g
      · exact .inr ⟨g, by omega, g2⟩
    · rintro (g | ⟨g, g1, g2⟩)
      · exact .inl g
      · by_cases e : n < x
        · exact .inr ⟨g, e, g2⟩
        · exact absurd (inB n (by omega) (by omega)) g2
/-- nothing is left of run i -/
theorem NI.gone {i a : Nat} {x y : Int} {out out' : List R} (h : NI A B i a x out) (c : (at_ A i).2 < y) (hs : sane out')
    (hm : ∀ n, memR out' n ↔ (∃ k, k < i ∧ inn A k n ∧ ¬ memR B n) ∨ (inn A i n ∧ n < y ∧ ¬ memR B n)) (hg : ∀ q ∈ out', q.2 + 1 < y ∧ ((∃ k, k < i ∧ q.2 ≤ (at_ A k).2) ∨ q.2 ≤ (at_ A i).2)) : NO A B (i + 1) a out' := by
  refine ⟨hs, fun n => ?_, fun q hq => ?_, fun j hj => ⟨i, by omega, by have := h.b j hj; have := h.x2; omega⟩⟩
  · rw [hm]
    constructor
    · rintro (⟨k, hk, g⟩ | ⟨g, _, g2⟩)
      · exact ⟨k, by omega, g⟩
      · exact ⟨i, by omega, g, g2⟩
    · rintro ⟨k, hk, g, g2⟩
      by_cases e : k < i
      · exact .inl ⟨k, e, g, g2⟩
      · obtain rfl : k = i := by omega
        exact .inr ⟨g, by have := g.2; omega, g2⟩
  · rcases (hg q hq).2 with ⟨k, hk, g⟩ | g
    · exact ⟨k, by omega, g⟩
    · exact ⟨i, by omega, g⟩
theorem NI.next {i a : Nat} {x y : Int} {out out' : List R} (h : NI A B i a x out) (c : y ≤ (at_ A i).2) (hy : x ≤ y) (hy2 : (at_ B a).2 < y) (hs : sane out')
    (hm : ∀ n, memR out' n ↔ (∃ k, k < i ∧ inn A k n ∧ ¬ memR B n) ∨ (inn A i n ∧ n < y ∧ ¬ memR B n)) (hg : ∀ q ∈ out', q.2 + 1 < y ∧ ((∃ k, k < i ∧ q.2 ≤ (at_ A k).2) ∨ q.2 ≤ (at_ A i).2)) : NI A B i (a + 1) y out' := by
  refine ⟨hs, hm, hg, fun j hj => ?_, by have := h.x1; omega, c⟩
  by_cases e : j < a
  · have := h.b j e; omega
  · obtain rfl : j = a := by omega
    exact hy2
theorem NO.done (hA : sane A) {a : Nat} {out : List R} (h : NO A B A.length a out) (n : Int) : memR out n ↔ memR A n ∧ ¬ memR B n := by
  rw [h.m, memI hA]
  exact ⟨fun ⟨k, hk, g, g2⟩ => ⟨⟨k, hk, g⟩, g2⟩, fun ⟨⟨k, hk, g⟩, g2⟩ => ⟨k, hk, g, g2⟩⟩
end
/-- what is in no run -/
def gaps : Int → List R → List R
  | f, [] => if f ≤ 1099511627776 then [(f, 1099511627776)] else []
  | f, r :: t => (if f < r.1 then [(f, r.1 - 1)] else []) ++ gaps (r.2 + 1) t
theorem gaps_ok : ∀ (s : List R) (f : Int), sane s → (∀ r t, s = r :: t → f ≤ r.1) → -1099511627776 ≤ f →
    sane (gaps f s) ∧ (∀ n, memR (gaps f s) n ↔ f ≤ n ∧ n ≤ 1099511627776 ∧ ¬ memR s n) ∧ (∀ q ∈ gaps f s, f ≤ q.1) := by
  intro s
  induction s with
  | nil =>
    intro f _ _ hf
    rw [gaps]
    have := memR_nil
    split
    · rename_i c
      refine ⟨⟨⟨c, hf, Int.le_refl _⟩, trivial, trivial⟩, fun n => ?_, fun q hq => by simp at hq; rw [hq]; exact Int.le_refl _⟩
      rw [memR_cons]
      simp only
      exact ⟨fun g => g.elim (fun g => ⟨g.1, g.2.1, this n⟩) (fun g => absurd g (this n)), fun g => .inl ⟨g.1, g.2.1, by omega, g.2.1⟩⟩
    · exact ⟨trivial, fun n => ⟨fun g => absurd g (this n), fun g => by omega⟩, fun q hq => by cases hq⟩
  | cons r t ih =>
    intro f hs hf0 hf
    have hfr := hf0 r t rfl
    obtain ⟨o1, o2, o3⟩ := sane_head hs
    have B := sane_beyond hs
    obtain ⟨i1, i2, i3⟩ := ih (r.2 + 1) (sane_tail hs) (fun q u e => by subst e; have : r.2 + 1 < q.1 := hs.2.1; omega) (by omega)
    rw [gaps]
    by_cases c : f < r.1
    · rw [if_pos c]
      refine ⟨sane_cons (r := (f, r.1 - 1)) ⟨by simp only; omega, hf, by simp only; omega⟩ (fun q u e => by have := i3 q (by rw [show gaps (r.2 + 1) t = q :: u from e]; simp); simp only; omega) i1, fun n => ?_, fun q hq => ?_⟩
      · rw [List.cons_append, List.nil_append, memR_cons, i2, sane_mem_head hs]
        simp only
        constructor
        · rintro (g | g)
          · exact ⟨g.1, by omega, fun h => h.elim (fun h => by omega) (fun h => by have := B n h; omega)⟩
          · exact ⟨by omega, g.2.1, fun h => h.elim (fun h => by omega) g.2.2⟩
        · rintro ⟨g1, g2, g3⟩
          by_cases e : n < r.1
          · exact .inl ⟨g1, by omega, by omega, g2⟩
          · refine .inr ⟨?_, g2, fun h => g3 (.inr h)⟩
            rcases Int.lt_or_le r.2 n with h | h
            · omega
            · exact absurd (.inl ⟨by omega, h⟩) g3
      · simp only [List.cons_append, List.nil_append, List.mem_cons] at hq
        rcases hq with rfl | hq
        · exact Int.le_refl _
        · have := i3 q hq; omega
    · rw [if_neg c, List.nil_append]
      refine ⟨i1, fun n => ?_, fun q hq => by have := i3 q hq; omega⟩
      rw [i2, sane_mem_head hs]
      constructor
      · rintro g
        exact ⟨by omega, g.2.1, fun h => h.elim (fun h => by omega) g.2.2⟩
      · rintro ⟨g1, g2, g3⟩
        refine ⟨?_, g2, fun h => g3 (.inr h)⟩
        rcases Int.lt_or_le r.2 n with h | h
        · omega
        · exact absurd (.inl ⟨by omega, h⟩) g3
def restR (b : List R) : List R := gaps (-1099511627776) (nf b)
theorem restR_ok (b : List R) : sane (restR b) ∧ ∀ n, memR (restR b) n ↔ -1099511627776 ≤ n ∧ n ≤ 1099511627776 ∧ ¬ memR b n := by
  obtain ⟨g1, g2, _⟩ := gaps_ok (nf b) (-1099511627776) (nf_sane b) (fun r t e => by have := nf_sane b; rw [e] at this; exact (sane_head this).2.1) (Int.le_refl _)
  exact ⟨g1, fun n => by rw [show restR b = gaps _ _ from rfl, g2, nf_mem]⟩
/-- the numbers in a, but not in b -/
def diffR (a b : List R) : List R := interR a (restR b)
theorem diffR_mem (a b : List R) (n : Int) : memR (diffR a b) n ↔ memR a n ∧ ¬ memR b n := by
  unfold diffR
  rw [interR_mem, (restR_ok b).2]
  constructor
  · rintro ⟨g, _, _, g2⟩; exact ⟨g, g2⟩
  · rintro ⟨g, g2⟩
    obtain ⟨r, _, _, _, h3, h4⟩ := g
    exact ⟨⟨r, ‹_›, ‹_›, ‹_›, h3, h4⟩, h3, h4, g2⟩
theorem diffR_sane (a b : List R) : sane (diffR a b) := nf_sane _
end Go.Proofs.YtehpngppdcnohaaDoor
