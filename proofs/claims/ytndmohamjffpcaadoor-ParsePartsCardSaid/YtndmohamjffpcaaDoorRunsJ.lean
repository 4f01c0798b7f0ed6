/-
  Sorted runs, joined, are the set.
-/
import Derived.Test.YtndmohamjffpcaaDoorRunsA
namespace Go.Proofs.YtndmohamjffpcaaDoor
set_option linter.unusedVariables false
def jstep (a : List R) (r : R) : List R :=
  if a = [] then [r] else if r.1 ≤ (a.getLastD (0, 0)).2 + 1 then a.dropLast ++ [((a.getLastD (0, 0)).1, max (a.getLastD (0, 0)).2 r.2)] else a ++ [r]
def jn (l : List R) : List R := l.foldl jstep []
theorem jn_snoc (l : List R) (r : R) : jn (l ++ [r]) = jstep (jn l) r := by unfold jn; simp
/-- a list that ends in q -/
theorem snoc_cases (a : List R) : a = [] ∨ ∃ b q, a = b ++ [q] := by
  rcases List.eq_nil_or_concat a with h | ⟨b, q, h⟩
  · exact .inl h
  · exact .inr ⟨b, q, by simpa using h⟩
theorem jstep_snoc (b : List R) (q r : R) : jstep (b ++ [q]) r = if r.1 ≤ q.2 + 1 then b ++ [(q.1, max q.2 r.2)] else b ++ [q] ++ [r] := by
  unfold jstep; simp
theorem jstep_len (a : List R) (r : R) : (jstep a r).length ≤ a.length + 1 := by
  rcases snoc_cases a with rfl | ⟨b, q, rfl⟩
  · simp [jstep]
  · rw [jstep_snoc]; split <;> simp
theorem jn_len (l : List R) : (jn l).length ≤ l.length := by
  have : ∀ (t a : List R), (t.foldl jstep a).length ≤ a.length + t.length := by
    intro t
    induction t with
    | nil => intro a; simp
    | cons r t ih => intro a; have := ih (jstep a r); have := jstep_len a r; simp at *; omega
  simpa [jn] using this l []
/-- a set with a run behind it -/
theorem sane_snoc {a : List R} {r : R} : sane (a ++ [r]) ↔ sane a ∧ okR r ∧ ∀ b q, a = b ++ [q] → q.2 + 1 < r.1 := by
  induction a with
  | nil => exact ⟨fun h => ⟨trivial, sane_head h, fun b q e => by cases b <;> simp at e⟩, fun h => ⟨h.2.1, trivial, trivial⟩⟩
  | cons s t ih =>
    constructor
    · intro h
      have h2 : sane (t ++ [r]) := sane_tail h
      obtain ⟨a1, a2, a3⟩ := ih.1 h2
      cases t with
      | nil =>
        refine ⟨⟨sane_head h, trivial, trivial⟩, a2, ?_⟩
        intro b q e
        cases b with
        | nil => simp at e; rw [← e]; exact h.2.1
        | cons c d => cases d <;> simp at e
      | cons u v =>
        refine ⟨⟨sane_head h, h.2.1, a1⟩, a2, ?_⟩
        intro b q e
        cases b with
        | nil => simp at e
        | cons c d => simp at e; exact a3 d q e.2
    · rintro ⟨a1, a2, a3⟩
      have h2 : sane (t ++ [r]) := ih.2 ⟨sane_tail a1, a2, fun b q e => a3 (s :: b) q (by rw [e]; rfl)⟩
      refine sane_cons (sane_head a1) ?_ h2
      intro x y e
      cases t with
      | nil => simp at e; rw [← e.1]; exact a3 [] s rfl
      | cons u v => simp at e; rw [← e.1]; exact a1.2.1
theorem snoc_ind {P : List R → Prop} (h0 : P []) (h1 : ∀ l r, P l → P (l ++ [r])) : ∀ l, P l := by
  have : ∀ (n : Nat) (l : List R), l.length = n → P l := by
    intro n
    induction n with
    | zero => intro l e; rw [List.eq_nil_of_length_eq_zero e]; exact h0
    | succ n ih =>
      intro l e
      rcases snoc_cases l with rfl | ⟨b, q, rfl⟩
      · simp at e
      · exact h1 b q (ih b (by simpa using e))
  exact fun l => this l.length l rfl
/-- by rising least numbers -/
def rises (l : List R) : Prop := l.Pairwise fun a b => a.1 ≤ b.1
/-- the state of the joining: a set, no run of which begins later -/
theorem jn_ok : ∀ (l : List R), (∀ r ∈ l, okR r) → rises l → sane (jn l) ∧ (∀ n, memR (jn l) n ↔ memR l n) ∧ (∀ q ∈ jn l, ∃ r ∈ l, q.1 = r.1) := by
  refine snoc_ind ?_ ?_
  · intro _ _; exact ⟨trivial, fun _ => Iff.rfl, fun q h => by cases h⟩
  · intro l r ih ho hs
    have hs2 := List.pairwise_append.1 hs
    obtain ⟨i1, i2, i3⟩ := ih (fun x hx => ho x (List.mem_append_left _ hx)) hs2.1
    have or_ := ho r (by simp)
    rw [jn_snoc]
    rcases snoc_cases (jn l) with e | ⟨b, q, e⟩
    · rw [e]
      have : jstep [] r = [r] := by simp [jstep]
      rw [this]
      refine ⟨⟨or_, trivial, trivial⟩, fun n => ?_, fun x hx => ⟨r, by simp, by simp at hx; rw [hx]⟩⟩
      rw [memR_append, ← i2 n, e]
      exact ⟨.inr, fun h => h.elim (fun h => absurd h (memR_nil n)) id⟩
    · rw [e, jstep_snoc]
      rw [e] at i1 i2 i3
      obtain ⟨s1, s2, s3⟩ := sane_snoc.1 i1
      obtain ⟨y, hy, ey⟩ := i3 q (by simp)
      have lo : q.1 ≤ r.1 := by rw [ey]; exact hs2.2.2 y hy r (by simp)
      have oq := s2
      obtain ⟨o1, o2, o3⟩ := or_
      obtain ⟨p1, p2, p3⟩ := oq
      by_cases c : r.1 ≤ q.2 + 1
      · rw [if_pos c]
        refine ⟨sane_snoc.2 ⟨s1, ⟨by show q.1 ≤ max q.2 r.2; omega, p2, by show max q.2 r.2 ≤ _; omega⟩, s3⟩, fun n => ?_, ?_⟩
        · rw [memR_append, memR_append, ← i2 n, memR_append, memR_cons, memR_cons, memR_cons]
          have := memR_nil n
          simp only
          constructor
          · rintro (h | h | h)
            · exact .inl (.inl h)
            · by_cases k : n ≤ q.2
              · exact .inl (.inr (.inl ⟨h.1, k, h.2.2⟩))
              · exact .inr (.inl ⟨by omega, by omega, h.2.2⟩)
            · exact absurd h this
          · rintro ((h | h | h) | h | h)
            · exact .inl h
            · exact .inr (.inl ⟨h.1, by omega, h.2.2⟩)
            · exact absurd h this
            · exact .inr (.inl ⟨by omega, by omega, h.2.2⟩)
            · exact absurd h this
        · intro x hx
          simp at hx
          rcases hx with hx | rfl
          · obtain ⟨z, hz, ez⟩ := i3 x (by simp [hx]); exact ⟨z, by simp [hz], ez⟩
          · exact ⟨y, by simp [hy], ey⟩
      · rw [if_neg c]
        refine ⟨sane_snoc.2 ⟨i1, ⟨o1, o2, o3⟩, ?_⟩, fun n => ?_, ?_⟩
        · intro b' q' e'
          have := List.append_inj_right' e' rfl
          simp at this
          rw [← this]; omega
        · rw [memR_append _ [r], memR_append l, i2 n]
        · intro x hx
          simp at hx
          rcases hx with hx | rfl | rfl
          · obtain ⟨z, hz, ez⟩ := i3 x (by simp [hx]); exact ⟨z, by simp [hz], ez⟩
          · exact ⟨y, by simp [hy], ey⟩
          · exact ⟨x, by simp, rfl⟩
theorem jn_all : ∀ (l : List R), (∀ r ∈ l, okR r) → ∀ q ∈ jn l, okR q := by
  refine snoc_ind ?_ ?_
  · intro _ q h; cases h
  · intro l r ih ho
    have i := ih (fun x hx => ho x (List.mem_append_left _ hx))
    have o := ho r (by simp)
    rw [jn_snoc]
    rcases snoc_cases (jn l) with e | ⟨b, q, e⟩
    · rw [e, show jstep [] r = [r] by simp [jstep]]
      intro x hx
      simp at hx; rw [hx]; exact o
    · rw [e] at i
      rw [e, jstep_snoc]
      obtain ⟨o1, o2, o3⟩ := o
      obtain ⟨p1, p2, p3⟩ := i q (by simp)
      intro x hx
      split at hx
      · simp at hx
        rcases hx with hx | rfl
        · exact i x (by simp [hx])
        · exact ⟨by show q.1 ≤ max q.2 r.2; omega, p2, by show max q.2 r.2 ≤ _; omega⟩
      · simp at hx
        rcases hx with hx | rfl | rfl
        · exact i x (by simp [hx])
        · exact i x (by simp)
        · exact ⟨o1, o2, o3⟩
end Go.Proofs.YtndmohamjffpcaaDoor
