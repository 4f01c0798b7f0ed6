/-
  Sets of whole numbers as runs, in plain lists: what a set is, that there is one set of the same numbers, and how a run is laid into one.
-/
namespace Go.Proofs.YtndmohamjffpcaaDoor
set_option linter.unusedVariables false
abbrev R := Int × Int
def lim : Int := 1099511627776
/-- a run is there, and within bounds -/
def okR (r : R) : Prop := r.1 ≤ r.2 ∧ -1099511627776 ≤ r.1 ∧ r.2 ≤ 1099511627776
instance (r : R) : Decidable (okR r) := inferInstanceAs (Decidable (_ ∧ _ ∧ _))
/-- it is a set: behind each run a number is missing -/
def sane : List R → Prop
  | [] => True
  | r :: t => okR r ∧ (match t with | [] => True | s :: _ => r.2 + 1 < s.1) ∧ sane t
instance saneDec : (l : List R) → Decidable (sane l)
  | [] => isTrue trivial
  | [r] => inferInstanceAs (Decidable (okR r ∧ True ∧ True))
  | r :: s :: t => @instDecidableAnd _ _ _ (@instDecidableAnd _ _ _ (saneDec (s :: t)))
def saneB (l : List R) : Bool := decide (sane l)
/-- a number is in one of the runs, and within bounds -/
def memR (l : List R) (n : Int) : Prop := ∃ r ∈ l, r.1 ≤ n ∧ n ≤ r.2 ∧ -1099511627776 ≤ n ∧ n ≤ 1099511627776
theorem memR_nil (n : Int) : ¬ memR [] n := by rintro ⟨r, h, _⟩; cases h
theorem memR_cons (r : R) (t : List R) (n : Int) : memR (r :: t) n ↔ (r.1 ≤ n ∧ n ≤ r.2 ∧ -1099511627776 ≤ n ∧ n ≤ 1099511627776) ∨ memR t n := by
  constructor
  · rintro ⟨q, hq, g⟩
    rcases List.mem_cons.1 hq with rfl | hq
    · exact .inl g
    · exact .inr ⟨q, hq, g⟩
  · rintro (g | ⟨q, hq, g⟩)
    · exact ⟨r, List.mem_cons_self .., g⟩
    · exact ⟨q, List.mem_cons_of_mem _ hq, g⟩
theorem memR_append (a b : List R) (n : Int) : memR (a ++ b) n ↔ memR a n ∨ memR b n := by
  induction a with
  | nil => simp [memR_nil]
  | cons r t ih => rw [List.cons_append, memR_cons, memR_cons, ih, or_assoc]
theorem sane_tail {r : R} {t : List R} (h : sane (r :: t)) : sane t := h.2.2
theorem sane_head {r : R} {t : List R} (h : sane (r :: t)) : okR r := h.1
theorem sane_cons {r : R} {t : List R} (h : okR r) (g : ∀ s t', t = s :: t' → r.2 + 1 < s.1) (k : sane t) : sane (r :: t) := by
  cases t with
  | nil => exact ⟨h, trivial, k⟩
  | cons s t' => exact ⟨h, g s t' rfl, k⟩
/-- all numbers of a set's tail lie beyond the gap -/
theorem sane_beyond {r : R} {t : List R} (h : sane (r :: t)) : ∀ n, memR t n → r.2 + 1 < n := by
  induction t generalizing r with
  | nil => intro n hn; exact absurd hn (memR_nil n)
  | cons s t ih =>
    intro n hn
    have g : r.2 + 1 < s.1 := h.2.1
    rcases (memR_cons _ _ _).1 hn with q | q
    · omega
    · have := ih h.2.2 n q
      have o := (sane_head h.2.2).1
      omega
theorem sane_mem_head {r : R} {t : List R} (h : sane (r :: t)) (n : Int) : memR (r :: t) n ↔ (r.1 ≤ n ∧ n ≤ r.2) ∨ memR t n := by
  rw [memR_cons]
  obtain ⟨a, b, c⟩ := sane_head h
  constructor
  · rintro (q | q)
    · exact .inl ⟨q.1, q.2.1⟩
    · exact .inr q
  · rintro (q | q)
    · exact .inl ⟨q.1, q.2, by omega, by omega⟩
    · exact .inr q
/-- THERE IS ONE SET OF THE SAME NUMBERS. -/
theorem sane_ext : ∀ {a b : List R}, sane a → sane b → (∀ n, memR a n ↔ memR b n) → a = b := by
  intro a
  induction a with
  | nil =>
    intro b _ hb h
    cases b with
    | nil => rfl
    | cons s t =>
      have := (h s.1).2 ((sane_mem_head hb _).2 (.inl ⟨Int.le_refl _, (sane_head hb).1⟩))
      exact absurd this (memR_nil _)
  | cons r t ih =>
    intro b ha hb h
    cases b with
    | nil =>
      have := (h r.1).1 ((sane_mem_head ha _).2 (.inl ⟨Int.le_refl _, (sane_head ha).1⟩))
      exact absurd this (memR_nil _)
    | cons s u =>
      have ra := (sane_head ha).1
      have sb := (sane_head hb).1
      have bt := sane_beyond ha
      have bu := sane_beyond hb
      -- the least numbers are the same
      have e1 : r.1 = s.1 := by
        have h1 := (sane_mem_head hb _).1 ((h r.1).1 ((sane_mem_head ha _).2 (.inl ⟨Int.le_refl _, ra⟩)))
        have h2 := (sane_mem_head ha _).1 ((h s.1).2 ((sane_mem_head hb _).2 (.inl ⟨Int.le_refl _, sb⟩)))
        rcases h1 with h1 | h1
        · rcases h2 with h2 | h2
          · omega
          · have := bt _ h2; omega
        · have := bu _ h1
          rcases h2 with h2 | h2
          · omega
          · have := bt _ h2; omega
      have e2 : r.2 = s.2 := by
        have n1 : ¬ memR (r :: t) (r.2 + 1) := by
          rw [sane_mem_head ha]; rintro (q | q)
          · omega
          · have := bt _ q; omega
        have n2 : ¬ memR (s :: u) (s.2 + 1) := by
          rw [sane_mem_head hb]; rintro (q | q)
          · omega
          · have := bu _ q; omega
        rcases Int.lt_trichotomy r.2 s.2 with c | c | c
        · exact absurd ((h _).2 ((sane_mem_head hb _).2 (.inl ⟨by omega, by omega⟩))) n1
        · exact c
        · exact absurd ((h _).1 ((sane_mem_head ha _).2 (.inl ⟨by omega, by omega⟩))) n2
      have er : r = s := Prod.ext e1 e2
      subst er
      congr 1
      apply ih ha.2.2 hb.2.2
      intro n
      constructor
      · intro q
        have := bt n q
        rcases (sane_mem_head hb n).1 ((h n).1 ((sane_mem_head ha n).2 (.inr q))) with g | g
        · omega
        · exact g
      · intro q
        have := bu n q
        rcases (sane_mem_head ha n).1 ((h n).2 ((sane_mem_head hb n).2 (.inr q))) with g | g
        · omega
        · exact g
/-- a run within bounds, laid into a set -/
def put1 (x : R) : List R → List R
  | [] => [x]
  | y :: t => if y.2 < x.1 - 1 then y :: put1 x t else if x.2 + 1 < y.1 then x :: y :: t else put1 (min x.1 y.1, max x.2 y.2) t
theorem okR_join {x y : R} (hx : okR x) (hy : okR y) : okR (min x.1 y.1, max x.2 y.2) := by
  obtain ⟨a, b, c⟩ := hx
  obtain ⟨d, e, f⟩ := hy
  refine ⟨?_, ?_, ?_⟩ <;> show _ ≤ _ <;> simp only <;> omega
theorem put1_sane : ∀ {s : List R} {x : R}, sane s → okR x → sane (put1 x s) ∧ (∀ l, l + 1 < x.1 → (∀ y t, s = y :: t → l + 1 < y.1) → ∀ y t, put1 x s = y :: t → l + 1 < y.1) := by
  intro s
  induction s with
  | nil =>
    intro x _ hx
    refine ⟨⟨hx, trivial, trivial⟩, ?_⟩
    intro l hl _ y t e
    simp [put1] at e
    rw [← e.1]; exact hl
  | cons y t ih =>
    intro x hs hx
    have hy := sane_head hs
    have gy := hs.2.1
    unfold put1
    by_cases c1 : y.2 < x.1 - 1
    · rw [if_pos c1]
      obtain ⟨i1, i2⟩ := ih (x := x) hs.2.2 hx
      refine ⟨sane_cons hy ?_ i1, ?_⟩
      · intro z u e
        refine i2 y.2 (by omega) ?_ z u e
        intro y' t' e'
        subst e'
        exact gy
      · intro l hl h2 z u e
        simp at e
        rw [← e.1]; exact h2 y t rfl
    · rw [if_neg c1]
      by_cases c2 : x.2 + 1 < y.1
      · rw [if_pos c2]
        refine ⟨sane_cons hx ?_ hs, ?_⟩
        · intro z u e
          simp at e
          rw [← e.1]; exact c2
        · intro l hl _ z u e
          simp at e
          rw [← e.1]; exact hl
      · rw [if_neg c2]
        obtain ⟨i1, i2⟩ := ih (x := (min x.1 y.1, max x.2 y.2)) hs.2.2 (okR_join hx hy)
        refine ⟨i1, ?_⟩
        intro l hl h2 z u e
        have hly := h2 y t rfl
        refine i2 l (by show l + 1 < min x.1 y.1; omega) ?_ z u e
        intro y' t' e'
        subst e'
        have : y.2 + 1 < y'.1 := gy
        have := hy.1
        omega
theorem put1_mem : ∀ {s : List R} {x : R}, sane s → okR x → ∀ n, memR (put1 x s) n ↔ (x.1 ≤ n ∧ n ≤ x.2) ∨ memR s n := by
  intro s
  induction s with
  | nil =>
    intro x _ hx n
    obtain ⟨a, b, c⟩ := hx
    rw [put1, memR_cons]
    constructor
    · rintro (q | q)
      · exact .inl ⟨q.1, q.2.1⟩
      · exact .inr q
    · rintro (q | q)
      · exact .inl ⟨q.1, q.2, by omega, by omega⟩
      · exact .inr q
  | cons y t ih =>
    intro x hs hx n
    have hy := sane_head hs
    unfold put1
    by_cases c1 : y.2 < x.1 - 1
    · rw [if_pos c1, memR_cons, ih hs.2.2 hx, memR_cons]
      constructor
      · rintro (q | q | q) <;> simp [q]
      · rintro (q | q | q) <;> simp [q]
    · rw [if_neg c1]
      by_cases c2 : x.2 + 1 < y.1
      · rw [if_pos c2, memR_cons]
        obtain ⟨a, b, c⟩ := hx
        constructor
        · rintro (q | q)
          · exact .inl ⟨q.1, q.2.1⟩
          · exact .inr q
        · rintro (q | q)
          · exact .inl ⟨q.1, q.2, by omega, by omega⟩
          · exact .inr q
      · rw [if_neg c2, ih hs.2.2 (okR_join hx hy), memR_cons]
        obtain ⟨a, b, c⟩ := hx
        obtain ⟨d, e, f⟩ := hy
        simp only
        constructor
        · rintro (q | q)
          · by_cases k : x.1 ≤ n ∧ n ≤ x.2
            · exact .inl k
            · exact .inr (.inl (by omega))
          · exact .inr (.inr q)
        · rintro (q | q | q)
          · exact .inl (by omega)
          · exact .inl (by omega)
          · exact .inr q
def clipR (r : R) : R := (max r.1 (-1099511627776), min r.2 1099511627776)
def putR (s : List R) (r : R) : List R := if (clipR r).2 < (clipR r).1 then s else put1 (clipR r) s
def nf (l : List R) : List R := l.foldl putR []
theorem clip_mem (r : R) (n : Int) : ((clipR r).1 ≤ n ∧ n ≤ (clipR r).2) ↔ (r.1 ≤ n ∧ n ≤ r.2 ∧ -1099511627776 ≤ n ∧ n ≤ 1099511627776) := by
  unfold clipR; simp only; omega
theorem putR_ok {s : List R} (h : sane s) (r : R) : sane (putR s r) ∧ ∀ n, memR (putR s r) n ↔ memR s n ∨ (r.1 ≤ n ∧ n ≤ r.2 ∧ -1099511627776 ≤ n ∧ n ≤ 1099511627776) := by
  unfold putR
  by_cases c : (clipR r).2 < (clipR r).1
  · rw [if_pos c]
    refine ⟨h, fun n => ⟨.inl, ?_⟩⟩
    rintro (q | q)
    · exact q
    · have := (clip_mem r n).2 q; omega
  · rw [if_neg c]
    have o : okR (clipR r) := ⟨by omega, by unfold clipR; simp only; omega, by unfold clipR; simp only; omega⟩
    refine ⟨(put1_sane h o).1, fun n => ?_⟩
    rw [put1_mem h o, clip_mem]
    exact ⟨fun q => q.elim .inr .inl, fun q => q.elim .inr .inl⟩
theorem foldl_putR : ∀ (l : List R) {s : List R}, sane s → sane (l.foldl putR s) ∧ ∀ n, memR (l.foldl putR s) n ↔ memR s n ∨ memR l n := by
  intro l
  induction l with
  | nil => intro s h; exact ⟨h, fun n => ⟨.inl, fun q => q.elim id fun q => absurd q (memR_nil n)⟩⟩
  | cons r t ih =>
    intro s h
    obtain ⟨a, b⟩ := putR_ok h r
    obtain ⟨c, d⟩ := ih a
    refine ⟨c, fun n => ?_⟩
    rw [List.foldl_cons, d, b, memR_cons]
    constructor
    · rintro ((q | q) | q)
      · exact .inl q
      · exact .inr (.inl q)
      · exact .inr (.inr q)
    · rintro (q | q | q)
      · exact .inl (.inl q)
      · exact .inl (.inr q)
      · exact .inr q
theorem nf_sane (l : List R) : sane (nf l) := (foldl_putR l (s := []) trivial).1
theorem nf_mem (l : List R) (n : Int) : memR (nf l) n ↔ memR l n := by
  rw [show nf l = l.foldl putR [] from rfl, (foldl_putR l (s := []) trivial).2]
  exact ⟨fun q => q.elim (fun q => absurd q (memR_nil n)) id, .inr⟩
theorem nf_eq {l s : List R} (h : sane s) (g : ∀ n, memR s n ↔ memR l n) : nf l = s := sane_ext (nf_sane l) h fun n => by rw [nf_mem, g]
theorem nf_of_sane {l : List R} (h : sane l) : nf l = l := nf_eq h fun _ => Iff.rfl
theorem nf_congr {a b : List R} (g : ∀ n, memR a n ↔ memR b n) : nf a = nf b := nf_eq (nf_sane b) fun n => by rw [nf_mem, g]
end Go.Proofs.YtndmohamjffpcaaDoor
