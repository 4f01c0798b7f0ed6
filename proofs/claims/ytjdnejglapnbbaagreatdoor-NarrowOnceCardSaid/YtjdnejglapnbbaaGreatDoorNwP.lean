/-
  Layer 22, pure: what lies inside a pair of families, the bounds, what is left.
-/
import Derived.Test.YtjdnejglapnbbaaGreatDoorGImgC
import Derived.Test.YtjdnejglapnbbaaGreatDoorGLeafB
import Derived.Test.YtjdnejglapnbbaaGreatDoorGEnv
import Derived.Test.YtjdnejglapnbbaaGreatDoorRlQ
namespace Go.Proofs.YtjdnejglapnbbaaGreatDoor
open Go.RowKit
set_option linter.unusedVariables false
set_option linter.unusedSimpArgs false
theorem sane_span {L : List R} (h : sane L) {S T : Int} (hST : S ≤ T) (g : ∀ n, S ≤ n → n ≤ T → memR L n) : ∃ r ∈ L, r.1 ≤ S ∧ T ≤ r.2 := by
  obtain ⟨r, hr, h1, h2, _, _⟩ := g S (Int.le_refl _) hST
  refine ⟨r, hr, h1, ?_⟩
  rcases Int.lt_or_le r.2 T with q | q
  · exact absurd (g (r.2 + 1) (by omega) (by omega)) (end_out h r hr)
  · exact q
theorem span_sane {L : List R} (h : sane L) {r : R} (hr : r ∈ L) {n : Int} (h1 : r.1 ≤ n) (h2 : n ≤ r.2) : memR L n := by
  have := sane_ok h r hr
  exact ⟨r, hr, h1, h2, by have := this.2.1; omega, by have := this.2.2; omega⟩
/-- inside some pair -/
def inF (F : Fam) (S T : Int) : Prop := ∃ x y, hasF F x y = true ∧ x ≤ S ∧ T ≤ y
def inL (m : List LF) (S T : Int) : Prop := S ≤ T ∧ ∃ f ∈ m, inF (famR f) S T
/-- the longest pair of a tidied leaf that has a day -/
noncomputable def arR (f : LF) (d : Int) : List R := if f.sp = true then [(leastR f.a, greatR f.b)] else coverR f.u (interR f.a (touR f.u d d))
theorem arU_iff {k : Int} {s : List R} (h : setB k s = true) {S T : Int} (hST : S ≤ T) : (∃ r ∈ coverR k (interR s (touR k S S)), r.1 ≤ S ∧ T ≤ r.2) ↔ inF (.units k s) S T := by
  constructor
  · rintro ⟨r, hr, h1, h2⟩
    have mS := (coverR_mem _ _ _).1 (span_sane (coverR_sane _ _) hr h1 (by omega))
    have mT := (coverR_mem _ _ _).1 (span_sane (coverR_sane _ _) hr (by omega) h2)
    have iT := (interR_mem _ _ _).1 mT.2
    obtain ⟨_, _, t1, t2⟩ := (touR_mem _ _ _ _).1 iT.2
    have bd := setB_mem h iT.1
    have e := (range_day (k := k) (day := T) bd.1 (Int.le_refl _) bd.2).2 ⟨mT.1, Int.le_refl _, Int.le_refl _⟩
    exact ⟨_, _, (hasF_units h _ _).2 ⟨_, iT.1, rfl, rfl⟩, t1, e.2⟩
  · rintro ⟨x, y, hh, h1, h2⟩
    obtain ⟨i, hi, rfl, rfl⟩ := (hasF_units h _ _).1 hh
    have bd := setB_mem h hi
    refine sane_span (coverR_sane _ _) hST fun n n1 n2 => ?_
    have e := (range_day (k := k) (day := n) bd.1 (Int.le_refl i) bd.2).1 ⟨by omega, by omega⟩
    have ei : unum k n = i := by omega
    exact (coverR_mem _ _ _).2 ⟨e.1, by rw [ei]; exact (interR_mem _ _ _).2 ⟨hi, (touR_mem _ _ _ _).2 ⟨okU_of bd.1 bd.2, Int.le_refl _, h1, by omega⟩⟩⟩
theorem span_lg {s e : List R} (h : FOK (.span s e)) (h0 : 0 < s.length) : 0 < e.length ∧ hasF (.span s e) (leastR s) (greatR e) = true := by
  obtain ⟨h1, h2, h3, h4⟩ := h
  obtain ⟨m, m1, m2⟩ := h3 _ (least_mem (setB_sane h1) h0)
  have he := mem_pos m1
  have := great_max (setB_sane h2) m1
  exact ⟨he, (hasF_span (setB_sane h1) (setB_sane h2) _ _).2 ⟨by omega, least_mem (setB_sane h1) h0, great_mem (setB_sane h2) he⟩⟩
theorem inF_span {s e : List R} (h : FOK (.span s e)) (h0 : 0 < s.length) (S T : Int) : inF (.span s e) S T ↔ leastR s ≤ S ∧ T ≤ greatR e := by
  constructor
  · rintro ⟨x, y, hh, h1, h2⟩
    obtain ⟨_, m1, m2⟩ := (hasF_span (setB_sane h.1) (setB_sane h.2.1) _ _).1 hh
    have := least_min (setB_sane h.1) m1
    have := great_max (setB_sane h.2.1) m2
    omega
  · rintro ⟨h1, h2⟩
    exact ⟨_, _, (span_lg h h0).2, h1, h2⟩
theorem inF_none {F : Fam} (h : FOK F) (h0 : emptyF F = true) (S T : Int) : ¬ inF F S T := by
  rintro ⟨x, y, hh, _, _⟩
  rw [(empty_iff h).1 h0] at hh
  cases hh
theorem ar_iff {F : Fam} (h : FOK F) {S T : Int} (hST : S ≤ T) : (∃ r ∈ arR (lfOf F) S, r.1 ≤ S ∧ T ≤ r.2) ↔ inF F S T := by
  cases F with
  | units k s =>
    by_cases h0 : s.length = 0
    · rw [lfOf_u0 h0]
      have e : inF (.units k s) S T ↔ False := iff_of_false (inF_none h (by rw [emptyF_u]; simpa using h0) S T) id
      rw [e]
      have := (arU_iff (k := 0) (s := []) (setB_nil 0) hST)
      unfold arR lf0
      rw [if_neg (by simp), this]
      exact iff_of_false (inF_none (F := .units 0 []) (setB_nil 0) rfl S T) id
    · rw [lfOf_u1 h0]
      unfold arR
      rw [if_neg (by simp)]
      exact arU_iff h hST
  | span s e =>
    by_cases h0 : s.length = 0
    · rw [lfOf_s0 h0]
      have e : inF (.span s e) S T ↔ False := iff_of_false (inF_none h (by rw [emptyF_s]; simpa using h0) S T) id
      rw [e]
      have := (arU_iff (k := 0) (s := []) (setB_nil 0) hST)
      unfold arR lf0
      rw [if_neg (by simp), this]
      exact iff_of_false (inF_none (F := .units 0 []) (setB_nil 0) rfl S T) id
    · rw [lfOf_s1 h0, inF_span h (by omega)]
      unfold arR
      rw [if_pos rfl]
      simp
/-- inside, asked leaf by leaf -/
noncomputable def insB (f : LF) (S T : Int) : Bool := (arR (lfOf (famR f)) S).any fun r => decide (r.1 ≤ S) && decide (T ≤ r.2)
noncomputable def inB (m : List LF) (S T : Int) : Bool := decide (S ≤ T) && m.any fun f => insB f S T
theorem insB_iff (f : LF) {S T : Int} (hST : S ≤ T) : insB f S T = true ↔ inF (famR f) S T := by
  rw [← ar_iff (famR_ok f) hST]
  unfold insB
  simp [List.any_eq_true]
theorem inB_iff (m : List LF) (S T : Int) : inB m S T = true ↔ inL m S T := by
  unfold inB inL
  rw [Bool.and_eq_true, decide_eq_true_eq, List.any_eq_true]
  constructor
  · rintro ⟨h, f, hf, g⟩; exact ⟨h, f, hf, (insB_iff f h).1 g⟩
  · rintro ⟨h, f, hf, g⟩; exact ⟨h, f, hf, (insB_iff f h).2 g⟩
/-- what others may lie inside: intervals, and single days -/
noncomputable def itvF : Fam → List R
  | .units k s => if k = 0 then [] else pairsF (.units k s)
  | .span s e => if s.length = 0 then [] else [(leastR s, greatR e)]
noncomputable def dayF : Fam → List R
  | .units k s => if k = 0 then s else []
  | .span _ _ => []
theorem itv_has {F : Fam} (h : FOK F) {r : R} (hr : r ∈ itvF F) : hasF F r.1 r.2 = true := by
  cases F with
  | units k s =>
    by_cases k0 : k = 0
    · simp only [itvF] at hr; rw [if_pos k0] at hr; cases hr
    · simp only [itvF] at hr; rw [if_neg k0] at hr
      exact (mem_pairs h r.1 r.2).1 hr
  | span s e =>
    by_cases h0 : s.length = 0
    · simp only [itvF] at hr; rw [if_pos h0] at hr; cases hr
    · simp only [itvF] at hr; rw [if_neg h0] at hr
      rw [List.mem_singleton] at hr
      subst hr
      exact (span_lg h (by omega)).2
theorem day_unit {n : Int} (h : 0 ≤ n ∧ n < cnt 0) : fst 0 n = n ∧ lst 0 n = n := by
  have h1 := fir_day h
  have h2 := las_day h
  rw [firV_in h.1 h.2] at h1
  rw [lasV_in h.1 h.2] at h2
  exact ⟨h1, h2⟩
theorem has_day {s : List R} (h : setB 0 s = true) (S T : Int) : hasF (.units 0 s) S T = true ↔ S = T ∧ memR s S := by
  rw [hasF_units h]
  constructor
  · rintro ⟨i, hi, rfl, rfl⟩
    have := day_unit (setB_mem h hi)
    rw [this.1, this.2]
    exact ⟨rfl, hi⟩
  · rintro ⟨rfl, hi⟩
    have := day_unit (setB_mem h hi)
    exact ⟨S, hi, this.1, this.2⟩
theorem itv_iff {F : Fam} (h : FOK F) {S T : Int} (hST : S ≤ T) : inF F S T ↔ (∃ r ∈ itvF F, r.1 ≤ S ∧ T ≤ r.2) ∨ (S = T ∧ memR (dayF F) S) := by
  constructor
  · rintro ⟨x, y, hh, h1, h2⟩
    cases F with
    | units k s =>
      by_cases k0 : k = 0
      · subst k0
        obtain ⟨e, m⟩ := (has_day h x y).1 hh
        have : S = x := by omega
        refine .inr ⟨by omega, ?_⟩
        simp only [dayF]
        simp only [if_true]
        rw [this]
        exact m
      · refine .inl ⟨(x, y), ?_, h1, h2⟩
        simp only [itvF]
        rw [if_neg k0]
        exact (mem_pairs h x y).2 hh
    | span s e =>
      have h0 : 0 < s.length := by
        rcases Nat.eq_zero_or_pos s.length with q | q
        · exact absurd ⟨x, y, hh, h1, h2⟩ (inF_none h (by rw [emptyF_s]; simpa using q) S T)
        · exact q
      have := (inF_span h h0 S T).1 ⟨x, y, hh, h1, h2⟩
      refine .inl ⟨(leastR s, greatR e), ?_, this.1, this.2⟩
      simp only [itvF]
      rw [if_neg (by omega)]
      exact List.mem_singleton.2 rfl
  · rintro (⟨r, hr, h1, h2⟩ | ⟨e, m⟩)
    · exact ⟨_, _, itv_has h hr, h1, h2⟩
    · cases F with
      | units k s =>
        by_cases k0 : k = 0
        · subst k0
          simp only [dayF] at m
          simp only [if_true] at m
          exact ⟨S, S, (has_day h S S).2 ⟨rfl, m⟩, Int.le_refl _, by omega⟩
        · simp only [dayF] at m
          rw [if_neg k0] at m
          exact absurd m (memR_nil _)
      | span s e => exact absurd m (memR_nil _)
noncomputable def rawI (m : List LF) : List R := m.flatMap fun f => itvF (famR f)
noncomputable def rawD (m : List LF) : List R := m.flatMap fun f => dayF (famR f)
theorem memR_flat {α : Type} (l : List α) (f : α → List R) (n : Int) : memR (l.flatMap f) n ↔ ∃ x ∈ l, memR (f x) n := by
  induction l with
  | nil => simp [memR]
  | cons a t ih =>
    rw [List.flatMap_cons, memR_append, ih]
    simp
theorem raw_iff (m : List LF) {S T : Int} (hST : S ≤ T) : inL m S T ↔ (∃ r ∈ rawI m, r.1 ≤ S ∧ T ≤ r.2) ∨ (S = T ∧ memR (rawD m) S) := by
  unfold inL rawI rawD
  rw [memR_flat]
  constructor
  · rintro ⟨_, f, hf, g⟩
    rcases (itv_iff (famR_ok f) hST).1 g with ⟨r, hr, h1, h2⟩ | ⟨e, q⟩
    · exact .inl ⟨r, List.mem_flatMap.2 ⟨f, hf, hr⟩, h1, h2⟩
    · exact .inr ⟨e, f, hf, q⟩
  · rintro (⟨r, hr, h1, h2⟩ | ⟨e, f, hf, q⟩)
    · obtain ⟨f, hf, hr⟩ := List.mem_flatMap.1 hr
      exact ⟨hST, f, hf, (itv_iff (famR_ok f) hST).2 (.inl ⟨r, hr, h1, h2⟩)⟩
    · exact ⟨hST, f, hf, (itv_iff (famR_ok f) hST).2 (.inr ⟨e, q⟩)⟩
theorem rawI_in {m : List LF} {r : R} (h : r ∈ rawI m) : 0 ≤ r.1 ∧ r.1 ≤ r.2 ∧ r.2 ≤ 3652424 := by
  obtain ⟨f, hf, hr⟩ := List.mem_flatMap.1 h
  have := hasF_le (famR_ok f) (itv_has (famR_ok f) hr)
  omega
/-- the intervals that lie inside no other one -/
def lgS (K : List R) (r : R) : List R := if K = [] then [r] else if (K.getLastD (0, 0)).2 < r.2 then K ++ [r] else K
def longR (l : List R) : List R := l.foldl lgS []
theorem long_snoc (l : List R) (r : R) : longR (l ++ [r]) = lgS (longR l) r := by simp [longR]
def leLo (a b : R) : Prop := a.1 < b.1 ∨ a.1 = b.1 ∧ b.2 ≤ a.2
theorem lgS_len (K : List R) (r : R) : (lgS K r).length ≤ K.length + 1 := by
  unfold lgS
  split
  · simp
  · split
    · simp
    · omega
theorem long_len (l : List R) : (longR l).length ≤ l.length := by
  induction l using snoc_ind with
  | h0 => simp [longR]
  | h1 l r ih => rw [long_snoc]; have := lgS_len (longR l) r; simp; omega
structure KeptOk (raw K : List R) : Prop where
  sub : ∀ r ∈ K, r ∈ raw
  cov : ∀ r ∈ raw, ∃ q ∈ K, q.1 ≤ r.1 ∧ r.2 ≤ q.2
  up : K.Pairwise fun a b => a.1 ≤ b.1
  len : K.length ≤ raw.length
theorem long_ok : ∀ (l : List R), l.Pairwise leLo → KeptOk l (longR l) ∧ ∀ q ∈ longR l, q.2 ≤ ((longR l).getLastD (0, 0)).2 := by
  intro l
  induction l using snoc_ind with
  | h0 => intro _; exact ⟨⟨fun r h => (by simp [longR] at h), fun r h => (by cases h), (by simp [longR]), (by simp [longR])⟩, fun q h => (by simp [longR] at h)⟩
  | h1 l r ih =>
    intro hp
    rw [List.pairwise_append] at hp
    obtain ⟨p1, _, p3⟩ := hp
    have p4 : ∀ a ∈ l, a.1 ≤ r.1 := fun a ha => by
      have := p3 a ha r (List.mem_singleton.2 rfl)
      unfold leLo at this
      omega
    obtain ⟨⟨s, c, u, n⟩, g⟩ := ih p1
    have hl := long_len (l ++ [r])
    rw [long_snoc] at hl ⊢
    unfold lgS at hl ⊢
    by_cases h0 : longR l = []
    · rw [if_pos h0] at hl ⊢
      refine ⟨⟨fun q hq => ?_, fun q hq => ?_, List.pairwise_singleton _ _, hl⟩, fun q hq => ?_⟩
      · rw [List.mem_singleton.1 hq]; simp
      · rcases List.mem_append.1 hq with hq | hq
        · obtain ⟨x, hx, _⟩ := c q hq
          rw [h0] at hx; cases hx
        · rw [List.mem_singleton.1 hq]; exact ⟨r, by simp, Int.le_refl _, Int.le_refl _⟩
      · rw [List.mem_singleton.1 hq]; simp
    · rw [if_neg h0] at hl ⊢
      by_cases h1 : ((longR l).getLastD (0, 0)).2 < r.2
      · rw [if_pos h1] at hl ⊢
        refine ⟨⟨fun q hq => ?_, fun q hq => ?_, ?_, hl⟩, fun q hq => ?_⟩
        · rcases List.mem_append.1 hq with hq | hq
          · exact List.mem_append_left _ (s q hq)
          · exact List.mem_append_right _ hq
        · rcases List.mem_append.1 hq with hq | hq
          · obtain ⟨x, hx, e⟩ := c q hq
            exact ⟨x, List.mem_append_left _ hx, e⟩
          · rw [List.mem_singleton.1 hq]; exact ⟨r, by simp, Int.le_refl _, Int.le_refl _⟩
        · rw [List.pairwise_append]
          refine ⟨u, List.pairwise_singleton _ _, fun a ha b hb => ?_⟩
          rw [List.mem_singleton.1 hb]
          exact p4 a (s a ha)
        · have e : (longR l ++ [r]).getLastD (0, 0) = r := by simp
          rw [e]
          rcases List.mem_append.1 hq with hq | hq
          · have := g q hq; omega
          · rw [List.mem_singleton.1 hq]; exact Int.le_refl _
      · rw [if_neg h1] at hl ⊢
        refine ⟨⟨fun q hq => List.mem_append_left _ (s q hq), fun q hq => ?_, u, hl⟩, g⟩
        rcases List.mem_append.1 hq with hq | hq
        · exact c q hq
        · rw [List.mem_singleton.1 hq]
          refine ⟨(longR l).getLastD (0, 0), ?_, ?_, by omega⟩
          · rcases snoc_cases (longR l) with h | ⟨b, q, h⟩
            · exact absurd h h0
            · rw [h]; simp
          · refine p4 _ (s _ ?_)
            rcases snoc_cases (longR l) with h | ⟨b, q, h⟩
            · exact absurd h h0
            · rw [h]; simp
theorem KeptOk.perm {raw raw' K : List R} (h : KeptOk raw K) (e : ∀ r, r ∈ raw ↔ r ∈ raw') (n : raw.length = raw'.length) : KeptOk raw' K :=
  ⟨fun r hr => (e r).1 (h.sub r hr), fun r hr => h.cov r ((e r).2 hr), h.up, by have := h.len; omega⟩
/-- inside the bounds -/
def inK (K D : List R) (S T : Int) : Prop := (∃ r ∈ K, r.1 ≤ S ∧ T ≤ r.2) ∨ (S = T ∧ memR D S)
theorem inK_iff {m : List LF} {K : List R} (h : KeptOk (rawI m) K) {S T : Int} (hST : S ≤ T) : inK K (diffR (rawD m) (nf K)) S T ↔ inL m S T := by
  rw [raw_iff m hST]
  unfold inK
  rw [diffR_mem, nf_mem]
  constructor
  · rintro (⟨r, hr, h1, h2⟩ | ⟨e, h1, h2⟩)
    · exact .inl ⟨r, h.sub r hr, h1, h2⟩
    · exact .inr ⟨e, h1⟩
  · rintro (⟨r, hr, h1, h2⟩ | ⟨e, h1⟩)
    · obtain ⟨q, hq, a, b⟩ := h.cov r hr
      exact .inl ⟨q, hq, by omega, by omega⟩
    · by_cases c : memR K S
      · obtain ⟨r, hr, a, b, _⟩ := c
        exact .inl ⟨r, hr, a, by omega⟩
      · exact .inr ⟨e, h1, c⟩
end Go.Proofs.YtjdnejglapnbbaaGreatDoor
