/-
  Layer 22, pure: the leaves that are left.
-/
import Derived.Test.YtjdnejglapnbbaaGreatDoorNwP
namespace Go.Proofs.YtjdnejglapnbbaaGreatDoor
open Go.RowKit
set_option linter.unusedVariables false
set_option linter.unusedSimpArgs false
theorem unit_long {k i : Int} (k0 : k ≠ 0) (h : 0 ≤ i) (h' : i < cnt k) : fst k i < lst k i := by
  obtain ⟨a1, a2, a3, a4, a5⟩ := months h h' k0
  have m := mon_lt _ _ a1 a2
  omega
theorem sane_sub {l m : List R} (h : sane l) (g : List.Sublist m l) : sane m :=
  sane_pw.2 ⟨fun r hr => (sane_pw.1 h).1 r (g.subset hr), (sane_pw.1 h).2.sublist g⟩
theorem memR_sub {l m : List R} (g : ∀ r ∈ m, r ∈ l) {n : Int} (h : memR m n) : memR l n := by
  obtain ⟨r, hr, h⟩ := h
  exact ⟨r, g r hr, h⟩
theorem hasL_append (l m : List LF) (S T : Int) : hasL (l ++ m) S T = (hasL l S T || hasL m S T) := by simp [hasL]
theorem hasL_flat {α : Type} (l : List α) (f : α → List LF) (S T : Int) : hasL (l.flatMap f) S T = true ↔ ∃ x ∈ l, hasL (f x) S T = true := by
  unfold hasL
  simp [List.any_eq_true, List.mem_flatMap]
/-- a set's units in leaves of four hundred runs -/
def chunkR (k : Int) (s : List R) (j : Nat) : LF := ⟨false, k, (s.drop (400 * j)).take 400, []⟩
def chunksN (k : Int) (s : List R) (n : Nat) : List LF := (List.range n).map (chunkR k s)
def chunksR (k : Int) (s : List R) : List LF := chunksN k s ((s.length + 399) / 400)
theorem chunks_next (k : Int) (s : List R) (n : Nat) : chunksN k s (n + 1) = chunksN k s n ++ [chunkR k s n] := by simp [chunksN, List.range_succ]
theorem chunk_sub (k : Int) (s : List R) (j : Nat) : List.Sublist (chunkR k s j).a s := (List.take_sublist _ _).trans (List.drop_sublist _ _)
theorem chunk_len (k : Int) (s : List R) (j : Nat) : (chunkR k s j).a.length ≤ 400 := by unfold chunkR; simp; omega
theorem chunk_mem {k : Int} {s : List R} {f : LF} (h : f ∈ chunksR k s) : ∃ j, f = chunkR k s j ∧ 0 < f.a.length := by
  unfold chunksR chunksN at h
  obtain ⟨j, hj, rfl⟩ := List.mem_map.1 h
  have := List.mem_range.1 hj
  refine ⟨j, rfl, ?_⟩
  unfold chunkR
  simp
  omega
theorem chunk_has (k : Int) {s : List R} {n : Int} (h : memR s n) : ∃ f ∈ chunksR k s, memR f.a n := by
  obtain ⟨r, hr, g⟩ := h
  obtain ⟨i, hi, e⟩ := List.mem_iff_getElem.1 hr
  refine ⟨chunkR k s (i / 400), List.mem_map.2 ⟨_, List.mem_range.2 (by omega), rfl⟩, r, ?_, g⟩
  unfold chunkR
  simp only
  refine List.mem_iff_getElem.2 ⟨i % 400, by simp; omega, ?_⟩
  rw [List.getElem_take, List.getElem_drop]
  simp only [show 400 * (i / 400) + i % 400 = i by omega]
  exact e
theorem setB_sub {k : Int} {s m : List R} (h : setB k s = true) (g : List.Sublist m s) : setB k m = true :=
  setB_of (sane_sub (setB_sane h) g) fun n hn => setB_mem h (memR_sub (fun r hr => g.subset hr) hn)
theorem chunk_fam {k : Int} {s : List R} (h : setB k s = true) {f : LF} (hf : f ∈ chunksR k s) : leafB f = true ∧ f.sp = false ∧ famR f = .units k f.a ∧ setB k f.a = true ∧ List.Sublist f.a s ∧ 0 < f.a.length ∧ f.a.length ≤ 400 ∧ f.b = [] ∧ f.u = k := by
  obtain ⟨j, rfl, h0⟩ := chunk_mem hf
  have hs := setB_sub h (chunk_sub k s j)
  have hc := setB_pos hs h0
  have hl : leafB (chunkR k s j) = true := by
    unfold leafB
    rw [if_neg (by simp [chunkR])]
    rw [show setB (chunkR k s j).u (chunkR k s j).a = true from hs]
    simp [chunkR, hc]
  exact ⟨hl, rfl, famR_units hl rfl, hs, chunk_sub k s j, h0, chunk_len k s j, rfl, rfl⟩
theorem chunks_has {k : Int} {s : List R} (h : setB k s = true) (S T : Int) : hasL (chunksR k s) S T = true ↔ hasF (.units k s) S T = true := by
  rw [hasF_units h]
  unfold hasL
  rw [List.any_eq_true]
  constructor
  · rintro ⟨f, hf, g⟩
    obtain ⟨_, _, e, hs, sb, _⟩ := chunk_fam h hf
    rw [e, hasF_units hs] at g
    obtain ⟨i, hi, g⟩ := g
    exact ⟨i, memR_sub (fun r hr => sb.subset hr) hi, g⟩
  · rintro ⟨i, hi, g⟩
    obtain ⟨f, hf, hm⟩ := chunk_has k hi
    obtain ⟨_, _, e, hs, _⟩ := chunk_fam h hf
    exact ⟨f, hf, by rw [e, hasF_units hs]; exact ⟨i, hm, g⟩⟩
/-- a leaf that may be left -/
structure GLf (f : LF) : Prop where
  ok : leafB f = true
  full : emptyF (famR f) = false
  st : startsB (famR f) = true
  en : endsB (famR f) = true
  na : f.a.length ≤ 1000
  nb : f.b.length ≤ 1000
theorem edgB_sub {k : Int} {a c : List R} (ha : setB k a = true) (hc : setB k c = true) (sb : ∀ n, memR c n → memR a n) (k0 : k ≠ 0) (h : edgB k a = true) : edgB k c = true := by
  unfold edgB at h ⊢
  rw [if_neg k0, decide_eq_true_eq, setB_units ha] at h
  rw [if_neg k0, decide_eq_true_eq, setB_units hc]
  refine Nat.le_trans (nodup_le (l := nums c) (m := nums a) ?_ ?_) h
  · exact (nums_lt (setB_sane hc)).imp (fun hab => by omega)
  · intro x hx
    exact (nums_mem (sane_ok (setB_sane ha))).2 (sb x ((nums_mem (sane_ok (setB_sane hc))).1 hx))
theorem chunk_good {k : Int} {a s : List R} (ha : setB k a = true) (h : setB k s = true) (sb : ∀ n, memR s n → memR a n) (he : k ≠ 0 → edgB k a = true) {f : LF} (hf : f ∈ chunksR k s) : GLf f := by
  obtain ⟨hl, _, e, hs, sb2, h0, h4, hb, _⟩ := chunk_fam h hf
  have ed : edgB k f.a = true := by
    by_cases k0 : k = 0
    · subst k0; exact edgB_day h4
    · exact edgB_sub ha hs (fun n hn => sb n (memR_sub (fun r hr => sb2.subset hr) hn)) k0 (he k0)
  refine ⟨hl, ?_, ?_, ?_, by omega, by rw [hb]; simp⟩
  · rw [e, emptyF_u]; simp; intro q; rw [q] at h0; simp at h0
  · rw [e]; exact ed
  · rw [e]; exact ed
/-- what of a span lies inside an interval -/
def cutLF (s e : List R) (r : R) : LF := ⟨true, 0, interR s [r], interR e [r]⟩
def partG (s e : List R) (r : R) : LF := lfOf (famR (cutLF s e r))
def partF (s e : List R) (r : R) : List LF := if emptyF (famR (cutLF s e r)) = true then [] else [partG s e r]
theorem inter_one (s : List R) (lo hi' n : Int) : memR (interR s [(lo, hi')]) n ↔ memR s n ∧ lo ≤ n ∧ n ≤ hi' := by
  rw [interR_mem, memR_one]
  constructor
  · rintro ⟨h, a, b, _⟩; exact ⟨h, a, b⟩
  · rintro ⟨h, a, b⟩
    obtain ⟨r, _, _, _, c, d⟩ := id h
    exact ⟨h, a, b, c, d⟩
theorem setB_inter {k : Int} {s : List R} (h : setB k s = true) (m : List R) : setB k (interR s m) = true :=
  setB_of (interR_sane _ _) fun n hn => setB_mem h ((interR_mem _ _ _).1 hn).1
theorem cut_ok {s e : List R} (hs : setB 0 s = true) (he : setB 0 e = true) (r : R) : leafB (cutLF s e r) = true := by
  unfold leafB
  rw [if_pos (by rfl)]
  rw [show setB 0 (cutLF s e r).a = true from setB_inter hs _, show setB 0 (cutLF s e r).b = true from setB_inter he _]
  rfl
theorem cut_has {s e : List R} (hs : setB 0 s = true) (he : setB 0 e = true) (r : R) (S T : Int) : hasF (famR (cutLF s e r)) S T = true ↔ hasF (.span s e) S T = true ∧ r.1 ≤ S ∧ T ≤ r.2 := by
  rw [hasF_sp (cut_ok hs he r) rfl, hasF_span (setB_sane hs) (setB_sane he)]
  obtain ⟨lo, hi'⟩ := r
  unfold cutLF
  simp only
  rw [inter_one, inter_one]
  constructor
  · rintro ⟨h, ⟨a, b, c⟩, d, f, g⟩; exact ⟨⟨h, a, d⟩, b, g⟩
  · rintro ⟨⟨h, a, d⟩, b, g⟩; exact ⟨h, ⟨a, b, by omega⟩, d, by omega, g⟩
theorem part_has {s e : List R} (hs : setB 0 s = true) (he : setB 0 e = true) (r : R) (S T : Int) : hasL (partF s e r) S T = true ↔ hasF (.span s e) S T = true ∧ r.1 ≤ S ∧ T ≤ r.2 := by
  rw [← cut_has hs he]
  unfold partF
  by_cases h0 : emptyF (famR (cutLF s e r)) = true
  · rw [if_pos h0, (empty_iff (famR_ok _)).1 h0]
    simp [hasL]
  · rw [if_neg h0]
    unfold hasL partG
    simp [hasF_tidy (famR_ok _)]
theorem part_none {s e : List R} (hs : setB 0 s = true) (he : setB 0 e = true) (r : R) (h : ∀ S T, hasF (.span s e) S T = true → r.1 ≤ S → T ≤ r.2 → False) : emptyF (famR (cutLF s e r)) = true := by
  refine (empty_iff (famR_ok _)).2 fun S T => ?_
  rcases Bool.eq_false_or_eq_true (hasF (famR (cutLF s e r)) S T) with q | q
  · have := (cut_has hs he r S T).1 q
    exact absurd (h S T this.1 this.2.1 this.2.2) id
  · exact q
theorem interR_le (s : List R) (r : R) : (interR s [r]).length ≤ s.length := by
  have := interR_bd (a := s) (b := [r]) (p := s.length) (q := 1) (Nat.le_refl _) (by simp)
  omega
theorem famR_cut_span {s e : List R} (hs : setB 0 s = true) (he : setB 0 e = true) (r : R) : ∃ a b, famR (cutLF s e r) = .span a b ∧ a.length ≤ s.length ∧ b.length ≤ e.length := by
  have hl := cut_ok hs he r
  have a1 := interR_le s r
  have b1 := interR_le e r
  by_cases h0 : (cutLF s e r).a.length = 0 ∨ (cutLF s e r).b.length = 0
  · exact ⟨[], [], famR_none hl rfl h0, by simp, by simp⟩
  · exact ⟨_, _, famR_span hl rfl h0, Nat.le_trans (interR_le _ _) a1, Nat.le_trans (interR_le _ _) b1⟩
theorem part_good {s e : List R} (hs : setB 0 s = true) (he : setB 0 e = true) (ns : s.length ≤ 400) (ne : e.length ≤ 400) (r : R) {f : LF} (hf : f ∈ partF s e r) : GLf f ∧ f.a.length ≤ s.length ∧ f.b.length ≤ e.length ∧ famR f = .span f.a f.b := by
  unfold partF at hf
  by_cases h0 : emptyF (famR (cutLF s e r)) = true
  · rw [if_pos h0] at hf; cases hf
  · rw [if_neg h0, List.mem_singleton] at hf
    obtain ⟨a, b, e1, n1, n2⟩ := famR_cut_span hs he r
    have ok := famR_ok (cutLF s e r)
    have hfam : famR f = .span a b := by
      rw [hf, partG, famR_lfOf ok, if_neg h0, e1]
    have hlf : f = ⟨true, 0, a, b⟩ := by
      rw [hf, partG, e1]
      refine lfOf_s1 fun q => h0 ?_
      rw [e1, emptyF_s]
      simpa using q
    have hlb : leafB f = true := by rw [hf]; exact leafB_lfOf ok
    refine ⟨⟨hlb, ?_, ?_, ?_, ?_, ?_⟩, ?_, ?_, ?_⟩
    · rw [hfam, ← e1]; simpa using h0
    · rw [hfam]; simp [startsB]; omega
    · rw [hfam]; simp [endsB]; omega
    · rw [hlf]; simp only; omega
    · rw [hlf]; simp only; omega
    · rw [hlf]; exact n1
    · rw [hlf]; exact n2
    · rw [hfam, hlf]
/-- of a leaf's units those that lie within the bounds -/
noncomputable def unsR (K D : List R) (g : LF) : List R := if g.u = 0 then interR g.a (nf (K ++ D)) else interR g.a (K.flatMap fun r => insR g.u r.1 r.2)
noncomputable def outT (K D : List R) (g : LF) : List LF := if g.sp = true then chunksR 0 (interR (interR g.a g.b) D) ++ K.flatMap (partF g.a g.b) else chunksR g.u (unsR K D g)
noncomputable def outF (K D : List R) (f : LF) : List LF := outT K D (lfOf (famR f))
noncomputable def leftL (K D : List R) (l : List LF) : List LF := l.flatMap (outF K D)
def inDays (K : List R) : Prop := ∀ r ∈ K, 0 ≤ r.1 ∧ r.1 ≤ r.2 ∧ r.2 ≤ 3652424
theorem inDays_mem {K : List R} (h : inDays K) (n : Int) : memR K n ↔ ∃ r ∈ K, r.1 ≤ n ∧ n ≤ r.2 := by
  constructor
  · rintro ⟨r, hr, a, b, _⟩; exact ⟨r, hr, a, b⟩
  · rintro ⟨r, hr, a, b⟩
    have := h r hr
    exact ⟨r, hr, a, b, by omega, by omega⟩
theorem unit_out {K D : List R} (hK : inDays K) {k : Int} {s : List R} (h : setB k s = true) (S T : Int) : hasL (chunksR k (unsR K D ⟨false, k, s, []⟩)) S T = true ↔ hasF (.units k s) S T = true ∧ inK K D S T := by
  have hu : setB k (unsR K D ⟨false, k, s, []⟩) = true := by
    unfold unsR
    split
    · exact setB_inter h _
    · exact setB_inter h _
  rw [chunks_has hu]
  by_cases k0 : k = 0
  · subst k0
    rw [has_day hu, has_day h]
    unfold unsR inK
    simp only [if_true]
    rw [interR_mem, nf_mem, memR_append, inDays_mem hK]
    constructor
    · rintro ⟨rfl, m, q⟩; exact ⟨⟨rfl, m⟩, q.imp id fun q => ⟨rfl, q⟩⟩
    · rintro ⟨⟨rfl, m⟩, q⟩; exact ⟨rfl, m, q.imp id fun q => q.2⟩
  · rw [hasF_units hu, hasF_units h]
    unfold unsR inK
    simp only [if_neg k0]
    constructor
    · rintro ⟨i, hi, rfl, rfl⟩
      obtain ⟨h1, h2⟩ := (interR_mem _ _ _).1 hi
      obtain ⟨r, hr, hm⟩ := (memR_flat _ _ _).1 h2
      have := (insR_mem _ _ _ _).1 hm
      exact ⟨⟨i, h1, rfl, rfl⟩, .inl ⟨r, hr, this.2.1, this.2.2⟩⟩
    · rintro ⟨⟨i, hi, rfl, rfl⟩, q⟩
      have bd := setB_mem h hi
      rcases q with ⟨r, hr, a, b⟩ | ⟨q, _⟩
      · exact ⟨i, (interR_mem _ _ _).2 ⟨hi, (memR_flat _ _ _).2 ⟨r, hr, (insR_mem _ _ _ _).2 ⟨okU_of bd.1 bd.2, a, b⟩⟩⟩, rfl, rfl⟩
      · have := unit_long k0 bd.1 bd.2
        omega
theorem span_out {K D : List R} {s e : List R} (h : FOK (.span s e)) (S T : Int) : hasL (chunksR 0 (interR (interR s e) D) ++ K.flatMap (partF s e)) S T = true ↔ hasF (.span s e) S T = true ∧ inK K D S T := by
  have hu : setB 0 (interR (interR s e) D) = true := setB_inter (setB_inter h.1 _) _
  rw [hasL_append, Bool.or_eq_true, chunks_has hu, has_day hu, hasL_flat, interR_mem, interR_mem]
  unfold inK
  constructor
  · rintro (⟨rfl, ⟨a, b⟩, c⟩ | ⟨r, hr, q⟩)
    · exact ⟨(hasF_span (setB_sane h.1) (setB_sane h.2.1) _ _).2 ⟨Int.le_refl _, a, b⟩, .inr ⟨rfl, c⟩⟩
    · have := (part_has h.1 h.2.1 r S T).1 q
      exact ⟨this.1, .inl ⟨r, hr, this.2⟩⟩
  · rintro ⟨g, ⟨r, hr, q⟩ | ⟨rfl, q⟩⟩
    · exact .inr ⟨r, hr, (part_has h.1 h.2.1 r S T).2 ⟨g, q⟩⟩
    · have := (hasF_span (setB_sane h.1) (setB_sane h.2.1) _ _).1 g
      exact .inl ⟨rfl, ⟨this.2.1, this.2.2⟩, q⟩
theorem out_none (K D : List R) (hK : inDays K) (S T : Int) : hasL (outT K D lf0) S T = false := by
  have := unit_out (D := D) hK (setB_nil 0) S T
  rcases Bool.eq_false_or_eq_true (hasL (outT K D lf0) S T) with q | q
  · unfold outT lf0 at q
    rw [if_neg (by simp)] at q
    have := (this.1 q).1
    rw [has_day (setB_nil 0)] at this
    exact absurd this.2 (memR_nil _)
  · exact q
theorem out_has {K D : List R} (hK : inDays K) (f : LF) (S T : Int) : hasL (outF K D f) S T = true ↔ hasF (famR f) S T = true ∧ inK K D S T := by
  have ok := famR_ok f
  unfold outF
  revert ok
  generalize famR f = F
  intro ok
  by_cases h0 : emptyF F = true
  · rw [lfOf_none h0, out_none K D hK, (empty_iff ok).1 h0]
    simp
  · cases F with
    | units k s =>
      rw [lfOf_u1 (by rw [emptyF_u] at h0; simpa using h0)]
      unfold outT
      rw [if_neg (by simp)]
      exact unit_out hK ok S T
    | span s e =>
      rw [lfOf_s1 (by rw [emptyF_s] at h0; simpa using h0)]
      unfold outT
      rw [if_pos rfl]
      exact span_out ok S T
theorem left_has {K D : List R} (hK : inDays K) (l : List LF) (S T : Int) : hasL (leftL K D l) S T = true ↔ hasL l S T = true ∧ inK K D S T := by
  unfold leftL
  rw [hasL_flat]
  unfold hasL
  rw [List.any_eq_true]
  constructor
  · rintro ⟨f, hf, g⟩
    have := (out_has hK f S T).1 g
    exact ⟨⟨f, hf, this.1⟩, this.2⟩
  · rintro ⟨⟨f, hf, g⟩, q⟩
    exact ⟨f, hf, (out_has hK f S T).2 ⟨g, q⟩⟩
/-- have all leaves not too many starts and ends? -/
noncomputable def okE (f : LF) : Bool := startsB (famR f) && endsB (famR f)
noncomputable def okEs (l : List LF) : Bool := l.all okE
theorem out_good (K D : List R) {f : LF} (h : okE f = true) {g : LF} (hg : g ∈ outF K D f) : GLf g := by
  have ok := famR_ok f
  unfold okE at h
  unfold outF at hg
  revert ok h hg
  generalize famR f = F
  intro h hg ok
  rw [Bool.and_eq_true] at h
  by_cases h0 : emptyF F = true
  · rw [lfOf_none h0] at hg
    unfold outT lf0 at hg
    rw [if_neg (by simp)] at hg
    exact chunk_good (a := []) (setB_nil 0) (by unfold unsR; rw [if_pos rfl]; exact setB_inter (setB_nil 0) _) (fun n hn => by unfold unsR at hn; rw [if_pos rfl] at hn; exact ((interR_mem _ _ _).1 hn).1) (fun q => absurd rfl q) hg
  · cases F with
    | units k s =>
      rw [lfOf_u1 (by rw [emptyF_u] at h0; simpa using h0)] at hg
      unfold outT at hg
      rw [if_neg (by simp)] at hg
      refine chunk_good (a := s) ok ?_ ?_ (fun _ => h.1) hg
      · unfold unsR; split <;> exact setB_inter ok _
      · intro n hn
        unfold unsR at hn
        split at hn <;> exact ((interR_mem _ _ _).1 hn).1
    | span s e =>
      rw [lfOf_s1 (by rw [emptyF_s] at h0; simpa using h0)] at hg
      unfold outT at hg
      rw [if_pos rfl] at hg
      rcases List.mem_append.1 hg with hg | hg
      · exact chunk_good (a := s) ok.1 (setB_inter (setB_inter ok.1 _) _) (fun n hn => ((interR_mem _ _ _).1 ((interR_mem _ _ _).1 hn).1).1) (fun q => absurd rfl q) hg
      · obtain ⟨r, _, hr⟩ := List.mem_flatMap.1 hg
        have h1 := h.1
        have h2 := h.2
        simp [startsB] at h1
        simp [endsB] at h2
        exact (part_good ok.1 ok.2.1 h1 h2 r hr).1
theorem left_good (K D : List R) {l : List LF} (h : okEs l = true) {g : LF} (hg : g ∈ leftL K D l) : GLf g := by
  obtain ⟨f, hf, hg⟩ := List.mem_flatMap.1 hg
  exact out_good K D (List.all_eq_true.1 h f hf) hg
end Go.Proofs.YtjdnejglapnbbaaGreatDoor
