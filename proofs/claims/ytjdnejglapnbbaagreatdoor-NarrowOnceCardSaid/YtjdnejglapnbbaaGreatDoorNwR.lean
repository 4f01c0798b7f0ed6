/-
  Layer 22, pure: what Narrow answers.
-/
import Derived.Test.YtjdnejglapnbbaaGreatDoorNwQ
namespace Go.Proofs.YtjdnejglapnbbaaGreatDoor
open Go.RowKit
set_option linter.unusedVariables false
set_option linter.unusedSimpArgs false
def wideS (P : Int → Int → Prop) : Prop := ∃ s, sane s ∧ 400 < s.length ∧ ((∀ d, memR s d ↔ ∃ T, P d T) ∨ (∀ d, memR s d ↔ ∃ S, P S d))
noncomputable def stsL (L : List LF) : List R := L.flatMap fun f => startsR (famR f)
noncomputable def ensL (L : List LF) : List R := L.flatMap fun f => endsR (famR f)
noncomputable def wideB (L : List LF) : Bool := decide (400 < (nf (stsL L)).length) || decide (400 < (nf (ensL L)).length)
theorem hasL_iff (L : List LF) (S T : Int) : hasL L S T = true ↔ ∃ f ∈ L, hasF (famR f) S T = true := by unfold hasL; rw [List.any_eq_true]
theorem sts_mem {L : List LF} (h : ∀ g ∈ L, GLf g) (d : Int) : memR (stsL L) d ↔ ∃ T, hasL L d T = true := by
  unfold stsL
  rw [memR_flat]
  constructor
  · rintro ⟨f, hf, m⟩
    obtain ⟨T, q⟩ := (starts_mem (famR_ok f) (h f hf).st d).1 m
    exact ⟨T, (hasL_iff _ _ _).2 ⟨f, hf, q⟩⟩
  · rintro ⟨T, q⟩
    obtain ⟨f, hf, q⟩ := (hasL_iff _ _ _).1 q
    exact ⟨f, hf, (starts_mem (famR_ok f) (h f hf).st d).2 ⟨T, q⟩⟩
theorem ens_mem {L : List LF} (h : ∀ g ∈ L, GLf g) (d : Int) : memR (ensL L) d ↔ ∃ S, hasL L S d = true := by
  unfold ensL
  rw [memR_flat]
  constructor
  · rintro ⟨f, hf, m⟩
    obtain ⟨S, q⟩ := (ends_mem (famR_ok f) (h f hf).en d).1 m
    exact ⟨S, (hasL_iff _ _ _).2 ⟨f, hf, q⟩⟩
  · rintro ⟨S, q⟩
    obtain ⟨f, hf, q⟩ := (hasL_iff _ _ _).1 q
    exact ⟨f, hf, (ends_mem (famR_ok f) (h f hf).en d).2 ⟨S, q⟩⟩
theorem wide_iff {L : List LF} (h : ∀ g ∈ L, GLf g) {P : Int → Int → Prop} (e : ∀ S T, hasL L S T = true ↔ P S T) : wideB L = true ↔ wideS P := by
  have h1 : ∀ d, memR (nf (stsL L)) d ↔ ∃ T, P d T := fun d => by rw [nf_mem, sts_mem h]; exact exists_congr fun T => e d T
  have h2 : ∀ d, memR (nf (ensL L)) d ↔ ∃ S, P S d := fun d => by rw [nf_mem, ens_mem h]; exact exists_congr fun S => e S d
  unfold wideB
  rw [Bool.or_eq_true, decide_eq_true_eq, decide_eq_true_eq]
  constructor
  · rintro (q | q)
    · exact ⟨_, nf_sane _, q, .inl h1⟩
    · exact ⟨_, nf_sane _, q, .inr h2⟩
  · rintro ⟨s, hs, q, g | g⟩
    · left
      rw [sane_ext (nf_sane (stsL L)) hs fun d => by rw [h1, g]]
      exact q
    · right
      rw [sane_ext (nf_sane (ensL L)) hs fun d => by rw [h2, g]]
      exact q
theorem wideS_some {P : Int → Int → Prop} (h : wideS P) : ∃ S T, P S T := by
  obtain ⟨s, hs, q, g | g⟩ := h
  · obtain ⟨T, h⟩ := (g _).1 (least_mem hs (by omega)); exact ⟨_, _, h⟩
  · obtain ⟨S, h⟩ := (g _).1 (least_mem hs (by omega)); exact ⟨_, _, h⟩
theorem good_some {L : List LF} (h : ∀ g ∈ L, GLf g) (h0 : L ≠ []) : ∃ S T, hasL L S T = true := by
  cases L with
  | nil => exact absurd rfl h0
  | cons f t =>
    have hf := (h f List.mem_cons_self).full
    apply Classical.byContradiction
    intro hn
    have : emptyF (famR f) = true := (empty_iff (famR_ok f)).2 fun S T => by
      rcases Bool.eq_false_or_eq_true (hasF (famR f) S T) with q | q
      · exact absurd ⟨S, T, (hasL_iff _ _ _).2 ⟨f, List.mem_cons_self, q⟩⟩ hn
      · exact q
    rw [hf] at this
    cases this
/-- the pairs that are left -/
def leftP (l m : List LF) (S T : Int) : Prop := hasL l S T = true ∧ inL m S T
def NarP (l m : List LF) (e : Int) (L : List LF) : Prop :=
  (e = 8 ∧ L = [] ∧ ((okEs l && okEs m) = false ∨ ((okEs l && okEs m) = true ∧ wideS (leftP l m)))) ∨
  (e = 9 ∧ L = [] ∧ (okEs l && okEs m) = true ∧ ∀ S T, ¬ leftP l m S T) ∨
  (e = 0 ∧ L ≠ [] ∧ (okEs l && okEs m) = true ∧ (∀ g ∈ L, GLf g) ∧ (∀ S T, hasL L S T = true ↔ leftP l m S T) ∧ ¬ wideS (leftP l m) ∧ ∃ K, KeptOk (rawI m) K ∧ L = leftL K (diffR (rawD m) (nf K)) l)
theorem hasL_st {l : List LF} {S T : Int} (h : hasL l S T = true) : S ≤ T ∧ 0 ≤ S ∧ T ≤ 3652424 := by
  obtain ⟨f, hf, q⟩ := (hasL_iff _ _ _).1 h
  exact hasF_le (famR_ok f) q
theorem left_iff {l m : List LF} {K : List R} (h : KeptOk (rawI m) K) (S T : Int) : hasL (leftL K (diffR (rawD m) (nf K)) l) S T = true ↔ leftP l m S T := by
  rw [left_has (fun r hr => rawI_in (h.sub r hr))]
  unfold leftP
  constructor
  · rintro ⟨a, b⟩; exact ⟨a, (inK_iff h (hasL_st a).1).1 b⟩
  · rintro ⟨a, b⟩; exact ⟨a, (inK_iff h (hasL_st a).1).2 b⟩
/-- what the program answers -/
noncomputable def narE (l m : List LF) (L : List LF) : Int := if (okEs l && okEs m) = false then 8 else if L.length = 0 then 9 else if wideB L = true then 8 else 0
noncomputable def narL (l m : List LF) (L : List LF) : List LF := if narE l m L = 0 then L else []
theorem nar_told {l m : List LF} {K : List R} (h : KeptOk (rawI m) K) : NarP l m (narE l m (leftL K (diffR (rawD m) (nf K)) l)) (narL l m (leftL K (diffR (rawD m) (nf K)) l)) := by
  have HI := left_iff (l := l) h
  have HG : okEs l = true → ∀ g ∈ leftL K (diffR (rawD m) (nf K)) l, GLf g := fun ok g hg => left_good _ _ ok hg
  have HE : ∃ K', KeptOk (rawI m) K' ∧ leftL K (diffR (rawD m) (nf K)) l = leftL K' (diffR (rawD m) (nf K')) l := ⟨K, h, rfl⟩
  revert HI HG HE
  generalize leftL K (diffR (rawD m) (nf K)) l = L
  intro HI HG HE
  unfold narL narE
  by_cases c : (okEs l && okEs m) = false
  · rw [if_pos c]
    exact .inl ⟨rfl, by simp, .inl c⟩
  rw [if_neg c]
  have c' : (okEs l && okEs m) = true := by simpa using c
  have HG := HG (Bool.and_eq_true _ _ ▸ c').1
  by_cases n : L.length = 0
  · rw [if_pos n]
    have : L = [] := List.length_eq_zero_iff.1 n
    subst this
    refine .inr (.inl ⟨rfl, by simp, c', fun S T q => ?_⟩)
    have := (HI S T).2 q
    simp [hasL] at this
  rw [if_neg n]
  have hne : L ≠ [] := fun e => n (by rw [e]; rfl)
  by_cases w : wideB L = true
  · rw [if_pos w]
    exact .inl ⟨rfl, by simp, .inr ⟨c', (wide_iff HG HI).1 w⟩⟩
  · rw [if_neg w]
    exact .inr (.inr ⟨rfl, by simpa using hne, c', by simpa using HG, by simpa using HI, fun q => w ((wide_iff HG HI).2 q), by simpa using HE⟩)
end Go.Proofs.YtjdnejglapnbbaaGreatDoor
