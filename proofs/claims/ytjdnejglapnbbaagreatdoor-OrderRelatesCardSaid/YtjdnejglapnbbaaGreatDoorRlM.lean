import Derived.Test.YtjdnejglapnbbaaGreatDoorRlP
import Derived.Test.YtjdnejglapnbbaaGreatDoorGEnv
import Derived.Test.YtjdnejglapnbbaaGreatDoorGImgC
import Derived.Test.YtjdnejglapnbbaaGreatDoorGJg
namespace Go.Proofs.YtjdnejglapnbbaaGreatDoor
set_option linter.unusedVariables false
set_option linter.unusedSimpArgs false
abbrev LO := Bool × List R × List R
noncomputable def dyF (f : LF) : List R := if fullB f = true ∧ f.sp = false ∧ f.u = 0 then startsR (famR f) else []
noncomputable def prF (u : Int) (f : LF) : List R := if fullB f = true ∧ f.sp = false ∧ f.u = u ∧ u ≠ 0 then pairsF (famR f) else []
noncomputable def lsF (f : LF) : List LO := if fullB f = true ∧ f.sp = true then [(false, startsR (famR f), endsR (famR f))] else []
noncomputable def dyL (l : List LF) : List R := l.flatMap dyF
noncomputable def prL (l : List LF) (u : Int) : List R := l.flatMap (prF u)
noncomputable def lsL (l : List LF) : List LO := l.flatMap lsF
theorem full_leaf {f : LF} (h : fullB f = true) : leafB f = true := by
 rcases Bool.eq_false_or_eq_true (leafB f) with g | g
 ·exact g
 ·unfold fullB at h
  rw [famR_no g] at h
  exact absurd h (by decide)
theorem full_units {f : LF} (h : fullB f = true) (hs : f.sp = false) : famR f = .units f.u f.a ∧ 0 < cnt f.u ∧ setB f.u f.a = true := by
 have g := full_leaf h
 exact ⟨famR_units g hs, (leafB_units g hs).1, (leafB_units g hs).2.1⟩
theorem full_span {f : LF} (h : fullB f = true) (hs : f.sp = true) : ∃ s e, famR f = .span s e ∧ 0 < s.length := by
 have g := full_leaf h
 unfold fullB at h
 by_cases h0 : f.a.length = 0 ∨ f.b.length = 0
 ·rw [famR_none g hs h0] at h
  exact absurd h (by decide)
 ·rw [famR_span g hs h0] at h ⊢
  refine ⟨_, _, rfl, ?_⟩
  rw [emptyF_s] at h
  refine Nat.pos_of_ne_zero fun e => ?_
  rw [decide_eq_true e] at h
  cases h
theorem nums_sing (l : List Int) : nums (sing l) = l := by
 unfold nums sing
 rw [List.flatMap_map]
 have : ∀ n : Int, runF (n, n) = [n] := fun n => by
  unfold runF
  rw [show ((n, n) : R).2 - ((n, n) : R).1 + 1 = 1 by simp]
  simp [upF]
 simp [this]
theorem nums_edges {f : LF} (h : fullB f = true) (hs : f.sp = false) (hu : f.u ≠ 0) (hb : startsB (famR f) = true) :
  nums (startsR (famR f)) = (nums f.a).map (firV f.u) ∧ nums (endsR (famR f)) = (nums f.a).map (lasV f.u) ∧ (nums f.a).length ≤ 400 := by
 obtain ⟨e, _, sb⟩ := full_units h hs
 rw [e] at hb ⊢
 have hb' : edgB f.u f.a = true := hb
 refine ⟨?_, ?_, ?_⟩
 ·show nums (edgR (firV f.u) f.u f.a) = _
  rw [edgR_fir, if_pos hb', if_neg hu, setB_units sb, nums_sing]
 ·show nums (edgR (lasV f.u) f.u f.a) = _
  rw [edgR_las, if_pos hb', if_neg hu, setB_units sb, nums_sing]
 ·unfold edgB at hb'
  rw [if_neg hu, setB_units sb] at hb'
  simpa using hb'
theorem zip_pairs {f : LF} (h : fullB f = true) (hs : f.sp = false) (hu : f.u ≠ 0) (hb : startsB (famR f) = true) :
  zipR (nums (startsR (famR f))) (nums (endsR (famR f))) = pairsF (famR f) ∧ (pairsF (famR f)).length ≤ 400 ∧ (nums (startsR (famR f))).length ≤ 400 ∧ (nums (endsR (famR f))).length = (nums (startsR (famR f))).length := by
 obtain ⟨e1, e2, e3⟩ := nums_edges h hs hu hb
 obtain ⟨e, _, _⟩ := full_units h hs
 have e4 : pairsF (famR f) = (nums f.a).map fun i => (firV f.u i, lasV f.u i) := by rw [e]; rfl
 rw [e1, e2, e4]
 refine ⟨?_, by simpa using e3, by simpa using e3, by simp⟩
 unfold zipR
 generalize nums f.a = l
 induction l with
 | nil => rfl
 | cons x l ih => simp only [List.map_cons, List.zip_cons_cons]; rw [ih]
theorem len_prF (u : Int) (f : LF) (hb : startsB (famR f) = true) : (prF u f).length ≤ 400 := by
 unfold prF
 split
 ·rename_i h
  obtain ⟨h1, h2, h3, h4⟩ := h
  exact (zip_pairs h1 h2 (by rw [h3]; exact h4) hb).2.1
 ·simp
theorem len_dyF (f : LF) : (dyF f).length ≤ 400 := by
 unfold dyF
 split
 ·exact starts_len _
 ·simp
theorem flat_le {α β : Type} (f : α → List β) (c : Nat) : ∀ l : List α, (∀ x ∈ l, (f x).length ≤ c) → (l.flatMap f).length ≤ c * l.length
 | [], _ => by simp
 | x :: l, h => by
  rw [List.flatMap_cons, List.length_append, List.length_cons]
  have a := h x (by simp)
  have b := flat_le f c l fun y hy => h y (by simp [hy])
  have : c * (l.length + 1) = c * l.length + c := Nat.mul_succ _ _
  omega
theorem len_prL (u : Int) (l : List LF) (hb : ∀ f ∈ l, startsB (famR f) = true) : (prL l u).length ≤ 400 * l.length := flat_le _ _ _ fun f hf => len_prF u f (hb f hf)
theorem len_dyL (l : List LF) : (dyL l).length ≤ 400 * l.length := flat_le _ _ _ fun f _ => len_dyF f
theorem len_lsL (l : List LF) : (lsL l).length ≤ 1 * l.length := flat_le _ _ _ fun f _ => by unfold lsF; split <;> simp
theorem prL_unit {u : Int} {l : List LF} {p : R} (h : p ∈ prL l u) : ∃ i, 0 ≤ i ∧ i < cnt u ∧ p = (fst u i, lst u i) ∧ hasL l p.1 p.2 = true := by
 unfold prL at h
 obtain ⟨f, hf, hp⟩ := List.mem_flatMap.1 h
 unfold prF at hp
 split at hp
 ·rename_i g
  obtain ⟨g1, g2, g3, g4⟩ := g
  obtain ⟨e, c, sb⟩ := full_units g1 g2
  have hh := (mem_pairs (famR_ok f) p.1 p.2).1 hp
  have hl : hasL l p.1 p.2 = true := List.any_eq_true.2 ⟨f, hf, hh⟩
  have h2 := hh
  rw [e, hasF_units sb] at h2
  obtain ⟨i, m, a, b⟩ := h2
  obtain ⟨i0, i1⟩ := setB_mem sb m
  rw [g3] at a b i1
  exact ⟨i, i0, i1, by rw [a, b], hl⟩
 ·cases hp
theorem prL_rise {u : Int} {l : List LF} {p q : R} (hp : p ∈ prL l u) (hq : q ∈ prL l u) (h : p.1 ≤ q.1) : p.2 ≤ q.2 := by
 obtain ⟨i, i0, i1, rfl, _⟩ := prL_unit hp
 obtain ⟨j, j0, j1, rfl, _⟩ := prL_unit hq
 simp only at h ⊢
 by_cases c : i ≤ j
 ·exact lst_mono i0 c j1
 ·have a := unit_next j0 (by omega : j < i) i1
  have b := (span_bd j0 j1).2.1
  omega
theorem prL_bd {u : Int} {l : List LF} {p : R} (h : p ∈ prL l u) : 0 ≤ p.1 ∧ p.1 ≤ p.2 ∧ p.2 ≤ 3652424 := by
 obtain ⟨_, _, _, _, g⟩ := prL_unit h
 obtain ⟨f, _, hg⟩ := List.any_eq_true.1 g
 have := hasF_le (famR_ok f) hg
 omega
theorem dyL_mem {l : List LF} (hb : ∀ f ∈ l, startsB (famR f) = true) (n : Int) : memR (dyL l) n ↔ ∃ f ∈ l, f.sp = false ∧ f.u = 0 ∧ fullB f = true ∧ hasF (famR f) n n = true := by
 have key : ∀ f ∈ l, (memR (dyF f) n ↔ f.sp = false ∧ f.u = 0 ∧ fullB f = true ∧ hasF (famR f) n n = true) := by
  intro f hf
  unfold dyF
  split
  ·rename_i g
   obtain ⟨g1, g2, g3⟩ := g
   rw [starts_mem (famR_ok f) (hb f hf)]
   obtain ⟨e, _, sb⟩ := full_units g1 g2
   constructor
   ·rintro ⟨T, hT⟩
    have h2 := hT
    rw [e, g3] at h2
    rw [g3] at sb
    rw [hasF_units sb] at h2
    obtain ⟨i, m, a, b⟩ := h2
    have e1 : fst 0 i = i := fst_zero i
    have e2 : lst 0 i = i := lst_zero i
    refine ⟨g2, g3, g1, ?_⟩
    rw [show T = n by omega] at hT
    exact hT
   ·rintro ⟨_, _, _, h⟩
    exact ⟨n, h⟩
  ·rename_i g
   constructor
   ·intro m; exact absurd m (memR_nil n)
   ·rintro ⟨a, b, c, _⟩; exact absurd ⟨c, a, b⟩ g
 have fl : ∀ m : List LF, memR (m.flatMap dyF) n ↔ ∃ f ∈ m, memR (dyF f) n := by
  intro m
  induction m with
  | nil => simp; exact memR_nil n
  | cons x m ih => rw [List.flatMap_cons, memR_append, ih]; simp
 unfold dyL
 rw [fl]
 constructor
 ·rintro ⟨f, hf, m⟩; exact ⟨f, hf, (key f hf).1 m⟩
 ·rintro ⟨f, hf, m⟩; exact ⟨f, hf, (key f hf).2 m⟩
theorem has_span {f : LF} (h : fullB f = true) (hs : f.sp = true) (hb : startsB (famR f) = true) (he : endsB (famR f) = true) (S T : Int) :
  hasF (famR f) S T = true ↔ lsP false (startsR (famR f)) (endsR (famR f)) S T := by
 obtain ⟨s, e, eq, _⟩ := full_span h hs
 have fo := famR_ok f
 rw [eq] at hb he fo ⊢
 have h1 : s.length ≤ 400 := by simpa [startsB] using hb
 have h2 : e.length ≤ 400 := by simpa [endsB] using he
 rw [hasF_span (setB_sane fo.1) (setB_sane fo.2.1), show startsR (.span s e) = s from if_pos h1, show endsR (.span s e) = e from if_pos h2]
 exact ⟨fun ⟨a, b, c⟩ => ls_mk a b c, ls_f⟩
theorem has_parts {l : List LF} (hb : ∀ f ∈ l, startsB (famR f) = true ∧ endsB (famR f) = true) (S T : Int) :
  hasL l S T = true ↔ (S = T ∧ memR (dyL l) S) ∨ (∃ u : Nat, u < 6 ∧ (S, T) ∈ prL l u) ∨ ∃ x ∈ lsL l, lsP x.1 x.2.1 x.2.2 S T := by
 unfold hasL
 rw [List.any_eq_true]
 constructor
 ·rintro ⟨f, hf, h⟩
  have fu := full_of h
  rcases Bool.eq_false_or_eq_true f.sp with hs | hs
  ·refine .inr (.inr ⟨(false, startsR (famR f), endsR (famR f)), List.mem_flatMap.2 ⟨f, hf, ?_⟩, (has_span fu hs (hb f hf).1 (hb f hf).2 S T).1 h⟩)
   unfold lsF
   rw [if_pos ⟨fu, hs⟩]
   simp
  ·by_cases hu : f.u = 0
   ·refine .inl ?_
    obtain ⟨e, _, sb⟩ := full_units fu hs
    have h2 := h
    rw [e, hu] at h2
    rw [hu] at sb
    rw [hasF_units sb] at h2
    obtain ⟨i, m, a, b⟩ := h2
    have e1 : fst 0 i = i := fst_zero i
    have e2 : lst 0 i = i := lst_zero i
    have e3 : S = T := by omega
    refine ⟨e3, (dyL_mem (fun f hf => (hb f hf).1) S).2 ⟨f, hf, hs, hu, fu, ?_⟩⟩
    rw [← e3] at h
    exact h
   ·obtain ⟨e, c, sb⟩ := full_units fu hs
    have cs := cnt_six c
    refine .inr (.inl ⟨f.u.toNat, by omega, List.mem_flatMap.2 ⟨f, hf, ?_⟩⟩)
    unfold prF
    rw [if_pos ⟨fu, hs, by omega, by omega⟩]
    exact (mem_pairs (famR_ok f) S T).2 h
 ·rintro (⟨rfl, h⟩ | ⟨u, hu, h⟩ | ⟨x, hx, h⟩)
  ·obtain ⟨f, hf, _, _, _, g⟩ := (dyL_mem (fun f hf => (hb f hf).1) S).1 h
   exact ⟨f, hf, g⟩
  ·obtain ⟨_, _, _, _, g⟩ := prL_unit h
   exact List.any_eq_true.1 g
  ·obtain ⟨f, hf, hx⟩ := List.mem_flatMap.1 hx
   unfold lsF at hx
   split at hx
   ·rename_i g
    simp only [List.mem_singleton] at hx
    subst hx
    exact ⟨f, hf, (has_span g.1 g.2 (hb f hf).1 (hb f hf).2 S T).2 h⟩
   ·cases hx
theorem ls_span {l : List LF} (hb : ∀ f ∈ l, startsB (famR f) = true ∧ endsB (famR f) = true) : ∀ x ∈ lsL l, LsOkP x.1 x.2.1 x.2.2 ∧ x.2.1.length ≤ 400 ∧ x.2.2.length ≤ 400 := by
 intro x hx
 obtain ⟨f, hf, hx⟩ := List.mem_flatMap.1 hx
 unfold lsF at hx
 split at hx
 ·rename_i g
  simp only [List.mem_singleton] at hx
  subst hx
  refine ⟨?_, starts_len _, ends_len _⟩
  obtain ⟨s, e, eq, hs⟩ := full_span g.1 g.2
  have h1 := (hb f hf).1
  have h2 := (hb f hf).2
  have fo := famR_ok f
  simp only
  rw [eq] at h1 h2 fo ⊢
  have h3 : s.length ≤ 400 := by simpa [startsB] using h1
  have h4 : e.length ≤ 400 := by simpa [endsB] using h2
  rw [show startsR (.span s e) = s from if_pos h3, show endsR (.span s e) = e from if_pos h4]
  have ss := setB_sane fo.1
  obtain ⟨m, mm, _⟩ := fo.2.2.1 _ (least_mem ss hs)
  refine ⟨ss, setB_sane fo.2.1, hs, mem_pos mm, (fun q => by cases q), ?_, ?_, ?_, ?_⟩
  ·intro n hn
   obtain ⟨t, a, b⟩ := fo.2.2.1 n hn
   exact ⟨t, a, b⟩
  ·intro n hn
   obtain ⟨t, a, b⟩ := fo.2.2.2 n hn
   exact ⟨t, a, b⟩
  ·intro n hn
   have := setB_mem fo.1 hn
   rw [cnt_zero] at this
   omega
  ·intro n hn
   have := setB_mem fo.2.1 hn
   rw [cnt_zero] at this
   omega
 ·cases hx
theorem ls_days {l : List LF} (hb : ∀ f ∈ l, startsB (famR f) = true) (h0 : 0 < (nf (dyL l)).length) : LsOkP true (nf (dyL l)) (nf (dyL l)) := by
 have bd : ∀ n, memR (nf (dyL l)) n → 0 ≤ n ∧ n ≤ 3652424 := by
  intro n hn
  rw [nf_mem, dyL_mem hb] at hn
  obtain ⟨f, _, _, _, _, g⟩ := hn
  have := hasF_le (famR_ok f) g
  omega
 exact ⟨nf_sane _, nf_sane _, h0, h0, fun _ => rfl, fun n hn => ⟨n, hn, Int.le_refl _⟩, fun n hn => ⟨n, hn, Int.le_refl _⟩, bd, bd⟩
theorem dyL_i64 {l : List LF} : I64R (dyL l) := by
 intro r hr
 obtain ⟨f, hf, hr⟩ := List.mem_flatMap.1 hr
 unfold dyF at hr
 split at hr
 ·exact sane_i64 (starts_sane (famR_ok f)) r hr
 ·cases hr
end Go.Proofs.YtjdnejglapnbbaaGreatDoor
