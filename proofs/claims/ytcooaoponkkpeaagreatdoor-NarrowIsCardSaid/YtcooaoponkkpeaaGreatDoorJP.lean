import Derived.Test.YtcooaoponkkpeaaGreatDoorGSetC
import Derived.Test.YtcooaoponkkpeaaGreatDoorGImgC
import Derived.Test.YtcooaoponkkpeaaGreatDoorJO
import Derived.Test.YtcooaoponkkpeaaGreatDoorJF
set_option maxHeartbeats 2000000
set_option maxRecDepth 100000
namespace Go.Proofs.YtcooaoponkkpeaaGreatDoor
set_option linter.unusedVariables false
set_option linter.unusedSimpArgs false
theorem nodup_le : ∀ {l m : List Int}, l.Nodup → (∀ x ∈ l, x ∈ m) → l.length ≤ m.length
 | [], _, _, _ => Nat.zero_le _
 | x :: l, m, hd, hs => by
  have hx := hs x (by simp)
  have hn := List.nodup_cons.1 hd
  have := nodup_le (m := m.erase x) hn.2 (fun y hy => by
   have ne : y ≠ x := fun e => hn.1 (e ▸ hy)
   exact (List.mem_erase_of_ne ne).2 (hs y (by simp [hy])))
  rw [List.length_erase_of_mem hx] at this
  have := List.length_pos_of_mem hx
  rw [List.length_cons]
  omega
theorem ends_nodup : ∀ {s : List R}, sane s → (s.map (·.2)).Nodup
 | [], _ => List.nodup_nil
 | r :: t, h => by
  rw [List.map_cons, List.nodup_cons]
  refine ⟨fun hm => ?_, ends_nodup (sane_tail h)⟩
  obtain ⟨q, hq, e⟩ := List.mem_map.1 hm
  have o := sane_ok (sane_tail h) q hq
  unfold okR at o
  have := sane_beyond h q.2 ⟨q, hq, by omega, by omega, by omega, by omega⟩
  omega
theorem end_out : ∀ {s : List R}, sane s → ∀ r ∈ s, ¬ memR s (r.2 + 1)
 | [], _, _, hr => by cases hr
 | q :: t, h, r, hr => by
  intro hm
  rcases (memR_cons _ _ _).1 hm with g | g
  ·rcases List.mem_cons.1 hr with rfl | hr
   ·omega
   ·have o := sane_ok (sane_tail h) r hr
    unfold okR at o
    have := sane_beyond h r.2 ⟨r, hr, by omega, by omega, by omega, by omega⟩
    omega
  ·rcases List.mem_cons.1 hr with rfl | hr
   ·have := sane_beyond h _ g; omega
   ·exact end_out (sane_tail h) r hr g
theorem end_of {s : List R} (h : sane s) {e : Int} (hm : memR s e) (hn : ¬ memR s (e + 1)) : e ∈ s.map (·.2) := by
 obtain ⟨r, hr, a, b, c, d⟩ := hm
 have o := sane_ok h r hr
 unfold okR at o
 by_cases q : e = r.2
 ·exact List.mem_map.2 ⟨r, hr, q.symm⟩
 ·exact absurd ⟨r, hr, by omega, by omega, by omega, by omega⟩ hn
theorem interR_len {a b : List R} (ha : sane a) (hb : sane b) : (interR a b).length ≤ a.length + b.length := by
 have hs := interR_sane a b
 have := nodup_le (ends_nodup hs) (m := a.map (·.2) ++ b.map (·.2)) (fun e he => by
  obtain ⟨r, hr, rfl⟩ := List.mem_map.1 he
  have o := sane_ok hs r hr
  unfold okR at o
  have m := (interR_mem a b r.2).1 ⟨r, hr, by omega, by omega, by omega, by omega⟩
  have n := fun x => end_out hs r hr ((interR_mem a b _).2 x)
  by_cases q : memR a (r.2 + 1)
  ·exact List.mem_append.2 (.inr (end_of hb m.2 fun x => n ⟨q, x⟩))
  ·exact List.mem_append.2 (.inl (end_of ha m.1 q)))
 simpa using this
open Go.RowKit
theorem sane_span {L : List R} (h : sane L) {S T : Int} (hST : S ≤ T) (g : ∀ n, S ≤ n → n ≤ T → memR L n) : ∃ r ∈ L, r.1 ≤ S ∧ T ≤ r.2 := by
 obtain ⟨r, hr, h1, h2, _, _⟩ := g S (Int.le_refl _) hST
 refine ⟨r, hr, h1, ?_⟩
 rcases Int.lt_or_le r.2 T with q | q
 ·exact absurd (g (r.2 + 1) (by omega) (by omega)) (end_out h r hr)
 ·exact q
theorem span_sane {L : List R} (h : sane L) {r : R} (hr : r ∈ L) {n : Int} (h1 : r.1 ≤ n) (h2 : n ≤ r.2) : memR L n := by
 have := sane_ok h r hr
 exact ⟨r, hr, h1, h2, by have := this.2.1; omega, by have := this.2.2; omega⟩
def inF (F : Fam) (S T : Int) : Prop := ∃ x y, hasF F x y = true ∧ x ≤ S ∧ T ≤ y
def inL (m : List LF) (S T : Int) : Prop := S ≤ T ∧ ∃ f ∈ m, inF (famR f) S T
noncomputable def arR (f : LF) (d : Int) : List R := if f.sp = true then [(leastR f.a, greatR f.b)] else coverR f.u (interR f.a (touR f.u d d))
theorem arU_iff {k : Int} {s : List R} (h : setB k s = true) {S T : Int} (hST : S ≤ T) : (∃ r ∈ coverR k (interR s (touR k S S)), r.1 ≤ S ∧ T ≤ r.2) ↔ inF (.units k s) S T := by
 constructor
 ·rintro ⟨r, hr, h1, h2⟩
  have mS := (coverR_mem _ _ _).1 (span_sane (coverR_sane _ _) hr h1 (by omega))
  have mT := (coverR_mem _ _ _).1 (span_sane (coverR_sane _ _) hr (by omega) h2)
  have iT := (interR_mem _ _ _).1 mT.2
  obtain ⟨_, _, t1, t2⟩ := (touR_mem _ _ _ _).1 iT.2
  have bd := setB_mem h iT.1
  have e := (range_day (k := k) (day := T) bd.1 (Int.le_refl _) bd.2).2 ⟨mT.1, Int.le_refl _, Int.le_refl _⟩
  exact ⟨_, _, (hasF_units h _ _).2 ⟨_, iT.1, rfl, rfl⟩, t1, e.2⟩
 ·rintro ⟨x, y, hh, h1, h2⟩
  obtain ⟨i, hi, rfl, rfl⟩ := (hasF_units h _ _).1 hh
  have bd := setB_mem h hi
  refine sane_span (coverR_sane _ _) hST fun n n1 n2 => ?_
  have e := (range_day (k := k) (day := n) bd.1 (Int.le_refl i) bd.2).1 ⟨by omega, by omega⟩
  have ei : unum k n = i := by omega
  exact (coverR_mem _ _ _).2 ⟨e.1, by rw [ei]; exact (interR_mem _ _ _).2 ⟨hi, (touR_mem _ _ _ _).2 ⟨okU_of bd.1 bd.2, Int.le_refl _, h1, by omega⟩⟩⟩
theorem span_lg {s e : List R} (h : FOK (.span s e)) (h0 : 0 < s.length) : 0 < e.length ∧ hasF (.span s e) (leastR s) (greatR e) = true := by
 obtain ⟨h1, h2, h3, h4⟩ := h
 obtain ⟨m, m1, m2⟩ := h3 _ (least_mem (setB_sane h1) h0)
 have he := mem_pos m1
 have := great_max (setB_sane h2) m1
 exact ⟨he, (hasF_span (setB_sane h1) (setB_sane h2) _ _).2 ⟨by omega, least_mem (setB_sane h1) h0, great_mem (setB_sane h2) he⟩⟩
theorem inF_span {s e : List R} (h : FOK (.span s e)) (h0 : 0 < s.length) (S T : Int) : inF (.span s e) S T ↔ leastR s ≤ S ∧ T ≤ greatR e := by
 constructor
 ·rintro ⟨x, y, hh, h1, h2⟩
  obtain ⟨_, m1, m2⟩ := (hasF_span (setB_sane h.1) (setB_sane h.2.1) _ _).1 hh
  have := least_min (setB_sane h.1) m1
  have := great_max (setB_sane h.2.1) m2
  omega
 ·rintro ⟨h1, h2⟩
  exact ⟨_, _, (span_lg h h0).2, h1, h2⟩
theorem inF_none {F : Fam} (h : FOK F) (h0 : emptyF F = true) (S T : Int) : ¬ inF F S T := by
 rintro ⟨x, y, hh, _, _⟩
 rw [(empty_iff h).1 h0] at hh
 cases hh
theorem ar_iff {F : Fam} (h : FOK F) {S T : Int} (hST : S ≤ T) : (∃ r ∈ arR (lfOf F) S, r.1 ≤ S ∧ T ≤ r.2) ↔ inF F S T := by
 cases F with
 | units k s =>
  by_cases h0 : s.length = 0
  ·rw [lfOf_u0 h0]
   have e : inF (.units k s) S T ↔ False := iff_of_false (inF_none h (by rw [emptyF_u]; simpa using h0) S T) id
   rw [e]
   have := (arU_iff (k := 0) (s := []) (setB_nil 0) hST)
   unfold arR lf0
   rw [if_neg (by simp), this]
   exact iff_of_false (inF_none (F := .units 0 []) (setB_nil 0) rfl S T) id
  ·rw [lfOf_u1 h0]
   unfold arR
   rw [if_neg (by simp)]
   exact arU_iff h hST
 | span s e =>
  by_cases h0 : s.length = 0
  ·rw [lfOf_s0 h0]
   have e : inF (.span s e) S T ↔ False := iff_of_false (inF_none h (by rw [emptyF_s]; simpa using h0) S T) id
   rw [e]
   have := (arU_iff (k := 0) (s := []) (setB_nil 0) hST)
   unfold arR lf0
   rw [if_neg (by simp), this]
   exact iff_of_false (inF_none (F := .units 0 []) (setB_nil 0) rfl S T) id
  ·rw [lfOf_s1 h0, inF_span h (by omega)]
   unfold arR
   rw [if_pos rfl]
   simp
noncomputable def insB (f : LF) (S T : Int) : Bool := (arR (lfOf (famR f)) S).any fun r => decide (r.1 ≤ S) && decide (T ≤ r.2)
noncomputable def inB (m : List LF) (S T : Int) : Bool := decide (S ≤ T) && m.any fun f => insB f S T
theorem insB_iff (f : LF) {S T : Int} (hST : S ≤ T) : insB f S T = true ↔ inF (famR f) S T := by
 rw [← ar_iff (famR_ok f) hST]
 unfold insB
 simp [List.any_eq_true]
theorem inB_iff (m : List LF) (S T : Int) : inB m S T = true ↔ inL m S T := by
 unfold inB inL
 rw [Bool.and_eq_true, decide_eq_true_eq, List.any_eq_true]
 constructor
 ·rintro ⟨h, f, hf, g⟩; exact ⟨h, f, hf, (insB_iff f h).1 g⟩
 ·rintro ⟨h, f, hf, g⟩; exact ⟨h, f, hf, (insB_iff f h).2 g⟩
noncomputable def itvF : Fam → List R
 | .units k s => if k = 0 then [] else pairsF (.units k s)
 | .span s e => if s.length = 0 then [] else [(leastR s, greatR e)]
noncomputable def dayF : Fam → List R
 | .units k s => if k = 0 then s else []
 | .span _ _ => []
theorem itv_has {F : Fam} (h : FOK F) {r : R} (hr : r ∈ itvF F) : hasF F r.1 r.2 = true := by
 cases F with
 | units k s =>
  by_cases k0 : k = 0
  ·simp only [itvF] at hr; rw [if_pos k0] at hr; cases hr
  ·simp only [itvF] at hr; rw [if_neg k0] at hr
   exact (mem_pairs h r.1 r.2).1 hr
 | span s e =>
  by_cases h0 : s.length = 0
  ·simp only [itvF] at hr; rw [if_pos h0] at hr; cases hr
  ·simp only [itvF] at hr; rw [if_neg h0] at hr
   rw [List.mem_singleton] at hr
   subst hr
   exact (span_lg h (by omega)).2
theorem day_unit {n : Int} (h : 0 ≤ n ∧ n < cnt 0) : fst 0 n = n ∧ lst 0 n = n := by
 have h1 := fir_day h
 have h2 := las_day h
 rw [firV_in h.1 h.2] at h1
 rw [lasV_in h.1 h.2] at h2
 exact ⟨h1, h2⟩
theorem has_day {s : List R} (h : setB 0 s = true) (S T : Int) : hasF (.units 0 s) S T = true ↔ S = T ∧ memR s S := by
 rw [hasF_units h]
 constructor
 ·rintro ⟨i, hi, rfl, rfl⟩
  have := day_unit (setB_mem h hi)
  rw [this.1, this.2]
  exact ⟨rfl, hi⟩
 ·rintro ⟨rfl, hi⟩
  have := day_unit (setB_mem h hi)
  exact ⟨S, hi, this.1, this.2⟩
theorem itv_iff {F : Fam} (h : FOK F) {S T : Int} (hST : S ≤ T) : inF F S T ↔ (∃ r ∈ itvF F, r.1 ≤ S ∧ T ≤ r.2) ∨ (S = T ∧ memR (dayF F) S) := by
 constructor
 ·rintro ⟨x, y, hh, h1, h2⟩
  cases F with
  | units k s =>
   by_cases k0 : k = 0
   ·subst k0
    obtain ⟨e, m⟩ := (has_day h x y).1 hh
    have : S = x := by omega
    refine .inr ⟨by omega, ?_⟩
    simp only [dayF]
    simp only [if_true]
    rw [this]
    exact m
   ·refine .inl ⟨(x, y), ?_, h1, h2⟩
    simp only [itvF]
    rw [if_neg k0]
    exact (mem_pairs h x y).2 hh
  | span s e =>
   have h0 : 0 < s.length := by
    rcases Nat.eq_zero_or_pos s.length with q | q
    ·exact absurd ⟨x, y, hh, h1, h2⟩ (inF_none h (by rw [emptyF_s]; simpa using q) S T)
    ·exact q
   have := (inF_span h h0 S T).1 ⟨x, y, hh, h1, h2⟩
   refine .inl ⟨(leastR s, greatR e), ?_, this.1, this.2⟩
   simp only [itvF]
   rw [if_neg (by omega)]
   exact List.mem_singleton.2 rfl
 ·rintro (⟨r, hr, h1, h2⟩ | ⟨e, m⟩)
  ·exact ⟨_, _, itv_has h hr, h1, h2⟩
  ·cases F with
   | units k s =>
    by_cases k0 : k = 0
    ·subst k0
     simp only [dayF] at m
     simp only [if_true] at m
     exact ⟨S, S, (has_day h S S).2 ⟨rfl, m⟩, Int.le_refl _, by omega⟩
    ·simp only [dayF] at m
     rw [if_neg k0] at m
     exact absurd m (memR_nil _)
   | span s e => exact absurd m (memR_nil _)
noncomputable def rawI (m : List LF) : List R := m.flatMap fun f => itvF (famR f)
noncomputable def rawD (m : List LF) : List R := m.flatMap fun f => dayF (famR f)
theorem memR_flat {α : Type} (l : List α) (f : α → List R) (n : Int) : memR (l.flatMap f) n ↔ ∃ x ∈ l, memR (f x) n := by
 induction l with
 | nil => simp [memR]
 | cons a t ih =>
  rw [List.flatMap_cons, memR_append, ih]
  simp
theorem raw_iff (m : List LF) {S T : Int} (hST : S ≤ T) : inL m S T ↔ (∃ r ∈ rawI m, r.1 ≤ S ∧ T ≤ r.2) ∨ (S = T ∧ memR (rawD m) S) := by
 unfold inL rawI rawD
 rw [memR_flat]
 constructor
 ·rintro ⟨_, f, hf, g⟩
  rcases (itv_iff (famR_ok f) hST).1 g with ⟨r, hr, h1, h2⟩ | ⟨e, q⟩
  ·exact .inl ⟨r, List.mem_flatMap.2 ⟨f, hf, hr⟩, h1, h2⟩
  ·exact .inr ⟨e, f, hf, q⟩
 ·rintro (⟨r, hr, h1, h2⟩ | ⟨e, f, hf, q⟩)
  ·obtain ⟨f, hf, hr⟩ := List.mem_flatMap.1 hr
   exact ⟨hST, f, hf, (itv_iff (famR_ok f) hST).2 (.inl ⟨r, hr, h1, h2⟩)⟩
  ·exact ⟨hST, f, hf, (itv_iff (famR_ok f) hST).2 (.inr ⟨e, q⟩)⟩
theorem rawI_in {m : List LF} {r : R} (h : r ∈ rawI m) : 0 ≤ r.1 ∧ r.1 ≤ r.2 ∧ r.2 ≤ 3652424 := by
 obtain ⟨f, hf, hr⟩ := List.mem_flatMap.1 h
 have := hasF_le (famR_ok f) (itv_has (famR_ok f) hr)
 omega
def lgS (K : List R) (r : R) : List R := if K = [] then [r] else if (K.getLastD (0, 0)).2 < r.2 then K ++ [r] else K
def longR (l : List R) : List R := l.foldl lgS []
theorem long_snoc (l : List R) (r : R) : longR (l ++ [r]) = lgS (longR l) r := by simp [longR]
def leLo (a b : R) : Prop := a.1 < b.1 ∨ a.1 = b.1 ∧ b.2 ≤ a.2
theorem lgS_len (K : List R) (r : R) : (lgS K r).length ≤ K.length + 1 := by
 unfold lgS
 split
 ·simp
 ·split
  ·simp
  ·omega
theorem long_len (l : List R) : (longR l).length ≤ l.length := by
 induction l using snoc_ind with
 | h0 => simp [longR]
 | h1 l r ih => rw [long_snoc]; have := lgS_len (longR l) r; simp; omega
structure KeptOk (raw K : List R) : Prop where
 sub : ∀ r ∈ K, r ∈ raw
 cov : ∀ r ∈ raw, ∃ q ∈ K, q.1 ≤ r.1 ∧ r.2 ≤ q.2
 up : K.Pairwise fun a b => a.1 ≤ b.1
 len : K.length ≤ raw.length
theorem long_ok : ∀ (l : List R), l.Pairwise leLo → KeptOk l (longR l) ∧ ∀ q ∈ longR l, q.2 ≤ ((longR l).getLastD (0, 0)).2 := by
 intro l
 induction l using snoc_ind with
 | h0 => intro _; exact ⟨⟨fun r h => (by simp [longR] at h), fun r h => (by cases h), (by simp [longR]), (by simp [longR])⟩, fun q h => (by simp [longR] at h)⟩
 | h1 l r ih =>
  intro hp
  rw [List.pairwise_append] at hp
  obtain ⟨p1, _, p3⟩ := hp
  have p4 : ∀ a ∈ l, a.1 ≤ r.1 := fun a ha => by
   have := p3 a ha r (List.mem_singleton.2 rfl)
   unfold leLo at this
   omega
  obtain ⟨⟨s, c, u, n⟩, g⟩ := ih p1
  have hl := long_len (l ++ [r])
  rw [long_snoc] at hl ⊢
  unfold lgS at hl ⊢
  by_cases h0 : longR l = []
  ·rw [if_pos h0] at hl ⊢
   refine ⟨⟨fun q hq => ?_, fun q hq => ?_, List.pairwise_singleton _ _, hl⟩, fun q hq => ?_⟩
   ·rw [List.mem_singleton.1 hq]; simp
   ·rcases List.mem_append.1 hq with hq | hq
    ·obtain ⟨x, hx, _⟩ := c q hq
     rw [h0] at hx; cases hx
    ·rw [List.mem_singleton.1 hq]; exact ⟨r, by simp, Int.le_refl _, Int.le_refl _⟩
   ·rw [List.mem_singleton.1 hq]; simp
  ·rw [if_neg h0] at hl ⊢
   by_cases h1 : ((longR l).getLastD (0, 0)).2 < r.2
   ·rw [if_pos h1] at hl ⊢
    refine ⟨⟨fun q hq => ?_, fun q hq => ?_, ?_, hl⟩, fun q hq => ?_⟩
    ·rcases List.mem_append.1 hq with hq | hq
     ·exact List.mem_append_left _ (s q hq)
     ·exact List.mem_append_right _ hq
    ·rcases List.mem_append.1 hq with hq | hq
     ·obtain ⟨x, hx, e⟩ := c q hq
      exact ⟨x, List.mem_append_left _ hx, e⟩
     ·rw [List.mem_singleton.1 hq]; exact ⟨r, by simp, Int.le_refl _, Int.le_refl _⟩
    ·rw [List.pairwise_append]
     refine ⟨u, List.pairwise_singleton _ _, fun a ha b hb => ?_⟩
     rw [List.mem_singleton.1 hb]
     exact p4 a (s a ha)
    ·have e : (longR l ++ [r]).getLastD (0, 0) = r := by simp
     rw [e]
     rcases List.mem_append.1 hq with hq | hq
     ·have := g q hq; omega
     ·rw [List.mem_singleton.1 hq]; exact Int.le_refl _
   ·rw [if_neg h1] at hl ⊢
    refine ⟨⟨fun q hq => List.mem_append_left _ (s q hq), fun q hq => ?_, u, hl⟩, g⟩
    rcases List.mem_append.1 hq with hq | hq
    ·exact c q hq
    ·rw [List.mem_singleton.1 hq]
     refine ⟨(longR l).getLastD (0, 0), ?_, ?_, by omega⟩
     ·rcases snoc_cases (longR l) with h | ⟨b, q, h⟩
      ·exact absurd h h0
      ·rw [h]; simp
     ·refine p4 _ (s _ ?_)
      rcases snoc_cases (longR l) with h | ⟨b, q, h⟩
      ·exact absurd h h0
      ·rw [h]; simp
theorem KeptOk.perm {raw raw' K : List R} (h : KeptOk raw K) (e : ∀ r, r ∈ raw ↔ r ∈ raw') (n : raw.length = raw'.length) : KeptOk raw' K :=
 ⟨fun r hr => (e r).1 (h.sub r hr), fun r hr => h.cov r ((e r).2 hr), h.up, by have := h.len; omega⟩
def inK (K D : List R) (S T : Int) : Prop := (∃ r ∈ K, r.1 ≤ S ∧ T ≤ r.2) ∨ (S = T ∧ memR D S)
theorem inK_iff {m : List LF} {K : List R} (h : KeptOk (rawI m) K) {S T : Int} (hST : S ≤ T) : inK K (diffR (rawD m) (nf K)) S T ↔ inL m S T := by
 rw [raw_iff m hST]
 unfold inK
 rw [diffR_mem, nf_mem]
 constructor
 ·rintro (⟨r, hr, h1, h2⟩ | ⟨e, h1, h2⟩)
  ·exact .inl ⟨r, h.sub r hr, h1, h2⟩
  ·exact .inr ⟨e, h1⟩
 ·rintro (⟨r, hr, h1, h2⟩ | ⟨e, h1⟩)
  ·obtain ⟨q, hq, a, b⟩ := h.cov r hr
   exact .inl ⟨q, hq, by omega, by omega⟩
  ·by_cases c : memR K S
   ·obtain ⟨r, hr, a, b, _⟩ := c
    exact .inl ⟨r, hr, a, by omega⟩
   ·exact .inr ⟨e, h1, c⟩
theorem unit_long {k i : Int} (k0 : k ≠ 0) (h : 0 ≤ i) (h' : i < cnt k) : fst k i < lst k i := by
 obtain ⟨a1, a2, a3, a4, a5⟩ := months h h' k0
 have m := mon_lt _ _ a1 a2
 omega
theorem sane_sub {l m : List R} (h : sane l) (g : List.Sublist m l) : sane m :=
 sane_pw.2 ⟨fun r hr => (sane_pw.1 h).1 r (g.subset hr), (sane_pw.1 h).2.sublist g⟩
theorem memR_sub {l m : List R} (g : ∀ r ∈ m, r ∈ l) {n : Int} (h : memR m n) : memR l n := by
 obtain ⟨r, hr, h⟩ := h
 exact ⟨r, g r hr, h⟩
theorem hasL_append (l m : List LF) (S T : Int) : hasL (l ++ m) S T = (hasL l S T || hasL m S T) := by simp [hasL]
theorem hasL_flat {α : Type} (l : List α) (f : α → List LF) (S T : Int) : hasL (l.flatMap f) S T = true ↔ ∃ x ∈ l, hasL (f x) S T = true := by
 unfold hasL
 simp [List.any_eq_true, List.mem_flatMap]
def chunkR (k : Int) (s : List R) (j : Nat) : LF := ⟨false, k, (s.drop (400 * j)).take 400, []⟩
def chunksN (k : Int) (s : List R) (n : Nat) : List LF := (List.range n).map (chunkR k s)
def chunksR (k : Int) (s : List R) : List LF := chunksN k s ((s.length + 399) / 400)
theorem chunks_next (k : Int) (s : List R) (n : Nat) : chunksN k s (n + 1) = chunksN k s n ++ [chunkR k s n] := by simp [chunksN, List.range_succ]
theorem chunk_sub (k : Int) (s : List R) (j : Nat) : List.Sublist (chunkR k s j).a s := (List.take_sublist _ _).trans (List.drop_sublist _ _)
theorem chunk_len (k : Int) (s : List R) (j : Nat) : (chunkR k s j).a.length ≤ 400 := by unfold chunkR; simp; omega
theorem chunk_mem {k : Int} {s : List R} {f : LF} (h : f ∈ chunksR k s) : ∃ j, f = chunkR k s j ∧ 0 < f.a.length := by
 unfold chunksR chunksN at h
 obtain ⟨j, hj, rfl⟩ := List.mem_map.1 h
 have := List.mem_range.1 hj
 refine ⟨j, rfl, ?_⟩
 unfold chunkR
 simp
 omega
theorem chunk_has (k : Int) {s : List R} {n : Int} (h : memR s n) : ∃ f ∈ chunksR k s, memR f.a n := by
 obtain ⟨r, hr, g⟩ := h
 obtain ⟨i, hi, e⟩ := List.mem_iff_getElem.1 hr
 refine ⟨chunkR k s (i / 400), List.mem_map.2 ⟨_, List.mem_range.2 (by omega), rfl⟩, r, ?_, g⟩
 unfold chunkR
 simp only
 refine List.mem_iff_getElem.2 ⟨i % 400, by simp; omega, ?_⟩
 rw [List.getElem_take, List.getElem_drop]
 simp only [show 400 * (i / 400) + i % 400 = i by omega]
 exact e
theorem setB_sub {k : Int} {s m : List R} (h : setB k s = true) (g : List.Sublist m s) : setB k m = true :=
 setB_of (sane_sub (setB_sane h) g) fun n hn => setB_mem h (memR_sub (fun r hr => g.subset hr) hn)
theorem chunk_fam {k : Int} {s : List R} (h : setB k s = true) {f : LF} (hf : f ∈ chunksR k s) : leafB f = true ∧ f.sp = false ∧ famR f = .units k f.a ∧ setB k f.a = true ∧ List.Sublist f.a s ∧ 0 < f.a.length ∧ f.a.length ≤ 400 ∧ f.b = [] ∧ f.u = k := by
 obtain ⟨j, rfl, h0⟩ := chunk_mem hf
 have hs := setB_sub h (chunk_sub k s j)
 have hc := setB_pos hs h0
 have hl : leafB (chunkR k s j) = true := by
  unfold leafB
  rw [if_neg (by simp [chunkR])]
  rw [show setB (chunkR k s j).u (chunkR k s j).a = true from hs]
  simp [chunkR, hc]
 exact ⟨hl, rfl, famR_units hl rfl, hs, chunk_sub k s j, h0, chunk_len k s j, rfl, rfl⟩
theorem chunks_has {k : Int} {s : List R} (h : setB k s = true) (S T : Int) : hasL (chunksR k s) S T = true ↔ hasF (.units k s) S T = true := by
 rw [hasF_units h]
 unfold hasL
 rw [List.any_eq_true]
 constructor
 ·rintro ⟨f, hf, g⟩
  obtain ⟨_, _, e, hs, sb, _⟩ := chunk_fam h hf
  rw [e, hasF_units hs] at g
  obtain ⟨i, hi, g⟩ := g
  exact ⟨i, memR_sub (fun r hr => sb.subset hr) hi, g⟩
 ·rintro ⟨i, hi, g⟩
  obtain ⟨f, hf, hm⟩ := chunk_has k hi
  obtain ⟨_, _, e, hs, _⟩ := chunk_fam h hf
  exact ⟨f, hf, by rw [e, hasF_units hs]; exact ⟨i, hm, g⟩⟩
structure GLf (f : LF) : Prop where
 ok : leafB f = true
 full : emptyF (famR f) = false
 st : startsB (famR f) = true
 en : endsB (famR f) = true
 na : f.a.length ≤ 1000
 nb : f.b.length ≤ 1000
theorem edgB_sub {k : Int} {a c : List R} (ha : setB k a = true) (hc : setB k c = true) (sb : ∀ n, memR c n → memR a n) (k0 : k ≠ 0) (h : edgB k a = true) : edgB k c = true := by
 unfold edgB at h ⊢
 rw [if_neg k0, decide_eq_true_eq, setB_units ha] at h
 rw [if_neg k0, decide_eq_true_eq, setB_units hc]
 refine Nat.le_trans (nodup_le (l := nums c) (m := nums a) ?_ ?_) h
 ·exact (nums_lt (setB_sane hc)).imp (fun hab => by omega)
 ·intro x hx
  exact (nums_mem (sane_ok (setB_sane ha))).2 (sb x ((nums_mem (sane_ok (setB_sane hc))).1 hx))
theorem chunk_good {k : Int} {a s : List R} (ha : setB k a = true) (h : setB k s = true) (sb : ∀ n, memR s n → memR a n) (he : k ≠ 0 → edgB k a = true) {f : LF} (hf : f ∈ chunksR k s) : GLf f := by
 obtain ⟨hl, _, e, hs, sb2, h0, h4, hb, _⟩ := chunk_fam h hf
 have ed : edgB k f.a = true := by
  by_cases k0 : k = 0
  ·subst k0; exact edgB_day h4
  ·exact edgB_sub ha hs (fun n hn => sb n (memR_sub (fun r hr => sb2.subset hr) hn)) k0 (he k0)
 refine ⟨hl, ?_, ?_, ?_, by omega, by rw [hb]; simp⟩
 ·rw [e, emptyF_u]; simp; intro q; rw [q] at h0; simp at h0
 ·rw [e]; exact ed
 ·rw [e]; exact ed
def cutLF (s e : List R) (r : R) : LF := ⟨true, 0, interR s [r], interR e [r]⟩
def partG (s e : List R) (r : R) : LF := lfOf (famR (cutLF s e r))
def partF (s e : List R) (r : R) : List LF := if emptyF (famR (cutLF s e r)) = true then [] else [partG s e r]
theorem inter_one (s : List R) (lo hi' n : Int) : memR (interR s [(lo, hi')]) n ↔ memR s n ∧ lo ≤ n ∧ n ≤ hi' := by
 rw [interR_mem, memR_one]
 constructor
 ·rintro ⟨h, a, b, _⟩; exact ⟨h, a, b⟩
 ·rintro ⟨h, a, b⟩
  obtain ⟨r, _, _, _, c, d⟩ := id h
  exact ⟨h, a, b, c, d⟩
theorem setB_inter {k : Int} {s : List R} (h : setB k s = true) (m : List R) : setB k (interR s m) = true :=
 setB_of (interR_sane _ _) fun n hn => setB_mem h ((interR_mem _ _ _).1 hn).1
theorem cut_ok {s e : List R} (hs : setB 0 s = true) (he : setB 0 e = true) (r : R) : leafB (cutLF s e r) = true := by
 unfold leafB
 rw [if_pos (by rfl)]
 rw [show setB 0 (cutLF s e r).a = true from setB_inter hs _, show setB 0 (cutLF s e r).b = true from setB_inter he _]
 rfl
theorem cut_has {s e : List R} (hs : setB 0 s = true) (he : setB 0 e = true) (r : R) (S T : Int) : hasF (famR (cutLF s e r)) S T = true ↔ hasF (.span s e) S T = true ∧ r.1 ≤ S ∧ T ≤ r.2 := by
 rw [hasF_sp (cut_ok hs he r) rfl, hasF_span (setB_sane hs) (setB_sane he)]
 obtain ⟨lo, hi'⟩ := r
 unfold cutLF
 simp only
 rw [inter_one, inter_one]
 constructor
 ·rintro ⟨h, ⟨a, b, c⟩, d, f, g⟩; exact ⟨⟨h, a, d⟩, b, g⟩
 ·rintro ⟨⟨h, a, d⟩, b, g⟩; exact ⟨h, ⟨a, b, by omega⟩, d, by omega, g⟩
theorem part_has {s e : List R} (hs : setB 0 s = true) (he : setB 0 e = true) (r : R) (S T : Int) : hasL (partF s e r) S T = true ↔ hasF (.span s e) S T = true ∧ r.1 ≤ S ∧ T ≤ r.2 := by
 rw [← cut_has hs he]
 unfold partF
 by_cases h0 : emptyF (famR (cutLF s e r)) = true
 ·rw [if_pos h0, (empty_iff (famR_ok _)).1 h0]
  simp [hasL]
 ·rw [if_neg h0]
  unfold hasL partG
  simp [hasF_tidy (famR_ok _)]
theorem part_none {s e : List R} (hs : setB 0 s = true) (he : setB 0 e = true) (r : R) (h : ∀ S T, hasF (.span s e) S T = true → r.1 ≤ S → T ≤ r.2 → False) : emptyF (famR (cutLF s e r)) = true := by
 refine (empty_iff (famR_ok _)).2 fun S T => ?_
 rcases Bool.eq_false_or_eq_true (hasF (famR (cutLF s e r)) S T) with q | q
 ·have := (cut_has hs he r S T).1 q
  exact absurd (h S T this.1 this.2.1 this.2.2) id
 ·exact q
theorem interR_le (s : List R) (r : R) : (interR s [r]).length ≤ s.length := by
 have := interR_bd (a := s) (b := [r]) (p := s.length) (q := 1) (Nat.le_refl _) (by simp)
 omega
theorem famR_cut_span {s e : List R} (hs : setB 0 s = true) (he : setB 0 e = true) (r : R) : ∃ a b, famR (cutLF s e r) = .span a b ∧ a.length ≤ s.length ∧ b.length ≤ e.length := by
 have hl := cut_ok hs he r
 have a1 := interR_le s r
 have b1 := interR_le e r
 by_cases h0 : (cutLF s e r).a.length = 0 ∨ (cutLF s e r).b.length = 0
 ·exact ⟨[], [], famR_none hl rfl h0, by simp, by simp⟩
 ·exact ⟨_, _, famR_span hl rfl h0, Nat.le_trans (interR_le _ _) a1, Nat.le_trans (interR_le _ _) b1⟩
theorem part_good {s e : List R} (hs : setB 0 s = true) (he : setB 0 e = true) (ns : s.length ≤ 400) (ne : e.length ≤ 400) (r : R) {f : LF} (hf : f ∈ partF s e r) : GLf f ∧ f.a.length ≤ s.length ∧ f.b.length ≤ e.length ∧ famR f = .span f.a f.b := by
 unfold partF at hf
 by_cases h0 : emptyF (famR (cutLF s e r)) = true
 ·rw [if_pos h0] at hf; cases hf
 ·rw [if_neg h0, List.mem_singleton] at hf
  obtain ⟨a, b, e1, n1, n2⟩ := famR_cut_span hs he r
  have ok := famR_ok (cutLF s e r)
  have hfam : famR f = .span a b := by
   rw [hf, partG, famR_lfOf ok, if_neg h0, e1]
  have hlf : f = ⟨true, 0, a, b⟩ := by
   rw [hf, partG, e1]
   refine lfOf_s1 fun q => h0 ?_
   rw [e1, emptyF_s]
   simpa using q
  have hlb : leafB f = true := by rw [hf]; exact leafB_lfOf ok
  refine ⟨⟨hlb, ?_, ?_, ?_, ?_, ?_⟩, ?_, ?_, ?_⟩
  ·rw [hfam, ← e1]; simpa using h0
  ·rw [hfam]; simp [startsB]; omega
  ·rw [hfam]; simp [endsB]; omega
  ·rw [hlf]; simp only; omega
  ·rw [hlf]; simp only; omega
  ·rw [hlf]; exact n1
  ·rw [hlf]; exact n2
  ·rw [hfam, hlf]
noncomputable def unsR (K D : List R) (g : LF) : List R := if g.u = 0 then interR g.a (nf (K ++ D)) else interR g.a (K.flatMap fun r => insR g.u r.1 r.2)
noncomputable def outT (K D : List R) (g : LF) : List LF := if g.sp = true then chunksR 0 (interR (interR g.a g.b) D) ++ K.flatMap (partF g.a g.b) else chunksR g.u (unsR K D g)
noncomputable def outF (K D : List R) (f : LF) : List LF := outT K D (lfOf (famR f))
noncomputable def leftL (K D : List R) (l : List LF) : List LF := l.flatMap (outF K D)
def inDays (K : List R) : Prop := ∀ r ∈ K, 0 ≤ r.1 ∧ r.1 ≤ r.2 ∧ r.2 ≤ 3652424
theorem inDays_mem {K : List R} (h : inDays K) (n : Int) : memR K n ↔ ∃ r ∈ K, r.1 ≤ n ∧ n ≤ r.2 := by
 constructor
 ·rintro ⟨r, hr, a, b, _⟩; exact ⟨r, hr, a, b⟩
 ·rintro ⟨r, hr, a, b⟩
  have := h r hr
  exact ⟨r, hr, a, b, by omega, by omega⟩
theorem unit_out {K D : List R} (hK : inDays K) {k : Int} {s : List R} (h : setB k s = true) (S T : Int) : hasL (chunksR k (unsR K D ⟨false, k, s, []⟩)) S T = true ↔ hasF (.units k s) S T = true ∧ inK K D S T := by
 have hu : setB k (unsR K D ⟨false, k, s, []⟩) = true := by
  unfold unsR
  split
  ·exact setB_inter h _
  ·exact setB_inter h _
 rw [chunks_has hu]
 by_cases k0 : k = 0
 ·subst k0
  rw [has_day hu, has_day h]
  unfold unsR inK
  simp only [if_true]
  rw [interR_mem, nf_mem, memR_append, inDays_mem hK]
  constructor
  ·rintro ⟨rfl, m, q⟩; exact ⟨⟨rfl, m⟩, q.imp id fun q => ⟨rfl, q⟩⟩
  ·rintro ⟨⟨rfl, m⟩, q⟩; exact ⟨rfl, m, q.imp id fun q => q.2⟩
 ·rw [hasF_units hu, hasF_units h]
  unfold unsR inK
  simp only [if_neg k0]
  constructor
  ·rintro ⟨i, hi, rfl, rfl⟩
   obtain ⟨h1, h2⟩ := (interR_mem _ _ _).1 hi
   obtain ⟨r, hr, hm⟩ := (memR_flat _ _ _).1 h2
   have := (insR_mem _ _ _ _).1 hm
   exact ⟨⟨i, h1, rfl, rfl⟩, .inl ⟨r, hr, this.2.1, this.2.2⟩⟩
  ·rintro ⟨⟨i, hi, rfl, rfl⟩, q⟩
   have bd := setB_mem h hi
   rcases q with ⟨r, hr, a, b⟩ | ⟨q, _⟩
   ·exact ⟨i, (interR_mem _ _ _).2 ⟨hi, (memR_flat _ _ _).2 ⟨r, hr, (insR_mem _ _ _ _).2 ⟨okU_of bd.1 bd.2, a, b⟩⟩⟩, rfl, rfl⟩
   ·have := unit_long k0 bd.1 bd.2
    omega
theorem span_out {K D : List R} {s e : List R} (h : FOK (.span s e)) (S T : Int) : hasL (chunksR 0 (interR (interR s e) D) ++ K.flatMap (partF s e)) S T = true ↔ hasF (.span s e) S T = true ∧ inK K D S T := by
 have hu : setB 0 (interR (interR s e) D) = true := setB_inter (setB_inter h.1 _) _
 rw [hasL_append, Bool.or_eq_true, chunks_has hu, has_day hu, hasL_flat, interR_mem, interR_mem]
 unfold inK
 constructor
 ·rintro (⟨rfl, ⟨a, b⟩, c⟩ | ⟨r, hr, q⟩)
  ·exact ⟨(hasF_span (setB_sane h.1) (setB_sane h.2.1) _ _).2 ⟨Int.le_refl _, a, b⟩, .inr ⟨rfl, c⟩⟩
  ·have := (part_has h.1 h.2.1 r S T).1 q
   exact ⟨this.1, .inl ⟨r, hr, this.2⟩⟩
 ·rintro ⟨g, ⟨r, hr, q⟩ | ⟨rfl, q⟩⟩
  ·exact .inr ⟨r, hr, (part_has h.1 h.2.1 r S T).2 ⟨g, q⟩⟩
  ·have := (hasF_span (setB_sane h.1) (setB_sane h.2.1) _ _).1 g
   exact .inl ⟨rfl, ⟨this.2.1, this.2.2⟩, q⟩
theorem out_none (K D : List R) (hK : inDays K) (S T : Int) : hasL (outT K D lf0) S T = false := by
 have := unit_out (D := D) hK (setB_nil 0) S T
 rcases Bool.eq_false_or_eq_true (hasL (outT K D lf0) S T) with q | q
 ·unfold outT lf0 at q
  rw [if_neg (by simp)] at q
  have := (this.1 q).1
  rw [has_day (setB_nil 0)] at this
  exact absurd this.2 (memR_nil _)
 ·exact q
theorem out_has {K D : List R} (hK : inDays K) (f : LF) (S T : Int) : hasL (outF K D f) S T = true ↔ hasF (famR f) S T = true ∧ inK K D S T := by
 have ok := famR_ok f
 unfold outF
 revert ok
 generalize famR f = F
 intro ok
 by_cases h0 : emptyF F = true
 ·rw [lfOf_none h0, out_none K D hK, (empty_iff ok).1 h0]
  simp
 ·cases F with
  | units k s =>
   rw [lfOf_u1 (by rw [emptyF_u] at h0; simpa using h0)]
   unfold outT
   rw [if_neg (by simp)]
   exact unit_out hK ok S T
  | span s e =>
   rw [lfOf_s1 (by rw [emptyF_s] at h0; simpa using h0)]
   unfold outT
   rw [if_pos rfl]
   exact span_out ok S T
theorem left_has {K D : List R} (hK : inDays K) (l : List LF) (S T : Int) : hasL (leftL K D l) S T = true ↔ hasL l S T = true ∧ inK K D S T := by
 unfold leftL
 rw [hasL_flat]
 unfold hasL
 rw [List.any_eq_true]
 constructor
 ·rintro ⟨f, hf, g⟩
  have := (out_has hK f S T).1 g
  exact ⟨⟨f, hf, this.1⟩, this.2⟩
 ·rintro ⟨⟨f, hf, g⟩, q⟩
  exact ⟨f, hf, (out_has hK f S T).2 ⟨g, q⟩⟩
noncomputable def okE (f : LF) : Bool := startsB (famR f) && endsB (famR f)
noncomputable def okEs (l : List LF) : Bool := l.all okE
theorem out_good (K D : List R) {f : LF} (h : okE f = true) {g : LF} (hg : g ∈ outF K D f) : GLf g := by
 have ok := famR_ok f
 unfold okE at h
 unfold outF at hg
 revert ok h hg
 generalize famR f = F
 intro h hg ok
 rw [Bool.and_eq_true] at h
 by_cases h0 : emptyF F = true
 ·rw [lfOf_none h0] at hg
  unfold outT lf0 at hg
  rw [if_neg (by simp)] at hg
  exact chunk_good (a := []) (setB_nil 0) (by unfold unsR; rw [if_pos rfl]; exact setB_inter (setB_nil 0) _) (fun n hn => by unfold unsR at hn; rw [if_pos rfl] at hn; exact ((interR_mem _ _ _).1 hn).1) (fun q => absurd rfl q) hg
 ·cases F with
  | units k s =>
   rw [lfOf_u1 (by rw [emptyF_u] at h0; simpa using h0)] at hg
   unfold outT at hg
   rw [if_neg (by simp)] at hg
   refine chunk_good (a := s) ok ?_ ?_ (fun _ => h.1) hg
   ·unfold unsR; split <;> exact setB_inter ok _
   ·intro n hn
    unfold unsR at hn
    split at hn <;> exact ((interR_mem _ _ _).1 hn).1
  | span s e =>
   rw [lfOf_s1 (by rw [emptyF_s] at h0; simpa using h0)] at hg
   unfold outT at hg
   rw [if_pos rfl] at hg
   rcases List.mem_append.1 hg with hg | hg
   ·exact chunk_good (a := s) ok.1 (setB_inter (setB_inter ok.1 _) _) (fun n hn => ((interR_mem _ _ _).1 ((interR_mem _ _ _).1 hn).1).1) (fun q => absurd rfl q) hg
   ·obtain ⟨r, _, hr⟩ := List.mem_flatMap.1 hg
    have h1 := h.1
    have h2 := h.2
    simp [startsB] at h1
    simp [endsB] at h2
    exact (part_good ok.1 ok.2.1 h1 h2 r hr).1
theorem left_good (K D : List R) {l : List LF} (h : okEs l = true) {g : LF} (hg : g ∈ leftL K D l) : GLf g := by
 obtain ⟨f, hf, hg⟩ := List.mem_flatMap.1 hg
 exact out_good K D (List.all_eq_true.1 h f hf) hg
def wideS (P : Int → Int → Prop) : Prop := ∃ s, sane s ∧ 400 < s.length ∧ ((∀ d, memR s d ↔ ∃ T, P d T) ∨ (∀ d, memR s d ↔ ∃ S, P S d))
noncomputable def stsL (L : List LF) : List R := L.flatMap fun f => startsR (famR f)
noncomputable def ensL (L : List LF) : List R := L.flatMap fun f => endsR (famR f)
noncomputable def wideB (L : List LF) : Bool := decide (400 < (nf (stsL L)).length) || decide (400 < (nf (ensL L)).length)
theorem hasL_iff (L : List LF) (S T : Int) : hasL L S T = true ↔ ∃ f ∈ L, hasF (famR f) S T = true := by unfold hasL; rw [List.any_eq_true]
theorem sts_mem {L : List LF} (h : ∀ g ∈ L, GLf g) (d : Int) : memR (stsL L) d ↔ ∃ T, hasL L d T = true := by
 unfold stsL
 rw [memR_flat]
 constructor
 ·rintro ⟨f, hf, m⟩
  obtain ⟨T, q⟩ := (starts_mem (famR_ok f) (h f hf).st d).1 m
  exact ⟨T, (hasL_iff _ _ _).2 ⟨f, hf, q⟩⟩
 ·rintro ⟨T, q⟩
  obtain ⟨f, hf, q⟩ := (hasL_iff _ _ _).1 q
  exact ⟨f, hf, (starts_mem (famR_ok f) (h f hf).st d).2 ⟨T, q⟩⟩
theorem ens_mem {L : List LF} (h : ∀ g ∈ L, GLf g) (d : Int) : memR (ensL L) d ↔ ∃ S, hasL L S d = true := by
 unfold ensL
 rw [memR_flat]
 constructor
 ·rintro ⟨f, hf, m⟩
  obtain ⟨S, q⟩ := (ends_mem (famR_ok f) (h f hf).en d).1 m
  exact ⟨S, (hasL_iff _ _ _).2 ⟨f, hf, q⟩⟩
 ·rintro ⟨S, q⟩
  obtain ⟨f, hf, q⟩ := (hasL_iff _ _ _).1 q
  exact ⟨f, hf, (ends_mem (famR_ok f) (h f hf).en d).2 ⟨S, q⟩⟩
theorem wide_iff {L : List LF} (h : ∀ g ∈ L, GLf g) {P : Int → Int → Prop} (e : ∀ S T, hasL L S T = true ↔ P S T) : wideB L = true ↔ wideS P := by
 have h1 : ∀ d, memR (nf (stsL L)) d ↔ ∃ T, P d T := fun d => by rw [nf_mem, sts_mem h]; exact exists_congr fun T => e d T
 have h2 : ∀ d, memR (nf (ensL L)) d ↔ ∃ S, P S d := fun d => by rw [nf_mem, ens_mem h]; exact exists_congr fun S => e S d
 unfold wideB
 rw [Bool.or_eq_true, decide_eq_true_eq, decide_eq_true_eq]
 constructor
 ·rintro (q | q)
  ·exact ⟨_, nf_sane _, q, .inl h1⟩
  ·exact ⟨_, nf_sane _, q, .inr h2⟩
 ·rintro ⟨s, hs, q, g | g⟩
  ·left
   rw [sane_ext (nf_sane (stsL L)) hs fun d => by rw [h1, g]]
   exact q
  ·right
   rw [sane_ext (nf_sane (ensL L)) hs fun d => by rw [h2, g]]
   exact q
theorem wideS_some {P : Int → Int → Prop} (h : wideS P) : ∃ S T, P S T := by
 obtain ⟨s, hs, q, g | g⟩ := h
 ·obtain ⟨T, h⟩ := (g _).1 (least_mem hs (by omega)); exact ⟨_, _, h⟩
 ·obtain ⟨S, h⟩ := (g _).1 (least_mem hs (by omega)); exact ⟨_, _, h⟩
theorem good_some {L : List LF} (h : ∀ g ∈ L, GLf g) (h0 : L ≠ []) : ∃ S T, hasL L S T = true := by
 cases L with
 | nil => exact absurd rfl h0
 | cons f t =>
  have hf := (h f List.mem_cons_self).full
  apply Classical.byContradiction
  intro hn
  have : emptyF (famR f) = true := (empty_iff (famR_ok f)).2 fun S T => by
   rcases Bool.eq_false_or_eq_true (hasF (famR f) S T) with q | q
   ·exact absurd ⟨S, T, (hasL_iff _ _ _).2 ⟨f, List.mem_cons_self, q⟩⟩ hn
   ·exact q
  rw [hf] at this
  cases this
def leftP (l m : List LF) (S T : Int) : Prop := hasL l S T = true ∧ inL m S T
def NarP (l m : List LF) (e : Int) (L : List LF) : Prop :=
 (e = 8 ∧ L = [] ∧ ((okEs l && okEs m) = false ∨ ((okEs l && okEs m) = true ∧ wideS (leftP l m)))) ∨
 (e = 9 ∧ L = [] ∧ (okEs l && okEs m) = true ∧ ∀ S T, ¬ leftP l m S T) ∨
 (e = 0 ∧ L ≠ [] ∧ (okEs l && okEs m) = true ∧ (∀ g ∈ L, GLf g) ∧ (∀ S T, hasL L S T = true ↔ leftP l m S T) ∧ ¬ wideS (leftP l m) ∧ ∃ K, KeptOk (rawI m) K ∧ L = leftL K (diffR (rawD m) (nf K)) l)
theorem hasL_st {l : List LF} {S T : Int} (h : hasL l S T = true) : S ≤ T ∧ 0 ≤ S ∧ T ≤ 3652424 := by
 obtain ⟨f, hf, q⟩ := (hasL_iff _ _ _).1 h
 exact hasF_le (famR_ok f) q
theorem left_iff {l m : List LF} {K : List R} (h : KeptOk (rawI m) K) (S T : Int) : hasL (leftL K (diffR (rawD m) (nf K)) l) S T = true ↔ leftP l m S T := by
 rw [left_has (fun r hr => rawI_in (h.sub r hr))]
 unfold leftP
 constructor
 ·rintro ⟨a, b⟩; exact ⟨a, (inK_iff h (hasL_st a).1).1 b⟩
 ·rintro ⟨a, b⟩; exact ⟨a, (inK_iff h (hasL_st a).1).2 b⟩
noncomputable def narE (l m : List LF) (L : List LF) : Int := if (okEs l && okEs m) = false then 8 else if L.length = 0 then 9 else if wideB L = true then 8 else 0
noncomputable def narL (l m : List LF) (L : List LF) : List LF := if narE l m L = 0 then L else []
theorem nar_told {l m : List LF} {K : List R} (h : KeptOk (rawI m) K) : NarP l m (narE l m (leftL K (diffR (rawD m) (nf K)) l)) (narL l m (leftL K (diffR (rawD m) (nf K)) l)) := by
 have HI := left_iff (l := l) h
 have HG : okEs l = true → ∀ g ∈ leftL K (diffR (rawD m) (nf K)) l, GLf g := fun ok g hg => left_good _ _ ok hg
 have HE : ∃ K', KeptOk (rawI m) K' ∧ leftL K (diffR (rawD m) (nf K)) l = leftL K' (diffR (rawD m) (nf K')) l := ⟨K, h, rfl⟩
 revert HI HG HE
 generalize leftL K (diffR (rawD m) (nf K)) l = L
 intro HI HG HE
 unfold narL narE
 by_cases c : (okEs l && okEs m) = false
 ·rw [if_pos c]
  exact .inl ⟨rfl, by simp, .inl c⟩
 rw [if_neg c]
 have c' : (okEs l && okEs m) = true := by simpa using c
 have HG := HG (Bool.and_eq_true _ _ ▸ c').1
 by_cases n : L.length = 0
 ·rw [if_pos n]
  have : L = [] := List.length_eq_zero_iff.1 n
  subst this
  refine .inr (.inl ⟨rfl, by simp, c', fun S T q => ?_⟩)
  have := (HI S T).2 q
  simp [hasL] at this
 rw [if_neg n]
 have hne : L ≠ [] := fun e => n (by rw [e]; rfl)
 by_cases w : wideB L = true
 ·rw [if_pos w]
  exact .inl ⟨rfl, by simp, .inr ⟨c', (wide_iff HG HI).1 w⟩⟩
 ·rw [if_neg w]
  exact .inr (.inr ⟨rfl, by simpa using hne, c', by simpa using HG, by simpa using HI, fun q => w ((wide_iff HG HI).2 q), by simpa using HE⟩)
theorem nwLeast_any (v : Value) (s : List R) (w : World) (hv : RunsAt w v s) (hs : sane s) (h0 : 0 < s.length) (hl : s.length ≤ 1000000) :
  Calls Tryz.prog 71 #[v] w fun e w' => e = .returned (.int .i64 (leastR s)) ∧ Kp w w' := by
 obtain ⟨ad, c, rfl⟩ := hv.slice
 have C := Hd (next_of ad s.length c s (-1099511627776) w (asS_sane _ s w hv (sane_i64 hs) hs) hs (by omega) (by omega) (by omega))
 rw [nxt_low hs h0] at C
 simp only at C
 generalize leastR s = x at *
 clear hv hs h0
 go_enter Tryz.func71, Tryz.ntmps71
 go_wp2_with fail
 refine (C.out).mono ?_
 rintro e w1 ⟨rfl, kk⟩
 go_wp2
 go_ret
 exact ⟨rfl, kk⟩
theorem nwGreat_any (v : Value) (s : List R) (w : World) (hv : RunsAt w v s) (hs : sane s) (h0 : 0 < s.length) (hl : s.length ≤ 1000000) :
  Calls Tryz.prog 72 #[v] w fun e w' => e = .returned (.int .i64 (greatR s)) ∧ Kp w w' := by
 obtain ⟨ad, c, rfl⟩ := hv.slice
 have C := Hd (prev_of ad s.length c s 1099511627776 w (asS_sane _ s w hv (sane_i64 hs) hs) hs (by omega) (by omega) (by omega))
 rw [prv_high hs h0] at C
 simp only at C
 generalize greatR s = x at *
 clear hv hs h0
 go_enter Tryz.func72, Tryz.ntmps72
 go_wp2_with fail
 refine (C.out).mono ?_
 rintro e w1 ⟨rfl, kk⟩
 go_wp2
 go_ret
 exact ⟨rfl, kk⟩
theorem nwEdges_any (f : LF) (va vb : Value) (w : World) (h : LeafOk w f va vb) (T : Tabs w) :
  Calls Tryz.prog 34 #[leafV f va vb] w fun e w' => ∃ v u, e = .returned (.tuple #[v, u, .bool (okE f)]) ∧ OwnR w' w.heap.size v (startsR (famR f)) ∧ OwnR w' w.heap.size u (endsR (famR f)) ∧ Kp w w' := by
 have C := Hd (fun w1 (kk : Kp w w1) => leafStartsO_any f va vb w1 (h.kp kk) (T.kp kk))
 have D := Hd (fun w1 (kk : Kp w w1) => leafEndsO_any f va vb w1 (h.kp kk) (T.kp kk))
 have E := Hd (show okE f = (startsB (famR f) && endsB (famR f)) from rfl)
 generalize startsB (famR f) = p at *
 generalize endsB (famR f) = q at *
 generalize startsR (famR f) = s at *
 generalize endsR (famR f) = t at *
 generalize okE f = r at *
 obtain ⟨sp, u, a, b⟩ := f
 obtain ⟨ad, ca, rfl⟩ := h.a.slice
 obtain ⟨bd, cb, rfl⟩ := h.b.slice
 unfold leafV at C D ⊢
 simp only at C D ⊢
 have K0 := Hd (Kp.alloc w (.cells #[.bool sp, .int .i64 u, .slice ad a.length ca, .slice bd b.length cb] 44))
 clear h T
 obtain ⟨W0, hW⟩ : ∃ x, x = w.alloc (.cells #[.bool sp, .int .i64 u, .slice ad a.length ca, .slice bd b.length cb] 44) := ⟨_, rfl⟩
 have k0 : Kp w W0 := by rw [hW]; exact Kp.alloc _ _
 have g0 : W0.heap[w.heap.size]? = some (.cells #[.bool sp, .int .i64 u, .slice ad a.length ca, .slice bd b.length cb] 44 (0, 0)) := by rw [hW]; exact heap_at _ _ _ rfl
 have HB := Hd (fun w' (kq : Kp W0 w') => row4 (heap_block kq g0))
 have KW := Hd k0
 have HW := Hd hW
 clear hW g0 k0
 go_enter Tryz.func34, Tryz.ntmps34
 go_upto_region 1 with fail
 rw [← HW.out]
 obtain ⟨c0, c1, c2, c3⟩ := HB.out W0 (Kp.refl _)
 go_wp2_with fail
 refine (C.out _ KW.out).mono ?_
 rintro e w1 ⟨v1, rfl, o1, k1⟩
 obtain ⟨a1, l1, rfl⟩ := own_slice o1
 have K1 := Hd k1
 have O1 := Hd o1
 clear c0 c1 c2 c3 o1
 obtain ⟨c0, c1, c2, c3⟩ := HB.out w1 k1
 clear k1
 go_wp2_with fail
 refine (D.out _ (KW.out.trans K1.out)).mono ?_
 rintro e w2 ⟨v2, rfl, o2, k2⟩
 obtain ⟨a2, l2, rfl⟩ := own_slice o2
 have K2 := Hd k2
 have O2 := Hd o2
 have PO := Hd (show OwnR w2 w.heap.size (.slice a1 s.length l1) s from own_mono (own_kp O1.out k2) (Below.size KW.out))
 have PP := Hd (show OwnR w2 w.heap.size (.slice a2 t.length l2) t from own_mono o2 (Below.size (KW.out.trans K1.out)))
 clear k2 o2 c0 c1 c2 c3 O1 O2
 cases p with
 | true =>
  have E2 : r = q := E.out
  subst E2
  clear E
  go_wp2
  exact bodyPost_ret (v := .tuple #[.slice a1 s.length l1, .slice a2 t.length l2, .bool r]) (by simp [results, Tryz.results34, go_sem]) rfl ⟨_, _, rfl, PO.out, PP.out, KW.out.trans (K1.out.trans K2.out)⟩
 | false =>
  have E2 : r = false := E.out
  subst E2
  clear E
  go_wp2
  exact bodyPost_ret (v := .tuple #[.slice a1 s.length l1, .slice a2 t.length l2, .bool false]) (by simp [results, Tryz.results34, go_sem]) rfl ⟨_, _, rfl, PO.out, PP.out, KW.out.trans (K1.out.trans K2.out)⟩
end Go.Proofs.YtcooaoponkkpeaaGreatDoor
