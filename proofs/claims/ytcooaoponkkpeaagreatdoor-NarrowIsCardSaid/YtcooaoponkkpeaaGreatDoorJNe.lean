import Derived.Test.YtcooaoponkkpeaaGreatDoorJNd
set_option maxHeartbeats 16000000
set_option maxRecDepth 100000
namespace Go.Proofs.YtcooaoponkkpeaaGreatDoor
open Go.RowKit
set_option linter.unusedVariables false
set_option linter.unusedSimpArgs false
noncomputable def witT (a b : List R) (h : LF) : List LF :=
 if h.a.length = 0 then [] else if h.sp = true then partF a b (leastR h.a, greatR h.b)
 else if h.u = 0 then (if (interR (interR a b) h.a).length = 0 then [] else [⟨false, 0, interR (interR a b) h.a, []⟩])
 else (nums h.a).flatMap fun n => partF a b (firV h.u n, lasV h.u n)
noncomputable def witL (a b : List R) (f : LF) : List LF := witT a b (lfOf (famR f))
noncomputable def oneT (g : LF) (m : List LF) : List LF :=
 if g.a.length = 0 then [] else if g.sp = true then m.flatMap (witL g.a g.b) else if g.u = 0 then dysL g.a m else usL g.u g.a m
noncomputable def oneL (f : LF) (m : List LF) : List LF := oneT (lfOf (famR f)) m
noncomputable def refL (l m : List LF) : List LF := l.flatMap fun f => oneL f m
theorem fir_in {u n : Int} (h : 0 ≤ n) (h' : n < cnt u) : firV u n = fst u n ∧ lasV u n = lst u n := by
 have o := okU_of h h'
 unfold firV lasV
 rw [if_pos o, if_pos o]
 exact ⟨rfl, rfl⟩
theorem inF_day {F : Fam} (h : FOK F) (d : Int) : inF F d d ↔ coversF F d = true := by
 rw [covers_iff h]
 rfl
theorem pos_in (m : List LF) (d : Int) : memR (posR m) d ↔ inL m d d := by
 rw [posR_mem, posB_iff]
 unfold inL
 constructor
 ·rintro ⟨f, hf, g⟩; exact ⟨Int.le_refl _, f, hf, (inF_day (famR_ok f) d).2 g⟩
 ·rintro ⟨_, f, hf, g⟩; exact ⟨f, hf, (inF_day (famR_ok f) d).1 g⟩
theorem one_days {s : List R} (h : setB 0 s = true) (S T : Int) : hasL (if s.length = 0 then [] else [(⟨false, 0, s, []⟩ : LF)]) S T = true ↔ S = T ∧ memR s S := by
 by_cases h0 : s.length = 0
 ·rw [if_pos h0]
  have : s = [] := List.length_eq_zero_iff.1 h0
  subst this
  exact iff_of_false (by simp [hasL]) (fun q => memR_nil _ q.2)
 ·rw [if_neg h0]
  have hc := setB_pos h (by omega)
  have hl : leafB ⟨false, 0, s, []⟩ = true := by
   unfold leafB
   rw [if_neg (by simp)]
   simp only
   rw [h]
   simp [hc]
  have e := famR_units (f := ⟨false, 0, s, []⟩) hl rfl
  unfold hasL
  rw [List.any_cons, List.any_nil, Bool.or_false, e]
  exact has_day h S T
theorem dys_has {a : List R} (h : setB 0 a = true) (m : List LF) (S T : Int) : hasL (dysL a m) S T = true ↔ hasF (.units 0 a) S T = true ∧ inL m S T := by
 unfold dysL
 rw [one_days (setB_inter h _), has_day h, interR_mem, pos_in]
 constructor
 ·rintro ⟨rfl, a, b⟩; exact ⟨⟨rfl, a⟩, b⟩
 ·rintro ⟨⟨rfl, a⟩, b⟩; exact ⟨rfl, a, b⟩
theorem selR_sing (P : Int → Bool) (l : List Int) : selR P l = sing (l.filter P) := rfl
theorem us_mem {u : Int} {a : List R} (h : setB u a = true) (m : List LF) (n : Int) : memR (nf (selR (inP u m) (nums a))) n ↔ memR a n ∧ inL m (fst u n) (lst u n) := by
 rw [nf_mem, selR_sing, sing_mem, List.mem_filter, nums_mem (sane_ok (setB_sane h))]
 constructor
 ·rintro ⟨⟨q, p⟩, _⟩
  have b := setB_mem h q
  have e := fir_in b.1 b.2
  unfold inP at p
  rw [e.1, e.2] at p
  exact ⟨q, (inB_iff _ _ _).1 p⟩
 ·rintro ⟨q, p⟩
  have b := setB_mem h q
  have e := fir_in b.1 b.2
  have t := cnt_top u
  refine ⟨⟨q, ?_⟩, by omega, by omega⟩
  unfold inP
  rw [e.1, e.2]
  exact (inB_iff _ _ _).2 p
theorem us_setB {u : Int} {a : List R} (h : setB u a = true) (m : List LF) : setB u (nf (selR (inP u m) (nums a))) = true :=
 setB_of (nf_sane _) fun n hn => setB_mem h ((us_mem h m n).1 hn).1
theorem one_leaf {u : Int} {s : List R} (h : setB u s = true) (h0 : ¬ s.length = 0) : leafB ⟨false, u, s, []⟩ = true := by
 have hc := setB_pos h (by omega)
 unfold leafB
 rw [if_neg (by simp)]
 simp only
 rw [h]
 simp [hc]
theorem us_len {u : Int} {a : List R} (h : setB u a = true) (m : List LF) : (selR (inP u m) (nums a)).length = 0 ↔ (nf (selR (inP u m) (nums a))).length = 0 := by
 constructor
 ·intro q
  have := nf_len (selR (inP u m) (nums a))
  omega
 ·intro q
  have e0 : nf (selR (inP u m) (nums a)) = [] := List.length_eq_zero_iff.1 q
  rw [selR_sing] at e0 ⊢
  rcases hx : (nums a).filter (inP u m) with _ | ⟨x, t⟩
  ·rfl
  ·exfalso
   have hm : x ∈ (nums a).filter (inP u m) := by rw [hx]; exact List.mem_cons_self
   have q := (nums_mem (sane_ok (setB_sane h))).1 (List.mem_filter.1 hm).1
   have b := setB_mem h q
   have t := cnt_top u
   have : memR (nf (sing ((nums a).filter (inP u m)))) x := by rw [nf_mem, sing_mem]; exact ⟨hm, by omega, by omega⟩
   rw [e0] at this
   exact memR_nil _ this
theorem us_has {u : Int} {a : List R} (h : setB u a = true) (m : List LF) (S T : Int) : hasL (usL u a m) S T = true ↔ hasF (.units u a) S T = true ∧ inL m S T := by
 have hs := us_setB h m
 have key : hasL (usL u a m) S T = true ↔ hasF (.units u (nf (selR (inP u m) (nums a)))) S T = true := by
  unfold usL
  by_cases h0 : (selR (inP u m) (nums a)).length = 0
  ·rw [if_pos h0, hasF_units hs]
   have e : nf (selR (inP u m) (nums a)) = [] := List.length_eq_zero_iff.1 ((us_len h m).1 h0)
   rw [e]
   exact iff_of_false (by simp [hasL]) (fun ⟨i, q, _⟩ => memR_nil _ q)
  ·rw [if_neg h0]
   have hl := one_leaf hs (fun q => h0 ((us_len h m).2 q))
   unfold hasL
   rw [List.any_cons, List.any_nil, Bool.or_false, famR_units hl rfl]
 rw [key, hasF_units hs, hasF_units h]
 constructor
 ·rintro ⟨i, q, rfl, rfl⟩
  have := (us_mem h m i).1 q
  exact ⟨⟨i, this.1, rfl, rfl⟩, this.2⟩
 ·rintro ⟨⟨i, q, rfl, rfl⟩, p⟩
  exact ⟨i, (us_mem h m i).2 ⟨q, p⟩, rfl, rfl⟩
theorem inF_units {u : Int} {s : List R} (h : setB u s = true) (S T : Int) : inF (.units u s) S T ↔ ∃ i, memR s i ∧ fst u i ≤ S ∧ T ≤ lst u i := by
 unfold inF
 constructor
 ·rintro ⟨x, y, q, h1, h2⟩
  obtain ⟨i, hi, rfl, rfl⟩ := (hasF_units h _ _).1 q
  exact ⟨i, hi, h1, h2⟩
 ·rintro ⟨i, hi, h1, h2⟩
  exact ⟨_, _, (hasF_units h _ _).2 ⟨i, hi, rfl, rfl⟩, h1, h2⟩
theorem wit_has {a b : List R} (h : FOK (.span a b)) (f : LF) (S T : Int) : hasL (witL a b f) S T = true ↔ hasF (.span a b) S T = true ∧ inF (famR f) S T := by
 have ok := famR_ok f
 unfold witL
 revert ok
 generalize famR f = F
 intro ok
 by_cases h0 : emptyF F = true
 ·rw [lfOf_none h0]
  unfold witT
  rw [if_pos (by first | rfl | trivial)]
  exact iff_of_false (by simp [hasL]) (fun q => inF_none ok h0 S T q.2)
 ·cases F with
  | units k s =>
   have hz : ¬ s.length = 0 := by rw [emptyF_u] at h0; simpa using h0
   rw [lfOf_u1 hz]
   unfold witT
   simp only
   rw [if_neg hz, if_neg (by simp), inF_units ok]
   by_cases k0 : k = 0
   ·subst k0
    rw [if_pos (by first | rfl | trivial), one_days (setB_inter (setB_inter h.1 _) _), interR_mem, interR_mem, hasF_span (setB_sane h.1) (setB_sane h.2.1)]
    constructor
    ·rintro ⟨rfl, ⟨x, y⟩, z⟩
     have := day_unit (setB_mem ok z)
     exact ⟨⟨Int.le_refl _, x, y⟩, S, z, by omega, by omega⟩
    ·rintro ⟨⟨x, y, z⟩, i, hi, q1, q2⟩
     have := day_unit (setB_mem ok hi)
     have e1 : S = i := by omega
     have e2 : T = i := by omega
     subst e1
     subst e2
     exact ⟨rfl, ⟨y, z⟩, hi⟩
   ·rw [if_neg k0, hasL_flat]
    constructor
    ·rintro ⟨n, hn, q⟩
     have hm := (nums_mem (sane_ok (setB_sane ok))).1 hn
     have bd := setB_mem ok hm
     have e := fir_in bd.1 bd.2
     have := (part_has h.1 h.2.1 _ S T).1 q
     rw [e.1, e.2] at this
     exact ⟨this.1, n, hm, this.2⟩
    ·rintro ⟨q, n, hm, p⟩
     have bd := setB_mem ok hm
     have e := fir_in bd.1 bd.2
     exact ⟨n, (nums_mem (sane_ok (setB_sane ok))).2 hm, (part_has h.1 h.2.1 _ S T).2 ⟨q, by rw [e.1, e.2]; exact p⟩⟩
  | span s e =>
   have hz : ¬ s.length = 0 := by rw [emptyF_s] at h0; simpa using h0
   rw [lfOf_s1 hz]
   unfold witT
   simp only
   rw [if_neg hz, if_pos (by first | rfl | trivial), part_has h.1 h.2.1, inF_span ok (by omega)]
theorem one_has (f : LF) (m : List LF) (S T : Int) : hasL (oneL f m) S T = true ↔ hasF (famR f) S T = true ∧ inL m S T := by
 have ok := famR_ok f
 unfold oneL
 revert ok
 generalize famR f = F
 intro ok
 by_cases h0 : emptyF F = true
 ·rw [lfOf_none h0, (empty_iff ok).1 h0]
  unfold oneT
  rw [if_pos (by first | rfl | trivial)]
  simp [hasL]
 ·cases F with
  | units k s =>
   have hz : ¬ s.length = 0 := by rw [emptyF_u] at h0; simpa using h0
   rw [lfOf_u1 hz]
   unfold oneT
   simp only
   rw [if_neg hz, if_neg (by simp)]
   by_cases k0 : k = 0
   ·subst k0
    rw [if_pos (by first | rfl | trivial)]
    exact dys_has ok m S T
   ·rw [if_neg k0]
    exact us_has ok m S T
  | span s e =>
   have hz : ¬ s.length = 0 := by rw [emptyF_s] at h0; simpa using h0
   rw [lfOf_s1 hz]
   unfold oneT
   simp only
   rw [if_neg hz, if_pos (by first | rfl | trivial), hasL_flat]
   unfold inL
   constructor
   ·rintro ⟨x, hx, q⟩
    have := (wit_has ok x S T).1 q
    exact ⟨this.1, (hasF_le ok this.1).1, x, hx, this.2⟩
   ·rintro ⟨q, _, x, hx, p⟩
    exact ⟨x, hx, (wit_has ok x S T).2 ⟨q, p⟩⟩
theorem refL_has (l m : List LF) (S T : Int) : hasL (refL l m) S T = true ↔ leftP l m S T := by
 unfold refL leftP
 rw [hasL_flat, hasL_iff]
 constructor
 ·rintro ⟨f, hf, q⟩
  have := (one_has f m S T).1 q
  exact ⟨⟨f, hf, this.1⟩, this.2⟩
 ·rintro ⟨⟨f, hf, q⟩, p⟩
  exact ⟨f, hf, (one_has f m S T).2 ⟨q, p⟩⟩
theorem day_good {s : List R} (h : setB 0 s = true) (n : s.length ≤ 400) {g : LF} (hg : g ∈ (if s.length = 0 then [] else [(⟨false, 0, s, []⟩ : LF)])) : GLf g ∧ g = ⟨false, 0, s, []⟩ := by
 by_cases h0 : s.length = 0
 ·rw [if_pos h0] at hg; cases hg
 ·rw [if_neg h0] at hg
  have e := List.mem_singleton.1 hg
  subst e
  have hl := one_leaf h h0
  have ef := famR_units hl rfl
  have ed := edgB_day n
  exact ⟨⟨hl, by rw [ef, emptyF_u]; exact decide_eq_false h0, by rw [ef]; exact ed, by rw [ef]; exact ed, by simp only; omega, by simp⟩, rfl⟩
def Plain (g : LF) : Prop := (if g.sp = true then g.a else bothS g) = startsR (famR g) ∧ (if g.sp = true then g.b else bothE g) = endsR (famR g)
theorem plain_span {g : LF} (h : famR g = .span g.a g.b) (hs : g.sp = true) (n1 : g.a.length ≤ 400) (n2 : g.b.length ≤ 400) : Plain g := by
 unfold Plain
 rw [if_pos hs, if_pos hs, h]
 exact ⟨(if_pos n1).symm, (if_pos n2).symm⟩
theorem plain_day {s : List R} (h : setB 0 s = true) (n : s.length ≤ 400) (h0 : ¬ s.length = 0) : Plain ⟨false, 0, s, []⟩ := by
 have ef := famR_units (one_leaf h h0) rfl
 have ed := edgB_day n
 have sp0 : ¬ ((⟨false, 0, s, []⟩ : LF).sp = true) := by simp
 have u0 : (⟨false, 0, s, []⟩ : LF).u = 0 := rfl
 unfold Plain bothS bothE
 rw [if_neg sp0, if_neg sp0, if_pos u0, if_pos u0, ef]
 simp only [startsR, endsR]
 unfold edgR
 rw [if_pos ed, if_pos ed, if_pos (by first | rfl | trivial), if_pos (by first | rfl | trivial), setB_units h]
 exact ⟨rfl, rfl⟩
theorem plain_unit {u : Int} {s : List R} (k0 : u ≠ 0) : Plain ⟨false, u, s, []⟩ := by
 have sp0 : ¬ ((⟨false, u, s, []⟩ : LF).sp = true) := by simp
 have u0 : ¬ (⟨false, u, s, []⟩ : LF).u = 0 := k0
 unfold Plain bothS bothE
 rw [if_neg sp0, if_neg sp0, if_neg u0, if_neg u0]
 exact ⟨rfl, rfl⟩
theorem part_sp {s e : List R} (r : R) {f : LF} (hf : f ∈ partF s e r) : f.sp = true := by
 rw [part_is] at hf
 by_cases h0 : (lfOf (famR (cutLF s e r))).a.length = 0
 ·rw [if_pos h0] at hf; cases hf
 ·rw [if_neg h0] at hf
  rw [List.mem_singleton.1 hf]
  exact cutO_sp s e r h0
theorem part_fine {s e : List R} (hs : setB 0 s = true) (he : setB 0 e = true) (ns : s.length ≤ 400) (ne : e.length ≤ 400) (r : R) {f : LF} (hf : f ∈ partF s e r) : GLf f ∧ Plain f := by
 have h := part_good hs he ns ne r hf
 exact ⟨h.1, plain_span h.2.2.2 (part_sp r hf) (by omega) (by omega)⟩
theorem wit_good {a b : List R} (h : FOK (.span a b)) (na : a.length ≤ 40) (nb : b.length ≤ 40) (f : LF) (nf : f.a.length ≤ 40) {g : LF} (hg : g ∈ witL a b f) : GLf g ∧ Plain g := by
 have tl := (tidy_len f).1
 unfold witL at hg
 rcases tidy_cases f with ⟨k, s, e, hs⟩ | ⟨s, e, hg2, s1, s2, _, _⟩
 ·rw [e] at hg tl
  unfold witT at hg
  simp only at hg tl
  by_cases hz : s.length = 0
  ·rw [if_pos hz] at hg; cases hg
  rw [if_neg hz, if_neg (by simp)] at hg
  by_cases k0 : k = 0
  ·rw [if_pos k0] at hg
   have l1 := interR_len (setB_sane h.1) (setB_sane h.2.1)
   have l2 := interR_len (interR_sane a b) (setB_sane hs)
   have hb := setB_inter (setB_inter h.1 b) s
   have q := day_good hb (by omega) hg
   refine ⟨q.1, ?_⟩
   rw [q.2]
   refine plain_day hb (by omega) fun q0 => ?_
   rw [if_pos q0] at hg
   cases hg
  ·rw [if_neg k0] at hg
   obtain ⟨n, _, hn⟩ := List.mem_flatMap.1 hg
   exact part_fine h.1 h.2.1 (by omega) (by omega) _ hn
 ·rw [hg2] at hg
  unfold witT at hg
  simp only at hg
  by_cases hz : s.length = 0
  ·rw [if_pos hz] at hg; cases hg
  rw [if_neg hz, if_pos (by first | rfl | trivial)] at hg
  exact part_fine h.1 h.2.1 (by omega) (by omega) _ hg
theorem dayR_40 (f : LF) (n1 : f.a.length ≤ 40) (n2 : f.b.length ≤ 40) : (dayR (famR f)).length ≤ 40 := by
 have ok := famR_ok f
 rcases Bool.eq_false_or_eq_true (leafB f) with hl | hl
 ·rcases Bool.eq_false_or_eq_true f.sp with hs | hs
  ·by_cases h0 : f.a.length = 0 ∨ f.b.length = 0
   ·rw [famR_none hl hs h0]; simp [dayR]
   ·rw [famR_span hl hs h0]; simp [dayR]
  ·rw [famR_units hl hs] at ok ⊢
   unfold dayR
   refine Nat.le_trans (nf_len _) ?_
   rw [List.length_map, setB_units ok]
   exact n1
 ·rw [famR_no hl]
  have ok0 := setB_nil 0
  unfold dayR
  refine Nat.le_trans (nf_len _) ?_
  rw [List.length_map, setB_units ok0]
  simp
theorem posR_40 (l : List LF) (h : ∀ f ∈ l, f.a.length ≤ 40 ∧ f.b.length ≤ 40) : (posR l).length ≤ l.length * 40 := by
 unfold posR
 have e := nf_len (allR (l.filter fullB))
 have f1 : (l.filter fullB).length ≤ l.length := List.length_filter_le _ _
 have := flat_bd (l.filter fullB) (fun f => dayR (famR f)) 40 (fun f hf => dayR_40 f (h f (List.mem_filter.1 hf).1).1 (h f (List.mem_filter.1 hf).1).2)
 unfold allR at e ⊢
 have f4 : (l.filter fullB).length * 40 ≤ l.length * 40 := Nat.mul_le_mul_right _ f1
 omega
theorem posR_one (g : LF) (n1 : g.a.length ≤ 40) (n2 : g.b.length ≤ 40) : (posR [g]).length ≤ 40 := by
 have := posR_40 [g] (fun f hf => by rw [List.mem_singleton.1 hf]; exact ⟨n1, n2⟩)
 simpa using this
theorem preN_len {m : List LF} (h : ∀ f ∈ m, f.a.length ≤ 40 ∧ f.b.length ≤ 40) (k : Nat) : (preN m k).length ≤ m.length * 40 := by
 unfold preN
 have := posR_40 (m.take k) (fun f hf => h f (List.mem_of_mem_take hf))
 have f2 : (m.take k).length ≤ m.length := List.length_take_le' _ _
 have f4 : (m.take k).length * 40 ≤ m.length * 40 := Nat.mul_le_mul_right _ f2
 omega
theorem one_good {f : LF} {m : List LF} (n1 : f.a.length ≤ 40 ∧ f.b.length ≤ 40) (hm : ∀ g ∈ m, g.a.length ≤ 40 ∧ g.b.length ≤ 40) (nm : m.length ≤ 6) (ok : okE f = true) {g : LF} (hg : g ∈ oneL f m) : GLf g ∧ Plain g := by
 obtain ⟨t1, t2⟩ := tidy_len f
 have fok := famR_ok f
 unfold okE at ok
 rw [Bool.and_eq_true] at ok
 have pn := preN_len hm m.length
 rw [preN_all] at pn
 unfold oneL at hg
 obtain ⟨F, hF⟩ : ∃ F, famR f = F := ⟨_, rfl⟩
 rw [hF] at t1 t2 fok ok hg
 clear hF
 by_cases h0 : emptyF F = true
 ·rw [lfOf_none h0] at hg
  unfold oneT at hg
  rw [if_pos (by first | rfl | trivial)] at hg
  cases hg
 cases F with
 | units k s =>
  have hz : ¬ s.length = 0 := by rw [emptyF_u] at h0; simpa using h0
  rw [lfOf_u1 hz] at hg t1
  unfold oneT at hg
  simp only at hg t1
  rw [if_neg hz, if_neg (by simp)] at hg
  by_cases k0 : k = 0
  ·subst k0
   rw [if_pos (by first | rfl | trivial)] at hg
   unfold dysL at hg
   have hb := setB_inter fok (posR m)
   have l1 := interR_len (setB_sane fok) (posR_sane m)
   have q := day_good hb (by omega) hg
   refine ⟨q.1, ?_⟩
   rw [q.2]
   refine plain_day hb (by omega) fun q0 => ?_
   rw [if_pos q0] at hg
   cases hg
  ·rw [if_neg k0] at hg
   unfold usL at hg
   by_cases h1 : (selR (inP k m) (nums s)).length = 0
   ·rw [if_pos h1] at hg; cases hg
   rw [if_neg h1] at hg
   have e := List.mem_singleton.1 hg
   subst e
   have hs := us_setB fok m
   have hn : ¬ (Go.Proofs.YtcooaoponkkpeaaGreatDoor.nf (selR (inP k m) (nums s))).length = 0 := fun q => h1 ((us_len fok m).2 q)
   have hl := one_leaf hs hn
   have ef := famR_units hl rfl
   have ed : edgB k (Go.Proofs.YtcooaoponkkpeaaGreatDoor.nf (selR (inP k m) (nums s))) = true := edgB_sub fok hs (fun n q => ((us_mem fok m n).1 q).1) k0 ok.1
   have ln : (Go.Proofs.YtcooaoponkkpeaaGreatDoor.nf (selR (inP k m) (nums s))).length ≤ 400 := by
    have a1 := nf_len (selR (inP k m) (nums s))
    have a2 := sel_len (inP k m) (nums s)
    have a3 := ok.1
    simp only [startsB] at a3
    unfold edgB at a3
    rw [if_neg k0, decide_eq_true_eq, setB_units fok] at a3
    omega
   exact ⟨⟨hl, by rw [ef, emptyF_u]; exact decide_eq_false hn, by rw [ef]; exact ed, by rw [ef]; exact ed, by simp only; omega, by simp⟩, plain_unit k0⟩
 | span s e =>
  have hz : ¬ s.length = 0 := by rw [emptyF_s] at h0; simpa using h0
  rw [lfOf_s1 hz] at hg t1 t2
  unfold oneT at hg
  simp only at hg t1 t2
  rw [if_neg hz, if_pos (by first | rfl | trivial)] at hg
  obtain ⟨x, hx, hg⟩ := List.mem_flatMap.1 hg
  exact wit_good fok (by omega) (by omega) x (hm x hx).1 hg
theorem refL_good {l m : List LF} (hl : ∀ f ∈ l, f.a.length ≤ 40 ∧ f.b.length ≤ 40) (hm : ∀ g ∈ m, g.a.length ≤ 40 ∧ g.b.length ≤ 40) (nm : m.length ≤ 6) (ok : okEs l = true) {g : LF} (hg : g ∈ refL l m) : GLf g ∧ Plain g := by
 obtain ⟨f, hf, hg⟩ := List.mem_flatMap.1 hg
 exact one_good (hl f hf) hm nm (List.all_eq_true.1 ok f hf) hg
def NarQ (l m : List LF) (e : Int) (L : List LF) : Prop :=
 (e = 8 ∧ L = [] ∧ ((okEs l && okEs m) = false ∨ ((okEs l && okEs m) = true ∧ wideS (leftP l m)))) ∨
 (e = 9 ∧ L = [] ∧ (okEs l && okEs m) = true ∧ ∀ S T, ¬ leftP l m S T) ∨
 (e = 0 ∧ L ≠ [] ∧ (okEs l && okEs m) = true ∧ (∀ g ∈ L, GLf g) ∧ (∀ S T, hasL L S T = true ↔ leftP l m S T) ∧ ¬ wideS (leftP l m))
theorem narP_Q {l m : List LF} {e : Int} {L : List LF} (h : NarP l m e L) : NarQ l m e L := by
 rcases h with h | h | ⟨a, b, c, d, f, g, _⟩
 ·exact .inl h
 ·exact .inr (.inl h)
 ·exact .inr (.inr ⟨a, b, c, d, f, g⟩)
theorem narQ_told {l m : List LF} (hl : ∀ f ∈ l, f.a.length ≤ 40 ∧ f.b.length ≤ 40) (hm : ∀ g ∈ m, g.a.length ≤ 40 ∧ g.b.length ≤ 40) (nm : m.length ≤ 6) : NarQ l m (narE l m (refL l m)) (narL l m (refL l m)) := by
 have HI := refL_has l m
 have HG : okEs l = true → ∀ g ∈ refL l m, GLf g := fun ok g hg => (refL_good hl hm nm ok hg).1
 revert HI HG
 generalize refL l m = L
 intro HI HG
 unfold narL narE
 by_cases c : (okEs l && okEs m) = false
 ·rw [if_pos c]
  exact .inl ⟨rfl, by simp, .inl c⟩
 rw [if_neg c]
 have c' : (okEs l && okEs m) = true := by simpa using c
 have HG := HG (Bool.and_eq_true _ _ ▸ c').1
 by_cases n : L.length = 0
 ·rw [if_pos n]
  have : L = [] := List.length_eq_zero_iff.1 n
  subst this
  refine .inr (.inl ⟨rfl, by simp, c', fun S T q => ?_⟩)
  have := (HI S T).2 q
  simp [hasL] at this
 rw [if_neg n]
 have hne : L ≠ [] := fun e => n (by rw [e]; rfl)
 by_cases w : wideB L = true
 ·rw [if_pos w]
  exact .inl ⟨rfl, by simp, .inr ⟨c', (wide_iff HG HI).1 w⟩⟩
 ·rw [if_neg w]
  exact .inr (.inr ⟨rfl, by simpa using hne, c', by simpa using HG, by simpa using HI, fun q => w ((wide_iff HG HI).2 q)⟩)
theorem narQ_same {l m : List LF} {e e' : Int} {L L' : List LF} (h : NarQ l m e L) (h' : NarQ l m e' L') :
  e = e' ∧ (e = 0 ∨ L = []) ∧ (∀ S T, hasL L S T = hasL L' S T) ∧ nf (stsL L) = nf (stsL L') ∧ nf (ensL L) = nf (ensL L') := by
 have key : ∀ {e : Int} {L : List LF}, NarQ l m e L → (∀ g ∈ L, GLf g) ∧ (e ≠ 0 → L = []) ∧ (e = 0 ∨ e = 8 ∨ e = 9) ∧ (e = 9 → ∀ S T, ¬ leftP l m S T) ∧ (e = 0 → ∀ S T, hasL L S T = true ↔ leftP l m S T) ∧ (e = 8 ↔ ((okEs l && okEs m) = false ∨ wideS (leftP l m))) ∧ (e = 0 → ∃ S T, leftP l m S T) := by
  intro e L h
  rcases h with ⟨rfl, rfl, h⟩ | ⟨rfl, rfl, ok, h⟩ | ⟨rfl, h0, ok, h1, h2, h3⟩
  ·refine ⟨fun g hg => (by cases hg), fun _ => rfl, .inr (.inl rfl), fun q => (by cases q), fun q => (by cases q), iff_of_true rfl ?_, fun q => (by cases q)⟩
   exact h.imp id fun q => q.2
  ·refine ⟨fun g hg => (by cases hg), fun _ => rfl, .inr (.inr rfl), fun _ => h, fun q => (by cases q), iff_of_false (by decide) ?_, fun q => (by cases q)⟩
   rintro (q | q)
   ·rw [ok] at q; cases q
   ·obtain ⟨S, T, p⟩ := wideS_some q
    exact h S T p
  ·refine ⟨h1, fun q => absurd rfl q, .inl rfl, fun q => (by cases q), fun _ => h2, iff_of_false (by decide) ?_, fun _ => ?_⟩
   ·rintro (q | q)
    ·rw [ok] at q; cases q
    ·exact h3 q
   ·obtain ⟨S, T, p⟩ := good_some h1 h0
    exact ⟨S, T, (h2 S T).1 p⟩
 obtain ⟨g1, z1, c1, n1, b1, w1, s1⟩ := key h
 obtain ⟨g2, z2, c2, n2, b2, w2, s2⟩ := key h'
 have ee : e = e' := by
  rcases c1 with q | q | q
  ·rcases c2 with p | p | p
   ·omega
   ·have := w1.2 (w2.1 p); omega
   ·obtain ⟨S, T, r⟩ := s1 q; exact absurd r (n2 p S T)
  ·have := w2.2 (w1.1 q); omega
  ·rcases c2 with p | p | p
   ·obtain ⟨S, T, r⟩ := s2 p; exact absurd r (n1 q S T)
   ·have := w1.2 (w2.1 p); omega
   ·omega
 subst ee
 by_cases e0 : e = 0
 ·have hh : ∀ S T, hasL L S T = true ↔ hasL L' S T = true := fun S T => (b1 e0 S T).trans (b2 e0 S T).symm
  refine ⟨rfl, .inl e0, fun S T => Bool.eq_iff_iff.2 (hh S T), ?_, ?_⟩
  ·refine sane_ext (nf_sane _) (nf_sane _) fun n => ?_
   rw [nf_mem, nf_mem, sts_mem g1, sts_mem g2]
   exact exists_congr fun T => hh n T
  ·refine sane_ext (nf_sane _) (nf_sane _) fun n => ?_
   rw [nf_mem, nf_mem, ens_mem g1, ens_mem g2]
   exact exists_congr fun S => hh S n
 ·rw [z1 e0, z2 e0]
  exact ⟨rfl, .inr rfl, fun _ _ => rfl, rfl, rfl⟩
def flN (F : Int → List LF) (a : List R) (i t : Nat) : List LF := (nums (a.take i) ++ upF (at_ a i).1 t).flatMap F
theorem fl_zero (F : Int → List LF) (a : List R) : flN F a 0 0 = [] := rfl
theorem fl_next (F : Int → List LF) (a : List R) (i t : Nat) : flN F a i (t + 1) = flN F a i t ++ F ((at_ a i).1 + (t : Int)) := by
 have e : upF (at_ a i).1 (t + 1) = upF (at_ a i).1 t ++ [(at_ a i).1 + (t : Int)] := by
  unfold upF
  rw [List.range_succ, List.map_append]
  rfl
 unfold flN
 rw [e, ← List.append_assoc, List.flatMap_append, List.flatMap_cons, List.flatMap_nil, List.append_nil]
theorem fl_row (F : Int → List LF) (a : List R) {i t : Nat} (h : i < a.length) (e : t = ((at_ a i).2 - (at_ a i).1 + 1).toNat) : flN F a i t = flN F a (i + 1) 0 := by
 have h1 := nums_take a i h
 unfold flN
 rw [h1, e]
 rw [show upF (at_ a (i + 1)).1 0 = [] from rfl, List.append_nil]
 rfl
theorem fl_all (F : Int → List LF) (a : List R) : flN F a a.length 0 = (nums a).flatMap F := by
 unfold flN
 rw [List.take_length, show upF (at_ a a.length).1 0 = [] from rfl, List.append_nil]
theorem fl_len (F : Int → List LF) (a : List R) (hF : ∀ n, (F n).length ≤ 1) {i t : Nat} (h : i < a.length) (ht : t ≤ ((at_ a i).2 - (at_ a i).1 + 1).toNat) : (flN F a i t).length ≤ (nums a).length := by
 have h1 := nums_take a i h
 have h2 := nums_pre a (i + 1)
 have h3 := flat_bd (nums (a.take i) ++ upF (at_ a i).1 t) F 1 (fun x _ => hF x)
 unfold flN
 rw [h1, List.length_append] at h2
 rw [List.length_append, upF_len] at h3
 have h4 : (runF (at_ a i)).length = ((at_ a i).2 - (at_ a i).1 + 1).toNat := upF_len _ _
 omega
noncomputable def wpF (a b : List R) (k : Int) (n : Int) : List LF := partF a b (firV k n, lasV k n)
theorem wpF_len (a b : List R) (k n : Int) : (wpF a b k n).length ≤ 1 := by
 unfold wpF partF
 split <;> simp
theorem wit_0 {a b s : List R} {k : Int} (h : s.length = 0) : witT a b ⟨false, k, s, []⟩ = [] := if_pos h
theorem wit_d {a b s : List R} (h : ¬ s.length = 0) : witT a b ⟨false, 0, s, []⟩ = if (interR (interR a b) s).length = 0 then [] else [⟨false, 0, interR (interR a b) s, []⟩] := by
 unfold witT
 simp only
 rw [if_neg h, if_neg (by simp), if_pos (by first | rfl | trivial)]
theorem wit_u {a b s : List R} {k : Int} (h : ¬ s.length = 0) (k0 : k ≠ 0) : witT a b ⟨false, k, s, []⟩ = (nums s).flatMap (wpF a b k) := by
 unfold witT
 simp only
 rw [if_neg h, if_neg (by simp), if_neg k0]
 rfl
theorem wit_s {a b s e : List R} (h : 0 < s.length) : witT a b ⟨true, 0, s, e⟩ = partF a b (leastR s, greatR e) := by
 unfold witT
 simp only
 rw [if_neg (by omega), if_pos (by first | rfl | trivial)]
abbrev niP0 : Oper := ⟨some 22, .load 44 (.tmp 2), 44, "ref.go:86", #[], none⟩
abbrev niP1 : Oper := ⟨some 23, .fieldAddr 44 (.tmp 5) 2, 0, "ref.go:86", #[], none⟩
abbrev niP2 : Oper := ⟨some 24, .load 34 (.tmp 23), 34, "ref.go:86", #[⟨1, .data⟩], none⟩
abbrev niP3 : Oper := ⟨some 25, .indexAddr 34 (.tmp 24) (.const (.int .i64 0)), 0, "ref.go:86", #[⟨2, .data⟩], none⟩
abbrev niP4 : Oper := ⟨some 26, .fieldAddr 42 (.tmp 25) 0, 0, "ref.go:86", #[⟨3, .data⟩], none⟩
abbrev niP5 : Oper := ⟨some 27, .load 3 (.tmp 26), 3, "ref.go:86", #[⟨4, .data⟩], none⟩
abbrev niP6 : Oper := ⟨some 28, .fieldAddr 44 (.tmp 5) 3, 0, "ref.go:86", #[], none⟩
abbrev niP7 : Oper := ⟨some 29, .load 34 (.tmp 28), 34, "ref.go:86", #[⟨6, .data⟩], none⟩
abbrev niP8 : Oper := ⟨some 30, .fieldAddr 44 (.tmp 5) 3, 0, "ref.go:86", #[], none⟩
abbrev niP9 : Oper := ⟨some 31, .load 34 (.tmp 30), 34, "ref.go:86", #[⟨8, .data⟩], none⟩
abbrev niP10 : Oper := ⟨some 32, .call ⟨.builtin .len, #[.tmp 31], #[34]⟩, 3, "ref.go:86", #[⟨9, .data⟩], none⟩
abbrev niP11 : Oper := ⟨some 33, .binOp .sub 3 (.tmp 32) (.const (.int .i64 1)) 3, 3, "ref.go:86", #[⟨10, .data⟩], none⟩
abbrev niP12 : Oper := ⟨some 34, .indexAddr 34 (.tmp 29) (.tmp 33), 0, "ref.go:86", #[⟨7, .data⟩, ⟨11, .data⟩], none⟩
abbrev niP13 : Oper := ⟨some 35, .fieldAddr 42 (.tmp 34) 1, 0, "ref.go:86", #[⟨12, .data⟩], none⟩
abbrev niP14 : Oper := ⟨some 36, .load 3 (.tmp 35), 3, "ref.go:86", #[⟨13, .data⟩], none⟩
abbrev niP15 : Oper := ⟨some 37, .call ⟨.value (.func 139), #[.tmp 22, .tmp 27, .tmp 36], #[44, 3, 3]⟩, 22, "ref.go:86", #[⟨0, .data⟩, ⟨5, .data⟩, ⟨14, .data⟩], none⟩
abbrev niP16 : Oper := ⟨some 4, .assign (.tmp 37), 22, "ref.go:86", #[⟨15, .data⟩, ⟨15, .chain⟩, ⟨0, .phase⟩, ⟨1, .phase⟩, ⟨2, .phase⟩, ⟨3, .phase⟩, ⟨4, .phase⟩, ⟨5, .phase⟩, ⟨6, .phase⟩, ⟨7, .phase⟩, ⟨8, .phase⟩, ⟨9, .phase⟩, ⟨10, .phase⟩, ⟨11, .phase⟩, ⟨12, .phase⟩, ⟨13, .phase⟩, ⟨14, .phase⟩, ⟨15, .phase⟩], none⟩
abbrev niQ0 : Oper := ⟨some 41, .fieldAddr 44 (.tmp 2) 2, 0, "ref.go:89", #[], none⟩
abbrev niQ1 : Oper := ⟨some 42, .load 34 (.tmp 41), 34, "ref.go:89", #[⟨0, .data⟩], none⟩
abbrev niQ2 : Oper := ⟨some 43, .fieldAddr 44 (.tmp 2) 3, 0, "ref.go:89", #[], none⟩
abbrev niQ3 : Oper := ⟨some 44, .load 34 (.tmp 43), 34, "ref.go:89", #[⟨2, .data⟩], none⟩
abbrev niQ4 : Oper := ⟨some 45, .call ⟨.value (.func 67), #[.tmp 42, .tmp 44], #[34, 34]⟩, 34, "ref.go:89", #[⟨1, .data⟩, ⟨3, .data⟩], none⟩
abbrev niQ5 : Oper := ⟨some 46, .fieldAddr 44 (.tmp 5) 2, 0, "ref.go:89", #[], none⟩
abbrev niQ6 : Oper := ⟨some 47, .load 34 (.tmp 46), 34, "ref.go:89", #[⟨5, .data⟩], none⟩
abbrev niQ7 : Oper := ⟨some 48, .call ⟨.value (.func 67), #[.tmp 45, .tmp 47], #[34, 34]⟩, 34, "ref.go:89", #[⟨4, .data⟩, ⟨6, .data⟩, ⟨4, .chain⟩], none⟩
abbrev niQ8 : Oper := ⟨some 6, .assign (.tmp 48), 34, "ref.go:89", #[⟨7, .data⟩, ⟨7, .chain⟩, ⟨0, .phase⟩, ⟨1, .phase⟩, ⟨2, .phase⟩, ⟨3, .phase⟩, ⟨4, .phase⟩, ⟨5, .phase⟩, ⟨6, .phase⟩, ⟨7, .phase⟩], none⟩
theorem rwit_0 (f g : LF) (vfa vfb vga vgb : Value) (w : World) (hf : LeafOk w f vfa vfb) (hg : LeafOk w g vga vgb) {k : Int} {s : List R} (hlf : lfOf (famR f) = ⟨false, k, s, []⟩) (h0 : s.length = 0) :
  Calls Tryz.prog 84 #[leafV g vga vgb, leafV f vfa vfb] w fun e w' => ∃ v' x, e = .returned v' ∧ x.map Prod.fst = witL g.a g.b f ∧ OwnV w' w.heap.size x ∧ w'.ownsRow w.heap.size 44 4 v' x.length (cellsV x) ∧ Kp w w' := by
 have C := Hd (fun w1 (kk : Kp w w1) => refTidy_any f vfa vfb w1 (hf.kp kk))
 have DF : witL g.a g.b f = witT g.a g.b (lfOf (famR f)) := rfl
 rw [hlf] at C DF
 obtain ⟨sg, ug, ga, gb⟩ := g
 obtain ⟨aga, cga, rfl⟩ := hg.a.slice
 obtain ⟨agb, cgb, rfl⟩ := hg.b.slice
 generalize witL ga gb f = DX at *
 obtain ⟨sp, u, a, b⟩ := f
 obtain ⟨aa, ca, rfl⟩ := hf.a.slice
 obtain ⟨ab, cb, rfl⟩ := hf.b.slice
 simp only [leafV] at C ⊢
 simp only at DF
 rw [wit_0 h0] at DF
 have DF := Hd DF
 have q0 : ((s.length : Int) == 0) = true := by rw [h0]; rfl
 clear h0
 have HG := Hd hg
 have n1 := hg.na
 have n2 := hg.nb
 simp only at n1 n2
 clear hf hg hlf
 obtain ⟨V3, hVb⟩ : ∃ x, x = (w.alloc (.cells #[.bool sg, .int .i64 ug, .slice aga ga.length cga, .slice agb gb.length cgb] 44)).alloc (.cells #[.bool sp, .int .i64 u, .slice aa a.length ca, .slice ab b.length cb] 44) := ⟨_, rfl⟩
 have kab : Kp w V3 := by rw [hVb]; exact (Kp.alloc _ _).trans (Kp.alloc _ _)
 have gqb0 : V3.heap[w.heap.size]? = some (.cells #[.bool sg, .int .i64 ug, .slice aga ga.length cga, .slice agb gb.length cgb] 44 (0, 0)) := by rw [hVb]; exact heap_block (Kp.alloc _ _) (heap_at _ _ _ (by first | rfl | simp))
 have gqb1 : V3.heap[w.heap.size + 1]? = some (.cells #[.bool sp, .int .i64 u, .slice aa a.length ca, .slice ab b.length cb] 44 (0, 0)) := by rw [hVb]; exact heap_at _ _ _ (by first | rfl | simp)
 have KSb := Hd (fun w' (kq : Kp V3 w') => show w'.cell? ⟨w.heap.size, 0, none⟩ = some (.bool sg) ∧ w'.cell? ⟨w.heap.size, 1, none⟩ = some (.int .i64 ug) ∧ w'.cell? ⟨w.heap.size, 2, none⟩ = some (.slice aga ga.length cga) ∧ w'.cell? ⟨w.heap.size, 3, none⟩ = some (.slice agb gb.length cgb) ∧ w'.cell? ⟨w.heap.size + 1, 0, none⟩ = some (.bool sp) ∧ w'.cell? ⟨w.heap.size + 1, 1, none⟩ = some (.int .i64 u) ∧ w'.cell? ⟨w.heap.size + 1, 2, none⟩ = some (.slice aa a.length ca) ∧ w'.cell? ⟨w.heap.size + 1, 3, none⟩ = some (.slice ab b.length cb) ∧ Kp V3 w' from ⟨(row4 (heap_block kq gqb0)).1, (row4 (heap_block kq gqb0)).2.1, (row4 (heap_block kq gqb0)).2.2.1, (row4 (heap_block kq gqb0)).2.2.2, (row4 (heap_block kq gqb1)).1, (row4 (heap_block kq gqb1)).2.1, (row4 (heap_block kq gqb1)).2.2.1, (row4 (heap_block kq gqb1)).2.2.2, kq⟩)
 have GQb0 := Hd gqb0
 have GQb1 := Hd gqb1
 have HVb := Hd hVb
 have KB := Hd kab
 clear hVb kab gqb0 gqb1
 have kkV3 : Kp V3 V3 := Kp.refl _
 go_enter Tryz.func84, Tryz.ntmps84
 go_wp2_with fail
 rw [← HVb.out]
 refine (C.out _ KB.out).mono ?_
 rintro e w1 ⟨va9, vb9, rfl, okh, kk0⟩
 obtain ⟨ax, cx, rfl⟩ := okh.a.slice
 obtain ⟨ay, cy, e2⟩ := okh.b.slice
 have e2 : vb9 = .slice ay 0 cy := e2
 subst e2
 have kk : Kp V3 w1 := kk0
 have kk1 : Kp w1 (w1.alloc (.cells #[.bool false, .int .i64 k, .slice ax s.length cx, .slice ay 0 cy] 44)) := Kp.alloc _ _
 have kk3 : Kp V3 (w1.alloc (.cells #[.bool false, .int .i64 k, .slice ax s.length cx, .slice ay 0 cy] 44)) := kk.trans (Kp.alloc _ _)
 obtain ⟨V, hVc⟩ : ∃ x, x = w1.alloc (.cells #[.bool false, .int .i64 k, .slice ax s.length cx, .slice ay 0 cy] 44) := ⟨_, rfl⟩
 have kac : Kp w1 V := by rw [hVc]; exact Kp.alloc _ _
 have gqc0 : V.heap[w1.heap.size]? = some (.cells #[.bool false, .int .i64 k, .slice ax s.length cx, .slice ay 0 cy] 44 (0, 0)) := by rw [hVc]; exact heap_at _ _ _ (by first | rfl | simp)
 rw [← hVc] at kk1 kk3
 have KSc := Hd (fun w' (kq : Kp V w') => show w'.cell? ⟨w1.heap.size, 0, none⟩ = some (.bool false) ∧ w'.cell? ⟨w1.heap.size, 1, none⟩ = some (.int .i64 k) ∧ w'.cell? ⟨w1.heap.size, 2, none⟩ = some (.slice ax s.length cx) ∧ w'.cell? ⟨w1.heap.size, 3, none⟩ = some (.slice ay 0 cy) ∧ w'.cell? ⟨w.heap.size, 0, none⟩ = some (.bool sg) ∧ w'.cell? ⟨w.heap.size, 1, none⟩ = some (.int .i64 ug) ∧ w'.cell? ⟨w.heap.size, 2, none⟩ = some (.slice aga ga.length cga) ∧ w'.cell? ⟨w.heap.size, 3, none⟩ = some (.slice agb gb.length cgb) ∧ Kp V w' from ⟨(row4 (heap_block kq gqc0)).1, (row4 (heap_block kq gqc0)).2.1, (row4 (heap_block kq gqc0)).2.2.1, (row4 (heap_block kq gqc0)).2.2.2, cell_up kq (KSb.out V kk3).1, cell_up kq (KSb.out V kk3).2.1, cell_up kq (KSb.out V kk3).2.2.1, cell_up kq (KSb.out V kk3).2.2.2.1, kq⟩)
 have GQc0 := Hd gqc0
 have HVc := Hd hVc
 have KC := Hd kac
 clear hVc kac gqc0
 have kkV : Kp V V := Kp.refl _
 have KV := Hd (KB.out.trans kk3)
 have OKH := Hd (okh.kp KC.out)
 have GV := Hd (HG.out.kp KV.out)
 have ns := okh.na
 simp only at ns
 clear okh kk kk0 kk1 kk3 HG C KSb
 go_upto_region 2 with fail
 rw [← HVc.out]
 clear HVc
 obtain ⟨xc0, xc1, xc2, xc3, xc4, xc5, xc6, xc7, _⟩ := KSc.out _ kkV
 go_wp2
 go_ret
 exact ⟨_, [], rfl, DF.out.symm, fun p hp => (by cases hp), World.ownsRow_nil _ _ _ _, KV.out⟩
theorem rwit_s (f g : LF) (vfa vfb vga vgb : Value) (w : World) (hf : LeafOk w f vfa vfb) (hg : LeafOk w g vga vgb) {s t : List R} (hlf : lfOf (famR f) = ⟨true, 0, s, t⟩) (m1 : 0 < s.length) (m2 : 0 < t.length) (ii : I64R [(leastR s, greatR t)]) :
  Calls Tryz.prog 84 #[leafV g vga vgb, leafV f vfa vfb] w fun e w' => ∃ v' x, e = .returned v' ∧ x.map Prod.fst = witL g.a g.b f ∧ OwnV w' w.heap.size x ∧ w'.ownsRow w.heap.size 44 4 v' x.length (cellsV x) ∧ Kp w w' := by
 have C := Hd (fun w1 (kk : Kp w w1) => refTidy_any f vfa vfb w1 (hf.kp kk))
 have DF : witL g.a g.b f = witT g.a g.b (lfOf (famR f)) := rfl
 rw [hlf] at C DF
 obtain ⟨sg, ug, ga, gb⟩ := g
 obtain ⟨aga, cga, rfl⟩ := hg.a.slice
 obtain ⟨agb, cgb, rfl⟩ := hg.b.slice
 generalize witL ga gb f = DX at *
 obtain ⟨sp, u, a, b⟩ := f
 obtain ⟨aa, ca, rfl⟩ := hf.a.slice
 obtain ⟨ab, cb, rfl⟩ := hf.b.slice
 simp only [leafV] at C ⊢
 simp only at DF
 rw [wit_s m1] at DF
 obtain ⟨x, hx⟩ : ∃ q, leastR s = q := ⟨_, rfl⟩
 obtain ⟨y, hy⟩ : ∃ q, greatR t = q := ⟨_, rfl⟩
 rw [hx, hy] at DF ii
 have DF := Hd DF
 have HG := Hd hg
 have n1 := hg.na
 have n2 := hg.nb
 simp only at n1 n2
 clear hf hg hlf
 obtain ⟨V3, hVb⟩ : ∃ x, x = (w.alloc (.cells #[.bool sg, .int .i64 ug, .slice aga ga.length cga, .slice agb gb.length cgb] 44)).alloc (.cells #[.bool sp, .int .i64 u, .slice aa a.length ca, .slice ab b.length cb] 44) := ⟨_, rfl⟩
 have kab : Kp w V3 := by rw [hVb]; exact (Kp.alloc _ _).trans (Kp.alloc _ _)
 have gqb0 : V3.heap[w.heap.size]? = some (.cells #[.bool sg, .int .i64 ug, .slice aga ga.length cga, .slice agb gb.length cgb] 44 (0, 0)) := by rw [hVb]; exact heap_block (Kp.alloc _ _) (heap_at _ _ _ (by first | rfl | simp))
 have gqb1 : V3.heap[w.heap.size + 1]? = some (.cells #[.bool sp, .int .i64 u, .slice aa a.length ca, .slice ab b.length cb] 44 (0, 0)) := by rw [hVb]; exact heap_at _ _ _ (by first | rfl | simp)
 have KSb := Hd (fun w' (kq : Kp V3 w') => show w'.cell? ⟨w.heap.size, 0, none⟩ = some (.bool sg) ∧ w'.cell? ⟨w.heap.size, 1, none⟩ = some (.int .i64 ug) ∧ w'.cell? ⟨w.heap.size, 2, none⟩ = some (.slice aga ga.length cga) ∧ w'.cell? ⟨w.heap.size, 3, none⟩ = some (.slice agb gb.length cgb) ∧ w'.cell? ⟨w.heap.size + 1, 0, none⟩ = some (.bool sp) ∧ w'.cell? ⟨w.heap.size + 1, 1, none⟩ = some (.int .i64 u) ∧ w'.cell? ⟨w.heap.size + 1, 2, none⟩ = some (.slice aa a.length ca) ∧ w'.cell? ⟨w.heap.size + 1, 3, none⟩ = some (.slice ab b.length cb) ∧ Kp V3 w' from ⟨(row4 (heap_block kq gqb0)).1, (row4 (heap_block kq gqb0)).2.1, (row4 (heap_block kq gqb0)).2.2.1, (row4 (heap_block kq gqb0)).2.2.2, (row4 (heap_block kq gqb1)).1, (row4 (heap_block kq gqb1)).2.1, (row4 (heap_block kq gqb1)).2.2.1, (row4 (heap_block kq gqb1)).2.2.2, kq⟩)
 have GQb0 := Hd gqb0
 have GQb1 := Hd gqb1
 have HVb := Hd hVb
 have KB := Hd kab
 clear hVb kab gqb0 gqb1
 have kkV3 : Kp V3 V3 := Kp.refl _
 go_enter Tryz.func84, Tryz.ntmps84
 go_wp2_with fail
 rw [← HVb.out]
 refine (C.out _ KB.out).mono ?_
 rintro e w1 ⟨va9, vb9, rfl, okh, kk0⟩
 obtain ⟨ba, oa, c1', ev, x0, x1⟩ := ends_at okh.a (by simp only; omega)
 simp only at ev x0 x1
 subst ev
 obtain ⟨bb, ob, c2', ev, y0, y1⟩ := ends_at okh.b (by simp only; omega)
 simp only at ev y0 y1
 subst ev
 have nt := okh.nb
 simp only at nt
 rw [hx] at x0
 rw [hy] at y1
 have kk : Kp V3 w1 := kk0
 have kk1 : Kp w1 (w1.alloc (.cells #[.bool true, .int .i64 0, .slice (some ⟨ba, oa, none⟩) s.length c1', .slice (some ⟨bb, ob, none⟩) t.length c2'] 44)) := Kp.alloc _ _
 have kk3 : Kp V3 (w1.alloc (.cells #[.bool true, .int .i64 0, .slice (some ⟨ba, oa, none⟩) s.length c1', .slice (some ⟨bb, ob, none⟩) t.length c2'] 44)) := kk.trans (Kp.alloc _ _)
 obtain ⟨V, hVc⟩ : ∃ x, x = w1.alloc (.cells #[.bool true, .int .i64 0, .slice (some ⟨ba, oa, none⟩) s.length c1', .slice (some ⟨bb, ob, none⟩) t.length c2'] 44) := ⟨_, rfl⟩
 have kac : Kp w1 V := by rw [hVc]; exact Kp.alloc _ _
 have gqc0 : V.heap[w1.heap.size]? = some (.cells #[.bool true, .int .i64 0, .slice (some ⟨ba, oa, none⟩) s.length c1', .slice (some ⟨bb, ob, none⟩) t.length c2'] 44 (0, 0)) := by rw [hVc]; exact heap_at _ _ _ (by first | rfl | simp)
 rw [← hVc] at kk1 kk3
 have KSc := Hd (fun w' (kq : Kp V w') => show w'.cell? ⟨w1.heap.size, 0, none⟩ = some (.bool true) ∧ w'.cell? ⟨w1.heap.size, 1, none⟩ = some (.int .i64 0) ∧ w'.cell? ⟨w1.heap.size, 2, none⟩ = some (.slice (some ⟨ba, oa, none⟩) s.length c1') ∧ w'.cell? ⟨w1.heap.size, 3, none⟩ = some (.slice (some ⟨bb, ob, none⟩) t.length c2') ∧ w'.cell? ⟨w.heap.size, 0, none⟩ = some (.bool sg) ∧ w'.cell? ⟨w.heap.size, 1, none⟩ = some (.int .i64 ug) ∧ w'.cell? ⟨w.heap.size, 2, none⟩ = some (.slice aga ga.length cga) ∧ w'.cell? ⟨w.heap.size, 3, none⟩ = some (.slice agb gb.length cgb) ∧ w'.cell? ⟨ba, oa, none⟩ = some (.int .i64 x) ∧ w'.cell? ⟨bb, ob + (t.length - 1) * 2 + 1, none⟩ = some (.int .i64 y) ∧ Kp V w' from ⟨(row4 (heap_block kq gqc0)).1, (row4 (heap_block kq gqc0)).2.1, (row4 (heap_block kq gqc0)).2.2.1, (row4 (heap_block kq gqc0)).2.2.2, cell_up kq (KSb.out V kk3).1, cell_up kq (KSb.out V kk3).2.1, cell_up kq (KSb.out V kk3).2.2.1, cell_up kq (KSb.out V kk3).2.2.2.1, cell_up kq (cell_up kk1 x0), cell_up kq (cell_up kk1 y1), kq⟩)
 have GQc0 := Hd gqc0
 have HVc := Hd hVc
 have KC := Hd kac
 clear hVc kac gqc0
 have kkV : Kp V V := Kp.refl _
 have KV := Hd (KB.out.trans kk3)
 have OKH := Hd (okh.kp KC.out)
 have GV := Hd (HG.out.kp KV.out)
 have ns := okh.na
 simp only at ns
 clear x0 x1 y0 y1
 clear okh kk kk0 kk1 kk3 HG C KSb
 go_upto_region 2 with fail
 rw [← HVc.out]
 clear HVc
 obtain ⟨xc0, xc1, xc2, xc3, xc4, xc5, xc6, xc7, xc8, xc9, _⟩ := KSc.out _ kkV
 have q0 : ((s.length : Int) == 0) = false := beq_eq_false_iff_ne.2 (by omega)
 have wz : 0 < s.length := by omega
 have wt : (t.length : Int) - 1 = ((t.length - 1 : Nat) : Int) := by omega
 have wu : IntKind.i64.wrap ((t.length - 1 : Nat) : Int) = ((t.length - 1 : Nat) : Int) := IntWalk.i64_in _ (by omega)
 have wx : t.length - 1 < t.length := by omega
 have wy : ((t.length - 1 : Nat) : Int) < (t.length : Int) := by omega
 have wv : (0 : Int) ≤ ((t.length - 1 : Nat) : Int) := by omega
 have CB := Hd (fun w2 (kk : Kp V w2) => rboxO_any ⟨sg, ug, ga, gb⟩ _ _ x y w2 (GV.out.kp kk) ii)
 simp only [leafV] at CB
 generalize partF ga gb (x, y) = PX at *
 clear hx hy
 go_upto_region 5 with fail
 refine wp_region_held_drew (S := fun w' => w'.cell? ⟨w1.heap.size, 0, none⟩ = some (.bool true) ∧ w'.cell? ⟨w1.heap.size, 1, none⟩ = some (.int .i64 0) ∧ w'.cell? ⟨w1.heap.size, 2, none⟩ = some (.slice (some ⟨ba, oa, none⟩) s.length c1') ∧ w'.cell? ⟨w1.heap.size, 3, none⟩ = some (.slice (some ⟨bb, ob, none⟩) t.length c2') ∧ w'.cell? ⟨w.heap.size, 0, none⟩ = some (.bool sg) ∧ w'.cell? ⟨w.heap.size, 1, none⟩ = some (.int .i64 ug) ∧ w'.cell? ⟨w.heap.size, 2, none⟩ = some (.slice aga ga.length cga) ∧ w'.cell? ⟨w.heap.size, 3, none⟩ = some (.slice agb gb.length cgb) ∧ w'.cell? ⟨ba, oa, none⟩ = some (.int .i64 x) ∧ w'.cell? ⟨bb, ob + (t.length - 1) * 2 + 1, none⟩ = some (.int .i64 y) ∧ Kp V w') (by kernel_rfl) ?_ (fun hHeld0 => ?_)
 ·(try dsimp only); exact KSc.out _ (ky kkV)
 refine tkv 0 niP0 ?_
 (try simp only [Act.put, niP0, xA, xB, xC])
 refine tkv 1 niP1 ?_
 (try simp only [Act.put, niP1, xA, xB, xC])
 refine tkv 2 niP2 ?_
 (try simp only [Act.put, niP2, xA, xB, xC])
 refine tkv 3 niP3 ?_
 (try simp only [Act.put, niP3, xA, xB, xC])
 refine tkv 4 niP4 ?_
 (try simp only [Act.put, niP4, xA, xB, xC])
 refine tkv 5 niP5 ?_
 (try simp only [Act.put, niP5, xA, xB, xC])
 refine tkv 6 niP6 ?_
 (try simp only [Act.put, niP6, xA, xB, xC])
 refine tkv 7 niP7 ?_
 (try simp only [Act.put, niP7, xA, xB, xC])
 refine tkv 8 niP8 ?_
 (try simp only [Act.put, niP8, xA, xB, xC])
 refine tkv 9 niP9 ?_
 (try simp only [Act.put, niP9, xA, xB, xC])
 refine tkv 10 niP10 ?_
 (try simp only [Act.put, niP10, xA, xB, xC])
 refine tkv 11 niP11 ?_
 (try simp only [Act.put, niP11, xA, xB, xC])
 refine tkv 12 niP12 ?_
 (try simp only [Act.put, niP12, xA, xB, xC])
 refine tkv 13 niP13 ?_
 (try simp only [Act.put, niP13, xA, xB, xC])
 refine tkv 14 niP14 ?_
 (try simp only [Act.put, niP14, xA, xB, xC])
 refine tkE 15 niP15 rfl (by kernel_rfl) (fun K hK => ?_)
 go_simp
 (refine (CB.out _ (ky kkV)).mono ?_; rintro e wf ⟨v6, m6, rfl, hm6, ov6, ow6, kq1⟩; have kkwf : Kp V wf := Kp.trans (show Kp V _ from (ky kkV)) kq1; obtain ⟨a6, l6, rfl⟩ := own_slice4 ow6; have OL := Hd (own_mono ow6 (KV.out.trans (show Kp V _ from (ky kkV))).size); have OM := Hd (ov6.mono (KV.out.trans (show Kp V _ from (ky kkV))).size); have HM6 := Hd hm6; clear ow6 ov6 hm6; clear kq1)
 (try go_wp2_with fail)
 refine hK.out _ _ ?_ (fun hHeld1 => ?_)
 ·(try dsimp only); exact KSc.out _ (ky kkwf)
 clear hK K hHeld0
 (try simp only [Act.put, niP15, xA, xB, xC])
 refine tkv 16 niP16 ?_
 (try simp only [Act.put, niP16, xA, xB, xC])
 refine wpAnyH_done (by kernel_rfl) ?_ _
 go_wp2
 go_ret
 exact ⟨_, m6, rfl, HM6.out.trans DF.out.symm, OM.out.kp (ky (Kp.refl wf)), own_kp OL.out (ky (Kp.refl wf)), KV.out.trans (ky kkwf)⟩
theorem rwit_d (f g : LF) (vfa vfb vga vgb : Value) (w : World) (hf : LeafOk w f vfa vfb) (hg : LeafOk w g vga vgb) {s : List R} (hlf : lfOf (famR f) = ⟨false, 0, s, []⟩) (h0 : ¬ s.length = 0) (hs : FOK (.span g.a g.b)) (ss : sane s) :
  Calls Tryz.prog 84 #[leafV g vga vgb, leafV f vfa vfb] w fun e w' => ∃ v' x, e = .returned v' ∧ x.map Prod.fst = witL g.a g.b f ∧ OwnV w' w.heap.size x ∧ w'.ownsRow w.heap.size 44 4 v' x.length (cellsV x) ∧ Kp w w' := by
 have C := Hd (fun w1 (kk : Kp w w1) => refTidy_any f vfa vfb w1 (hf.kp kk))
 have DF : witL g.a g.b f = witT g.a g.b (lfOf (famR f)) := rfl
 rw [hlf] at C DF
 obtain ⟨sg, ug, ga, gb⟩ := g
 obtain ⟨aga, cga, rfl⟩ := hg.a.slice
 obtain ⟨agb, cgb, rfl⟩ := hg.b.slice
 generalize witL ga gb f = DX at *
 obtain ⟨sp, u, a, b⟩ := f
 obtain ⟨aa, ca, rfl⟩ := hf.a.slice
 obtain ⟨ab, cb, rfl⟩ := hf.b.slice
 simp only [leafV] at C ⊢
 simp only at DF
 rw [wit_d h0] at DF
 have DF := Hd DF
 have q0 : ((s.length : Int) == 0) = false := beq_eq_false_iff_ne.2 (by omega)
 have HG := Hd hg
 have n1 := hg.na
 have n2 := hg.nb
 simp only at n1 n2
 clear hf hg hlf
 obtain ⟨V3, hVb⟩ : ∃ x, x = (w.alloc (.cells #[.bool sg, .int .i64 ug, .slice aga ga.length cga, .slice agb gb.length cgb] 44)).alloc (.cells #[.bool sp, .int .i64 u, .slice aa a.length ca, .slice ab b.length cb] 44) := ⟨_, rfl⟩
 have kab : Kp w V3 := by rw [hVb]; exact (Kp.alloc _ _).trans (Kp.alloc _ _)
 have gqb0 : V3.heap[w.heap.size]? = some (.cells #[.bool sg, .int .i64 ug, .slice aga ga.length cga, .slice agb gb.length cgb] 44 (0, 0)) := by rw [hVb]; exact heap_block (Kp.alloc _ _) (heap_at _ _ _ (by first | rfl | simp))
 have gqb1 : V3.heap[w.heap.size + 1]? = some (.cells #[.bool sp, .int .i64 u, .slice aa a.length ca, .slice ab b.length cb] 44 (0, 0)) := by rw [hVb]; exact heap_at _ _ _ (by first | rfl | simp)
 have KSb := Hd (fun w' (kq : Kp V3 w') => show w'.cell? ⟨w.heap.size, 0, none⟩ = some (.bool sg) ∧ w'.cell? ⟨w.heap.size, 1, none⟩ = some (.int .i64 ug) ∧ w'.cell? ⟨w.heap.size, 2, none⟩ = some (.slice aga ga.length cga) ∧ w'.cell? ⟨w.heap.size, 3, none⟩ = some (.slice agb gb.length cgb) ∧ w'.cell? ⟨w.heap.size + 1, 0, none⟩ = some (.bool sp) ∧ w'.cell? ⟨w.heap.size + 1, 1, none⟩ = some (.int .i64 u) ∧ w'.cell? ⟨w.heap.size + 1, 2, none⟩ = some (.slice aa a.length ca) ∧ w'.cell? ⟨w.heap.size + 1, 3, none⟩ = some (.slice ab b.length cb) ∧ Kp V3 w' from ⟨(row4 (heap_block kq gqb0)).1, (row4 (heap_block kq gqb0)).2.1, (row4 (heap_block kq gqb0)).2.2.1, (row4 (heap_block kq gqb0)).2.2.2, (row4 (heap_block kq gqb1)).1, (row4 (heap_block kq gqb1)).2.1, (row4 (heap_block kq gqb1)).2.2.1, (row4 (heap_block kq gqb1)).2.2.2, kq⟩)
 have GQb0 := Hd gqb0
 have GQb1 := Hd gqb1
 have HVb := Hd hVb
 have KB := Hd kab
 clear hVb kab gqb0 gqb1
 have kkV3 : Kp V3 V3 := Kp.refl _
 go_enter Tryz.func84, Tryz.ntmps84
 go_wp2_with fail
 rw [← HVb.out]
 refine (C.out _ KB.out).mono ?_
 rintro e w1 ⟨va9, vb9, rfl, okh, kk0⟩
 obtain ⟨ax, cx, rfl⟩ := okh.a.slice
 obtain ⟨ay, cy, e2⟩ := okh.b.slice
 have e2 : vb9 = .slice ay 0 cy := e2
 subst e2
 have kk : Kp V3 w1 := kk0
 have kk1 : Kp w1 (w1.alloc (.cells #[.bool false, .int .i64 0, .slice ax s.length cx, .slice ay 0 cy] 44)) := Kp.alloc _ _
 have kk3 : Kp V3 (w1.alloc (.cells #[.bool false, .int .i64 0, .slice ax s.length cx, .slice ay 0 cy] 44)) := kk.trans (Kp.alloc _ _)
 obtain ⟨V, hVc⟩ : ∃ x, x = w1.alloc (.cells #[.bool false, .int .i64 0, .slice ax s.length cx, .slice ay 0 cy] 44) := ⟨_, rfl⟩
 have kac : Kp w1 V := by rw [hVc]; exact Kp.alloc _ _
 have gqc0 : V.heap[w1.heap.size]? = some (.cells #[.bool false, .int .i64 0, .slice ax s.length cx, .slice ay 0 cy] 44 (0, 0)) := by rw [hVc]; exact heap_at _ _ _ (by first | rfl | simp)
 rw [← hVc] at kk1 kk3
 have KSc := Hd (fun w' (kq : Kp V w') => show w'.cell? ⟨w1.heap.size, 0, none⟩ = some (.bool false) ∧ w'.cell? ⟨w1.heap.size, 1, none⟩ = some (.int .i64 0) ∧ w'.cell? ⟨w1.heap.size, 2, none⟩ = some (.slice ax s.length cx) ∧ w'.cell? ⟨w1.heap.size, 3, none⟩ = some (.slice ay 0 cy) ∧ w'.cell? ⟨w.heap.size, 0, none⟩ = some (.bool sg) ∧ w'.cell? ⟨w.heap.size, 1, none⟩ = some (.int .i64 ug) ∧ w'.cell? ⟨w.heap.size, 2, none⟩ = some (.slice aga ga.length cga) ∧ w'.cell? ⟨w.heap.size, 3, none⟩ = some (.slice agb gb.length cgb) ∧ Kp V w' from ⟨(row4 (heap_block kq gqc0)).1, (row4 (heap_block kq gqc0)).2.1, (row4 (heap_block kq gqc0)).2.2.1, (row4 (heap_block kq gqc0)).2.2.2, cell_up kq (KSb.out V kk3).1, cell_up kq (KSb.out V kk3).2.1, cell_up kq (KSb.out V kk3).2.2.1, cell_up kq (KSb.out V kk3).2.2.2.1, kq⟩)
 have GQc0 := Hd gqc0
 have HVc := Hd hVc
 have KC := Hd kac
 clear hVc kac gqc0
 have kkV : Kp V V := Kp.refl _
 have KV := Hd (KB.out.trans kk3)
 have OKH := Hd (okh.kp KC.out)
 have GV := Hd (HG.out.kp KV.out)
 have ns := okh.na
 simp only at ns
 clear okh kk kk0 kk1 kk3 HG C KSb
 go_upto_region 2 with fail
 rw [← HVc.out]
 clear HVc
 obtain ⟨xc0, xc1, xc2, xc3, xc4, xc5, xc6, xc7, _⟩ := KSc.out _ kkV
 have nI := interR_len (setB_sane hs.1) (setB_sane hs.2.1)
 (try simp only at nI)
 have C1 := Hd (fun w2 (kk : Kp V w2) => rmeet_any _ _ ga gb w2 (GV.out.a.kp kk) (GV.out.b.kp kk) GV.out.ia GV.out.ib (by omega) (by omega))
 have C2 := Hd (fun v w2 (kk : Kp V w2) (r : RunsAt w2 v (interR ga gb)) => rmeetO_any v _ (interR ga gb) s w2 r (OKH.out.a.kp kk) (sane_i64 (interR_sane _ _)) OKH.out.ia (by omega) (by omega))
 generalize interR (interR ga gb) s = IX at *
 generalize interR ga gb = IY at *
 clear nI
 go_upto_region 7 with fail
 refine wp_region_held_drew (S := fun w' => w'.cell? ⟨w1.heap.size, 0, none⟩ = some (.bool false) ∧ w'.cell? ⟨w1.heap.size, 1, none⟩ = some (.int .i64 0) ∧ w'.cell? ⟨w1.heap.size, 2, none⟩ = some (.slice ax s.length cx) ∧ w'.cell? ⟨w1.heap.size, 3, none⟩ = some (.slice ay 0 cy) ∧ w'.cell? ⟨w.heap.size, 0, none⟩ = some (.bool sg) ∧ w'.cell? ⟨w.heap.size, 1, none⟩ = some (.int .i64 ug) ∧ w'.cell? ⟨w.heap.size, 2, none⟩ = some (.slice aga ga.length cga) ∧ w'.cell? ⟨w.heap.size, 3, none⟩ = some (.slice agb gb.length cgb) ∧ Kp V w') (by kernel_rfl) ?_ (fun hHeld0 => ?_)
 ·(try dsimp only); exact KSc.out _ (ky kkV)
 refine tkv 0 niQ0 ?_
 (try simp only [Act.put, niQ0, xA, xB, xC])
 refine tkv 1 niQ1 ?_
 (try simp only [Act.put, niQ1, xA, xB, xC])
 refine tkv 2 niQ2 ?_
 (try simp only [Act.put, niQ2, xA, xB, xC])
 refine tkv 3 niQ3 ?_
 (try simp only [Act.put, niQ3, xA, xB, xC])
 refine tkv 5 niQ5 ?_
 (try simp only [Act.put, niQ5, xA, xB, xC])
 refine tkv 6 niQ6 ?_
 (try simp only [Act.put, niQ6, xA, xB, xC])
 refine tkE 4 niQ4 rfl (by kernel_rfl) (fun K hK => ?_)
 go_simp
 (refine (C1.out _ (ky kkV)).mono ?_; rintro e wd ⟨v1, rfl, r1, kq1⟩; have kkwd : Kp V wd := Kp.trans (show Kp V _ from (ky kkV)) kq1; obtain ⟨a1, c1, rfl⟩ := r1.slice; have R1 := Hd r1; clear r1; clear kq1)
 (try go_wp2_with fail)
 refine hK.out _ _ ?_ (fun hHeld1 => ?_)
 ·(try dsimp only); exact KSc.out _ (ky kkwd)
 clear hK K hHeld0
 (try simp only [Act.put, niQ4, xA, xB, xC])
 refine tkE 7 niQ7 rfl (by kernel_rfl) (fun K hK => ?_)
 go_simp
 (refine (C2.out _ _ (ky kkwd) (R1.out.kp (ky (Kp.refl wd)))).mono ?_; rintro e we ⟨v2, rfl, o2, kq1⟩; have kkwe : Kp V we := Kp.trans (show Kp V _ from (ky kkwd)) kq1; obtain ⟨a2, c2, rfl⟩ := own_slice o2; have O2 := Hd (own_mono o2 (KV.out.trans (show Kp V _ from (ky kkwd))).size); clear o2; clear kq1)
 (try go_wp2_with fail)
 refine hK.out _ _ ?_ (fun hHeld2 => ?_)
 ·(try dsimp only); exact KSc.out _ (ky kkwe)
 clear hK K hHeld1
 (try simp only [Act.put, niQ7, xA, xB, xC])
 refine tkv 8 niQ8 ?_
 (try simp only [Act.put, niQ8, xA, xB, xC])
 refine wpAnyH_done (by kernel_rfl) ?_ _
 by_cases h1 : IX.length = 0
 ·have q1 : ((IX.length : Int) == 0) = true := by rw [h1]; rfl
  have DN := Hd (show [] = DX by rw [DF.out, if_pos h1])
  clear h1 DF
  go_wp2
  go_ret
  exact ⟨_, [], rfl, DN.out, fun p hp => (by cases hp), World.ownsRow_nil _ _ _ _, KV.out.trans (ky kkwe)⟩
 have q1 : ((IX.length : Int) == 0) = false := beq_eq_false_iff_ne.2 (by omega)
 have DN := Hd (show [⟨false, 0, IX, []⟩] = DX by rw [DF.out, if_neg h1])
 clear h1 DF
 go_wp2
 go_ret
 exact ⟨_, [((⟨false, 0, IX, []⟩ : LF), ((.slice a2 IX.length c2, .slice none 0 0) : VV))], rfl, DN.out, fun p hp => (by rw [List.mem_singleton.1 hp]; exact ⟨own_kp O2.out (ky (Kp.refl we)), World.ownsRow_nil _ _ _ _⟩), own_mono (own_leaf _ ⟨false, 0, IX, []⟩ (.slice a2 IX.length c2) (.slice none 0 0)) (KV.out.trans (ky kkwe)).size, KV.out.trans (ky kkwe)⟩
end Go.Proofs.YtcooaoponkkpeaaGreatDoor
