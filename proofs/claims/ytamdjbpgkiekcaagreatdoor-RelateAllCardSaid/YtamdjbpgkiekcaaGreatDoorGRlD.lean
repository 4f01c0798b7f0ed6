import Derived.Test.YtamdjbpgkiekcaaGreatDoorGRlB
import Derived.Test.YtamdjbpgkiekcaaGreatDoorGEnv
import Derived.Test.YtamdjbpgkiekcaaGreatDoorGImgC
import Derived.Test.YtamdjbpgkiekcaaGreatDoorGRlC
import Derived.Test.YtamdjbpgkiekcaaGreatDoorAllenMM
namespace Go.Proofs.YtamdjbpgkiekcaaGreatDoor
set_option linter.unusedVariables false
set_option linter.unusedSimpArgs false
abbrev LO := Bool × List R × List R
noncomputable def dyF (f : LF) : List R := if fullB f = true ∧ f.sp = false ∧ f.u = 0 then startsR (famR f) else []
noncomputable def prF (u : Int) (f : LF) : List R := if fullB f = true ∧ f.sp = false ∧ f.u = u ∧ u ≠ 0 then pairsF (famR f) else []
noncomputable def lsF (f : LF) : List LO := if fullB f = true ∧ f.sp = true then [(false, startsR (famR f), endsR (famR f))] else []
noncomputable def dyL (l : List LF) : List R := l.flatMap dyF
noncomputable def prL (l : List LF) (u : Int) : List R := l.flatMap (prF u)
noncomputable def lsL (l : List LF) : List LO := l.flatMap lsF
theorem full_leaf {f : LF} (h : fullB f = true) : leafB f = true := by
 rcases Bool.eq_false_or_eq_true (leafB f) with g | g
 ·exact g
 ·unfold fullB at h
  rw [famR_no g] at h
  exact absurd h (by decide)
theorem full_units {f : LF} (h : fullB f = true) (hs : f.sp = false) : famR f = .units f.u f.a ∧ 0 < cnt f.u ∧ setB f.u f.a = true := by
 have g := full_leaf h
 exact ⟨famR_units g hs, (leafB_units g hs).1, (leafB_units g hs).2.1⟩
theorem full_span {f : LF} (h : fullB f = true) (hs : f.sp = true) : ∃ s e, famR f = .span s e ∧ 0 < s.length := by
 have g := full_leaf h
 unfold fullB at h
 by_cases h0 : f.a.length = 0 ∨ f.b.length = 0
 ·rw [famR_none g hs h0] at h
  exact absurd h (by decide)
 ·rw [famR_span g hs h0] at h ⊢
  refine ⟨_, _, rfl, ?_⟩
  rw [emptyF_s] at h
  refine Nat.pos_of_ne_zero fun e => ?_
  rw [decide_eq_true e] at h
  cases h
theorem nums_sing (l : List Int) : nums (sing l) = l := by
 unfold nums sing
 rw [List.flatMap_map]
 have : ∀ n : Int, runF (n, n) = [n] := fun n => by
  unfold runF
  rw [show ((n, n) : R).2 - ((n, n) : R).1 + 1 = 1 by simp]
  simp [upF]
 simp [this]
theorem nums_edges {f : LF} (h : fullB f = true) (hs : f.sp = false) (hu : f.u ≠ 0) (hb : startsB (famR f) = true) :
  nums (startsR (famR f)) = (nums f.a).map (firV f.u) ∧ nums (endsR (famR f)) = (nums f.a).map (lasV f.u) ∧ (nums f.a).length ≤ 400 := by
 obtain ⟨e, _, sb⟩ := full_units h hs
 rw [e] at hb ⊢
 have hb' : edgB f.u f.a = true := hb
 refine ⟨?_, ?_, ?_⟩
 ·show nums (edgR (firV f.u) f.u f.a) = _
  rw [edgR_fir, if_pos hb', if_neg hu, setB_units sb, nums_sing]
 ·show nums (edgR (lasV f.u) f.u f.a) = _
  rw [edgR_las, if_pos hb', if_neg hu, setB_units sb, nums_sing]
 ·unfold edgB at hb'
  rw [if_neg hu, setB_units sb] at hb'
  simpa using hb'
theorem zip_pairs {f : LF} (h : fullB f = true) (hs : f.sp = false) (hu : f.u ≠ 0) (hb : startsB (famR f) = true) :
  zipR (nums (startsR (famR f))) (nums (endsR (famR f))) = pairsF (famR f) ∧ (pairsF (famR f)).length ≤ 400 ∧ (nums (startsR (famR f))).length ≤ 400 ∧ (nums (endsR (famR f))).length = (nums (startsR (famR f))).length := by
 obtain ⟨e1, e2, e3⟩ := nums_edges h hs hu hb
 obtain ⟨e, _, _⟩ := full_units h hs
 have e4 : pairsF (famR f) = (nums f.a).map fun i => (firV f.u i, lasV f.u i) := by rw [e]; rfl
 rw [e1, e2, e4]
 refine ⟨?_, by simpa using e3, by simpa using e3, by simp⟩
 unfold zipR
 generalize nums f.a = l
 induction l with
 | nil => rfl
 | cons x l ih => simp only [List.map_cons, List.zip_cons_cons]; rw [ih]
theorem len_prF (u : Int) (f : LF) (hb : startsB (famR f) = true) : (prF u f).length ≤ 400 := by
 unfold prF
 split
 ·rename_i h
  obtain ⟨h1, h2, h3, h4⟩ := h
  exact (zip_pairs h1 h2 (by rw [h3]; exact h4) hb).2.1
 ·simp
theorem len_dyF (f : LF) : (dyF f).length ≤ 400 := by
 unfold dyF
 split
 ·exact starts_len _
 ·simp
theorem flat_le {α β : Type} (f : α → List β) (c : Nat) : ∀ l : List α, (∀ x ∈ l, (f x).length ≤ c) → (l.flatMap f).length ≤ c * l.length
 | [], _ => by simp
 | x :: l, h => by
  rw [List.flatMap_cons, List.length_append, List.length_cons]
  have a := h x (by simp)
  have b := flat_le f c l fun y hy => h y (by simp [hy])
  have : c * (l.length + 1) = c * l.length + c := Nat.mul_succ _ _
  omega
theorem len_prL (u : Int) (l : List LF) (hb : ∀ f ∈ l, startsB (famR f) = true) : (prL l u).length ≤ 400 * l.length := flat_le _ _ _ fun f hf => len_prF u f (hb f hf)
theorem len_dyL (l : List LF) : (dyL l).length ≤ 400 * l.length := flat_le _ _ _ fun f _ => len_dyF f
theorem len_lsL (l : List LF) : (lsL l).length ≤ 1 * l.length := flat_le _ _ _ fun f _ => by unfold lsF; split <;> simp
theorem prL_unit {u : Int} {l : List LF} {p : R} (h : p ∈ prL l u) : ∃ i, 0 ≤ i ∧ i < cnt u ∧ p = (fst u i, lst u i) ∧ hasL l p.1 p.2 = true := by
 unfold prL at h
 obtain ⟨f, hf, hp⟩ := List.mem_flatMap.1 h
 unfold prF at hp
 split at hp
 ·rename_i g
  obtain ⟨g1, g2, g3, g4⟩ := g
  obtain ⟨e, c, sb⟩ := full_units g1 g2
  have hh := (mem_pairs (famR_ok f) p.1 p.2).1 hp
  have hl : hasL l p.1 p.2 = true := List.any_eq_true.2 ⟨f, hf, hh⟩
  have h2 := hh
  rw [e, hasF_units sb] at h2
  obtain ⟨i, m, a, b⟩ := h2
  obtain ⟨i0, i1⟩ := setB_mem sb m
  rw [g3] at a b i1
  exact ⟨i, i0, i1, by rw [a, b], hl⟩
 ·cases hp
theorem prL_rise {u : Int} {l : List LF} {p q : R} (hp : p ∈ prL l u) (hq : q ∈ prL l u) (h : p.1 ≤ q.1) : p.2 ≤ q.2 := by
 obtain ⟨i, i0, i1, rfl, _⟩ := prL_unit hp
 obtain ⟨j, j0, j1, rfl, _⟩ := prL_unit hq
 simp only at h ⊢
 by_cases c : i ≤ j
 ·exact lst_mono i0 c j1
 ·have a := unit_next j0 (by omega : j < i) i1
  have b := (span_bd j0 j1).2.1
  omega
theorem prL_bd {u : Int} {l : List LF} {p : R} (h : p ∈ prL l u) : 0 ≤ p.1 ∧ p.1 ≤ p.2 ∧ p.2 ≤ 3652424 := by
 obtain ⟨_, _, _, _, g⟩ := prL_unit h
 obtain ⟨f, _, hg⟩ := List.any_eq_true.1 g
 have := hasF_le (famR_ok f) hg
 omega
theorem dyL_mem {l : List LF} (hb : ∀ f ∈ l, startsB (famR f) = true) (n : Int) : memR (dyL l) n ↔ ∃ f ∈ l, f.sp = false ∧ f.u = 0 ∧ fullB f = true ∧ hasF (famR f) n n = true := by
 have key : ∀ f ∈ l, (memR (dyF f) n ↔ f.sp = false ∧ f.u = 0 ∧ fullB f = true ∧ hasF (famR f) n n = true) := by
  intro f hf
  unfold dyF
  split
  ·rename_i g
   obtain ⟨g1, g2, g3⟩ := g
   rw [starts_mem (famR_ok f) (hb f hf)]
   obtain ⟨e, _, sb⟩ := full_units g1 g2
   constructor
   ·rintro ⟨T, hT⟩
    have h2 := hT
    rw [e, g3] at h2
    rw [g3] at sb
    rw [hasF_units sb] at h2
    obtain ⟨i, m, a, b⟩ := h2
    have e1 : fst 0 i = i := fst_zero i
    have e2 : lst 0 i = i := lst_zero i
    refine ⟨g2, g3, g1, ?_⟩
    rw [show T = n by omega] at hT
    exact hT
   ·rintro ⟨_, _, _, h⟩
    exact ⟨n, h⟩
  ·rename_i g
   constructor
   ·intro m; exact absurd m (memR_nil n)
   ·rintro ⟨a, b, c, _⟩; exact absurd ⟨c, a, b⟩ g
 have fl : ∀ m : List LF, memR (m.flatMap dyF) n ↔ ∃ f ∈ m, memR (dyF f) n := by
  intro m
  induction m with
  | nil => simp; exact memR_nil n
  | cons x m ih => rw [List.flatMap_cons, memR_append, ih]; simp
 unfold dyL
 rw [fl]
 constructor
 ·rintro ⟨f, hf, m⟩; exact ⟨f, hf, (key f hf).1 m⟩
 ·rintro ⟨f, hf, m⟩; exact ⟨f, hf, (key f hf).2 m⟩
theorem has_span {f : LF} (h : fullB f = true) (hs : f.sp = true) (hb : startsB (famR f) = true) (he : endsB (famR f) = true) (S T : Int) :
  hasF (famR f) S T = true ↔ lsP false (startsR (famR f)) (endsR (famR f)) S T := by
 obtain ⟨s, e, eq, _⟩ := full_span h hs
 have fo := famR_ok f
 rw [eq] at hb he fo ⊢
 have h1 : s.length ≤ 400 := by simpa [startsB] using hb
 have h2 : e.length ≤ 400 := by simpa [endsB] using he
 rw [hasF_span (setB_sane fo.1) (setB_sane fo.2.1), show startsR (.span s e) = s from if_pos h1, show endsR (.span s e) = e from if_pos h2]
 exact ⟨fun ⟨a, b, c⟩ => ls_mk a b c, ls_f⟩
theorem has_parts {l : List LF} (hb : ∀ f ∈ l, startsB (famR f) = true ∧ endsB (famR f) = true) (S T : Int) :
  hasL l S T = true ↔ (S = T ∧ memR (dyL l) S) ∨ (∃ u : Nat, u < 6 ∧ (S, T) ∈ prL l u) ∨ ∃ x ∈ lsL l, lsP x.1 x.2.1 x.2.2 S T := by
 unfold hasL
 rw [List.any_eq_true]
 constructor
 ·rintro ⟨f, hf, h⟩
  have fu := full_of h
  rcases Bool.eq_false_or_eq_true f.sp with hs | hs
  ·refine .inr (.inr ⟨(false, startsR (famR f), endsR (famR f)), List.mem_flatMap.2 ⟨f, hf, ?_⟩, (has_span fu hs (hb f hf).1 (hb f hf).2 S T).1 h⟩)
   unfold lsF
   rw [if_pos ⟨fu, hs⟩]
   simp
  ·by_cases hu : f.u = 0
   ·refine .inl ?_
    obtain ⟨e, _, sb⟩ := full_units fu hs
    have h2 := h
    rw [e, hu] at h2
    rw [hu] at sb
    rw [hasF_units sb] at h2
    obtain ⟨i, m, a, b⟩ := h2
    have e1 : fst 0 i = i := fst_zero i
    have e2 : lst 0 i = i := lst_zero i
    have e3 : S = T := by omega
    refine ⟨e3, (dyL_mem (fun f hf => (hb f hf).1) S).2 ⟨f, hf, hs, hu, fu, ?_⟩⟩
    rw [← e3] at h
    exact h
   ·obtain ⟨e, c, sb⟩ := full_units fu hs
    have cs := cnt_six c
    refine .inr (.inl ⟨f.u.toNat, by omega, List.mem_flatMap.2 ⟨f, hf, ?_⟩⟩)
    unfold prF
    rw [if_pos ⟨fu, hs, by omega, by omega⟩]
    exact (mem_pairs (famR_ok f) S T).2 h
 ·rintro (⟨rfl, h⟩ | ⟨u, hu, h⟩ | ⟨x, hx, h⟩)
  ·obtain ⟨f, hf, _, _, _, g⟩ := (dyL_mem (fun f hf => (hb f hf).1) S).1 h
   exact ⟨f, hf, g⟩
  ·obtain ⟨_, _, _, _, g⟩ := prL_unit h
   exact List.any_eq_true.1 g
  ·obtain ⟨f, hf, hx⟩ := List.mem_flatMap.1 hx
   unfold lsF at hx
   split at hx
   ·rename_i g
    simp only [List.mem_singleton] at hx
    subst hx
    exact ⟨f, hf, (has_span g.1 g.2 (hb f hf).1 (hb f hf).2 S T).2 h⟩
   ·cases hx
theorem ls_span {l : List LF} (hb : ∀ f ∈ l, startsB (famR f) = true ∧ endsB (famR f) = true) : ∀ x ∈ lsL l, LsOkP x.1 x.2.1 x.2.2 ∧ x.2.1.length ≤ 400 ∧ x.2.2.length ≤ 400 := by
 intro x hx
 obtain ⟨f, hf, hx⟩ := List.mem_flatMap.1 hx
 unfold lsF at hx
 split at hx
 ·rename_i g
  simp only [List.mem_singleton] at hx
  subst hx
  refine ⟨?_, starts_len _, ends_len _⟩
  obtain ⟨s, e, eq, hs⟩ := full_span g.1 g.2
  have h1 := (hb f hf).1
  have h2 := (hb f hf).2
  have fo := famR_ok f
  simp only
  rw [eq] at h1 h2 fo ⊢
  have h3 : s.length ≤ 400 := by simpa [startsB] using h1
  have h4 : e.length ≤ 400 := by simpa [endsB] using h2
  rw [show startsR (.span s e) = s from if_pos h3, show endsR (.span s e) = e from if_pos h4]
  have ss := setB_sane fo.1
  obtain ⟨m, mm, _⟩ := fo.2.2.1 _ (least_mem ss hs)
  refine ⟨ss, setB_sane fo.2.1, hs, mem_pos mm, (fun q => by cases q), ?_, ?_, ?_, ?_⟩
  ·intro n hn
   obtain ⟨t, a, b⟩ := fo.2.2.1 n hn
   exact ⟨t, a, b⟩
  ·intro n hn
   obtain ⟨t, a, b⟩ := fo.2.2.2 n hn
   exact ⟨t, a, b⟩
  ·intro n hn
   have := setB_mem fo.1 hn
   rw [cnt_zero] at this
   omega
  ·intro n hn
   have := setB_mem fo.2.1 hn
   rw [cnt_zero] at this
   omega
 ·cases hx
theorem ls_days {l : List LF} (hb : ∀ f ∈ l, startsB (famR f) = true) (h0 : 0 < (nf (dyL l)).length) : LsOkP true (nf (dyL l)) (nf (dyL l)) := by
 have bd : ∀ n, memR (nf (dyL l)) n → 0 ≤ n ∧ n ≤ 3652424 := by
  intro n hn
  rw [nf_mem, dyL_mem hb] at hn
  obtain ⟨f, _, _, _, _, g⟩ := hn
  have := hasF_le (famR_ok f) g
  omega
 exact ⟨nf_sane _, nf_sane _, h0, h0, fun _ => rfl, fun n hn => ⟨n, hn, Int.le_refl _⟩, fun n hn => ⟨n, hn, Int.le_refl _⟩, bd, bd⟩
theorem dyL_i64 {l : List LF} : I64R (dyL l) := by
 intro r hr
 obtain ⟨f, hf, hr⟩ := List.mem_flatMap.1 hr
 unfold dyF at hr
 split at hr
 ·exact sane_i64 (starts_sane (famR_ok f)) r hr
 ·cases hr
open Go.RowKit
def relP (P Q : Int → Int → Prop) (r : Nat) : Prop := ∃ S T S' T', P S T ∧ Q S' T' ∧ rel S T S' T' = r
def prOk (P : Int → Int → Prop) : Prop := ∀ S T, P S T → 0 ≤ S ∧ S ≤ T ∧ T ≤ 3652424
theorem ask_rel {Q : Int → Int → Prop} {L : List R} (hL : prOk fun S T => (S, T) ∈ L) (hQ : prOk Q) {r : Nat} (hr : r ≤ 12) : (∃ p ∈ L, askP Q r p) ↔ relP (fun S T => (S, T) ∈ L) Q r := by
 unfold askP relP
 constructor
 ·rintro ⟨⟨S, T⟩, hp, S', T', hq, hb⟩
  have a := hL S T hp
  have b := hQ S' T' hq
  exact ⟨S, T, S', T', hp, hq, (way_rel hr a.2.1 b.2.1 a.1 a.2.2 b.1 b.2.2).1 hb⟩
 ·rintro ⟨S, T, S', T', hp, hq, hb⟩
  have a := hL S T hp
  have b := hQ S' T' hq
  exact ⟨(S, T), hp, S', T', hq, (way_rel hr a.2.1 b.2.1 a.1 a.2.2 b.1 b.2.2).2 hb⟩
theorem ls_ok {d : Bool} {A B : List R} (h : LsOkP d A B) : prOk (lsP d A B) := by
 intro S T g
 have a := ls_le h g
 have b := h.ba _ a.2.1
 have c := h.bb _ a.2.2
 omega
theorem ex_ok {d d' : Bool} {A B C D : List R} (h : LsOkP d A B) : prOk fun S T => (S, T) ∈ exPs d A B C D := fun S T g => ls_ok h S T (exPs_in h g)
theorem ask_ex {d d' : Bool} {A B C D : List R} (h : LsOkP d A B) (g : LsOkP d' C D) {r : Nat} (hr : r ≤ 12) : (∃ p ∈ exPs d A B C D, askP (lsP d' C D) r p) ↔ relP (lsP d A B) (lsP d' C D) r := by
 rw [ask_rel (ex_ok (d' := d') h) (ls_ok g) hr]
 constructor
 ·rintro ⟨S, T, S', T', hp, hq, e⟩
  exact ⟨S, T, S', T', exPs_in h hp, hq, e⟩
 ·rintro ⟨S, T, S', T', hp, hq, e⟩
  have a := ls_ok h S T hp
  have b := ls_ok g S' T' hq
  obtain ⟨⟨s, t⟩, hp2, s', t', hq2, hb⟩ := ex_suff h g hr hp hq ((way_rel hr a.2.1 b.2.1 a.1 a.2.2 b.1 b.2.2).2 e)
  have a2 := ex_ok (d' := d') h s t hp2
  have b2 := ls_ok g s' t' hq2
  exact ⟨s, t, s', t', hp2, hq2, (way_rel hr a2.2.1 b2.2.1 a2.1 a2.2.2 b2.1 b2.2.2).1 hb⟩
theorem rel_turn {S T S' T' : Int} (h : S ≤ T) (g : S' ≤ T') : rel S' T' S T = 12 - rel S T S' T' := by
 unfold rel
 (repeat' split) <;> omega
theorem relP_turn {P Q : Int → Int → Prop} (hP : prOk P) (hQ : prOk Q) {r : Nat} (hr : r ≤ 12) : relP Q P (12 - r) ↔ relP P Q r := by
 have e : ((12 - r : Nat) : Int) = 12 - (r : Int) := by omega
 constructor
 ·rintro ⟨S, T, S', T', hp, hq, h⟩
  have t := rel_turn (hQ S T hp).2.1 (hP S' T' hq).2.1
  exact ⟨S', T', S, T, hq, hp, by rw [t, h, e]; omega⟩
 ·rintro ⟨S, T, S', T', hp, hq, h⟩
  have t := rel_turn (hP S T hp).2.1 (hQ S' T' hq).2.1
  exact ⟨S', T', S, T, hq, hp, by rw [t, h, e]⟩
def flN (m : Nat) : Nat := (flip (m : Int)).toNat
theorem flN_int (m : Nat) : flip (m : Int) = ((flN m : Nat) : Int) := by
 have := flip_bd (m : Int)
 unfold flN
 omega
theorem flN_lt (m : Nat) : flN m < 8192 := by
 have := flip_bd (m : Int)
 unfold flN
 omega
theorem bI_nat (m r : Nat) : bI (m : Int) r = ((m / 2 ^ r % 2 : Nat) : Int) := by
 unfold bI
 rw [show ((2 : Int) ^ r) = ((2 ^ r : Nat) : Int) by simp]
 omega
theorem bI_bit (m r : Nat) : bI (m : Int) r = 1 ↔ m.testBit r = true := by
 rw [bI_nat, Nat.testBit_eq_decide_div_mod_eq, decide_eq_true_iff]
 omega
theorem flN_bit (m : Nat) {r : Nat} (hr : r ≤ 12) : (flN m).testBit r = true ↔ m.testBit (12 - r) = true := by
 rw [← bI_bit, ← bI_bit, ← flN_int]
 obtain rfl | rfl | rfl | rfl | rfl | rfl | rfl | rfl | rfl | rfl | rfl | rfl | rfl : r = 0 ∨ r = 1 ∨ r = 2 ∨ r = 3 ∨ r = 4 ∨ r = 5 ∨ r = 6 ∨ r = 7 ∨ r = 8 ∨ r = 9 ∨ r = 10 ∨ r = 11 ∨ r = 12 := by omega
 ·rw [bI_flip_0]
 ·rw [bI_flip_1]
 ·rw [bI_flip_2]
 ·rw [bI_flip_3]
 ·rw [bI_flip_4]
 ·rw [bI_flip_5]
 ·rw [bI_flip_6]
 ·rw [bI_flip_7]
 ·rw [bI_flip_8]
 ·rw [bI_flip_9]
 ·rw [bI_flip_10]
 ·rw [bI_flip_11]
 ·rw [bI_flip_12]
def bitsP (m' m : Nat) (X : Nat → Prop) : Prop := ∀ r, r ≤ 12 → (m'.testBit r = true ↔ m.testBit r = true ∨ X r)
theorem bitsP_turn {m m' : Nat} {P Q : Int → Int → Prop} (hP : prOk P) (hQ : prOk Q) (h : bitsP m' (flN m) (relP Q P)) : bitsP (flN m') m (relP P Q) := by
 intro r hr
 rw [flN_bit m' hr, h (12 - r) (by omega), flN_bit m (by omega), show 12 - (12 - r) = r by omega, relP_turn hP hQ hr]
structure FdD where
 ls : List (List R)
 lo : List LO
def fdP (F : FdD) (S T : Int) : Prop := (∃ L ∈ F.ls, (S, T) ∈ L) ∨ ∃ x ∈ F.lo, lsP x.1 x.2.1 x.2.2 S T
structure FdOk (F : FdD) : Prop where
 rise : ∀ L ∈ F.ls, riseP L
 ok : ∀ L ∈ F.ls, prOk fun S T => (S, T) ∈ L
 len : ∀ L ∈ F.ls, L.length ≤ 1000000
 lo : ∀ x ∈ F.lo, LsOkP x.1 x.2.1 x.2.2 ∧ x.2.1.length ≤ 100000 ∧ x.2.2.length ≤ 100000
 n1 : F.ls.length ≤ 100
 n2 : F.lo.length ≤ 1000000
def memP (L : List R) : Int → Int → Prop := fun S T => (S, T) ∈ L
def looP (x : LO) : Int → Int → Prop := lsP x.1 x.2.1 x.2.2
theorem getD_in {α : Type} {l : List α} {i : Nat} {d : α} (h : i < l.length) : l.getD i d ∈ l := by
 rw [List.getD, List.getElem?_eq_getElem h]
 simp
theorem fdP_iff (F : FdD) (S T : Int) : fdP F S T ↔ (∃ i, i < F.ls.length ∧ memP (F.ls.getD i []) S T) ∨ ∃ i, i < F.lo.length ∧ looP (F.lo.getD i (false, [], [])) S T := by
 unfold fdP
 constructor
 ·rintro (⟨L, hL, h⟩ | ⟨x, hx, h⟩)
  ·obtain ⟨i, hi, rfl⟩ := List.getElem_of_mem hL
   exact .inl ⟨i, hi, by rw [List.getD, List.getElem?_eq_getElem hi]; exact h⟩
  ·obtain ⟨i, hi, rfl⟩ := List.getElem_of_mem hx
   exact .inr ⟨i, hi, by rw [List.getD, List.getElem?_eq_getElem hi]; exact h⟩
 ·rintro (⟨i, hi, h⟩ | ⟨i, hi, h⟩)
  ·exact .inl ⟨_, getD_in hi, h⟩
  ·exact .inr ⟨_, getD_in hi, h⟩
theorem fdOk_pr {F : FdD} (h : FdOk F) : prOk (fdP F) := by
 rintro S T (⟨L, hL, g⟩ | ⟨x, hx, g⟩)
 ·exact h.ok L hL S T g
 ·exact ls_ok (h.lo x hx).1 S T g
end Go.Proofs.YtamdjbpgkiekcaaGreatDoor
