import Derived.Test.YtcooaoponkkpeaaGreatDoorJP
import Derived.Test.YtcooaoponkkpeaaGreatDoorJO
import Derived.Test.YtcooaoponkkpeaaGreatDoorGImgC
import Derived.Test.YtcooaoponkkpeaaGreatDoorJD
import Derived.Shelf.Spec.SlicesGrow
set_option maxHeartbeats 16000000
set_option maxRecDepth 100000
namespace Go.Proofs.YtcooaoponkkpeaaGreatDoor
set_option linter.unusedVariables false
set_option linter.unusedSimpArgs false
abbrev LO := Bool × List R × List R
noncomputable def dyF (f : LF) : List R := if fullB f = true ∧ f.sp = false ∧ f.u = 0 then startsR (famR f) else []
noncomputable def prF (u : Int) (f : LF) : List R := if fullB f = true ∧ f.sp = false ∧ f.u = u ∧ u ≠ 0 then pairsF (famR f) else []
noncomputable def lsF (f : LF) : List LO := if fullB f = true ∧ f.sp = true then [(false, startsR (famR f), endsR (famR f))] else []
noncomputable def dyL (l : List LF) : List R := l.flatMap dyF
noncomputable def prL (l : List LF) (u : Int) : List R := l.flatMap (prF u)
noncomputable def lsL (l : List LF) : List LO := l.flatMap lsF
theorem full_leaf {f : LF} (h : fullB f = true) : leafB f = true := by
 rcases Bool.eq_false_or_eq_true (leafB f) with g | g
 ·exact g
 ·unfold fullB at h
  rw [famR_no g] at h
  exact absurd h (by decide)
theorem full_units {f : LF} (h : fullB f = true) (hs : f.sp = false) : famR f = .units f.u f.a ∧ 0 < cnt f.u ∧ setB f.u f.a = true := by
 have g := full_leaf h
 exact ⟨famR_units g hs, (leafB_units g hs).1, (leafB_units g hs).2.1⟩
theorem full_span {f : LF} (h : fullB f = true) (hs : f.sp = true) : ∃ s e, famR f = .span s e ∧ 0 < s.length := by
 have g := full_leaf h
 unfold fullB at h
 by_cases h0 : f.a.length = 0 ∨ f.b.length = 0
 ·rw [famR_none g hs h0] at h
  exact absurd h (by decide)
 ·rw [famR_span g hs h0] at h ⊢
  refine ⟨_, _, rfl, ?_⟩
  rw [emptyF_s] at h
  refine Nat.pos_of_ne_zero fun e => ?_
  rw [decide_eq_true e] at h
  cases h
theorem nums_sing (l : List Int) : nums (sing l) = l := by
 unfold nums sing
 rw [List.flatMap_map]
 have : ∀ n : Int, runF (n, n) = [n] := fun n => by
  unfold runF
  rw [show ((n, n) : R).2 - ((n, n) : R).1 + 1 = 1 by simp]
  simp [upF]
 simp [this]
theorem nums_edges {f : LF} (h : fullB f = true) (hs : f.sp = false) (hu : f.u ≠ 0) (hb : startsB (famR f) = true) :
  nums (startsR (famR f)) = (nums f.a).map (firV f.u) ∧ nums (endsR (famR f)) = (nums f.a).map (lasV f.u) ∧ (nums f.a).length ≤ 400 := by
 obtain ⟨e, _, sb⟩ := full_units h hs
 rw [e] at hb ⊢
 have hb' : edgB f.u f.a = true := hb
 refine ⟨?_, ?_, ?_⟩
 ·show nums (edgR (firV f.u) f.u f.a) = _
  rw [edgR_fir, if_pos hb', if_neg hu, setB_units sb, nums_sing]
 ·show nums (edgR (lasV f.u) f.u f.a) = _
  rw [edgR_las, if_pos hb', if_neg hu, setB_units sb, nums_sing]
 ·unfold edgB at hb'
  rw [if_neg hu, setB_units sb] at hb'
  simpa using hb'
theorem zip_pairs {f : LF} (h : fullB f = true) (hs : f.sp = false) (hu : f.u ≠ 0) (hb : startsB (famR f) = true) :
  zipR (nums (startsR (famR f))) (nums (endsR (famR f))) = pairsF (famR f) ∧ (pairsF (famR f)).length ≤ 400 ∧ (nums (startsR (famR f))).length ≤ 400 ∧ (nums (endsR (famR f))).length = (nums (startsR (famR f))).length := by
 obtain ⟨e1, e2, e3⟩ := nums_edges h hs hu hb
 obtain ⟨e, _, _⟩ := full_units h hs
 have e4 : pairsF (famR f) = (nums f.a).map fun i => (firV f.u i, lasV f.u i) := by rw [e]; rfl
 rw [e1, e2, e4]
 refine ⟨?_, by simpa using e3, by simpa using e3, by simp⟩
 unfold zipR
 generalize nums f.a = l
 induction l with
 | nil => rfl
 | cons x l ih => simp only [List.map_cons, List.zip_cons_cons]; rw [ih]
theorem len_prF (u : Int) (f : LF) (hb : startsB (famR f) = true) : (prF u f).length ≤ 400 := by
 unfold prF
 split
 ·rename_i h
  obtain ⟨h1, h2, h3, h4⟩ := h
  exact (zip_pairs h1 h2 (by rw [h3]; exact h4) hb).2.1
 ·simp
theorem len_dyF (f : LF) : (dyF f).length ≤ 400 := by
 unfold dyF
 split
 ·exact starts_len _
 ·simp
theorem flat_le {α β : Type} (f : α → List β) (c : Nat) : ∀ l : List α, (∀ x ∈ l, (f x).length ≤ c) → (l.flatMap f).length ≤ c * l.length
 | [], _ => by simp
 | x :: l, h => by
  rw [List.flatMap_cons, List.length_append, List.length_cons]
  have a := h x (by simp)
  have b := flat_le f c l fun y hy => h y (by simp [hy])
  have : c * (l.length + 1) = c * l.length + c := Nat.mul_succ _ _
  omega
theorem len_prL (u : Int) (l : List LF) (hb : ∀ f ∈ l, startsB (famR f) = true) : (prL l u).length ≤ 400 * l.length := flat_le _ _ _ fun f hf => len_prF u f (hb f hf)
theorem len_dyL (l : List LF) : (dyL l).length ≤ 400 * l.length := flat_le _ _ _ fun f _ => len_dyF f
theorem len_lsL (l : List LF) : (lsL l).length ≤ 1 * l.length := flat_le _ _ _ fun f _ => by unfold lsF; split <;> simp
theorem prL_unit {u : Int} {l : List LF} {p : R} (h : p ∈ prL l u) : ∃ i, 0 ≤ i ∧ i < cnt u ∧ p = (fst u i, lst u i) ∧ hasL l p.1 p.2 = true := by
 unfold prL at h
 obtain ⟨f, hf, hp⟩ := List.mem_flatMap.1 h
 unfold prF at hp
 split at hp
 ·rename_i g
  obtain ⟨g1, g2, g3, g4⟩ := g
  obtain ⟨e, c, sb⟩ := full_units g1 g2
  have hh := (mem_pairs (famR_ok f) p.1 p.2).1 hp
  have hl : hasL l p.1 p.2 = true := List.any_eq_true.2 ⟨f, hf, hh⟩
  have h2 := hh
  rw [e, hasF_units sb] at h2
  obtain ⟨i, m, a, b⟩ := h2
  obtain ⟨i0, i1⟩ := setB_mem sb m
  rw [g3] at a b i1
  exact ⟨i, i0, i1, by rw [a, b], hl⟩
 ·cases hp
theorem prL_rise {u : Int} {l : List LF} {p q : R} (hp : p ∈ prL l u) (hq : q ∈ prL l u) (h : p.1 ≤ q.1) : p.2 ≤ q.2 := by
 obtain ⟨i, i0, i1, rfl, _⟩ := prL_unit hp
 obtain ⟨j, j0, j1, rfl, _⟩ := prL_unit hq
 simp only at h ⊢
 by_cases c : i ≤ j
 ·exact lst_mono i0 c j1
 ·have a := unit_next j0 (by omega : j < i) i1
  have b := (span_bd j0 j1).2.1
  omega
theorem prL_bd {u : Int} {l : List LF} {p : R} (h : p ∈ prL l u) : 0 ≤ p.1 ∧ p.1 ≤ p.2 ∧ p.2 ≤ 3652424 := by
 obtain ⟨_, _, _, _, g⟩ := prL_unit h
 obtain ⟨f, _, hg⟩ := List.any_eq_true.1 g
 have := hasF_le (famR_ok f) hg
 omega
theorem dyL_mem {l : List LF} (hb : ∀ f ∈ l, startsB (famR f) = true) (n : Int) : memR (dyL l) n ↔ ∃ f ∈ l, f.sp = false ∧ f.u = 0 ∧ fullB f = true ∧ hasF (famR f) n n = true := by
 have key : ∀ f ∈ l, (memR (dyF f) n ↔ f.sp = false ∧ f.u = 0 ∧ fullB f = true ∧ hasF (famR f) n n = true) := by
  intro f hf
  unfold dyF
  split
  ·rename_i g
   obtain ⟨g1, g2, g3⟩ := g
   rw [starts_mem (famR_ok f) (hb f hf)]
   obtain ⟨e, _, sb⟩ := full_units g1 g2
   constructor
   ·rintro ⟨T, hT⟩
    have h2 := hT
    rw [e, g3] at h2
    rw [g3] at sb
    rw [hasF_units sb] at h2
    obtain ⟨i, m, a, b⟩ := h2
    have e1 : fst 0 i = i := fst_zero i
    have e2 : lst 0 i = i := lst_zero i
    refine ⟨g2, g3, g1, ?_⟩
    rw [show T = n by omega] at hT
    exact hT
   ·rintro ⟨_, _, _, h⟩
    exact ⟨n, h⟩
  ·rename_i g
   constructor
   ·intro m; exact absurd m (memR_nil n)
   ·rintro ⟨a, b, c, _⟩; exact absurd ⟨c, a, b⟩ g
 have fl : ∀ m : List LF, memR (m.flatMap dyF) n ↔ ∃ f ∈ m, memR (dyF f) n := by
  intro m
  induction m with
  | nil => simp; exact memR_nil n
  | cons x m ih => rw [List.flatMap_cons, memR_append, ih]; simp
 unfold dyL
 rw [fl]
 constructor
 ·rintro ⟨f, hf, m⟩; exact ⟨f, hf, (key f hf).1 m⟩
 ·rintro ⟨f, hf, m⟩; exact ⟨f, hf, (key f hf).2 m⟩
theorem has_span {f : LF} (h : fullB f = true) (hs : f.sp = true) (hb : startsB (famR f) = true) (he : endsB (famR f) = true) (S T : Int) :
  hasF (famR f) S T = true ↔ lsP false (startsR (famR f)) (endsR (famR f)) S T := by
 obtain ⟨s, e, eq, _⟩ := full_span h hs
 have fo := famR_ok f
 rw [eq] at hb he fo ⊢
 have h1 : s.length ≤ 400 := by simpa [startsB] using hb
 have h2 : e.length ≤ 400 := by simpa [endsB] using he
 rw [hasF_span (setB_sane fo.1) (setB_sane fo.2.1), show startsR (.span s e) = s from if_pos h1, show endsR (.span s e) = e from if_pos h2]
 exact ⟨fun ⟨a, b, c⟩ => ls_mk a b c, ls_f⟩
theorem has_parts {l : List LF} (hb : ∀ f ∈ l, startsB (famR f) = true ∧ endsB (famR f) = true) (S T : Int) :
  hasL l S T = true ↔ (S = T ∧ memR (dyL l) S) ∨ (∃ u : Nat, u < 6 ∧ (S, T) ∈ prL l u) ∨ ∃ x ∈ lsL l, lsP x.1 x.2.1 x.2.2 S T := by
 unfold hasL
 rw [List.any_eq_true]
 constructor
 ·rintro ⟨f, hf, h⟩
  have fu := full_of h
  rcases Bool.eq_false_or_eq_true f.sp with hs | hs
  ·refine .inr (.inr ⟨(false, startsR (famR f), endsR (famR f)), List.mem_flatMap.2 ⟨f, hf, ?_⟩, (has_span fu hs (hb f hf).1 (hb f hf).2 S T).1 h⟩)
   unfold lsF
   rw [if_pos ⟨fu, hs⟩]
   simp
  ·by_cases hu : f.u = 0
   ·refine .inl ?_
    obtain ⟨e, _, sb⟩ := full_units fu hs
    have h2 := h
    rw [e, hu] at h2
    rw [hu] at sb
    rw [hasF_units sb] at h2
    obtain ⟨i, m, a, b⟩ := h2
    have e1 : fst 0 i = i := fst_zero i
    have e2 : lst 0 i = i := lst_zero i
    have e3 : S = T := by omega
    refine ⟨e3, (dyL_mem (fun f hf => (hb f hf).1) S).2 ⟨f, hf, hs, hu, fu, ?_⟩⟩
    rw [← e3] at h
    exact h
   ·obtain ⟨e, c, sb⟩ := full_units fu hs
    have cs := cnt_six c
    refine .inr (.inl ⟨f.u.toNat, by omega, List.mem_flatMap.2 ⟨f, hf, ?_⟩⟩)
    unfold prF
    rw [if_pos ⟨fu, hs, by omega, by omega⟩]
    exact (mem_pairs (famR_ok f) S T).2 h
 ·rintro (⟨rfl, h⟩ | ⟨u, hu, h⟩ | ⟨x, hx, h⟩)
  ·obtain ⟨f, hf, _, _, _, g⟩ := (dyL_mem (fun f hf => (hb f hf).1) S).1 h
   exact ⟨f, hf, g⟩
  ·obtain ⟨_, _, _, _, g⟩ := prL_unit h
   exact List.any_eq_true.1 g
  ·obtain ⟨f, hf, hx⟩ := List.mem_flatMap.1 hx
   unfold lsF at hx
   split at hx
   ·rename_i g
    simp only [List.mem_singleton] at hx
    subst hx
    exact ⟨f, hf, (has_span g.1 g.2 (hb f hf).1 (hb f hf).2 S T).2 h⟩
   ·cases hx
theorem ls_span {l : List LF} (hb : ∀ f ∈ l, startsB (famR f) = true ∧ endsB (famR f) = true) : ∀ x ∈ lsL l, LsOkP x.1 x.2.1 x.2.2 ∧ x.2.1.length ≤ 400 ∧ x.2.2.length ≤ 400 := by
 intro x hx
 obtain ⟨f, hf, hx⟩ := List.mem_flatMap.1 hx
 unfold lsF at hx
 split at hx
 ·rename_i g
  simp only [List.mem_singleton] at hx
  subst hx
  refine ⟨?_, starts_len _, ends_len _⟩
  obtain ⟨s, e, eq, hs⟩ := full_span g.1 g.2
  have h1 := (hb f hf).1
  have h2 := (hb f hf).2
  have fo := famR_ok f
  simp only
  rw [eq] at h1 h2 fo ⊢
  have h3 : s.length ≤ 400 := by simpa [startsB] using h1
  have h4 : e.length ≤ 400 := by simpa [endsB] using h2
  rw [show startsR (.span s e) = s from if_pos h3, show endsR (.span s e) = e from if_pos h4]
  have ss := setB_sane fo.1
  obtain ⟨m, mm, _⟩ := fo.2.2.1 _ (least_mem ss hs)
  refine ⟨ss, setB_sane fo.2.1, hs, mem_pos mm, (fun q => by cases q), ?_, ?_, ?_, ?_⟩
  ·intro n hn
   obtain ⟨t, a, b⟩ := fo.2.2.1 n hn
   exact ⟨t, a, b⟩
  ·intro n hn
   obtain ⟨t, a, b⟩ := fo.2.2.2 n hn
   exact ⟨t, a, b⟩
  ·intro n hn
   have := setB_mem fo.1 hn
   rw [cnt_zero] at this
   omega
  ·intro n hn
   have := setB_mem fo.2.1 hn
   rw [cnt_zero] at this
   omega
 ·cases hx
theorem ls_days {l : List LF} (hb : ∀ f ∈ l, startsB (famR f) = true) (h0 : 0 < (nf (dyL l)).length) : LsOkP true (nf (dyL l)) (nf (dyL l)) := by
 have bd : ∀ n, memR (nf (dyL l)) n → 0 ≤ n ∧ n ≤ 3652424 := by
  intro n hn
  rw [nf_mem, dyL_mem hb] at hn
  obtain ⟨f, _, _, _, _, g⟩ := hn
  have := hasF_le (famR_ok f) g
  omega
 exact ⟨nf_sane _, nf_sane _, h0, h0, fun _ => rfl, fun n hn => ⟨n, hn, Int.le_refl _⟩, fun n hn => ⟨n, hn, Int.le_refl _⟩, bd, bd⟩
theorem dyL_i64 {l : List LF} : I64R (dyL l) := by
 intro r hr
 obtain ⟨f, hf, hr⟩ := List.mem_flatMap.1 hr
 unfold dyF at hr
 split at hr
 ·exact sane_i64 (starts_sane (famR_ok f)) r hr
 ·cases hr
open Go.RowKit
theorem rleast_any (v : Value) (s : List R) (w : World) (hv : RunsAt w v s) (h0 : 0 < s.length) :
  Calls Tryz.prog 114 #[v] w fun e w' => e = .returned (.int .i64 (leastR s)) ∧ w = w' := by
 rcases hv with ⟨_, _, _, e⟩ | ⟨b, off, cap, rfl, hc, hm, hx⟩
 ·rw [e] at h0; simp at h0
 obtain ⟨d1, d2⟩ := hx 0 h0
 have z : (0 : Int) < (s.length : Int) := by omega
 rw [show off + 0 * 2 = off by omega] at d1
 unfold leastR
 obtain ⟨lo, hlo⟩ : ∃ x, (at_ s 0).1 = x := ⟨_, rfl⟩
 rw [hlo] at d1 ⊢
 clear hx d2
 go_enter Tryz.func114, Tryz.ntmps114
 go_wp2
 go_ret
 exact ⟨rfl, rfl⟩
theorem rgreat_any (v : Value) (s : List R) (w : World) (hv : RunsAt w v s) (h0 : 0 < s.length) (hl : s.length ≤ 4611686018427387904) :
  Calls Tryz.prog 116 #[v] w fun e w' => e = .returned (.int .i64 (greatR s)) ∧ w = w' := by
 rcases hv with ⟨_, _, _, e⟩ | ⟨b, off, cap, rfl, hc, hm, hx⟩
 ·rw [e] at h0; simp at h0
 obtain ⟨d1, d2⟩ := hx (s.length - 1) (by omega)
 have wi : IntKind.i64.wrap ((s.length : Int) - 1) = ((s.length - 1 : Nat) : Int) := by rw [IntKind.wrap_i64]; omega
 have z1 : (0 : Int) ≤ ((s.length - 1 : Nat) : Int) := by omega
 have z2 : ((s.length - 1 : Nat) : Int) < s.length := by omega
 unfold greatR
 obtain ⟨hi, hhi⟩ : ∃ x, (at_ s (s.length - 1)).2 = x := ⟨_, rfl⟩
 rw [hhi] at d2 ⊢
 clear hx d1
 go_enter Tryz.func116, Tryz.ntmps116
 go_wp2
 go_ret
 exact ⟨rfl, rfl⟩
def SsAt (w : World) (v : Value) (l : List (List R)) : Prop := ∃ b c, v = .slice (some ⟨b, 0, none⟩) l.length c ∧ ∀ i, i < l.length → ∃ u, w.cell? ⟨b, i, none⟩ = some u ∧ RunsAt w u (l.getD i [])
theorem SsAt.kp {w w' : World} {v : Value} {l : List (List R)} (h : SsAt w v l) (k : Kp w w') : SsAt w' v l := by
 obtain ⟨b, c, e, hx⟩ := h
 refine ⟨b, c, e, fun i hi => ?_⟩
 obtain ⟨u, d1, d2⟩ := hx i hi
 exact ⟨u, (k.cell (p := ⟨b, i, none⟩) (World.block_lt_of_cell? _ _ d1)).trans d1, d2.kp k⟩
theorem edg_take {l : List (List R)} {k : Nat} (h : k < l.length) : edgL (l.take (k + 1)) = edgL (l.take k) ++ (if (l.getD k []).length = 0 then [] else [leastR (l.getD k []), greatR (l.getD k [])]) := by
 unfold edgL
 rw [List.take_succ_eq_append_getElem h, List.flatMap_append]
 have e : l.getD k [] = l[k] := by simp [List.getD, h]
 rw [e]
 simp
theorem edg_len : ∀ (l : List (List R)), (edgL l).length ≤ 2 * l.length
 | [] => by simp [edgL]
 | s :: l => by
  have := edg_len l
  have e : (edgL (s :: l)).length = (if s.length = 0 then ([] : List Int) else [leastR s, greatR s]).length + (edgL l).length := by unfold edgL; rw [List.flatMap_cons, List.length_append]
  rw [e, List.length_cons]
  by_cases q : s.length = 0
  ·rw [if_pos q]; simp; omega
  ·rw [if_neg q]; simp; omega
theorem edges_any (v : Value) (l : List (List R)) (w : World) (hv : SsAt w v l) (hn : l.length ≤ 100) (hs : ∀ i, i < l.length → (l.getD i []).length ≤ 1000000) :
  Calls Tryz.prog 112 #[v] w fun e w' => ∃ v' : Value, e = .returned v' ∧ w'.ownsRow w.heap.size 3 1 v' (edgL l).length (cellsZ (edgL l)) ∧ Kp w w' := by
 obtain ⟨i0, hi, hz0, hz1, hz2⟩ := info_parts infoZ
 have HV := Hd hv
 obtain ⟨b, c, rfl, _⟩ := hv
 have HS := Hd hs
 have HN := Hd hn
 have NE := Hd (show edgL (l.take l.length) = edgL l by rw [List.take_length])
 have NT := Hd (fun k (h : k < l.length) => edg_take h)
 have NL := Hd (fun k => edg_len (l.take k))
 clear hs
 go_enter Tryz.func112, Tryz.ntmps112
 go_wp2
 go_loopw [3, 8] (fun u i wr => ∃ k : Nat, k ≤ l.length ∧ i = .int .i64 k ∧ Hid (wr.ownsRow w.heap.size 3 1 u (edgL (l.take k)).length (cellsZ (edgL (l.take k)))) ∧ Hid (Kp w wr)) (fun _ i _ => l.length - (intOf i).toNat)
 case atStart => exact ⟨0, Nat.zero_le _, rfl, Hd (World.ownsRow_nil _ _ _ _), Hd (Kp.refl _)⟩
 case round =>
  obtain ⟨k, hk, rfl, O, K1⟩ := hrel
  obtain ⟨oad, oc, rfl⟩ := own_sliceZ O.out
  have kb : k ≤ 100 := by have := HN.out; omega
  by_cases hlt : k < l.length
  ·have q1 : decide ((k : Int) < (l.length : Int)) = true := by simp; omega
   obtain ⟨b', c', ev, hx⟩ := HV.out.kp K1.out
   cases ev
   obtain ⟨u, d1, hu⟩ := hx k hlt
   have hln := NL.out k
   have NTH := Hd (NT.out k hlt)
   have hsl := HS.out k hlt
   have HLT := Hd hlt
   have sz := K1.out.size
   obtain ⟨s, hs0⟩ : ∃ s, l.getD k [] = s := ⟨_, rfl⟩
   rw [hs0] at hu hsl NTH
   obtain ⟨ad, cc, rfl⟩ := hu.slice
   obtain ⟨q, hq⟩ : ∃ z, edgL (l.take k) = z := ⟨_, rfl⟩
   rw [hq] at O NTH hln ⊢
   have hln2 : q.length ≤ 1000 := by rw [List.length_take] at hln; omega
   have z2 : (0 : Int) ≤ (k : Int) := by omega
   clear hx hs0 hq hln
   by_cases h0 : s.length = 0
   ·have g : decide ((s.length : Int) > 0) = false := dF
    have gn : decide (0 < s.length) = false := dF
    have gi : decide ((0 : Int) < s.length) = false := dF
    have e0 : edgL (l.take (k + 1)) = q := by rw [NTH.out, if_pos h0, List.append_nil]
    have E0 := Hd e0
    clear hu NTH h0 e0
    go_wp2
    go_roundw
    case rel => exact ⟨k + 1, by have := HLT.out; omega, by go_num, Hd (by rw [E0.out]; exact O.out), K1⟩
    case measure => have := HLT.out; simp [intOf]; omega
   ·have g : decide ((s.length : Int) > 0) = true := dT
    have gn : decide (0 < s.length) = true := dT
    have gi : decide ((0 : Int) < s.length) = true := dT
    have E0 := Hd (show edgL (l.take (k + 1)) = q ++ [leastR s, greatR s] by rw [NTH.out, if_neg h0])
    have p0 : 0 < s.length := Nat.pos_of_ne_zero h0
    have p1 : s.length ≤ 4611686018427387904 := Nat.le_trans hsl (by omega)
    have C1 := Hd (rleast_any _ s wr hu p0)
    have C2 := Hd (rgreat_any _ s wr hu p0 p1)
    clear hu NTH h0
    obtain ⟨x, hx⟩ : ∃ x, leastR s = x := ⟨_, rfl⟩
    obtain ⟨y, hy⟩ : ∃ y, greatR s = y := ⟨_, rfl⟩
    rw [hx] at E0 C1
    rw [hy] at E0 C2
    clear hx hy p0 p1
    go_wp2_with (first
     | (go_at_call 114; refine (C1.out).mono ?_; rintro e w' ⟨rfl, rfl⟩)
     | (go_at_call 116; refine (C2.out).mono ?_; rintro e w' ⟨rfl, rfl⟩)
     | (at_builtin; refine wpList_app rfl (.tmp 15) (.tmp 20) 117 rfl w.heap.size 3 i0 (.int .i64 0) 1 8 Tryz.underlying117 hi hz0 hz1 hz2 rfl (by decide) _ _ _ rfl (own_kp O.out (Kp.alloc _ _)) _ _ _ rfl (two_srcZ _ _ _ _) rfl (by intro z hz; simp at hz; rcases hz with hz | hz <;> subst hz <;> rfl) (by unfold maxLen; omega) (by omega) (by simp; omega) ?_; intro v1 w1 hown1 hgrow1 hat1))
    go_roundw
    case rel => exact ⟨k + 1, by have := HLT.out; omega, by go_num, Hd (by rw [E0.out]; exact own_snoc2Z hown1), Hd (Kp.grown (K1.out.trans (Kp.alloc _ _)) hgrow1 (fun j hj => (O.out.lt j hj).1))⟩
    case measure => have := HLT.out; simp [intOf]; omega
  ·have q : decide ((k : Int) < l.length) = false := by simp; omega
   have ek : k = l.length := by omega
   subst ek
   rw [NE.out] at O ⊢
   go_wp2
   go_ret
   exact ⟨_, rfl, O.out, K1.out⟩
end Go.Proofs.YtcooaoponkkpeaaGreatDoor
namespace Go.Proofs
open Go.Shelf
shelf_lay_g Lays8.n4 Nm8 4 at Tryz 181 as Tryz.growZ
end Go.Proofs
namespace Go.Proofs.YtcooaoponkkpeaaGreatDoor
open Go.RowKit Go.Shelf
set_option linter.unusedVariables false
set_option linter.unusedSimpArgs false
theorem growZ_any (n : Nat) (w : World) (hn : n ≤ 1000000) :
  Calls Tryz.prog 181 #[.slice none 0 0, .int .i64 n] w fun e w' => ∃ v' : Value, e = .returned v' ∧ w'.ownsRow w.heap.size 3 1 v' 0 [] ∧ Kp w w' := by
 obtain ⟨i0, hi, hz0, hz1, hz2⟩ := info_parts infoZ
 by_cases h0 : n = 0
 ·subst h0
  have h := Any8.slices_Grow_room Tryz.growZ none 0 0 0 w (Nat.le_refl _) (by omega) (by omega) (by omega)
  change Calls Tryz.prog 181 _ _ _ at h
  refine h.mono ?_
  rintro e w' ⟨rfl, rfl⟩
  exact ⟨_, rfl, World.ownsRow_nil _ _ _ _, Kp.refl _⟩
 ·have h := Any8.slices_Grow_grow Tryz.growZ i0 (.int .i64 0) hi hz0 (by omega) none 0 0 n [] w (Nat.le_refl _) (by omega) (by rw [hz2]; omega) (by omega) (by simp) (fun _ => rfl) (fun a ha => by cases ha)
  change Calls Tryz.prog 181 _ _ _ at h
  refine h.mono ?_
  rintro e w' ⟨rfl, rfl⟩
  refine ⟨_, rfl, ?_, (Kp.drew w).trans (Kp.alloc _ _)⟩
  have hg := grownCap_ge w (0 + n) 0 (Tryz.growZ_ren.t 25)
  have hm := grownCap_le_maxLen w (0 + n) 0 3 (by unfold maxLen; omega)
  refine World.ownsRow_made w.drew _ _ (Nat.le_refl _) hm ?_
  simp only [Nat.zero_add] at hg
  simp [Builtin.zeroCells, Value.cells]
  omega
def ZsAt (w : World) (v : Value) (a b : List Int) : Prop := ∃ g u1 u2, v = .slice (some ⟨g, 0, none⟩) 2 2 ∧ w.cell? ⟨g, 0, none⟩ = some u1 ∧ w.cell? ⟨g, 1, none⟩ = some u2 ∧ IntsAt w u1 a ∧ IntsAt w u2 b
theorem concatZ_any (v : Value) (a b : List Int) (w : World) (hv : ZsAt w v a b) (ha : a.length ≤ 1000) (hb : b.length ≤ 1000) :
  Calls Tryz.prog 113 #[v] w fun e w' => ∃ v' : Value, e = .returned v' ∧ w'.ownsRow w.heap.size 3 1 v' (a ++ b).length (cellsZ (a ++ b)) ∧ Kp w w' := by
 obtain ⟨i0, hi, hz0, hz1, hz2⟩ := info_parts infoZ
 obtain ⟨g, u1, u2, rfl, d1, d2, h1, h2⟩ := hv
 obtain ⟨ad1, c1, rfl⟩ := h1.slice
 obtain ⟨ad2, c2, rfl⟩ := h2.slice
 have H1 := Hd h1
 have H2 := Hd h2
 have G := Hd (fun (n : Nat) w1 (h : n ≤ 1000000) => growZ_any n w1 h)
 have D := Hd (fun w' (k : Kp w w') => show w'.cell? ⟨g, 0, none⟩ = some (.slice ad1 a.length c1) ∧ w'.cell? ⟨g, 1, none⟩ = some (.slice ad2 b.length c2) from
  ⟨(k.cell (p := ⟨g, 0, none⟩) (World.block_lt_of_cell? _ _ d1)).trans d1, (k.cell (p := ⟨g, 1, none⟩) (World.block_lt_of_cell? _ _ d2)).trans d2⟩)
 obtain ⟨s, hs⟩ : ∃ s, (a ++ b).length = s := ⟨_, rfl⟩
 have hs2 : a.length + b.length = s := by rw [← hs, List.length_append]
 have n1 : decide ((a.length : Int) < 0) = false := dF
 have n2 : decide ((s : Int) < 0) = false := dF
 have y1 : wrap64 (a.length : Int) = a.length := by unfold wrap64; omega
 have y2 : wrap64 ((a.length : Int) + (b.length : Int)) = (s : Int) := by unfold wrap64; omega
 have hab : s ≤ 1000000 := by omega
 have HS := Hd hs
 have HS2 := Hd hs2
 have HA := Hd ha
 have HB := Hd hb
 have HAB := Hd hab
 rw [hs]
 clear hs hs2 ha hb hab
 clear h1 h2
 go_enter Tryz.func113, Tryz.ntmps113
 go_wp2
 go_loopw [3, 11] (fun u i wr => Hid (wr = w) ∧ Hid ((u = .int .i64 0 ∧ i = .int .i64 0) ∨ (u = .int .i64 a.length ∧ i = .int .i64 1) ∨ (u = .int .i64 s ∧ i = .int .i64 2))) (fun _ i _ => 2 - (intOf i).toNat)
 case atStart => exact ⟨Hd rfl, Hd (.inl ⟨rfl, rfl⟩)⟩
 case round =>
  obtain ⟨E, hr⟩ := hrel
  have ee := E.out
  subst ee
  rcases hr.out with ⟨rfl, rfl⟩ | ⟨rfl, rfl⟩ | ⟨rfl, rfl⟩
  ·go_wp2
   go_roundw
   case rel => exact ⟨Hd (by first | rfl | trivial), Hd (.inr (.inl ⟨by first | rfl | rw [y1], rfl⟩))⟩
   case measure => simp [intOf]
  ·go_wp2
   go_roundw
   case rel => exact ⟨Hd (by first | rfl | trivial), Hd (.inr (.inr ⟨by first | rfl | rw [y2], rfl⟩))⟩
   case measure => simp [intOf]
  ·obtain ⟨w0, hw0⟩ : ∃ x, x = wr := ⟨_, rfl⟩
   subst hw0
   clear n1 y1 y2
   go_wp2_with fail
   refine (G.out _ _ HAB.out).mono ?_
   rintro e w1 ⟨v1, rfl, o1, k1⟩
   have K1 := Hd k1
   have O1 := Hd o1
   obtain ⟨ad3, c3, rfl⟩ := own_sliceZ o1
   clear o1 k1 n2 d1 d2
   go_wp2
   go_loopw [6, 27] (fun u i ws => Hid (Kp w0 ws) ∧ Hid ((i = .int .i64 0 ∧ Hid (ws.ownsRow w0.heap.size 3 1 u 0 [])) ∨ (i = .int .i64 1 ∧ Hid (ws.ownsRow w0.heap.size 3 1 u a.length (cellsZ a))) ∨ (i = .int .i64 2 ∧ Hid (ws.ownsRow w0.heap.size 3 1 u s (cellsZ (a ++ b)))))) (fun _ i _ => 2 - (intOf i).toNat)
   case atStart => exact ⟨K1, Hd (.inl ⟨rfl, O1⟩)⟩
   case round =>
    obtain ⟨K2, hr2⟩ := hrel
    clear hr
    rcases hr2.out with ⟨rfl, O⟩ | ⟨rfl, O⟩ | ⟨rfl, O⟩
    ·obtain ⟨oad, oc, rfl⟩ := own_sliceZ O.out
     obtain ⟨x1, x2⟩ := D.out _ K2.out
     go_wp2_with (at_builtin; refine wpList_app rfl (.tmp 31) (.tmp 32) 117 rfl w0.heap.size 3 i0 (.int .i64 0) 1 8 Tryz.underlying117 hi hz0 hz1 hz2 rfl (by decide) _ _ _ rfl O.out _ _ _ rfl (H1.out.kp K2.out).src (by rw [cellsZ_length]; omega) (cellsZ_one _) (by have := HA.out; have := HB.out; unfold maxLen; omega) (by have := HA.out; have := HB.out; omega) K2.out.size ?_; intro v1 w1 hown1 hgrow1 hat1)
     go_roundw
     case rel => exact ⟨Hd (Kp.grown K2.out hgrow1 (fun j hj => (O.out.lt j hj).1)), Hd (.inr (.inl ⟨by simp, Hd (by simpa using hown1)⟩))⟩
     case measure => simp [intOf]
    ·obtain ⟨oad, oc, rfl⟩ := own_sliceZ O.out
     obtain ⟨x1, x2⟩ := D.out _ K2.out
     go_wp2_with (at_builtin; refine wpList_app rfl (.tmp 31) (.tmp 32) 117 rfl w0.heap.size 3 i0 (.int .i64 0) 1 8 Tryz.underlying117 hi hz0 hz1 hz2 rfl (by decide) _ _ _ rfl O.out _ _ _ rfl (H2.out.kp K2.out).src (by rw [cellsZ_length]; omega) (cellsZ_one _) (by have := HA.out; have := HB.out; unfold maxLen; omega) (by have := HA.out; have := HB.out; omega) K2.out.size ?_; intro v1 w1 hown1 hgrow1 hat1)
     go_roundw
     case rel => exact ⟨Hd (Kp.grown K2.out hgrow1 (fun j hj => (O.out.lt j hj).1)), Hd (.inr (.inr ⟨by simp, Hd (by rw [← HS2.out, cellsZ_append]; exact hown1)⟩))⟩
     case measure => simp [intOf]
    ·obtain ⟨oad, oc, rfl⟩ := own_sliceZ O.out
     go_wp2
     go_ret
     exact ⟨_, rfl, O.out, K2.out⟩
end Go.Proofs.YtcooaoponkkpeaaGreatDoor
