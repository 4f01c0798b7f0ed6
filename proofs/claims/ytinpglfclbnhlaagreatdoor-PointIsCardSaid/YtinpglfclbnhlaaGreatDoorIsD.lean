/-
  Layer 8: of PointIs, plain mathematics: the days of a point.
-/
import Derived.Test.YtinpglfclbnhlaaGreatDoorIsC
namespace Go.Proofs.YtinpglfclbnhlaaGreatDoor
open Go.RowKit
set_option linter.unusedVariables false
set_option linter.unusedSimpArgs false
theorem fm_lt {α : Type} {L : List α} {F : α → List Int} {X : α → α → Prop} (hL : L.Pairwise X) (h1 : ∀ a ∈ L, (F a).Pairwise (fun a b => a < b)) (h2 : ∀ a ∈ L, ∀ b ∈ L, X a b → ∀ x ∈ F a, ∀ y ∈ F b, x < y) : (L.flatMap F).Pairwise (fun a b => a < b) := by
  induction L with
  | nil => exact List.Pairwise.nil
  | cons a t ih =>
    obtain ⟨g1, g2⟩ := List.pairwise_cons.1 hL
    rw [List.flatMap_cons]
    refine List.pairwise_append.2 ⟨h1 a List.mem_cons_self, ih g2 (fun b hb => h1 b (List.mem_cons_of_mem _ hb)) (fun b hb c hc => h2 b (List.mem_cons_of_mem _ hb) c (List.mem_cons_of_mem _ hc)), fun x hx y hy => ?_⟩
    obtain ⟨b, hb, hy⟩ := List.mem_flatMap.1 hy
    exact h2 a List.mem_cons_self b (List.mem_cons_of_mem _ hb) (g1 b hb) x hx y hy
/-- the days of a month, and of a year, that match -/
def dmL (d : ByteArray) (y m : Int) : List Int := ((numsL d 1 31).filter fun x => decide (x ≤ dim y m)).map fun x => num y m 1 + x - 1
def dyF (m d : ByteArray) (y : Int) : List Int := (numsL m 1 12).flatMap (dmL d y)
def dyL (p : PT) : List Int := (numsL p.y 0 9999).flatMap (dyF p.m p.d)
theorem dm_in {d : ByteArray} {y m : Int} (hy : 0 ≤ y ∧ y ≤ 9999) (hm : 1 ≤ m ∧ m ≤ 12) (n : Int) : n ∈ dmL d y m ↔ ∃ x, matchM d x = true ∧ vldB y m x = true ∧ num y m x = n := by
  unfold dmL
  simp only [List.mem_map, List.mem_filter, is_num, decide_eq_true_eq]
  constructor
  · rintro ⟨x, ⟨⟨a, b⟩, c⟩, rfl⟩
    refine ⟨x, b, (vld_iff y m x).2 ⟨hy.1, hy.2, a.1, c⟩, ?_⟩
    unfold num
    omega
  · rintro ⟨x, b, v, rfl⟩
    have v := vld_bd v
    refine ⟨x, ⟨⟨⟨by omega, by omega⟩, b⟩, by omega⟩, ?_⟩
    unfold num
    omega
theorem dy_in {p : PT} (h0 : p.k = 0) (n : Int) : n ∈ dyL p ↔ inU p n = true := by
  unfold dyL dyF inU
  rw [if_pos h0]
  simp only [List.mem_flatMap, is_num, Bool.and_eq_true, decide_eq_true_eq]
  constructor
  · rintro ⟨y, ⟨hy, my⟩, m, ⟨hm, mm⟩, h⟩
    obtain ⟨x, mx, v, rfl⟩ := (dm_in hy hm n).1 h
    rw [dte_of v]
    exact ⟨show (0 : Int) < m by omega, my, mm, mx⟩
  · rintro ⟨h1, my, mm, mx⟩
    have c : 0 ≤ n ∧ n ≤ 3652424 := by
      apply Classical.byContradiction
      intro c
      rw [dte_no n (by omega)] at h1
      simp at h1
    obtain ⟨v, e⟩ := dte_yes n c.1 c.2
    have vv := vld_bd v
    exact ⟨_, ⟨⟨vv.1, vv.2.1⟩, my⟩, _, ⟨⟨vv.2.2.1, vv.2.2.2.1⟩, mm⟩, (dm_in ⟨vv.1, vv.2.1⟩ ⟨vv.2.2.1, vv.2.2.2.1⟩ n).2 ⟨_, mx, v, e⟩⟩
theorem dm_lt (d : ByteArray) (y m : Int) : (dmL d y m).Pairwise (fun a b => a < b) := by
  unfold dmL
  exact List.Pairwise.map _ (fun a b h => by omega) (List.Pairwise.filter _ (is_num_lt d 1 31))
theorem dyF_lt (m d : ByteArray) {y : Int} (hy : 0 ≤ y ∧ y ≤ 9999) : (dyF m d y).Pairwise (fun a b => a < b) := by
  refine fm_lt (is_num_lt m 1 12) (fun a _ => dm_lt d y a) fun a ha b hb hab x hx z hz => ?_
  have ba := (is_num.1 ha).1
  have bb := (is_num.1 hb).1
  obtain ⟨x', _, v, rfl⟩ := (dm_in hy ba x).1 hx
  obtain ⟨z', _, v', rfl⟩ := (dm_in hy bb z).1 hz
  exact (num_lt v v').2 (.inr ⟨rfl, .inl hab⟩)
theorem dy_lt (p : PT) : (dyL p).Pairwise (fun a b => a < b) := by
  refine fm_lt (is_num_lt p.y 0 9999) (fun a ha => dyF_lt _ _ (is_num.1 ha).1) fun a ha b hb hab x hx z hz => ?_
  have ba := (is_num.1 ha).1
  have bb := (is_num.1 hb).1
  obtain ⟨m, hm, hx⟩ := List.mem_flatMap.1 hx
  obtain ⟨m', hm', hz⟩ := List.mem_flatMap.1 hz
  obtain ⟨x', _, v, rfl⟩ := (dm_in ba (is_num.1 hm).1 x).1 hx
  obtain ⟨z', _, v', rfl⟩ := (dm_in bb (is_num.1 hm').1 z).1 hz
  exact (num_lt v v').2 (.inl hab)
theorem dy_bd {p : PT} (h0 : p.k = 0) (n : Int) (h : n ∈ dyL p) : 0 ≤ n ∧ n ≤ 3652424 := by
  have h := (dy_in h0 n).1 h
  unfold inU at h
  rw [if_pos h0, Bool.and_eq_true, decide_eq_true_eq] at h
  apply Classical.byContradiction
  intro c
  rw [dte_no n (by omega)] at h
  simp at h
/-- all days of a point -/
def dyT (p : PT) : List R := if p.k = 0 then (dyL p).foldl putI [] else (dyL p).foldl putI []
theorem dyT_eq (p : PT) : dyT p = (dyL p).foldl putI [] := by unfold dyT; split <;> rfl
theorem dyT_nf {p : PT} (h0 : p.k = 0) : dyT p = nf (sing (dyL p)) := by
  rw [dyT_eq]
  exact is_set (dy_lt p) (fun n h => by have := dy_bd h0 n h; omega)
theorem sane_eq {a b : List R} (h : a = nf b) : sane a := by rw [h]; exact nf_sane b
theorem dyT_sane {p : PT} (h0 : p.k = 0) : sane (dyT p) := sane_eq (dyT_nf h0)
theorem dyT_mem {p : PT} (h0 : p.k = 0) (n : Int) : memR (dyT p) n ↔ inU p n = true := by
  rw [dyT_nf h0, is_mem (fun n h => by have := dy_bd h0 n h; omega), dy_in h0]
theorem put_len (l : List R) (n : Int) : l.length ≤ (putI l n).length := by
  unfold putI
  split
  · next h => subst h; simp
  · split
    · rw [List.length_append, List.length_dropLast]
      simp
      omega
    · simp
theorem puts_len (L : List Int) : ∀ l : List R, l.length ≤ (L.foldl putI l).length := by
  induction L with
  | nil => intro l; exact Nat.le_refl _
  | cons n t ih => intro l; rw [List.foldl_cons]; exact Nat.le_trans (put_len l n) (ih _)
/-- the days of the first years -/
def dyP (p : PT) (j : Nat) : List R := if p.k = 0 then (((numsL p.y 0 9999).take j).flatMap (dyF p.m p.d)).foldl putI [] else (((numsL p.y 0 9999).take j).flatMap (dyF p.m p.d)).foldl putI []
theorem dyP_eq (p : PT) (j : Nat) : dyP p j = (((numsL p.y 0 9999).take j).flatMap (dyF p.m p.d)).foldl putI [] := by unfold dyP; split <;> rfl
theorem dyP_len (p : PT) (j : Nat) : (dyP p j).length ≤ (dyT p).length := by
  rw [dyP_eq, dyT_eq]
  unfold dyL
  conv => rhs; rw [← List.take_append_drop j (numsL p.y 0 9999), List.flatMap_append, List.foldl_append]
  exact puts_len _ _
theorem dyP_all (p : PT) : dyP p (numsL p.y 0 9999).length = dyT p := by rw [dyP_eq, dyT_eq]; unfold dyL; rw [List.take_length]
theorem un_same {k : Int} {s : List R} (h : sane s) (g : ∀ n, memR s n → 0 ≤ n ∧ n < cnt k) : unitsR k s = s := by
  refine sane_ext (unitsR_sane k s) h fun n => ?_
  rw [unitsR_mem]
  exact ⟨fun a => a.1, fun a => ⟨a, g n a⟩⟩
theorem cv_sane : ∀ {Q : List R}, sane Q → (∀ r ∈ Q, 0 ≤ r.1 ∧ r.2 < 120000) → sane (Q.map (cvF 1)) := by
  have c1 : cnt 1 = 120000 := rfl
  have one : ∀ r : R, 0 ≤ r.1 → r.1 ≤ r.2 → r.2 < 120000 → cvF 1 r = (mon r.1, mon (r.2 + 1) - 1) := fun r a b c => by
    have m1 := months (k := 1) (i := r.1) a (by omega) (by decide)
    have m2 := months (k := 1) (i := r.2) (by omega) (by omega) (by decide)
    unfold cvF
    rw [firV_in a (by omega), lasV_in (by omega) (by omega), m1.2.2.2.1, m2.2.2.2.2]
    rfl
  intro Q
  induction Q with
  | nil => intro _ _; trivial
  | cons r t ih =>
    intro h b
    have ok := sane_ok h r List.mem_cons_self
    have ok1 := ok.1
    have ok2 := ok.2.1
    have br := b r List.mem_cons_self
    have hr := one r br.1 ok.1 br.2
    have b1 := mon_le r.1 r.2 br.1 ok.1
    have b2 := mon_lt r.2 (r.2 + 1) (by omega) (by omega)
    have b3 := mon_bd (j := r.1) br.1 (by omega)
    have b4 := mon_le (r.2 + 1) 120000 (by omega) (by omega)
    rw [mon_end] at b4
    have ht := ih (sane_tail h) (fun q hq => b q (List.mem_cons_of_mem _ hq))
    rw [List.map_cons, hr]
    have okr : okR (mon r.1, mon (r.2 + 1) - 1) := by unfold okR; simp only; omega
    cases t with
    | nil => exact ⟨okr, trivial, trivial⟩
    | cons s u =>
      have bs := b s (by simp)
      have oks := sane_ok h s (by simp)
      have oks1 := oks.1
      have g : r.2 + 1 < s.1 := h.2.1
      have es := one s bs.1 oks.1 bs.2
      have b5 := mon_lt (r.2 + 1) s.1 (by omega) g
      refine ⟨okr, ?_, ht⟩
      show (mon r.1, mon (r.2 + 1) - 1).2 + 1 < (cvF 1 s).1
      rw [es]
      simp only
      omega
theorem cv_len {Q : List R} (h : sane Q) (b : ∀ r ∈ Q, 0 ≤ r.1 ∧ r.2 < 120000) : (coverR 1 Q).length = Q.length := by
  have c1 : cnt 1 = 120000 := rfl
  have u : unitsR 1 Q = Q := un_same h (fun n hn => by
    obtain ⟨r, hr, a, c, _⟩ := hn
    have := b r hr
    omega)
  unfold coverR
  rw [u, nf_of_sane (cv_sane h b), List.length_map]
theorem is_dayN (y m d : ByteArray) (hq : kn0 (matR d 31) ≠ (1, 31)) (i : Int) : inL (dayL (setM y) (matR m 12) (matR d 31)) i ↔ 0 < (dte i).2.1 ∧ matchM y (dte i).1 = true ∧ matchM m (dte i).2.1 = true ∧ matchM d (dte i).2.2 = true := by
  unfold dayL
  rw [if_neg hq]
  have iy := setM_inn y
  have ay := sane_apt (setM_sane y)
  have ip := matR_inn m 12
  have ap := sane_apt (matR_sane m 12)
  have ik := matR_inn d 31
  have ak := sane_apt (matR_sane d 31)
  have M1 := fun n => setM_in y n
  have M2 := fun n => matR_in m (most := 12) (by decide) n
  have M3 := fun n => matR_in d (most := 31) (by decide) n
  generalize setM y = years at *
  generalize matR m 12 = parts at *
  generalize matR d 31 = known at *
  have DR : 0 < (dte i).2.1 → 0 ≤ i ∧ i ≤ 3652424 ∧ vldB (dte i).1 (dte i).2.1 (dte i).2.2 = true ∧ num (dte i).1 (dte i).2.1 (dte i).2.2 = i := by
    intro h
    by_cases c : 0 ≤ i ∧ i ≤ 3652424
    · exact ⟨c.1, c.2, dte_yes i c.1 c.2⟩
    · rw [dte_no i (by omega)] at h
      simp at h
  have LI := longR_in (d := (kn0 known).1) ip
  have LA := longR_apt (d := (kn0 known).1) ap
  have PI := partsL_in (years := years) (.inl rfl) LI iy
  have PA := partsL_apt (years := years) (.inl rfl) LI iy LA ay
  have DI := daysL_in ik PI
  have DA := daysL_apt ik PI ak PA
  rw [show inL (daysL (partsL 12 years (longR parts (kn0 known).1)) known) i ↔ _ from daysL_mem ik i]
  constructor
  · rintro ⟨M, d', h1, h2, h3, h4⟩
    obtain ⟨y', m', g1, g2, rfl⟩ := (partsL_in2 (.inl rfl) LI iy M).1 h1
    obtain ⟨g3, g4⟩ := (longR_mem parts _ m').1 g2
    obtain ⟨k1, k2, k3⟩ := (M2 m').1 g3
    obtain ⟨j1, j2, j3⟩ := (M3 d').1 h2
    obtain ⟨r, hr, r1, r2⟩ := g1
    have rb := iy r hr
    obtain ⟨e1, e2⟩ := mon_at (y := y') (m := m') (by omega) k2 k3
    have de := dte_at (n := i) (y := y') (m := m') (by omega) (by omega) k2 k3 (by omega) (by omega)
    rw [de]
    simp only
    refine ⟨by omega, (M1 _).1 ⟨r, hr, r1, r2⟩, k1, ?_⟩
    rw [show i - sty y' - cum y' m' + 1 = d' by omega]
    exact j1
  · rintro ⟨h0, h1, h2, h3⟩
    obtain ⟨a, b, v, e⟩ := DR h0
    have vb := vld_bd v
    generalize dte i = q at *
    obtain ⟨y', m', d'⟩ := q
    simp only at *
    obtain ⟨e1, e2⟩ := mon_at (y := y') (m := m') (by omega) (by omega) (by omega)
    have hk : inL known d' := (M3 _).2 ⟨h3, by omega, by omega⟩
    have kf := known_first ak (fun r hr => (ik r hr).2.1) hk
    unfold num at e
    have ms := mon_succ (m' - 1) (by omega)
    rw [show (m' - 1) / 12 = 0 by omega, show (m' - 1) % 12 + 1 = m' by omega, show m' - 1 + 1 = m' by omega] at ms
    have dz := dim_zero y' m'
    refine ⟨12 * y' + m' - 1, d', (partsL_in2 (.inl rfl) LI iy _).2 ⟨y', m', (M1 _).2 h1, (longR_mem parts _ m').2 ⟨(M2 _).2 ⟨h2, by omega, by omega⟩, by omega⟩, rfl⟩, hk, by omega, by omega⟩
theorem is_dayY (y m d : ByteArray) (hd : 0 < (matR d 31).length) (hq : kn0 (matR d 31) = (1, 31)) (i : Int) : memR (coverR 1 (gn (partsL 12 (setM y) (matR m 12)))) i ↔ 0 < (dte i).2.1 ∧ matchM y (dte i).1 = true ∧ matchM m (dte i).2.1 = true ∧ matchM d (dte i).2.2 = true := by
  have iy := setM_inn y
  have ay := sane_apt (setM_sane y)
  have ip := matR_inn m 12
  have ap := sane_apt (matR_sane m 12)
  have ik := matR_inn d 31
  have ak := sane_apt (matR_sane d 31)
  have M1 := fun n => setM_in y n
  have M2 := fun n => matR_in m (most := 12) (by decide) n
  have M3 := fun n => matR_in d (most := 31) (by decide) n
  generalize setM y = years at *
  generalize matR m 12 = parts at *
  generalize matR d 31 = known at *
  have DR : 0 < (dte i).2.1 → 0 ≤ i ∧ i ≤ 3652424 ∧ vldB (dte i).1 (dte i).2.1 (dte i).2.2 = true ∧ num (dte i).1 (dte i).2.1 (dte i).2.2 = i := by
    intro h
    by_cases c : 0 ≤ i ∧ i ≤ 3652424
    · exact ⟨c.1, c.2, dte_yes i c.1 c.2⟩
    · rw [dte_no i (by omega)] at h
      simp at h
  have PI := partsL_in (years := years) (.inl rfl) ip iy
  have PA := partsL_apt (years := years) (.inl rfl) ip iy ap ay
  have hk31 : ∀ x, 1 ≤ x → x ≤ 31 → inL known x := fun x h1 h2 => by
    match known, hd, hq with
    | q :: t, _, hq =>
      refine ⟨q, by simp, ?_, ?_⟩
      · rw [show q = (1, 31) from hq]; exact h1
      · rw [show q = (1, 31) from hq]; exact h2
  rw [coverR_mem, gn_nf (fun r hr => by have := PI r hr; exact ⟨this.2.1, by omega, by omega⟩) PA, nf_mem, inL_memR PI (by decide) (by decide), partsL_in2 (.inl rfl) ip iy, show unum 1 i = 12 * (dte i).1 + (dte i).2.1 - 1 from rfl]
  constructor
  · rintro ⟨ho, y', m', h1, h2, h3⟩
    have o := (okO_iff 1 i).1 ho
    have v := vld_bd (dte_yes i (by omega) (by omega)).1
    obtain ⟨g1, g2, g3⟩ := (M2 m').1 h2
    obtain rfl : y' = (dte i).1 := by omega
    obtain rfl : m' = (dte i).2.1 := by omega
    exact ⟨by omega, (M1 _).1 h1, g1, ((M3 _).1 (hk31 _ (by omega) (by omega))).1⟩
  · rintro ⟨h0, h1, h2, h3⟩
    obtain ⟨a, b, v, e⟩ := DR h0
    have vb := vld_bd v
    exact ⟨(okO_iff 1 i).2 ⟨by decide, a, b, by omega⟩, _, _, (M1 _).2 h1, (M2 _).2 ⟨h2, by omega, by omega⟩, rfl⟩
/-- of a point of a day: the program's error and set are the reference's -/
theorem is_ref0 {p : PT} (hs : saneP p = true) (h0 : p.k = 0) : setE p = (if (dyT p).length ≤ 400 then 0 else 8) ∧ setS p = (if (dyT p).length ≤ 400 then dyT p else []) := by
  have SD := sane_day hs h0
  have U : unitsR 0 (dyT p) = dyT p := un_same (dyT_sane h0) (fun n hn => by
    have := dy_bd h0 n ((dy_in h0 n).2 ((dyT_mem h0 n).1 hn))
    have c0 : cnt 0 = 3652425 := rfl
    omega)
  have ED : edgB p.k (dyT p) = decide ((dyT p).length ≤ 400) := by
    unfold edgB
    rw [h0, if_pos rfl, U]
  have PU : ∀ i, inU p i = true ↔ (0 < (dte i).2.1 ∧ matchM p.y (dte i).1 = true ∧ matchM p.m (dte i).2.1 = true ∧ matchM p.d (dte i).2.2 = true) := fun i => by
    unfold inU
    rw [if_pos h0]
    simp
  unfold setE setS
  rw [if_pos hs, if_pos hs]
  rcases Bool.eq_false_or_eq_true (numB p) with hb | hb
  · have e : numR p = dyT p := by
      refine sane_ext (numR_sane p) (dyT_sane h0) fun n => ?_
      rw [hd_mem (numR_sane p), numR_in hs hb, dyT_mem h0]
    rw [if_pos hb, if_pos hb, e, ED]
    by_cases c : (dyT p).length ≤ 400
    · rw [decide_eq_true c]
      exact ⟨(if_pos c).symm, (if_pos c).symm⟩
    · rw [decide_eq_false c]
      exact ⟨(if_neg c).symm, (if_neg c).symm⟩
  · have c : ¬ (dyT p).length ≤ 400 := by
      have hb2 := hb
      unfold numB at hb2
      rw [if_pos h0] at hb2
      have hl := of_decide_eq_false hb2
      by_cases hq : kn0 (matR p.d 31) = (1, 31)
      · have e : dyT p = coverR 1 (gn (partsL 12 (setM p.y) (matR p.m 12))) := by
          refine sane_ext (dyT_sane h0) (coverS _ _) fun n => ?_
          rw [dyT_mem h0, PU, is_dayY p.y p.m p.d SD.2 hq]
        have PI := partsL_in (years := setM p.y) (.inl rfl) (matR_inn p.m 12) (setM_inn p.y)
        have PA := partsL_apt (years := setM p.y) (.inl rfl) (matR_inn p.m 12) (setM_inn p.y) (sane_apt (matR_sane _ _)) (sane_apt (setM_sane _))
        have g : gn (partsL 12 (setM p.y) (matR p.m 12)) = nf (partsL 12 (setM p.y) (matR p.m 12)) := gn_nf (fun r hr => by have := PI r hr; exact ⟨this.2.1, by omega, by omega⟩) PA
        have q := cv_len (Q := gn (partsL 12 (setM p.y) (matR p.m 12))) (by rw [g]; exact nf_sane _) (fun r hr => by
          obtain ⟨s1, s2, s3⟩ := sane_ok (l := gn (partsL 12 (setM p.y) (matR p.m 12))) (by rw [g]; exact nf_sane _) r hr
          have m1 : memR (nf (partsL 12 (setM p.y) (matR p.m 12))) r.1 := by rw [← g]; exact ⟨r, hr, Int.le_refl _, s1, s2, by omega⟩
          have m2 : memR (nf (partsL 12 (setM p.y) (matR p.m 12))) r.2 := by rw [← g]; exact ⟨r, hr, s1, Int.le_refl _, by omega, s3⟩
          obtain ⟨a, ha, a1, a2, _⟩ := (nf_mem _ _).1 m1
          obtain ⟨b, hb, b1, b2, _⟩ := (nf_mem _ _).1 m2
          have := PI a ha
          have := PI b hb
          omega)
        rw [e, q]
        unfold dayL at hl
        rw [if_pos hq] at hl
        exact hl
      · have B := dayL_bd (setM_inn p.y) (sane_apt (setM_sane p.y)) (matR_inn p.m 12) (sane_apt (matR_sane p.m 12)) (matR_inn p.d 31) (sane_apt (matR_sane p.d 31))
        have g : gn (dayL (setM p.y) (matR p.m 12) (matR p.d 31)) = nf (dayL (setM p.y) (matR p.m 12) (matR p.d 31)) := gn_nf (fun r hr => by have := B.1 r hr; exact ⟨this.2.1, by omega, by omega⟩) B.2
        have e : dyT p = gn (dayL (setM p.y) (matR p.m 12) (matR p.d 31)) := by
          rw [g]
          refine sane_ext (dyT_sane h0) (nf_sane _) fun n => ?_
          rw [dyT_mem h0, PU, nf_mem, inL_memR B.1 (by decide) (by decide), is_dayN p.y p.m p.d hq]
        rw [e]
        exact hl
    rw [hb]
    exact ⟨(if_neg c).symm, (if_neg c).symm⟩
end Go.Proofs.YtinpglfclbnhlaaGreatDoor
