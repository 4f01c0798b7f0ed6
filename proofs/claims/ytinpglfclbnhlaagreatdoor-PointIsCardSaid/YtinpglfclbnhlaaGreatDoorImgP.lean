/-
  Layer 7: what units cover, plain lists.
-/
import Derived.Test.YtinpglfclbnhlaaGreatDoorGSetC
import Derived.Test.YtinpglfclbnhlaaGreatDoorGUnit
namespace Go.Proofs.YtinpglfclbnhlaaGreatDoor
set_option linter.unusedVariables false
set_option linter.unusedSimpArgs false
/-- the numbers of a set that are units' -/
def unitsR (k : Int) (s : List R) : List R := interR s [(0, cnt k - 1)]
theorem unitsR_sane (k : Int) (s : List R) : sane (unitsR k s) := interR_sane _ _
theorem unitsR_mem (k : Int) (s : List R) (n : Int) : memR (unitsR k s) n ↔ memR s n ∧ 0 ≤ n ∧ n < cnt k := by
  have c := cnt_bd k
  unfold unitsR
  rw [interR_mem, memR_cons]
  constructor
  · rintro ⟨h, ⟨a, b, _⟩ | h2⟩
    · simp only at a b; exact ⟨h, a, by omega⟩
    · exact absurd h2 (memR_nil n)
  · rintro ⟨h, a, b⟩
    refine ⟨h, .inl ⟨a, by simp only; omega, by omega, by omega⟩⟩
theorem unitsR_in {k : Int} {s : List R} {r : R} (h : r ∈ unitsR k s) : 0 ≤ r.1 ∧ r.1 ≤ r.2 ∧ r.2 < cnt k := by
  obtain ⟨o1, o2, o3⟩ := sane_ok (unitsR_sane k s) r h
  have h1 := (unitsR_mem k s r.1).1 ⟨r, h, Int.le_refl _, o1, o2, by omega⟩
  have h2 := (unitsR_mem k s r.2).1 ⟨r, h, o1, Int.le_refl _, by omega, o3⟩
  exact ⟨h1.2.1, o1, h2.2.2⟩
theorem unitsR_len {k : Int} {s : List R} {p : Nat} (h : s.length ≤ p) : (unitsR k s).length ≤ p := by
  have := interR_bd h (show [((0 : Int), cnt k - 1)].length ≤ 1 by simp)
  unfold unitsR
  omega
/-- units stand one behind the other -/
theorem unit_next {k i j : Int} (h : 0 ≤ i) (hij : i < j) (hj : j < cnt k) : lst k i < fst k j := by
  by_cases k0 : k = 0
  · subst k0; rw [lst_zero, fst_zero]; exact hij
  · obtain ⟨a1, a2, a3, a4, a5⟩ := months h (by omega) k0
    obtain ⟨b1, b2, b3, b4, b5⟩ := months (show 0 ≤ j by omega) hj k0
    have e : em k i ≤ sm k j := by
      have s6 := six k (by omega)
      unfold em sm
      rcases s6 with rfl | ⟨rfl, c⟩ | ⟨rfl, c⟩ | ⟨rfl, c⟩ | ⟨rfl, c⟩ | ⟨rfl, c⟩
      · omega
      all_goals simp
      all_goals omega
    have m := mon_le _ _ (show 0 ≤ em k i by omega) e
    omega
theorem fst_mono {k i j : Int} (h : 0 ≤ i) (hij : i ≤ j) (hj : j < cnt k) : fst k i ≤ fst k j := by
  by_cases e : i = j
  · subst e; exact Int.le_refl _
  · have := unit_next h (show i < j by omega) hj
    have := span_bd h (show i < cnt k by omega)
    omega
theorem lst_mono {k i j : Int} (h : 0 ≤ i) (hij : i ≤ j) (hj : j < cnt k) : lst k i ≤ lst k j := by
  by_cases e : i = j
  · subst e; exact Int.le_refl _
  · have := unit_next h (show i < j by omega) hj
    have := span_bd (show 0 ≤ j by omega) hj
    omega
theorem firV_in {k i : Int} (h : 0 ≤ i) (h' : i < cnt k) : firV k i = fst k i := by unfold firV; rw [okU_yes h h']; rfl
theorem lasV_in {k i : Int} (h : 0 ≤ i) (h' : i < cnt k) : lasV k i = lst k i := by unfold lasV; rw [okU_yes h h']; rfl
/-- days of units from one to another -/
theorem range_day {k a b day : Int} (h : 0 ≤ a) (hab : a ≤ b) (hb : b < cnt k) : (fst k a ≤ day ∧ day ≤ lst k b) ↔ okO k day = true ∧ a ≤ unum k day ∧ unum k day ≤ b := by
  constructor
  · rintro ⟨g1, g2⟩
    have ba := span_bd h (show a < cnt k by omega)
    have bb := span_bd (show 0 ≤ b by omega) hb
    have ok : okO k day = true := by
      rcases Bool.eq_false_or_eq_true (okO k day) with e | e
      · exact e
      · rcases okO_no e (by omega) (by omega) with c | ⟨c, d⟩
        · omega
        · subst c
          have m := months h (show a < cnt 2 by omega) (by omega)
          have m2 := mon_le 2 (sm 2 a) (by omega) (by unfold sm; simp; omega)
          rw [mon_2] at m2
          omega
    obtain ⟨u1, u2, u3, u4⟩ := unum_ok ok
    refine ⟨ok, ?_, ?_⟩
    · rcases Int.lt_or_le (unum k day) a with c | c
      · have := unit_next (k := k) u1 c (by omega); omega
      · exact c
    · rcases Int.lt_or_le b (unum k day) with c | c
      · have := unit_next (k := k) (show 0 ≤ b by omega) c u2; omega
      · exact c
  · rintro ⟨ok, g1, g2⟩
    obtain ⟨u1, u2, u3, u4⟩ := unum_ok ok
    have := fst_mono h g1 u2
    have := lst_mono u1 g2 hb
    omega
def cvF (k : Int) (r : R) : R := (firV k r.1, lasV k r.2)
/-- all days of units -/
def coverR (k : Int) (s : List R) : List R := nf ((unitsR k s).map (cvF k))
theorem cvF_bd {k : Int} {s : List R} {r : R} (h : r ∈ unitsR k s) : 0 ≤ (cvF k r).1 ∧ (cvF k r).2 ≤ 3652424 ∧ (cvF k r).1 = fst k r.1 ∧ (cvF k r).2 = lst k r.2 := by
  obtain ⟨a, b, c⟩ := unitsR_in h
  unfold cvF
  simp only
  rw [firV_in a (by omega), lasV_in (by omega) c]
  have := span_bd a (show r.1 < cnt k by omega)
  have := span_bd (show 0 ≤ r.2 by omega) c
  omega
theorem cover_i64 (k : Int) (s : List R) : I64R ((unitsR k s).map (cvF k)) := by
  intro q hq
  simp only [List.mem_map] at hq
  obtain ⟨r, hr, rfl⟩ := hq
  obtain ⟨a, b, c, d⟩ := cvF_bd hr
  obtain ⟨u1, u2, u3⟩ := unitsR_in hr
  have s1 := span_bd u1 (show r.1 < cnt k by omega)
  have s2 := span_bd (show 0 ≤ r.2 by omega) u3
  omega
theorem coverR_mem (k : Int) (s : List R) (day : Int) : memR (coverR k s) day ↔ okO k day = true ∧ memR s (unum k day) := by
  unfold coverR
  rw [nf_mem]
  constructor
  · rintro ⟨q, hq, g1, g2, _⟩
    simp only [List.mem_map] at hq
    obtain ⟨r, hr, rfl⟩ := hq
    obtain ⟨a, b, c, d⟩ := cvF_bd hr
    obtain ⟨u1, u2, u3⟩ := unitsR_in hr
    rw [c] at g1
    rw [d] at g2
    obtain ⟨ok, v1, v2⟩ := (range_day u1 u2 u3).1 ⟨g1, g2⟩
    obtain ⟨o1, o2, o3⟩ := sane_ok (unitsR_sane k s) r hr
    exact ⟨ok, ((unitsR_mem k s _).1 ⟨r, hr, v1, v2, by omega, by omega⟩).1⟩
  · rintro ⟨ok, h⟩
    obtain ⟨u1, u2, u3, u4⟩ := unum_ok ok
    obtain ⟨r, hr, v1, v2, v3, v4⟩ := (unitsR_mem k s (unum k day)).2 ⟨h, u1, u2⟩
    obtain ⟨a, b, c, d⟩ := cvF_bd hr
    obtain ⟨w1, w2, w3⟩ := unitsR_in hr
    have g := (range_day (day := day) w1 w2 w3).2 ⟨ok, v1, v2⟩
    refine ⟨cvF k r, List.mem_map_of_mem hr, by rw [c]; exact g.1, by rw [d]; exact g.2, by omega, by omega⟩
theorem cover_len {k : Int} {s : List R} {p : Nat} (h : s.length ≤ p) : ((unitsR k s).map (cvF k)).length ≤ p := by
  rw [List.length_map]; exact unitsR_len h
theorem coverR_sane (k : Int) (s : List R) : sane (coverR k s) := nf_sane _
/-- is there a unit that has a day from one to another -/
noncomputable def thB (k lo hi' : Int) : Bool := decide (max lo 0 ≤ min hi' 3652424) && okO k (min hi' 3652424)
noncomputable def touR (k lo hi' : Int) : List R := if thB k lo hi' = true then [(ofV k (max lo 0), ofV k (min hi' 3652424))] else []
noncomputable def insP (k lo hi' : Int) : R := (ofV k (max lo 0) + (if firV k (ofV k (max lo 0)) < lo then 1 else 0), ofV k (min hi' 3652424) - (if hi' < lasV k (ofV k (min hi' 3652424)) then 1 else 0))
noncomputable def insR (k lo hi' : Int) : List R := if thB k lo hi' = true then nf [insP k lo hi'] else []
end Go.Proofs.YtinpglfclbnhlaaGreatDoor
