/-
  Joined: ImgQ, 5R, 5S, 5T, 5U, ImgR, ImgS, ImgT, L7A, ImgU.
-/
import Derived.Test.YtjdnejglapnbbaaGreatDoorGImgB
import Derived.Test.YtjdnejglapnbbaaGreatDoorGSetC
namespace Go.Proofs.YtjdnejglapnbbaaGreatDoor
set_option linter.unusedVariables false
set_option linter.unusedSimpArgs false
theorem runF_mem {r : R} {n : Int} : n ∈ runF r ↔ r.1 ≤ n ∧ n ≤ r.2 := by
  unfold runF upF
  simp only [List.mem_map, List.mem_range]
  constructor
  · rintro ⟨i, hi, rfl⟩; omega
  · rintro ⟨a, b⟩
    exact ⟨(n - r.1).toNat, by omega, by omega⟩
theorem nums_mem {l : List R} (h : ∀ r ∈ l, okR r) {n : Int} : n ∈ nums l ↔ memR l n := by
  unfold nums memR
  simp only [List.mem_flatMap, runF_mem]
  constructor
  · rintro ⟨r, hr, a, b⟩
    obtain ⟨o1, o2, o3⟩ := h r hr
    exact ⟨r, hr, a, b, by omega, by omega⟩
  · rintro ⟨r, hr, a, b, _⟩
    exact ⟨r, hr, a, b⟩
theorem nums_lt : ∀ {l : List R}, sane l → (nums l).Pairwise (fun a b => a < b) := by
  intro l
  induction l with
  | nil => intro _; exact List.Pairwise.nil
  | cons r t ih =>
    intro h
    rw [show nums (r :: t) = runF r ++ nums t by simp [nums]]
    refine List.pairwise_append.2 ⟨?_, ih (sane_tail h), ?_⟩
    · unfold runF upF
      refine List.Pairwise.map _ ?_ List.pairwise_lt_range
      intro a b hab
      omega
    · intro x hx y hy
      have g := sane_beyond h y ((nums_mem (sane_ok (sane_tail h))).1 hy)
      have := (runF_mem.1 hx).2
      omega
theorem sane_sing {l : List Int} (h : ∀ n ∈ l, -1099511627776 ≤ n ∧ n ≤ 1099511627776) (p : l.Pairwise (fun a b => a + 1 < b)) : sane (sing l) := by
  refine sane_pw.2 ⟨?_, ?_⟩
  · intro r hr
    unfold sing at hr
    simp only [List.mem_map] at hr
    obtain ⟨n, hn, rfl⟩ := hr
    have := h n hn
    exact ⟨Int.le_refl _, this.1, this.2⟩
  · unfold sing
    exact List.Pairwise.map _ (fun a b h => h) p
theorem fst_gap {k i j : Int} (k0 : k ≠ 0) (h : 0 ≤ i) (hij : i < j) (hj : j < cnt k) : fst k i + 1 < fst k j := by
  have n := unit_next h hij hj
  obtain ⟨a1, a2, a3, a4, a5⟩ := months h (show i < cnt k by omega) k0
  have m := mon_lt _ _ a1 a2
  omega
theorem lst_gap {k i j : Int} (k0 : k ≠ 0) (h : 0 ≤ i) (hij : i < j) (hj : j < cnt k) : lst k i + 1 < lst k j := by
  have n := unit_next h hij hj
  obtain ⟨a1, a2, a3, a4, a5⟩ := months (show 0 ≤ j by omega) hj k0
  have m := mon_lt _ _ a1 a2
  omega
theorem units_num {k : Int} {s : List R} {n : Int} (h : n ∈ nums (unitsR k s)) : 0 ≤ n ∧ n < cnt k ∧ memR s n := by
  have := (unitsR_mem k s n).1 ((nums_mem (sane_ok (unitsR_sane k s))).1 h)
  exact ⟨this.2.1, this.2.2, this.1⟩
theorem firs_sane {k : Int} (k0 : k ≠ 0) (s : List R) : sane (sing ((nums (unitsR k s)).map (firV k))) := by
  refine sane_sing ?_ ?_
  · intro n hn
    simp only [List.mem_map] at hn
    obtain ⟨i, _, rfl⟩ := hn
    have := firV_bd k i
    omega
  · refine List.pairwise_map.2 ((List.Pairwise.imp_of_mem ?_) (nums_lt (unitsR_sane k s)))
    intro a b ha hb hab
    obtain ⟨a1, a2, _⟩ := units_num ha
    obtain ⟨b1, b2, _⟩ := units_num hb
    rw [firV_in a1 a2, firV_in b1 b2]
    exact fst_gap k0 a1 hab b2
theorem lass_sane {k : Int} (k0 : k ≠ 0) (s : List R) : sane (sing ((nums (unitsR k s)).map (lasV k))) := by
  refine sane_sing ?_ ?_
  · intro n hn
    simp only [List.mem_map] at hn
    obtain ⟨i, _, rfl⟩ := hn
    have := lasV_bd k i
    omega
  · refine List.pairwise_map.2 ((List.Pairwise.imp_of_mem ?_) (nums_lt (unitsR_sane k s)))
    intro a b ha hb hab
    obtain ⟨a1, a2, _⟩ := units_num ha
    obtain ⟨b1, b2, _⟩ := units_num hb
    rw [lasV_in a1 a2, lasV_in b1 b2]
    exact lst_gap k0 a1 hab b2
/-- what the list of edges is, without bringing it to order -/
theorem edgR_fir (k : Int) (s : List R) : edgR (firV k) k s = if edgB k s = true then (if k = 0 then unitsR k s else sing ((nums (unitsR k s)).map (firV k))) else [] := by
  unfold edgR
  by_cases h : k = 0
  · rw [if_pos h, if_pos h]
  · rw [if_neg h, if_neg h, nf_of_sane (firs_sane h s)]
theorem edgR_las (k : Int) (s : List R) : edgR (lasV k) k s = if edgB k s = true then (if k = 0 then unitsR k s else sing ((nums (unitsR k s)).map (lasV k))) else [] := by
  unfold edgR
  by_cases h : k = 0
  · rw [if_pos h, if_pos h]
  · rw [if_neg h, if_neg h, nf_of_sane (lass_sane h s)]
theorem edgR_fsane (k : Int) (s : List R) : sane (edgR (firV k) k s) := by
  unfold edgR
  split
  · split
    · exact unitsR_sane k s
    · exact nf_sane _
  · exact trivial
theorem edgR_lsane (k : Int) (s : List R) : sane (edgR (lasV k) k s) := by
  unfold edgR
  split
  · split
    · exact unitsR_sane k s
    · exact nf_sane _
  · exact trivial
theorem edgR_len (V : Int → Int) (k : Int) (s : List R) : (edgR V k s).length ≤ 400 := by
  unfold edgR edgB
  by_cases h : k = 0
  · simp only [if_pos h]
    split
    · rename_i g; exact of_decide_eq_true g
    · simp
  · simp only [if_neg h]
    split
    · rename_i g
      have g := of_decide_eq_true g
      have := nf_len (sing ((nums (unitsR k s)).map V))
      rw [sing_len, List.length_map] at this
      omega
    · simp
theorem insR_sane (k lo hi' : Int) : sane (insR k lo hi') := by
  unfold insR
  split
  · exact nf_sane _
  · exact trivial
theorem touR_sane (k lo hi' : Int) : sane (touR k lo hi') := by
  unfold touR
  split
  · rename_i h
    unfold thB at h
    simp only [Bool.and_eq_true, decide_eq_true_eq] at h
    have b1 := ofV_bd k (max lo 0)
    have b2 := ofV_bd k (min hi' 3652424)
    have m : ofV k (max lo 0) ≤ ofV k (min hi' 3652424) := by
      obtain ⟨u1, u2, u3, u4⟩ := unum_ok h.2
      have e2 : ofV k (min hi' 3652424) = unum k (min hi' 3652424) := by unfold ofV; rw [if_pos h.2]
      rcases Bool.eq_false_or_eq_true (okO k (max lo 0)) with o | o
      · obtain ⟨v1, v2, v3, v4⟩ := unum_ok o
        have e1 : ofV k (max lo 0) = unum k (max lo 0) := by unfold ofV; rw [if_pos o]
        rw [e1, e2]
        rcases Int.lt_or_le (unum k (min hi' 3652424)) (unum k (max lo 0)) with c | c
        · have := unit_next (k := k) u1 c v2
          omega
        · exact c
      · have e1 : ofV k (max lo 0) = 0 := by unfold ofV; rw [o]; rfl
        omega
    exact sane_cons ⟨m, by simp only; omega, by simp only; omega⟩ (by intro s t h; cases h) trivial
  · exact trivial
end Go.Proofs.YtjdnejglapnbbaaGreatDoor

namespace Go.Proofs.YtjdnejglapnbbaaGreatDoor
open Go.RowKit
set_option linter.unusedVariables false
set_option linter.unusedSimpArgs false
end Go.Proofs.YtjdnejglapnbbaaGreatDoor

namespace Go.Proofs.YtjdnejglapnbbaaGreatDoor
open Go.RowKit
set_option linter.unusedVariables false
set_option linter.unusedSimpArgs false
end Go.Proofs.YtjdnejglapnbbaaGreatDoor

namespace Go.Proofs.YtjdnejglapnbbaaGreatDoor
open Go.RowKit
set_option linter.unusedVariables false
set_option linter.unusedSimpArgs false
end Go.Proofs.YtjdnejglapnbbaaGreatDoor

namespace Go.Proofs.YtjdnejglapnbbaaGreatDoor
open Go.RowKit
set_option linter.unusedVariables false
set_option linter.unusedSimpArgs false
end Go.Proofs.YtjdnejglapnbbaaGreatDoor

namespace Go.Proofs.YtjdnejglapnbbaaGreatDoor
open Go.RowKit
set_option linter.unusedVariables false
set_option linter.unusedSimpArgs false
end Go.Proofs.YtjdnejglapnbbaaGreatDoor

namespace Go.Proofs.YtjdnejglapnbbaaGreatDoor
open Go.RowKit
set_option linter.unusedVariables false
set_option linter.unusedSimpArgs false
theorem fst_low : fst 2 0 = 60 := by
  obtain ⟨a1, a2, a3, a4, a5⟩ := months (k := 2) (i := 0) (Int.le_refl _) (by decide) (by decide)
  rw [a4, show sm 2 0 = 2 by decide, mon_2]
theorem okO_in {k d : Int} (h : 0 < cnt k) (h0 : 0 ≤ d) (h1 : d ≤ 3652424) (g : k = 2 → 60 ≤ d) : okO k d = true := by
  rcases Bool.eq_false_or_eq_true (okO k d) with e | e
  · exact e
  · rcases okO_no e h0 h1 with c | ⟨c, c2⟩
    · omega
    · have := g c; omega
theorem okO_out {k d : Int} (h : okO k d = true) : 0 < cnt k ∧ 0 ≤ d ∧ d ≤ 3652424 ∧ (k = 2 → 60 ≤ d) := by
  obtain ⟨a, b, c, e⟩ := (okO_iff k d).1 h
  refine ⟨a, b, c, fun k2 => ?_⟩
  subst k2
  obtain ⟨u1, u2, u3, u4⟩ := unum_ok h
  have := fst_mono (k := 2) (Int.le_refl 0) u1 u2
  rw [fst_low] at this
  omega
end Go.Proofs.YtjdnejglapnbbaaGreatDoor

namespace Go.Proofs.YtjdnejglapnbbaaGreatDoor
open Go.RowKit
set_option linter.unusedVariables false
set_option linter.unusedSimpArgs false
end Go.Proofs.YtjdnejglapnbbaaGreatDoor

namespace Go.Proofs.YtjdnejglapnbbaaGreatDoor
open Go.RowKit
set_option linter.unusedVariables false
set_option linter.unusedSimpArgs false
/-- the unit of a day, where one knows it -/
theorem ofV_eq {k n d : Int} (h : 0 ≤ n) (h' : n < cnt k) (a : fst k n ≤ d) (b : d ≤ lst k n) : okO k d = true ∧ ofV k d = n := by
  obtain ⟨o, x, y⟩ := (range_day (day := d) h (Int.le_refl n) h').1 ⟨a, b⟩
  exact ⟨o, by unfold ofV; rw [if_pos o]; omega⟩
end Go.Proofs.YtjdnejglapnbbaaGreatDoor

namespace Go.Proofs.YtjdnejglapnbbaaGreatDoor
set_option linter.unusedVariables false
set_option linter.unusedSimpArgs false
theorem okU_of {k i : Int} (h : 0 ≤ i) (h' : i < cnt k) : okU k i = true := okU_yes h h'
theorem fst_two {i : Int} (h : 0 ≤ i) (h' : i < cnt 2) : 60 ≤ fst 2 i := by
  have := fst_mono (k := 2) (Int.le_refl 0) h h'
  rw [fst_low] at this
  exact this
/-- the first unit that may touch -/
theorem low_unit (k lo : Int) (c : 0 < cnt k) (h : max lo 0 ≤ 3652424) : (okO k (max lo 0) = true ∧ ofV k (max lo 0) = unum k (max lo 0)) ∨ (k = 2 ∧ max lo 0 < 60 ∧ ofV k (max lo 0) = 0) := by
  rcases Bool.eq_false_or_eq_true (okO k (max lo 0)) with o | o
  · exact .inl ⟨o, by unfold ofV; rw [if_pos o]⟩
  · rcases okO_no o (by omega) h with g | ⟨g1, g2⟩
    · omega
    · exact .inr ⟨g1, g2, by unfold ofV; rw [o]; rfl⟩
theorem touR_mem (k lo hi' i : Int) : memR (touR k lo hi') i ↔ okU k i = true ∧ lo ≤ hi' ∧ fst k i ≤ hi' ∧ lo ≤ lst k i := by
  constructor
  · intro h
    unfold touR at h
    split at h
    · rename_i hb
      obtain ⟨r, hr, g1, g2, _⟩ := h
      rw [List.mem_singleton] at hr
      subst hr
      simp only at g1 g2
      unfold thB at hb
      simp only [Bool.and_eq_true, decide_eq_true_eq] at hb
      obtain ⟨hm, ob⟩ := hb
      obtain ⟨u1, u2, u3, u4⟩ := unum_ok ob
      have e2 : ofV k (min hi' 3652424) = unum k (min hi' 3652424) := by unfold ofV; rw [if_pos ob]
      rw [e2] at g2
      have c := (okO_out ob).1
      have i0 : 0 ≤ i := by have := ofV_bd k (max lo 0); omega
      have i1 : i < cnt k := by omega
      have f1 := fst_mono i0 g2 u2
      refine ⟨okU_of i0 i1, by omega, by omega, ?_⟩
      rcases low_unit k lo c (by omega) with ⟨o, e⟩ | ⟨rfl, e1, e⟩
      · rw [e] at g1
        obtain ⟨v1, v2, v3, v4⟩ := unum_ok o
        have := lst_mono v1 g1 i1
        omega
      · have := fst_two i0 i1
        have := span_bd i0 i1
        omega
    · exact absurd h (memR_nil i)
  · rintro ⟨o, h1, h2, h3⟩
    obtain ⟨i0, i1⟩ := (okU_iff k i).1 o
    have sp := span_bd i0 i1
    have hm : max lo 0 ≤ min hi' 3652424 := by omega
    have ob : okO k (min hi' 3652424) = true := okO_in (by omega) (by omega) (by omega) (by rintro rfl; have := fst_two i0 i1; omega)
    have hb : thB k lo hi' = true := by unfold thB; simp only [Bool.and_eq_true, decide_eq_true_eq]; exact ⟨hm, ob⟩
    obtain ⟨u1, u2, u3, u4⟩ := unum_ok ob
    have e2 : ofV k (min hi' 3652424) = unum k (min hi' 3652424) := by unfold ofV; rw [if_pos ob]
    unfold touR
    rw [if_pos hb]
    have cb := cnt_bd k
    refine ⟨_, List.mem_singleton.2 rfl, ?_, ?_, by omega, by omega⟩
    · simp only
      rcases low_unit k lo (by omega) (by omega) with ⟨o, e⟩ | ⟨rfl, e1, e⟩
      · rw [e]
        obtain ⟨v1, v2, v3, v4⟩ := unum_ok o
        rcases Int.lt_or_le i (unum k (max lo 0)) with c | c
        · have := unit_next i0 c v2
          omega
        · exact c
      · omega
    · simp only
      rw [e2]
      rcases Int.lt_or_le (unum k (min hi' 3652424)) i with c | c
      · have := unit_next u1 c i1
        omega
      · exact c
theorem insR_mem (k lo hi' i : Int) : memR (insR k lo hi') i ↔ okU k i = true ∧ lo ≤ fst k i ∧ lst k i ≤ hi' := by
  constructor
  · intro h
    unfold insR at h
    split at h
    · rename_i hb
      rw [nf_mem] at h
      obtain ⟨r, hr, g1, g2, _⟩ := h
      rw [List.mem_singleton] at hr
      subst hr
      unfold insP at g1 g2
      simp only at g1 g2
      unfold thB at hb
      simp only [Bool.and_eq_true, decide_eq_true_eq] at hb
      obtain ⟨hm, ob⟩ := hb
      obtain ⟨u1, u2, u3, u4⟩ := unum_ok ob
      have e2 : ofV k (min hi' 3652424) = unum k (min hi' 3652424) := by unfold ofV; rw [if_pos ob]
      rw [e2, lasV_in u1 u2] at g2
      have c := (okO_out ob).1
      have i0 : 0 ≤ i := by have := ofV_bd k (max lo 0); split at g1 <;> omega
      have iy : i ≤ unum k (min hi' 3652424) := by split at g2 <;> omega
      have i1 : i < cnt k := by omega
      have sp := span_bd i0 i1
      refine ⟨okU_of i0 i1, ?_, ?_⟩
      · rcases low_unit k lo c (by omega) with ⟨o, e⟩ | ⟨rfl, e1, e⟩
        · rw [e] at g1
          obtain ⟨v1, v2, v3, v4⟩ := unum_ok o
          rw [firV_in v1 v2] at g1
          split at g1
          · have := unit_next v1 (show unum k (max lo 0) < i by omega) i1
            omega
          · have := fst_mono v1 (show unum k (max lo 0) ≤ i by omega) i1
            omega
        · have := fst_two i0 i1
          omega
      · split at g2
        · have := unit_next i0 (show i < unum k (min hi' 3652424) by omega) u2
          omega
        · have := lst_mono i0 iy u2
          omega
    · exact absurd h (memR_nil i)
  · rintro ⟨o, h1, h2⟩
    obtain ⟨i0, i1⟩ := (okU_iff k i).1 o
    have sp := span_bd i0 i1
    have hm : max lo 0 ≤ min hi' 3652424 := by omega
    have ob : okO k (min hi' 3652424) = true := okO_in (by omega) (by omega) (by omega) (by rintro rfl; have := fst_two i0 i1; omega)
    have hb : thB k lo hi' = true := by unfold thB; simp only [Bool.and_eq_true, decide_eq_true_eq]; exact ⟨hm, ob⟩
    obtain ⟨u1, u2, u3, u4⟩ := unum_ok ob
    have e2 : ofV k (min hi' 3652424) = unum k (min hi' 3652424) := by unfold ofV; rw [if_pos ob]
    unfold insR
    rw [if_pos hb, nf_mem]
    have cb := cnt_bd k
    refine ⟨_, List.mem_singleton.2 rfl, ?_, ?_, by omega, by omega⟩
    · unfold insP
      simp only
      rcases low_unit k lo (by omega) (by omega) with ⟨o, e⟩ | ⟨rfl, e1, e⟩
      · rw [e]
        obtain ⟨v1, v2, v3, v4⟩ := unum_ok o
        rw [firV_in v1 v2]
        have ge : unum k (max lo 0) ≤ i := by
          rcases Int.lt_or_le i (unum k (max lo 0)) with c | c
          · have := unit_next i0 c v2
            omega
          · exact c
        split
        · rename_i g
          rcases Int.lt_or_eq_of_le ge with c | c
          · omega
          · rw [c] at g; omega
        · omega
      · rw [e, firV_in (Int.le_refl 0) (by omega), fst_low]
        split <;> omega
    · unfold insP
      simp only
      rw [e2, lasV_in u1 u2]
      have le : i ≤ unum k (min hi' 3652424) := by
        rcases Int.lt_or_le (unum k (min hi' 3652424)) i with c | c
        · have := unit_next u1 c i1
          omega
        · exact c
      split
      · rename_i g
        rcases Int.lt_or_eq_of_le le with c | c
        · omega
        · rw [← c] at g; omega
      · omega
/-- how many numbers -/
theorem sum_nums : ∀ (l : List R), (∀ r ∈ l, r.1 ≤ r.2) → sumR l = (nums l).length := by
  intro l
  induction l with
  | nil => intro _; rfl
  | cons r t ih =>
    intro h
    have h1 := h r (List.mem_cons_self)
    rw [show nums (r :: t) = runF r ++ nums t by simp [nums], List.length_append, sumR, ih (fun q hq => h q (List.mem_cons_of_mem _ hq))]
    unfold runF
    rw [upF_len]
    omega
theorem edgR_fmem {k : Int} {s : List R} (hb : edgB k s = true) (d : Int) : memR (edgR (firV k) k s) d ↔ okO k d = true ∧ memR s (unum k d) ∧ fst k (unum k d) = d := by
  have U : ∀ n, 0 ≤ n → n < cnt k → fst k n = d → okO k d = true ∧ unum k d = n := by
    intro n h1 h2 h3
    have := span_bd h1 h2
    obtain ⟨o, e⟩ := ofV_eq (d := d) h1 h2 (by omega) (by omega)
    exact ⟨o, by unfold ofV at e; rwa [if_pos o] at e⟩
  by_cases h : k = 0
  · subst h
    unfold edgR
    rw [if_pos hb, if_pos rfl, unitsR_mem]
    constructor
    · rintro ⟨h1, h2, h3⟩
      obtain ⟨o, e⟩ := U d h2 h3 (fst_zero d)
      exact ⟨o, by rw [e]; exact h1, by rw [e]; exact fst_zero d⟩
    · rintro ⟨o, h1, h2⟩
      obtain ⟨u1, u2, u3, u4⟩ := unum_ok o
      rw [fst_zero] at h2
      rw [h2] at h1 u1 u2
      exact ⟨h1, u1, u2⟩
  · rw [edgR_fir, if_pos hb, if_neg h]
    constructor
    · rintro ⟨r, hr, g1, g2, _⟩
      unfold sing at hr
      simp only [List.mem_map] at hr
      obtain ⟨m, ⟨n, hn, rfl⟩, rfl⟩ := hr
      simp only at g1 g2
      obtain ⟨n1, n2, n3⟩ := units_num hn
      rw [firV_in n1 n2] at g1 g2
      obtain ⟨o, e⟩ := U n n1 n2 (by omega)
      exact ⟨o, by rw [e]; exact n3, by rw [e]; omega⟩
    · rintro ⟨o, h1, h2⟩
      obtain ⟨u1, u2, u3, u4⟩ := unum_ok o
      have nm : unum k d ∈ nums (unitsR k s) := (nums_mem (sane_ok (unitsR_sane k s))).2 ((unitsR_mem k s _).2 ⟨h1, u1, u2⟩)
      have sp := span_bd u1 u2
      refine ⟨(d, d), ?_, Int.le_refl _, Int.le_refl _, by omega, by omega⟩
      unfold sing
      simp only [List.mem_map]
      exact ⟨d, ⟨_, nm, by rw [firV_in u1 u2]; exact h2⟩, rfl⟩
theorem edgR_lmem {k : Int} {s : List R} (hb : edgB k s = true) (d : Int) : memR (edgR (lasV k) k s) d ↔ okO k d = true ∧ memR s (unum k d) ∧ lst k (unum k d) = d := by
  have U : ∀ n, 0 ≤ n → n < cnt k → lst k n = d → okO k d = true ∧ unum k d = n := by
    intro n h1 h2 h3
    have := span_bd h1 h2
    obtain ⟨o, e⟩ := ofV_eq (d := d) h1 h2 (by omega) (by omega)
    exact ⟨o, by unfold ofV at e; rwa [if_pos o] at e⟩
  by_cases h : k = 0
  · subst h
    unfold edgR
    rw [if_pos hb, if_pos rfl, unitsR_mem]
    constructor
    · rintro ⟨h1, h2, h3⟩
      obtain ⟨o, e⟩ := U d h2 h3 (lst_zero d)
      exact ⟨o, by rw [e]; exact h1, by rw [e]; exact lst_zero d⟩
    · rintro ⟨o, h1, h2⟩
      obtain ⟨u1, u2, u3, u4⟩ := unum_ok o
      rw [lst_zero] at h2
      rw [h2] at h1 u1 u2
      exact ⟨h1, u1, u2⟩
  · rw [edgR_las, if_pos hb, if_neg h]
    constructor
    · rintro ⟨r, hr, g1, g2, _⟩
      unfold sing at hr
      simp only [List.mem_map] at hr
      obtain ⟨m, ⟨n, hn, rfl⟩, rfl⟩ := hr
      simp only at g1 g2
      obtain ⟨n1, n2, n3⟩ := units_num hn
      rw [lasV_in n1 n2] at g1 g2
      obtain ⟨o, e⟩ := U n n1 n2 (by omega)
      exact ⟨o, by rw [e]; exact n3, by rw [e]; omega⟩
    · rintro ⟨o, h1, h2⟩
      obtain ⟨u1, u2, u3, u4⟩ := unum_ok o
      have nm : unum k d ∈ nums (unitsR k s) := (nums_mem (sane_ok (unitsR_sane k s))).2 ((unitsR_mem k s _).2 ⟨h1, u1, u2⟩)
      have sp := span_bd u1 u2
      refine ⟨(d, d), ?_, Int.le_refl _, Int.le_refl _, by omega, by omega⟩
      unfold sing
      simp only [List.mem_map]
      exact ⟨d, ⟨_, nm, by rw [lasV_in u1 u2]; exact h2⟩, rfl⟩
theorem edgB_day {s : List R} (h : s.length ≤ 400) : edgB 0 s = true := by
  unfold edgB
  rw [if_pos rfl]
  exact decide_eq_true (unitsR_len h)
end Go.Proofs.YtjdnejglapnbbaaGreatDoor
