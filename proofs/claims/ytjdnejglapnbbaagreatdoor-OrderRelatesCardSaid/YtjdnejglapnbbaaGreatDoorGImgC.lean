import Derived.Test.YtjdnejglapnbbaaGreatDoorGImgB
import Derived.Test.YtjdnejglapnbbaaGreatDoorGSetC
namespace Go.Proofs.YtjdnejglapnbbaaGreatDoor
set_option linter.unusedVariables false
set_option linter.unusedSimpArgs false
theorem runF_mem {r : R} {n : Int} : n ∈ runF r ↔ r.1 ≤ n ∧ n ≤ r.2 := by
 unfold runF upF
 simp only [List.mem_map, List.mem_range]
 constructor
 ·rintro ⟨i, hi, rfl⟩; omega
 ·rintro ⟨a, b⟩
  exact ⟨(n - r.1).toNat, by omega, by omega⟩
theorem nums_mem {l : List R} (h : ∀ r ∈ l, okR r) {n : Int} : n ∈ nums l ↔ memR l n := by
 unfold nums memR
 simp only [List.mem_flatMap, runF_mem]
 constructor
 ·rintro ⟨r, hr, a, b⟩
  obtain ⟨o1, o2, o3⟩ := h r hr
  exact ⟨r, hr, a, b, by omega, by omega⟩
 ·rintro ⟨r, hr, a, b, _⟩
  exact ⟨r, hr, a, b⟩
theorem nums_lt : ∀ {l : List R}, sane l → (nums l).Pairwise (fun a b => a < b) := by
 intro l
 induction l with
 | nil => intro _; exact List.Pairwise.nil
 | cons r t ih =>
  intro h
  rw [show nums (r :: t) = runF r ++ nums t by simp [nums]]
  refine List.pairwise_append.2 ⟨?_, ih (sane_tail h), ?_⟩
  ·unfold runF upF
   refine List.Pairwise.map _ ?_ List.pairwise_lt_range
   intro a b hab
   omega
  ·intro x hx y hy
   have g := sane_beyond h y ((nums_mem (sane_ok (sane_tail h))).1 hy)
   have := (runF_mem.1 hx).2
   omega
theorem sane_sing {l : List Int} (h : ∀ n ∈ l, -1099511627776 ≤ n ∧ n ≤ 1099511627776) (p : l.Pairwise (fun a b => a + 1 < b)) : sane (sing l) := by
 refine sane_pw.2 ⟨?_, ?_⟩
 ·intro r hr
  unfold sing at hr
  simp only [List.mem_map] at hr
  obtain ⟨n, hn, rfl⟩ := hr
  have := h n hn
  exact ⟨Int.le_refl _, this.1, this.2⟩
 ·unfold sing
  exact List.Pairwise.map _ (fun a b h => h) p
theorem fst_gap {k i j : Int} (k0 : k ≠ 0) (h : 0 ≤ i) (hij : i < j) (hj : j < cnt k) : fst k i + 1 < fst k j := by
 have n := unit_next h hij hj
 obtain ⟨a1, a2, a3, a4, a5⟩ := months h (show i < cnt k by omega) k0
 have m := mon_lt _ _ a1 a2
 omega
theorem lst_gap {k i j : Int} (k0 : k ≠ 0) (h : 0 ≤ i) (hij : i < j) (hj : j < cnt k) : lst k i + 1 < lst k j := by
 have n := unit_next h hij hj
 obtain ⟨a1, a2, a3, a4, a5⟩ := months (show 0 ≤ j by omega) hj k0
 have m := mon_lt _ _ a1 a2
 omega
theorem units_num {k : Int} {s : List R} {n : Int} (h : n ∈ nums (unitsR k s)) : 0 ≤ n ∧ n < cnt k ∧ memR s n := by
 have := (unitsR_mem k s n).1 ((nums_mem (sane_ok (unitsR_sane k s))).1 h)
 exact ⟨this.2.1, this.2.2, this.1⟩
theorem firs_sane {k : Int} (k0 : k ≠ 0) (s : List R) : sane (sing ((nums (unitsR k s)).map (firV k))) := by
 refine sane_sing ?_ ?_
 ·intro n hn
  simp only [List.mem_map] at hn
  obtain ⟨i, _, rfl⟩ := hn
  have := firV_bd k i
  omega
 ·refine List.pairwise_map.2 ((List.Pairwise.imp_of_mem ?_) (nums_lt (unitsR_sane k s)))
  intro a b ha hb hab
  obtain ⟨a1, a2, _⟩ := units_num ha
  obtain ⟨b1, b2, _⟩ := units_num hb
  rw [firV_in a1 a2, firV_in b1 b2]
  exact fst_gap k0 a1 hab b2
theorem lass_sane {k : Int} (k0 : k ≠ 0) (s : List R) : sane (sing ((nums (unitsR k s)).map (lasV k))) := by
 refine sane_sing ?_ ?_
 ·intro n hn
  simp only [List.mem_map] at hn
  obtain ⟨i, _, rfl⟩ := hn
  have := lasV_bd k i
  omega
 ·refine List.pairwise_map.2 ((List.Pairwise.imp_of_mem ?_) (nums_lt (unitsR_sane k s)))
  intro a b ha hb hab
  obtain ⟨a1, a2, _⟩ := units_num ha
  obtain ⟨b1, b2, _⟩ := units_num hb
  rw [lasV_in a1 a2, lasV_in b1 b2]
  exact lst_gap k0 a1 hab b2
theorem edgR_fir (k : Int) (s : List R) : edgR (firV k) k s = if edgB k s = true then (if k = 0 then unitsR k s else sing ((nums (unitsR k s)).map (firV k))) else [] := by
 unfold edgR
 by_cases h : k = 0
 ·rw [if_pos h, if_pos h]
 ·rw [if_neg h, if_neg h, nf_of_sane (firs_sane h s)]
theorem edgR_las (k : Int) (s : List R) : edgR (lasV k) k s = if edgB k s = true then (if k = 0 then unitsR k s else sing ((nums (unitsR k s)).map (lasV k))) else [] := by
 unfold edgR
 by_cases h : k = 0
 ·rw [if_pos h, if_pos h]
 ·rw [if_neg h, if_neg h, nf_of_sane (lass_sane h s)]
theorem edgR_fsane (k : Int) (s : List R) : sane (edgR (firV k) k s) := by
 unfold edgR
 split
 ·split
  ·exact unitsR_sane k s
  ·exact nf_sane _
 ·exact trivial
theorem edgR_lsane (k : Int) (s : List R) : sane (edgR (lasV k) k s) := by
 unfold edgR
 split
 ·split
  ·exact unitsR_sane k s
  ·exact nf_sane _
 ·exact trivial
theorem edgR_len (V : Int → Int) (k : Int) (s : List R) : (edgR V k s).length ≤ 400 := by
 unfold edgR edgB
 by_cases h : k = 0
 ·simp only [if_pos h]
  split
  ·rename_i g; exact of_decide_eq_true g
  ·simp
 ·simp only [if_neg h]
  split
  ·rename_i g
   have g := of_decide_eq_true g
   have := nf_len (sing ((nums (unitsR k s)).map V))
   rw [sing_len, List.length_map] at this
   omega
  ·simp
open Go.RowKit
theorem ofV_eq {k n d : Int} (h : 0 ≤ n) (h' : n < cnt k) (a : fst k n ≤ d) (b : d ≤ lst k n) : okO k d = true ∧ ofV k d = n := by
 obtain ⟨o, x, y⟩ := (range_day (day := d) h (Int.le_refl n) h').1 ⟨a, b⟩
 exact ⟨o, by unfold ofV; rw [if_pos o]; omega⟩
theorem edgR_fmem {k : Int} {s : List R} (hb : edgB k s = true) (d : Int) : memR (edgR (firV k) k s) d ↔ okO k d = true ∧ memR s (unum k d) ∧ fst k (unum k d) = d := by
 have U : ∀ n, 0 ≤ n → n < cnt k → fst k n = d → okO k d = true ∧ unum k d = n := by
  intro n h1 h2 h3
  have := span_bd h1 h2
  obtain ⟨o, e⟩ := ofV_eq (d := d) h1 h2 (by omega) (by omega)
  exact ⟨o, by unfold ofV at e; rwa [if_pos o] at e⟩
 by_cases h : k = 0
 ·subst h
  unfold edgR
  rw [if_pos hb, if_pos rfl, unitsR_mem]
  constructor
  ·rintro ⟨h1, h2, h3⟩
   obtain ⟨o, e⟩ := U d h2 h3 (fst_zero d)
   exact ⟨o, by rw [e]; exact h1, by rw [e]; exact fst_zero d⟩
  ·rintro ⟨o, h1, h2⟩
   obtain ⟨u1, u2, u3, u4⟩ := unum_ok o
   rw [fst_zero] at h2
   rw [h2] at h1 u1 u2
   exact ⟨h1, u1, u2⟩
 ·rw [edgR_fir, if_pos hb, if_neg h]
  constructor
  ·rintro ⟨r, hr, g1, g2, _⟩
   unfold sing at hr
   simp only [List.mem_map] at hr
   obtain ⟨m, ⟨n, hn, rfl⟩, rfl⟩ := hr
   simp only at g1 g2
   obtain ⟨n1, n2, n3⟩ := units_num hn
   rw [firV_in n1 n2] at g1 g2
   obtain ⟨o, e⟩ := U n n1 n2 (by omega)
   exact ⟨o, by rw [e]; exact n3, by rw [e]; omega⟩
  ·rintro ⟨o, h1, h2⟩
   obtain ⟨u1, u2, u3, u4⟩ := unum_ok o
   have nm : unum k d ∈ nums (unitsR k s) := (nums_mem (sane_ok (unitsR_sane k s))).2 ((unitsR_mem k s _).2 ⟨h1, u1, u2⟩)
   have sp := span_bd u1 u2
   refine ⟨(d, d), ?_, Int.le_refl _, Int.le_refl _, by omega, by omega⟩
   unfold sing
   simp only [List.mem_map]
   exact ⟨d, ⟨_, nm, by rw [firV_in u1 u2]; exact h2⟩, rfl⟩
end Go.Proofs.YtjdnejglapnbbaaGreatDoor
