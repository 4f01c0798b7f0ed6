/-
  Layer 8: of PointIs, plain mathematics: the reference's errors and sets of kinds but 0 are the program's.
-/
import Derived.Test.YtinpglfclbnhlaaGreatDoorIsB
import Derived.Test.YtinpglfclbnhlaaGreatDoorGL8S
namespace Go.Proofs.YtinpglfclbnhlaaGreatDoor
open Go.RowKit
set_option linter.unusedVariables false
set_option linter.unusedSimpArgs false
/-- the reference's units of a kind but 0 -/
def rUn (p : PT) : List R := (unL p).foldl putI []
theorem is_run (p : PT) : rUn p = nf (sing (unL p)) := is_set (is_un_lt p) (fun n h => is_un_bd n h)
theorem is_rsane (p : PT) : sane (rUn p) := by rw [is_run]; exact nf_sane _
theorem is_rmem {p : PT} (h0 : p.k ≠ 0) (n : Int) : memR (rUn p) n ↔ inU p n = true := by
  rw [is_run, is_mem (fun n h => is_un_bd n h), is_un_in h0]
theorem is_units {p : PT} (hs : saneP p = true) (h0 : p.k ≠ 0) : unitsR p.k (rUn p) = rUn p := by
  refine sane_ext (unitsR_sane _ _) (is_rsane p) fun n => ?_
  rw [unitsR_mem, is_rmem h0]
  exact ⟨fun h => h.1, fun h => ⟨h, inU_bd hs h⟩⟩
theorem is_many {p : PT} (hs : saneP p = true) (h0 : p.k ≠ 0) (h : 400 < (rUn p).length) : edgB p.k (rUn p) = false := by
  have o := fun r hr => (sane_ok (is_rsane p) r hr).1
  have a := hd_nums o
  have b := hd_pos o
  unfold edgB
  rw [if_neg h0, is_units hs h0]
  exact decide_eq_false (by omega)
theorem is_parts {p : PT} {most : Int} (hm : most = 12 ∨ most = 4) (hx : ∀ n, inU p n = true ↔ ∃ y m, inL (setM p.y) y ∧ inL (matR p.m most) m ∧ n = most * y + m - 1) (h0 : p.k ≠ 0) : gn (partsL most (setM p.y) (matR p.m most)) = rUn p := by
  have PI := partsL_in (years := setM p.y) hm (matR_inn p.m most) (setM_inn p.y)
  have PA := partsL_apt (years := setM p.y) hm (matR_inn p.m most) (setM_inn p.y) (sane_apt (matR_sane _ _)) (sane_apt (setM_sane _))
  have m9 : most * 10000 - 1 ≤ 1000000000 := by rcases hm with rfl | rfl <;> decide
  rw [gn_nf (fun r hr => by have := PI r hr; exact ⟨this.2.1, by omega, by omega⟩) PA]
  refine sane_ext (nf_sane _) (is_rsane p) fun n => ?_
  rw [nf_mem, inL_memR PI (by decide) m9, partsL_in2 hm (matR_inn p.m most) (setM_inn p.y), is_rmem h0, hx n]
theorem is_wide {p : PT} (hs : saneP p = true) (h0 : p.k ≠ 0) (hb : numB p = false) : edgB p.k (rUn p) = false := by
  refine is_many hs h0 ?_
  have U := is_rmem (p := p) h0
  unfold numB at hb
  rw [if_neg h0] at hb
  by_cases h1 : p.k = 1
  · rw [if_pos h1, is_parts (.inl rfl) (fun n => ?_) h0] at hb
    · have := of_decide_eq_false hb; omega
    · rw [← is_un_in h0]
      unfold unL
      rw [if_pos h1]
      simp only [List.mem_flatMap, List.mem_map, is_num, setM_in, matR_in p.m (show (12 : Int) ≤ 100 by decide)]
      constructor
      · rintro ⟨y, ⟨a, b⟩, m, ⟨c, e⟩, rfl⟩; exact ⟨y, m, b, ⟨e, c⟩, by omega⟩
      · rintro ⟨y, m, b, ⟨e, c⟩, rfl⟩; exact ⟨y, ⟨is_mt_bd b, b⟩, m, ⟨c, e⟩, by omega⟩
  · rw [if_neg h1] at hb
    by_cases h2 : p.k = 2
    · rw [if_pos h2, is_parts (.inr rfl) (fun n => ?_) h0] at hb
      · have := of_decide_eq_false hb; omega
      · rw [← is_un_in h0]
        unfold unL
        rw [if_neg h1, if_pos h2]
        simp only [List.mem_flatMap, List.mem_map, is_num, setM_in, matR_in p.m (show (4 : Int) ≤ 100 by decide)]
        constructor
        · rintro ⟨y, ⟨a, b⟩, m, ⟨c, e⟩, rfl⟩; exact ⟨y, m, b, ⟨e, c⟩, by omega⟩
        · rintro ⟨y, m, b, ⟨e, c⟩, rfl⟩; exact ⟨y, ⟨is_mt_bd b, b⟩, m, ⟨c, e⟩, by omega⟩
    · rw [if_neg h2, nf_of_sane (setM_sane p.y)] at hb
      have e : setM p.y = rUn p := by
        refine sane_ext (setM_sane _) (is_rsane p) fun n => ?_
        rw [hd_mem (setM_sane _), setM_in, U n]
        unfold inU
        rw [if_neg h0, if_neg h1, if_neg h2]
      rw [e] at hb
      have : decide (400 < (rUn p).length) = true := by cases h : decide (400 < (rUn p).length) <;> simp_all
      exact of_decide_eq_true this
/-- of a point of a kind but 0: the program's error and set are the reference's -/
theorem is_ref {p : PT} (hs : saneP p = true) (h0 : p.k ≠ 0) : setE p = (if edgB p.k (rUn p) = true then 0 else 8) ∧ setS p = (if edgB p.k (rUn p) = true then rUn p else []) := by
  unfold setE setS
  rw [if_pos hs, if_pos hs]
  rcases Bool.eq_false_or_eq_true (numB p) with hb | hb
  · rw [if_pos hb, if_pos hb, is_numR hs hb h0]
    exact ⟨rfl, rfl⟩
  · rw [hb, is_wide hs h0 hb]
    exact ⟨rfl, rfl⟩
end Go.Proofs.YtinpglfclbnhlaaGreatDoor
