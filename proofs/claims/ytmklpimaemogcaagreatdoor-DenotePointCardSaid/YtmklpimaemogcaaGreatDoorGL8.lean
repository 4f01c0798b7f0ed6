/-
  Joined: L8B, L8S, L8D.
-/
import Derived.Test.YtmklpimaemogcaaGreatDoorGPtA
import Derived.Test.YtmklpimaemogcaaGreatDoorGPtU
import Derived.Test.YtmklpimaemogcaaGreatDoorGLeafA
namespace Go.Proofs.YtmklpimaemogcaaGreatDoor
set_option linter.unusedVariables false
set_option linter.unusedSimpArgs false
/-- what a point is like, of each kind -/
theorem sane_kind {p : PT} (h : saneP p = true) : (0 ≤ p.k ∧ p.k < 6) ∧ (p.y.size : Int) = (shp p.k).y ∧ saneM p.y = true ∧ (p.m.size : Int) = (shp p.k).p ∧ (p.d.size : Int) = (shp p.k).d := by
  unfold saneP at h
  simp only [Bool.and_eq_true, decide_eq_true_eq] at h
  obtain ⟨h1, h2, h3, h4, h5⟩ := h
  have g : ∀ (s : ByteArray) (n m : Int), fitP s n m = true → (s.size : Int) = n := by
    intro s n m e
    unfold fitP at e
    split at e
    · have := of_decide_eq_true e; omega
    · rw [Bool.and_eq_true] at e
      exact of_decide_eq_true e.1
  exact ⟨h1, h2, h3, g _ _ _ h4, g _ _ _ h5⟩
theorem kinds6 {k : Int} (h : 0 ≤ k ∧ k < 6) : k = 0 ∨ k = 1 ∨ k = 2 ∨ k = 3 ∨ k = 4 ∨ k = 5 := by omega
end Go.Proofs.YtmklpimaemogcaaGreatDoor

namespace Go.Proofs.YtmklpimaemogcaaGreatDoor
open Go.RowKit
set_option linter.unusedVariables false
set_option linter.unusedSimpArgs false
section
variable {P : Program} {ops : Array Oper} {Q : Exit → Act → World → Prop} {md : Region.Mode} {S : World → Prop} {fuel : Nat} {listed : Array Bool} {a : Act} {w : World}
end
end Go.Proofs.YtmklpimaemogcaaGreatDoor

namespace Go.Proofs.YtmklpimaemogcaaGreatDoor
open Go.RowKit
set_option linter.unusedVariables false
set_option linter.unusedSimpArgs false
theorem match_bd {s : ByteArray} {n : Int} (h : matchM s n = true) : 0 ≤ n ∧ n < P10 s.size := by
  unfold matchM at h
  simp only [Bool.and_eq_true, decide_eq_true_eq] at h
  exact ⟨h.1.1.2, h.1.2⟩
theorem p10_4 : P10 4 = 10000 := by decide
theorem p10_3 : P10 3 = 1000 := by decide
theorem p10_2 : P10 2 = 100 := by decide
theorem inU_bd {p : PT} (hs : saneP p = true) {n : Int} (h : inU p n = true) : 0 ≤ n ∧ n < cnt p.k := by
  obtain ⟨hk, hy, _, _, _⟩ := sane_kind hs
  obtain ⟨k, y, m, d⟩ := p
  simp only at *
  unfold inU at h
  simp only at h
  rcases kinds6 hk with rfl | rfl | rfl | rfl | rfl | rfl
  · simp only [if_pos, Bool.and_eq_true, decide_eq_true_eq] at h
    have c : cnt 0 = 3652425 := by decide
    by_cases g : 0 ≤ n ∧ n ≤ 3652424
    · omega
    · rw [dte_no n (by omega)] at h
      have := h.1
      simp at this
  · simp only [if_neg (show ¬ (1 : Int) = 0 by decide), if_pos, Bool.and_eq_true, decide_eq_true_eq] at h
    have hy4 : y.size = 4 := by have : (y.size : Int) = 4 := hy; omega
    have b := match_bd h.2.1
    rw [hy4, p10_4] at b
    have c : cnt 1 = 120000 := by decide
    omega
  · simp only [if_neg (show ¬ (2 : Int) = 0 by decide), if_neg (show ¬ (2 : Int) = 1 by decide), if_pos, Bool.and_eq_true, decide_eq_true_eq] at h
    have hy4 : y.size = 4 := by have : (y.size : Int) = 4 := hy; omega
    have b := match_bd h.2.1
    rw [hy4, p10_4] at b
    have c : cnt 2 = 40000 := by decide
    omega
  · simp only [if_neg (show ¬ (3 : Int) = 0 by decide), if_neg (show ¬ (3 : Int) = 1 by decide), if_neg (show ¬ (3 : Int) = 2 by decide)] at h
    have hy4 : y.size = 4 := by have : (y.size : Int) = 4 := hy; omega
    have b := match_bd h
    rw [hy4, p10_4] at b
    have c : cnt 3 = 10000 := by decide
    omega
  · simp only [if_neg (show ¬ (4 : Int) = 0 by decide), if_neg (show ¬ (4 : Int) = 1 by decide), if_neg (show ¬ (4 : Int) = 2 by decide)] at h
    have hy3 : y.size = 3 := by have : (y.size : Int) = 3 := hy; omega
    have b := match_bd h
    rw [hy3, p10_3] at b
    have c : cnt 4 = 1000 := by decide
    omega
  · simp only [if_neg (show ¬ (5 : Int) = 0 by decide), if_neg (show ¬ (5 : Int) = 1 by decide), if_neg (show ¬ (5 : Int) = 2 by decide)] at h
    have hy2 : y.size = 2 := by have : (y.size : Int) = 2 := hy; omega
    have b := match_bd h
    rw [hy2, p10_2] at b
    have c : cnt 5 = 100 := by decide
    omega
theorem numR_inn {p : PT} (hs : saneP p = true) (hb : numB p = true) : Inn 0 (cnt p.k - 1) (numR p) := sane_inn (numR_sane p) fun n hn => by
  obtain ⟨r, hr, h1, h2, _⟩ := hn
  have := inU_bd hs ((numR_in hs hb n).1 ⟨r, hr, h1, h2⟩)
  omega
/-- a point's set is told, or there is an error -/
theorem setE_cases (p : PT) : (setE p = 0 ∧ saneP p = true ∧ numB p = true ∧ setS p = numR p) ∨ (setS p = [] ∧ ((setE p = 2 ∧ saneP p = false) ∨ (setE p = 8 ∧ saneP p = true))) := by
  unfold setE setS
  by_cases h1 : saneP p = true
  · rw [if_pos h1, if_pos h1]
    by_cases h2 : numB p = true
    · rw [if_pos h2, if_pos h2]
      by_cases h3 : edgB p.k (numR p) = true
      · rw [if_pos h3, if_pos h3]; exact .inl ⟨rfl, h1, h2, rfl⟩
      · rw [if_neg h3, if_neg h3]; exact .inr ⟨rfl, .inr ⟨rfl, h1⟩⟩
    · rw [if_neg h2, if_neg h2]; exact .inr ⟨rfl, .inr ⟨rfl, h1⟩⟩
  · rw [if_neg h1, if_neg h1]; exact .inr ⟨rfl, .inl ⟨rfl, by simpa using h1⟩⟩
end Go.Proofs.YtmklpimaemogcaaGreatDoor
