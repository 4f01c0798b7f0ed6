/-
  Layer 8: of PointHidden, plain mathematics: a place hidden.
-/
import Derived.Test.YtinpglfclbnhlaaGreatDoorHidA
namespace Go.Proofs.YtinpglfclbnhlaaGreatDoor
open Go.RowKit
set_option linter.unusedVariables false
set_option linter.unusedSimpArgs false
/-- a place of a text is hidden -/
structure HidAt (s t : ByteArray) (i : Nat) : Prop where
  size : t.size = s.size
  lt : i < s.size
  at_ : bt t i = 88
  same : ∀ j, j ≠ i → bt t j = bt s j
theorem hd_up {s : ByteArray} {k : Nat} (h : ∀ i, i < k → okB (bt s i) = true) : upB s k = true := by
  induction k with
  | zero => rfl
  | succ k ih => rw [upB, ih (fun i hi => h i (by omega)), h k (by omega)]; rfl
theorem hd_fitAll {s : ByteArray} {n : Int} {k : Nat} (h : ∀ i, i < k → fitB (bt s i) n (P10 (s.size - 1 - i)) = true) : fitsM s n k = true := by
  induction k with
  | zero => rfl
  | succ k ih => rw [fitsM, ih (fun i hi => h i (by omega)), h k (by omega)]; rfl
theorem hd_fitAt {s : ByteArray} {n : Int} {k i : Nat} (h : fitsM s n k = true) (hi : i < k) : fitB (bt s i) n (P10 (s.size - 1 - i)) = true := by
  rcases Bool.eq_false_or_eq_true (fitB (bt s i) n (P10 (s.size - 1 - i))) with e | e
  · exact e
  · rw [fitsM_no hi e] at h; cases h
theorem HidAt.sane {s t : ByteArray} {i : Nat} (h : HidAt s t i) (hs : saneM s = true) : saneM t = true := by
  unfold saneM at *
  rw [Bool.and_eq_true] at *
  rw [h.size]
  refine ⟨hs.1, hd_up fun j hj => ?_⟩
  by_cases e : j = i
  · subst e; rw [h.at_]; rfl
  · rw [h.same j e]; exact upB_at hs.2 j hj
theorem HidAt.mt {s t : ByteArray} {i : Nat} (h : HidAt s t i) {n : Int} (hm : matchM s n = true) : matchM t n = true := by
  unfold matchM at *
  rw [Bool.and_eq_true, Bool.and_eq_true, Bool.and_eq_true] at *
  obtain ⟨⟨⟨a, b⟩, c⟩, d⟩ := hm
  rw [h.size]
  refine ⟨⟨⟨h.sane a, b⟩, c⟩, hd_fitAll fun j hj => ?_⟩
  by_cases e : j = i
  · subst e; rw [h.at_]; rfl
  · rw [h.same j e, h.size]; exact hd_fitAt d hj
theorem HidAt.count {s t : ByteArray} {i : Nat} (h : HidAt s t i) (hn : bt s i ≠ 88) : ∀ k, hidN t k = hidN s k + if i < k then 1 else 0 := by
  intro k
  induction k with
  | zero => rfl
  | succ k ih =>
    rw [hidN, hidN, ih]
    by_cases e : k = i
    · subst e
      rw [if_pos h.at_, if_neg hn, if_neg (by omega), if_pos (by omega)]
    · rw [h.same k e]
      by_cases c : i < k
      · rw [if_pos c, if_pos (show i < k + 1 by omega)]; split <;> omega
      · rw [if_neg c, if_neg (show ¬ i < k + 1 by omega)]; split <;> omega
theorem hd_ext {s t : ByteArray} (h : t.size = s.size) (g : ∀ j, bt t j = bt s j) : t = s := by
  have hl : t.data.toList = s.data.toList := by
    refine List.ext_getElem (by simpa using h) fun j h1 h2 => ?_
    have := g j
    unfold bt at this
    rw [List.getD_eq_getElem?_getD, List.getD_eq_getElem?_getD, List.getElem?_eq_getElem h1, List.getElem?_eq_getElem h2] at this
    exact UInt8.toNat_inj.1 this
  cases s; cases t
  simp only [ByteArray.mk.injEq]
  exact Array.toList_inj.1 hl
theorem HidAt.eq {s t : ByteArray} {i : Nat} (h : HidAt s t i) (hn : bt s i = 88) : t = s := hd_ext h.size fun j => by
  by_cases e : j = i
  · subst e; rw [h.at_, hn]
  · exact h.same j e
theorem hd_mem {l : List R} (h : sane l) (n : Int) : memR l n ↔ inL l n := by
  constructor
  · rintro ⟨r, hr, a, b, _⟩; exact ⟨r, hr, a, b⟩
  · rintro ⟨r, hr, a, b⟩
    obtain ⟨o1, o2, o3⟩ := sane_ok h r hr
    exact ⟨r, hr, a, b, by omega, by omega⟩
theorem hd_inU {k : Int} {y z m d : ByteArray} {i : Nat} (h : HidAt y z i) {n : Int} (g : inU ⟨k, y, m, d⟩ n = true) : inU ⟨k, z, m, d⟩ n = true := by
  unfold inU at *
  simp only at *
  by_cases h0 : k = 0
  · rw [if_pos h0] at *
    simp only [Bool.and_eq_true] at *
    exact ⟨g.1, h.mt g.2.1, g.2.2⟩
  · rw [if_neg h0] at *
    by_cases h1 : k = 1
    · rw [if_pos h1] at *
      simp only [Bool.and_eq_true] at *
      exact ⟨g.1, h.mt g.2.1, g.2.2⟩
    · rw [if_neg h1] at *
      by_cases h2 : k = 2
      · rw [if_pos h2] at *
        simp only [Bool.and_eq_true] at *
        exact ⟨g.1, h.mt g.2.1, g.2.2⟩
      · rw [if_neg h2] at *
        exact h.mt g
theorem hd_sane {k : Int} {y z m d : ByteArray} {i : Nat} (h : HidAt y z i) (hs : saneP ⟨k, y, m, d⟩ = true) : saneP ⟨k, z, m, d⟩ = true := by
  unfold saneP at *
  simp only [Bool.and_eq_true] at *
  rw [h.size]
  exact ⟨hs.1, hs.2.1, h.sane hs.2.2.1, hs.2.2.2⟩
theorem hd_ok {p : PT} (hs : saneP p = true) (he : setE p = 0) : numB p = true ∧ setS p = numR p := by
  unfold setE at he
  rw [if_pos hs] at he
  unfold setS
  rw [if_pos hs]
  by_cases a : numB p = true
  · rw [if_pos a] at he ⊢
    by_cases b : edgB p.k (numR p) = true
    · rw [if_pos b]; exact ⟨a, rfl⟩
    · rw [if_neg b] at he; cases he
  · rw [if_neg a] at he; cases he
theorem hd_sets {k : Int} {y z m d : ByteArray} {i : Nat} (h : HidAt y z i) (hs : saneP ⟨k, y, m, d⟩ = true) (e1 : setE ⟨k, y, m, d⟩ = 0) (e2 : setE ⟨k, z, m, d⟩ = 0) :
    diffR (setS ⟨k, y, m, d⟩) (setS ⟨k, z, m, d⟩) = [] ∧ sumR (setS ⟨k, y, m, d⟩) ≤ sumR (setS ⟨k, z, m, d⟩) := by
  have ht := hd_sane h hs
  obtain ⟨a1, a2⟩ := hd_ok hs e1
  obtain ⟨b1, b2⟩ := hd_ok ht e2
  rw [a2, b2]
  refine hd_subset (numR_sane _) (numR_sane _) fun n hn => ?_
  rw [hd_mem (numR_sane _), numR_in ht b1]
  rw [hd_mem (numR_sane _), numR_in hs a1] at hn
  exact hd_inU h hn
theorem hd_wide2 {k : Int} {y z m d : ByteArray} {i : Nat} (h : HidAt y z i) (hs : saneP ⟨k, y, m, d⟩ = true) (h0 : k ≠ 0) (h2 : hidN z z.size ≤ 2) : setE ⟨k, y, m, d⟩ = 0 ∨ z = y := by
  by_cases c : bt y i = 88
  · exact .inr (h.eq c)
  · left
    refine hd_wide hs ?_ h0
    have := h.count c z.size
    rw [h.size, if_pos h.lt] at this
    rw [h.size] at h2
    simp only
    omega
theorem hid_le (s : ByteArray) : ∀ k, hidN s k ≤ k
  | 0 => Nat.le_refl _
  | k + 1 => by have := hid_le s k; rw [hidN]; split <;> omega
theorem hd_at {s : ByteArray} {i : Nat} (h : i < s.size) : HidAt s (s.extract 0 i ++ (⟨#[88]⟩ : ByteArray) ++ s.extract (i + 1) s.size) i := by
  have hl : s.data.toList.length = s.size := by simp
  have e : (s.extract 0 i ++ (⟨#[88]⟩ : ByteArray) ++ s.extract (i + 1) s.size).data.toList = s.data.toList.take i ++ (88 :: s.data.toList.drop (i + 1)) := by
    simp only [ByteArray.data_append, Array.toList_append, ByteArray.data_extract, Array.toList_extract, List.extract_eq_take_drop, Nat.sub_zero, List.drop_zero]
    rw [List.append_assoc, List.take_of_length_le (l := s.data.toList.drop (i + 1)) (by rw [List.length_drop, hl]; omega)]
    rfl
  have ln : (s.data.toList.take i).length = i := by rw [List.length_take, hl]; omega
  refine ⟨?_, h, ?_, fun j hj => ?_⟩
  · have := congrArg List.length e
    rw [List.length_append, ln, List.length_cons, List.length_drop, hl] at this
    have q : (s.extract 0 i ++ (⟨#[88]⟩ : ByteArray) ++ s.extract (i + 1) s.size).data.toList.length = (s.extract 0 i ++ (⟨#[88]⟩ : ByteArray) ++ s.extract (i + 1) s.size).size := by rw [Array.length_toList]; rfl
    omega
  · unfold bt
    rw [e, List.getD_eq_getElem?_getD, List.getElem?_append_right (by omega), ln, Nat.sub_self]
    rfl
  · unfold bt
    rw [e, List.getD_eq_getElem?_getD, List.getD_eq_getElem?_getD]
    by_cases c : j < i
    · rw [List.getElem?_append_left (by omega), List.getElem?_take_of_lt c]
    · rw [List.getElem?_append_right (by omega), ln, show j - i = (j - i - 1) + 1 by omega, List.getElem?_cons_succ, List.getElem?_drop, show i + 1 + (j - i - 1) = j by omega]
theorem hd_err {p : PT} (hs : saneP p = true) : setE p = 0 ∨ setE p = 8 := by
  unfold setE
  rw [if_pos hs]
  split
  · split
    · exact .inl rfl
    · exact .inr rfl
  · exact .inr rfl
theorem hd_sset (p : PT) : sane (setS p) := by
  unfold setS
  split
  · split
    · split
      · exact numR_sane p
      · trivial
    · trivial
  · trivial
end Go.Proofs.YtinpglfclbnhlaaGreatDoor
