/-
  Layer 6: the mask of both: plain mathematics.
-/
import Derived.Test.YtgjdaaopebkokaaMaskE
namespace Go.Proofs.Ytgjdaaopebkokaa
open Go.RowKit
set_option linter.unusedVariables false
theorem fits_at {s : ByteArray} {n : Int} {k : Nat} (h : fitsM s n k = true) : ∀ i, i < k → fitB (bt s i) n (P10 (s.size - 1 - i)) = true := by
  induction k with
  | zero => intro i hi; omega
  | succ k ih =>
    intro i hi
    rw [fitsM, Bool.and_eq_true] at h
    by_cases e : i = k
    · subst e; exact h.2
    · exact ih h.1 i (by omega)
theorem fits_of {s : ByteArray} {n : Int} : ∀ {k : Nat}, (∀ i, i < k → fitB (bt s i) n (P10 (s.size - 1 - i)) = true) → fitsM s n k = true := by
  intro k
  induction k with
  | zero => intro _; rfl
  | succ k ih => intro h; rw [fitsM, ih (fun i hi => h i (by omega)), h k (by omega)]; rfl
theorem noCl_at {a b : ByteArray} {k : Nat} (h : noCl a b k = true) : ∀ i, i < k → clB a b i = false := by
  intro i hi
  rcases Bool.eq_false_or_eq_true (clB a b i) with g | g
  · have := noCl_no hi g; rw [h] at this; cases this
  · exact g
theorem noCl_of {a b : ByteArray} : ∀ {k : Nat}, (∀ i, i < k → clB a b i = false) → noCl a b k = true := by
  intro k
  induction k with
  | zero => intro _; rfl
  | succ k ih => intro h; rw [noCl, ih (fun i hi => h i (by omega)), h k (by omega)]; rfl
theorem cl_cases (a b : ByteArray) (i : Nat) : clB a b i = true ↔ bt a i ≠ 88 ∧ bt b i ≠ 88 ∧ bt a i ≠ bt b i := by
  unfold clB; simp [and_assoc]
theorem cl_no (a b : ByteArray) (i : Nat) : clB a b i = false ↔ bt a i = 88 ∨ bt b i = 88 ∨ bt a i = bt b i := by
  have := cl_cases a b i
  rcases Bool.eq_false_or_eq_true (clB a b i) with g | g
  · rw [g] at this ⊢; simp at this ⊢; omega
  · rw [g] at this ⊢; simp at this ⊢; omega
theorem cl_comm (a b : ByteArray) (i : Nat) : clB a b i = clB b a i := by
  rw [Bool.eq_iff_iff, cl_cases, cl_cases]; omega
theorem noCl_comm (a b : ByteArray) (k : Nat) : noCl a b k = noCl b a k := by
  induction k with
  | zero => rfl
  | succ k ih => rw [noCl, noCl, ih, cl_comm]
theorem meetB_comm (a b : ByteArray) : meetB a b = meetB b a := by
  unfold meetB
  by_cases h : a.size = b.size
  · rw [h, noCl_comm a b]; simp; rw [Bool.and_comm (saneM a)]
  · rw [show (a.size == b.size) = false by simpa using h, show (b.size == a.size) = false by simp; omega]; simp
theorem meL_comm (a b : ByteArray) (k : Nat) (h : noCl a b k = true) : meL a b k = meL b a k := by
  induction k with
  | zero => rfl
  | succ k ih =>
    have g := (cl_no a b k).1 (noCl_at h k (by omega))
    rw [noCl, Bool.and_eq_true] at h
    rw [meL, meL, ih h.1]
    congr 3
    unfold meC
    split <;> split <;> omega
structure Meets (a b : ByteArray) : Prop where
  sa : saneM a = true
  sb : saneM b = true
  sz : a.size = b.size
  no : ∀ i, i < a.size → bt a i = 88 ∨ bt b i = 88 ∨ bt a i = bt b i
theorem meets_of {a b : ByteArray} (h : meetB a b = true) : Meets a b := by
  unfold meetB at h
  simp only [Bool.and_eq_true, beq_iff_eq] at h
  exact ⟨h.1.1.1, h.1.1.2, h.1.2, fun i hi => (cl_no a b i).1 (noCl_at h.2 i hi)⟩
theorem meetS_comm (a b : ByteArray) : meetS a b = meetS b a := by
  unfold meetS
  rw [meetB_comm b a]
  rcases Bool.eq_false_or_eq_true (meetB a b) with h | h
  · rw [h]
    have m := meets_of h
    have n : noCl a b a.size = true := by unfold meetB at h; simp only [Bool.and_eq_true] at h; exact h.2
    simp only [if_true]
    rw [meL_comm a b _ n, m.sz]
  · rw [h]; rfl
theorem bt_strOf (L : List Int) (i : Nat) (hi : i < L.length) (h : 0 ≤ L.getD i 0 ∧ L.getD i 0 < 256) : bt (strOfNums L) i = (L.getD i 0).toNat := by
  unfold bt
  rw [strOfNums_data, List.getD_eq_getElem?_getD, List.getElem?_map, List.getElem?_eq_getElem hi]
  rw [List.getD_eq_getElem?_getD, List.getElem?_eq_getElem hi] at h ⊢
  simp only [Option.map_some, Option.getD_some] at h ⊢
  rw [UInt8.toNat_ofNat']
  omega
theorem meL_at (a b : ByteArray) (k i : Nat) (hi : i < k) : (meL a b k).getD i 0 = (meC a b i : Int) := by
  induction k with
  | zero => omega
  | succ k ih =>
    rw [meL, List.getD_eq_getElem?_getD]
    by_cases e : i = k
    · subst e
      rw [List.getElem?_append_right (by rw [meL_len]; omega), meL_len]; simp
    · rw [List.getElem?_append_left (by rw [meL_len]; omega), ← List.getD_eq_getElem?_getD]
      exact ih (by omega)
theorem meet_size {a b : ByteArray} (h : meetB a b = true) : (meetS a b).size = a.size := by
  unfold meetS; rw [if_pos h, strOfNums_size, meL_len]
theorem meC_ok {a b : ByteArray} (m : Meets a b) (i : Nat) (hi : i < a.size) : meC a b i = 88 ∨ (48 ≤ meC a b i ∧ meC a b i ≤ 57) := by
  have x := (mk_of m.sa).ok i hi
  have y := (mk_of m.sb).ok i (by rw [← m.sz]; exact hi)
  unfold meC; split <;> omega
theorem meet_bt {a b : ByteArray} (h : meetB a b = true) (i : Nat) (hi : i < a.size) : bt (meetS a b) i = meC a b i := by
  have m := meets_of h
  have c := meC_ok m i hi
  unfold meetS
  rw [if_pos h, bt_strOf _ _ (by rw [meL_len]; exact hi) (by rw [meL_at _ _ _ _ hi]; omega), meL_at _ _ _ _ hi]
  omega
theorem meet_sane {a b : ByteArray} (h : meetB a b = true) : saneM (meetS a b) = true := by
  have m := meets_of h
  have k := mk_of m.sa
  unfold saneM
  rw [meet_size h, show decide (1 ≤ a.size ∧ a.size ≤ 4) = true by simp; exact ⟨k.lo, k.hi⟩, Bool.true_and]
  refine upB_of fun i hi => ?_
  rw [meet_bt h i hi]
  have c := meC_ok m i hi
  unfold okB digB
  simp
  omega
theorem match_iff {s : ByteArray} (h : saneM s = true) (n : Int) : matchM s n = true ↔ 0 ≤ n ∧ n < P10 s.size ∧ ∀ i, i < s.size → bt s i = 88 ∨ (bt s i : Int) - 48 = n / P10 (s.size - 1 - i) % 10 := by
  unfold matchM
  rw [h]
  simp only [Bool.true_and, Bool.and_eq_true, decide_eq_true_eq, and_assoc]
  constructor
  · rintro ⟨h1, h2, h3⟩
    refine ⟨h1, h2, fun i hi => ?_⟩
    have := fits_at h3 i hi
    unfold fitB at this
    simpa using this
  · rintro ⟨h1, h2, h3⟩
    refine ⟨h1, h2, fits_of fun i hi => ?_⟩
    unfold fitB
    simpa using h3 i hi
theorem meet_match {a b : ByteArray} (h : meetB a b = true) (n : Int) : matchM (meetS a b) n = (matchM a n && matchM b n) := by
  have m := meets_of h
  rw [Bool.eq_iff_iff, Bool.and_eq_true, match_iff (meet_sane h), match_iff m.sa, match_iff m.sb, meet_size h, m.sz]
  have x := (mk_of m.sa).ok
  constructor
  · rintro ⟨h1, h2, h3⟩
    refine ⟨⟨h1, h2, fun i hi => ?_⟩, h1, h2, fun i hi => ?_⟩
    · have g := h3 i hi
      have c := m.no i (by rw [m.sz]; exact hi)
      rw [meet_bt h i (by rw [m.sz]; exact hi)] at g
      unfold meC at g
      split at g <;> omega
    · have g := h3 i hi
      have c := m.no i (by rw [m.sz]; exact hi)
      rw [meet_bt h i (by rw [m.sz]; exact hi)] at g
      unfold meC at g
      split at g <;> omega
  · rintro ⟨⟨h1, h2, h3⟩, _, _, h4⟩
    refine ⟨h1, h2, fun i hi => ?_⟩
    have g1 := h3 i hi
    have g2 := h4 i hi
    rw [meet_bt h i (by rw [m.sz]; exact hi)]
    unfold meC
    split <;> omega
theorem meet_none {a b : ByteArray} (ha : saneM a = true) (hb : saneM b = true) (hs : a.size = b.size) (h : meetB a b = false) (n : Int) : (matchM a n && matchM b n) = false := by
  rcases Bool.eq_false_or_eq_true (matchM a n && matchM b n) with g | g
  · exfalso
    rw [Bool.and_eq_true, match_iff ha, match_iff hb] at g
    obtain ⟨⟨_, _, g1⟩, _, _, g2⟩ := g
    have c : noCl a b a.size = true := noCl_of fun i hi => (cl_no a b i).2 (by
      have e1 := g1 i hi
      have e2 := g2 i (by rw [← hs]; exact hi)
      rw [hs] at e1
      omega)
    unfold meetB at h
    rw [ha, hb, c, hs] at h
    simp at h
  · exact g
end Go.Proofs.Ytgjdaaopebkokaa
