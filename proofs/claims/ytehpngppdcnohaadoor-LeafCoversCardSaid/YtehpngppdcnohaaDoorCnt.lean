/-
  How many numbers a set has, counted one by one.
-/
import Derived.Test.YtehpngppdcnohaaDoorL4B
namespace Go.Proofs.YtehpngppdcnohaaDoor
set_option linter.unusedVariables false
set_option linter.unusedSimpArgs false
def cntP (P : Int → Bool) (a : Int) : Nat → Int
  | 0 => 0
  | k + 1 => cntP P a k + (if P (a + k) = true then 1 else 0)
theorem cnt_split (P : Int → Bool) (a : Int) (j : Nat) : ∀ k, cntP P a (j + k) = cntP P a j + cntP P (a + j) k := by
  intro k
  induction k with
  | zero => simp [cntP]
  | succ k ih => rw [← Nat.add_assoc, cntP, ih, cntP, show a + ((j + k : Nat) : Int) = a + (j : Int) + (k : Int) by omega]; omega
theorem cnt_congr {P Q : Int → Bool} {a : Int} : ∀ {k : Nat}, (∀ n, a ≤ n → n < a + k → P n = Q n) → cntP P a k = cntP Q a k := by
  intro k
  induction k with
  | zero => intro _; rfl
  | succ k ih => intro h; rw [cntP, cntP, ih (fun n h1 h2 => h n h1 (by omega)), h (a + k) (by omega) (by omega)]
theorem cntP_no {P : Int → Bool} {a : Int} : ∀ {k : Nat}, (∀ n, a ≤ n → n < a + k → P n = false) → cntP P a k = 0 := by
  intro k
  induction k with
  | zero => intro _; rfl
  | succ k ih => intro h; rw [cntP, ih (fun n h1 h2 => h n h1 (by omega)), h (a + k) (by omega) (by omega)]; rfl
theorem cnt_yes {P : Int → Bool} {a : Int} : ∀ {k : Nat}, (∀ n, a ≤ n → n < a + k → P n = true) → cntP P a k = k := by
  intro k
  induction k with
  | zero => intro _; rfl
  | succ k ih => intro h; rw [cntP, ih (fun n h1 h2 => h n h1 (by omega)), h (a + k) (by omega) (by omega)]; simp
theorem cnt_add (P Q U M : Int → Bool) (a : Int) : ∀ (k : Nat), (∀ n, a ≤ n → n < a + k → U n = (P n || Q n) ∧ M n = (P n && Q n)) → cntP U a k + cntP M a k = cntP P a k + cntP Q a k := by
  intro k
  induction k with
  | zero => intro _; rfl
  | succ k ih =>
    intro h
    have g := ih (fun n h1 h2 => h n h1 (by omega))
    obtain ⟨h1, h2⟩ := h (a + k) (by omega) (by omega)
    rw [cntP, cntP, cntP, cntP, h1, h2]
    cases P (a + k) <;> cases Q (a + k) <;> simp <;> omega
theorem sumR_cnt_from : ∀ (s : List R) (lo : Int) (k : Nat), sane s → (∀ r t, s = r :: t → lo ≤ r.1) → lo + (k : Int) = 1099511627777 → sumR s = cntP (hasB s) lo k := by
  intro s
  induction s with
  | nil =>
    intro lo k _ _ _
    rw [cntP_no (P := hasB []) (fun n _ _ => rfl)]; rfl
  | cons r t ih =>
    intro lo k hs hlo hk
    have h0 := hlo r t rfl
    obtain ⟨o1, o2, o3⟩ := sane_head hs
    have B := sane_beyond hs
    have st := sane_tail hs
    have hb : ∀ n, hasB (r :: t) n = true ↔ (r.1 ≤ n ∧ n ≤ r.2) ∨ memR t n := fun n => by
      have := hasB_nf (r :: t) n
      rw [nf_of_sane hs] at this
      rw [this, sane_mem_head hs]
    have ht : ∀ n, hasB t n = true ↔ memR t n := fun n => by
      have := hasB_nf t n
      rwa [nf_of_sane st] at this
    obtain ⟨j1, e1⟩ : ∃ j1 : Nat, (j1 : Int) = r.1 - lo := ⟨(r.1 - lo).toNat, by omega⟩
    obtain ⟨j2, e2⟩ : ∃ j2 : Nat, (j2 : Int) = r.2 - r.1 + 1 := ⟨(r.2 - r.1 + 1).toNat, by omega⟩
    obtain ⟨j3, e3⟩ : ∃ j3 : Nat, (j3 : Int) = 1099511627777 - (r.2 + 1) := ⟨(1099511627777 - (r.2 + 1)).toNat, by omega⟩
    have ek : k = j1 + (j2 + j3) := by omega
    rw [ek, cnt_split, cnt_split]
    have c1 : cntP (hasB (r :: t)) lo j1 = 0 := cntP_no (fun n h1 h2 => by
      cases e : hasB (r :: t) n with
      | false => rfl
      | true => rcases (hb n).1 e with g | g
                · omega
                · have := B n g; omega)
    have c2 : cntP (hasB (r :: t)) (lo + j1) j2 = j2 := cnt_yes (fun n h1 h2 => (hb n).2 (.inl ⟨by omega, by omega⟩))
    have c3 : cntP (hasB (r :: t)) (lo + j1 + j2) j3 = sumR t := by
      rw [ih (r.2 + 1) j3 st (fun q u e => by subst e; have : r.2 + 1 < q.1 := hs.2.1; omega) (by omega), show lo + (j1 : Int) + (j2 : Int) = r.2 + 1 by omega]
      refine cnt_congr fun n h1 h2 => bool_iff ?_
      rw [hb, ht]
      exact ⟨fun g => g.elim (fun g => by omega) id, .inr⟩
    rw [c1, c2, c3, sumR]
    omega
theorem sumR_cnt {s : List R} (h : sane s) : sumR s = cntP (hasB s) (-1099511627776) 2199023255553 :=
  sumR_cnt_from s _ _ h (fun r t e => by subst e; exact (sane_head h).2.1) (by decide)
/-- two sets, their union and what both have -/
theorem sumR_add {a b u m : List R} (ha : sane a) (hb : sane b) (hu : sane u) (hm : sane m) (h1 : ∀ n, memR u n ↔ memR a n ∨ memR b n) (h2 : ∀ n, memR m n ↔ memR a n ∧ memR b n) : sumR u + sumR m = sumR a + sumR b := by
  rw [sumR_cnt ha, sumR_cnt hb, sumR_cnt hu, sumR_cnt hm]
  have H : ∀ {l : List R}, sane l → ∀ n, hasB l n = true ↔ memR l n := fun {l} h n => by
    have := hasB_nf l n
    rwa [nf_of_sane h] at this
  refine cnt_add _ _ _ _ _ _ fun n _ _ => ⟨bool_iff ?_, bool_iff ?_⟩
  · rw [H hu, h1, Bool.or_eq_true, H ha, H hb]
  · rw [H hm, h2, Bool.and_eq_true, H ha, H hb]
/-- one number more -/
theorem sumR_one {s t : List R} {x : Int} (hs : sane s) (ht : sane t) (hx : -1099511627776 ≤ x ∧ x ≤ 1099511627776) (h : ∀ n, memR t n ↔ memR s n ∨ n = x) : sumR t = sumR s + (if hasB s x = true then 0 else 1) := by
  have H : ∀ n, hasB s n = true ↔ memR s n := fun n => by
    have := hasB_nf s n
    rwa [nf_of_sane hs] at this
  have s1 : sane [((x, x) : R)] := ⟨⟨Int.le_refl _, hx.1, hx.2⟩, trivial, trivial⟩
  have m1 : ∀ n, memR [((x, x) : R)] n ↔ n = x := fun n => by
    rw [sane_mem_head s1]
    exact ⟨fun g => g.elim (fun g => by simp only at g; omega) (fun g => absurd g (memR_nil n)), fun g => .inl (by simp only; omega)⟩
  by_cases c : hasB s x = true
  · have := sumR_add hs s1 ht s1 (fun n => by rw [h, m1]) (fun n => by rw [m1]; exact ⟨fun g => ⟨by subst g; exact (H n).1 c, g⟩, fun g => g.2⟩)
    rw [if_pos c]; omega
  · have := sumR_add hs s1 ht (m := []) trivial (fun n => by rw [h, m1]) (fun n => ⟨fun g => absurd g (memR_nil n), fun g => by rw [m1] at g; obtain ⟨g1, rfl⟩ := g; exact absurd ((H n).2 g1) c⟩)
    rw [if_neg c]
    simp only [sumR] at this
    omega
theorem sing_mem (l : List Int) (n : Int) : memR (sing l) n ↔ n ∈ l ∧ -1099511627776 ≤ n ∧ n ≤ 1099511627776 := by
  unfold memR sing
  constructor
  · rintro ⟨r, hr, g1, g2, g3⟩
    simp only [List.mem_map] at hr
    obtain ⟨q, hq, rfl⟩ := hr
    simp only at g1 g2
    obtain rfl : q = n := by omega
    exact ⟨hq, g3⟩
  · rintro ⟨h1, h2⟩
    exact ⟨(n, n), by simp only [List.mem_map]; exact ⟨n, h1, rfl⟩, Int.le_refl _, Int.le_refl _, h2⟩
theorem take_getD {l : List Int} {k : Nat} (h : k < l.length) : l.take (k + 1) = l.take k ++ [l.getD k 0] := by
  rw [List.take_succ_eq_append_getElem h]; simp [List.getD, h]
theorem sum_take {l : List Int} {k : Nat} (h : k < l.length) : sumR (nf (sing (l.take (k + 1)))) = sumR (nf (sing (l.take k))) +
    (if (-1099511627776 ≤ l.getD k 0 ∧ l.getD k 0 ≤ 1099511627776) ∧ l.getD k 0 ∉ l.take k then 1 else 0) := by
  rw [take_getD h]
  generalize l.getD k 0 = x
  generalize l.take k = t
  by_cases c : -1099511627776 ≤ x ∧ x ≤ 1099511627776
  · have M : ∀ n, memR (nf (sing (t ++ [x]))) n ↔ memR (nf (sing t)) n ∨ n = x := by
      intro n
      rw [nf_mem, nf_mem, sing_mem, sing_mem]
      simp only [List.mem_append, List.mem_singleton]
      constructor
      · rintro ⟨g | g, h⟩
        · exact .inl ⟨g, h⟩
        · exact .inr g
      · rintro (⟨g, h⟩ | g)
        · exact ⟨.inl g, h⟩
        · exact ⟨.inr g, by omega⟩
    rw [sumR_one (nf_sane (sing t)) (nf_sane _) c M]
    have H := hasB_nf (sing t) x
    rw [sing_mem] at H
    by_cases d : x ∈ t
    · rw [if_pos (H.2 ⟨d, c⟩), if_neg (fun g => g.2 d)]
    · rw [if_neg (fun g => d (H.1 g).1), if_pos ⟨c, d⟩]
  · have e : nf (sing (t ++ [x])) = nf (sing t) := nf_congr fun n => by
      rw [sing_mem, sing_mem]
      simp only [List.mem_append, List.mem_singleton]
      constructor
      · rintro ⟨g | g, h⟩
        · exact ⟨g, h⟩
        · subst g; exact absurd h c
      · rintro ⟨g, h⟩; exact ⟨.inl g, h⟩
    rw [e, if_neg (fun g => c g.1)]
    omega
end Go.Proofs.YtehpngppdcnohaaDoor
