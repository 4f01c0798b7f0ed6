/-
  Layer 8: of PointHidden, plain mathematics: how many numbers a set has at most.
-/
import Derived.Test.YtinpglfclbnhlaaGreatDoorGPtU
import Derived.Test.YtinpglfclbnhlaaGreatDoorGSetC
import Derived.Test.YtinpglfclbnhlaaGreatDoorGMask
namespace Go.Proofs.YtinpglfclbnhlaaGreatDoor
open Go.RowKit
set_option linter.unusedVariables false
set_option linter.unusedSimpArgs false
theorem hd_fur (b : Nat) : ∀ {l : List R}, (∀ r ∈ l, r.1 ≤ r.2) → sumR (furL b l) = if b = 88 then 10 * sumR l else sumR l := by
  have dig : ∀ (b : Nat) (lo : Int) (j : Nat), sumR (digR b lo j) = j := by
    intro b lo j
    induction j with
    | zero => rfl
    | succ j ih => rw [digR_snoc, sumR_append, ih, sumR, sumR]; simp only; omega
  intro l
  induction l with
  | nil => intro _; simp [furL, sumR]
  | cons r t ih =>
    intro h
    have i := ih (fun x hx => h x (by simp [hx]))
    have g := h r (by simp)
    have fc : furL b (r :: t) = furR b r ++ furL b t := by unfold furL; simp
    rw [fc, sumR_append, i, sumR]
    by_cases c : b = 88
    · rw [if_pos c, if_pos c]
      unfold furR
      rw [if_pos c, sumR, sumR]
      simp only
      omega
    · rw [if_neg c, if_neg c]
      unfold furR
      rw [if_neg c, dig]
      omega
theorem hd_setK (s : ByteArray) (h : ∀ i, i < s.size → bt s i = 88 ∨ (48 ≤ bt s i ∧ bt s i ≤ 57)) : ∀ k, k ≤ s.size → sumR (setK s k) = cntM s k := by
  intro k
  induction k with
  | zero => intro _; rfl
  | succ k ih =>
    intro hk
    have g := (setK_ok s h k (by omega)).1
    rw [setK, cntM, hd_fur _ (fun r hr => (g r hr).2.1), ih (by omega)]
    by_cases c : bt s k = 88
    · rw [if_pos c, if_pos (by simpa using c)]; omega
    · rw [if_neg c, if_neg (by simpa using c)]
/-- how many of the first places are hidden -/
def hidN (s : ByteArray) : Nat → Nat
  | 0 => 0
  | k + 1 => if bt s k = 88 then hidN s k + 1 else hidN s k
theorem hd_cnt0 {s : ByteArray} {k : Nat} (h : hidN s k = 0) : cntM s k = 1 := by
  induction k with
  | zero => rfl
  | succ k ih =>
    rw [hidN] at h
    by_cases c : bt s k = 88
    · rw [if_pos c] at h; omega
    · rw [if_neg c] at h; rw [cntM, if_neg (by simpa using c)]; exact ih h
theorem hd_cnt1 {s : ByteArray} {k : Nat} (h : hidN s k ≤ 1) : cntM s k ≤ 10 := by
  induction k with
  | zero => rw [cntM]; omega
  | succ k ih =>
    rw [hidN] at h
    by_cases c : bt s k = 88
    · rw [if_pos c] at h
      rw [cntM, if_pos (by simpa using c), hd_cnt0 (by omega)]
      omega
    · rw [if_neg c] at h; rw [cntM, if_neg (by simpa using c)]; exact ih h
theorem hd_years {s : ByteArray} (h : hidN s s.size ≤ 1) : sumR (setM s) ≤ 10 := by
  unfold setM
  split
  · rename_i hs
    rw [hd_setK s (mk_of hs).ok s.size (Nat.le_refl _)]
    exact hd_cnt1 h
  · rw [sumR]; omega
theorem hd_pos : ∀ {l : List R}, (∀ r ∈ l, r.1 ≤ r.2) → (l.length : Int) ≤ sumR l := by
  intro l
  induction l with
  | nil => intro _; simp [sumR]
  | cons r t ih =>
    intro h
    have := ih (fun x hx => h x (by simp [hx]))
    have := h r (by simp)
    rw [List.length_cons, sumR]
    omega
theorem hd_okpos {l : List R} (h : sane l) : 0 ≤ sumR l := by
  have := hd_pos (fun r hr => (sane_ok h r hr).1)
  omega
theorem hd_diff (a b : List R) : sumR (diffR a b) + sumR (interR a b) = sumR (nf a) := by
  have h := sumR_add (a := diffR a b) (b := interR a b) (u := nf a) (m := []) (diffR_sane _ _) (interR_sane _ _) (nf_sane _) trivial
    (fun n => by rw [nf_mem, diffR_mem, interR_mem]; by_cases g : memR b n <;> simp [g])
    (fun n => by rw [diffR_mem, interR_mem]; exact ⟨fun g => absurd g (memR_nil n), fun ⟨⟨_, g⟩, _, g2⟩ => absurd g2 g⟩)
  have z : sumR [] = 0 := rfl
  omega
theorem hd_inter (a b : List R) : sumR (interR a b) ≤ sumR (nf a) := by
  have := hd_diff a b
  have := hd_okpos (diffR_sane a b)
  omega
theorem hd_comm (a b : List R) : interR b a = interR a b := sane_ext (interR_sane _ _) (interR_sane _ _) (fun n => by rw [interR_mem, interR_mem, and_comm])
theorem hd_one {r : R} (h : okR r) : sumR (nf [r]) = r.2 - r.1 + 1 := by
  rw [nf_of_sane (show sane [r] from ⟨h, trivial, trivial⟩), sumR, sumR]; omega
theorem hd_nf : ∀ {l : List R}, (∀ r ∈ l, okR r) → sumR (nf l) ≤ sumR l := by
  intro l
  induction l with
  | nil => intro _; exact Int.le_refl _
  | cons r t ih =>
    intro h
    have i := ih (fun x hx => h x (by simp [hx]))
    have g := h r (by simp)
    have a := sumR_add (a := nf [r]) (b := nf t) (u := nf (r :: t)) (m := interR (nf [r]) (nf t)) (nf_sane _) (nf_sane _) (nf_sane _) (interR_sane _ _)
      (fun n => by rw [nf_mem, nf_mem, nf_mem, show r :: t = [r] ++ t from rfl]; unfold memR; simp only [List.mem_append, List.mem_singleton]; constructor
                   · rintro ⟨q, hq | hq, e⟩
                     · exact .inl ⟨q, hq, e⟩
                     · exact .inr ⟨q, hq, e⟩
                   · rintro (⟨q, hq, e⟩ | ⟨q, hq, e⟩)
                     · exact ⟨q, .inl hq, e⟩
                     · exact ⟨q, .inr hq, e⟩)
      (fun n => interR_mem _ _ n)
    have := hd_okpos (interR_sane (nf [r]) (nf t))
    rw [hd_one g] at a
    rw [sumR]
    omega
theorem hd_subset {a b : List R} (ha : sane a) (hb : sane b) (h : ∀ n, memR a n → memR b n) : diffR a b = [] ∧ sumR a ≤ sumR b := by
  have e : diffR a b = [] := by
    refine sane_ext (diffR_sane _ _) trivial fun n => ?_
    rw [diffR_mem]
    exact ⟨fun ⟨x, y⟩ => absurd (h n x) y, fun x => absurd x (memR_nil n)⟩
  refine ⟨e, ?_⟩
  have d := hd_diff a b
  have i := hd_inter b a
  rw [hd_comm, nf_of_sane hb] at i
  rw [e, nf_of_sane ha] at d
  have z : sumR [] = 0 := rfl
  omega
theorem hd_partR (most : Int) (parts : List R) (y : Int) : sumR (partR most parts y) = sumR parts := by
  unfold partR
  induction parts with
  | nil => rfl
  | cons q t ih => rw [List.map_cons, sumR, ih, sumR]; simp only; omega
theorem hd_flat (most : Int) (parts : List R) : ∀ l : List Int, sumR (l.flatMap (partR most parts)) = (l.length : Int) * sumR parts := by
  intro l
  induction l with
  | nil => simp [sumR]
  | cons y t ih =>
    rw [List.flatMap_cons, sumR_append, ih, hd_partR, List.length_cons, Int.natCast_add, Int.add_mul]
    omega
theorem hd_partY {most : Int} {parts : List R} {r : R} (h : r.1 ≤ r.2) (hm : most = 12 ∨ most = 4) : sumR (partY most parts r) = (r.2 - r.1 + 1) * sumR parts := by
  unfold partY
  split
  · rename_i e
    subst e
    have z : sumR [((1 : Int), most)] = most := by rw [sumR, sumR]; simp only; omega
    rw [z, sumR, sumR]
    rcases hm with rfl | rfl <;> (simp only; omega)
  · rw [hd_flat]
    congr 1
    unfold ofR
    rw [List.length_map, List.length_range]
    omega
theorem hd_parts {most : Int} {parts : List R} (hm : most = 12 ∨ most = 4) : ∀ {years : List R}, (∀ r ∈ years, r.1 ≤ r.2) → sumR (partsL most years parts) = sumR years * sumR parts := by
  intro years
  unfold partsL
  induction years with
  | nil => intro _; simp [sumR]
  | cons r t ih =>
    intro h
    rw [List.flatMap_cons, sumR_append, ih (fun x hx => h x (by simp [hx])), hd_partY (h r (by simp)) hm, sumR]
    exact (Int.add_mul _ _ _).symm
theorem hd_mat (s : ByteArray) {most : Int} (hm : most = 12 ∨ most = 4) : 0 ≤ sumR (matR s most) ∧ sumR (matR s most) ≤ most := by
  refine ⟨hd_okpos (matR_sane s most), ?_⟩
  have i := hd_inter [((1 : Int), most)] (setM s)
  rw [hd_comm] at i
  have o := hd_one (r := (1, most)) ⟨by simp only; omega, by simp only; omega, by simp only; omega⟩
  simp only at o
  unfold matR
  omega
theorem hd_nums : ∀ {l : List R}, (∀ r ∈ l, r.1 ≤ r.2) → sumR l = (nums l).length := by
  intro l
  induction l with
  | nil => intro _; rfl
  | cons r t ih =>
    intro h
    have h1 := h r (List.mem_cons_self)
    rw [show nums (r :: t) = runF r ++ nums t by simp [nums], List.length_append, sumR, ih (fun q hq => h q (List.mem_cons_of_mem _ hq))]
    unfold runF
    rw [upF_len]
    omega
theorem hd_edge {k : Int} {s : List R} (hs : sane s) (h : sumR s ≤ 400) (h0 : k ≠ 0) : edgB k s = true := by
  unfold edgB
  rw [if_neg h0]
  have a := hd_nums (l := unitsR k s) (fun r hr => (sane_ok (unitsR_sane k s) r hr).1)
  have b := hd_inter s [(0, cnt k - 1)]
  rw [nf_of_sane hs] at b
  unfold unitsR at *
  exact decide_eq_true (by omega)
theorem hd_gath {most : Int} {years parts : List R} (hm : most = 12 ∨ most = 4) (iy : Inn 0 9999 years) (ay : apt years) (ip : Inn 1 most parts) (ap : apt parts) (h10 : 0 ≤ sumR years ∧ sumR years ≤ 10) (hp : 0 ≤ sumR parts ∧ sumR parts ≤ most) :
    (gn (partsL most years parts)).length ≤ 400 ∧ sumR (capR (partsL most years parts)) ≤ 400 := by
  have e := hd_parts (parts := parts) hm (fun r hr => (iy r hr).2.1)
  have I := partsL_in hm ip iy
  have A := partsL_apt hm ip iy ap ay
  have b : sumR (partsL most years parts) ≤ 120 := by
    rw [e]
    have := Int.mul_le_mul h10.2 hp.2 hp.1 (by omega)
    rcases hm with rfl | rfl <;> omega
  have O : ∀ r ∈ partsL most years parts, okR r := fun r hr => by
    have := I r hr
    rcases hm with rfl | rfl <;> exact ⟨this.2.1, by omega, by omega⟩
  have g := gn_nf O A
  have l1 := nf_len (partsL most years parts)
  have l2 := hd_pos (fun r hr => (O r hr).1)
  have l3 := hd_nf O
  have c : (gn (partsL most years parts)).length ≤ 400 := by rw [g]; omega
  refine ⟨c, ?_⟩
  unfold capR
  rw [if_pos c, g]
  omega
/-- no more than ten years: never too many runs -/
theorem hd_wide {p : PT} (hs : saneP p = true) (h : hidN p.y p.y.size ≤ 1) (h0 : p.k ≠ 0) : setE p = 0 := by
  have y1 := hd_years h
  have y0 := hd_okpos (setM_sane p.y)
  have S := numR_sane p
  unfold setE
  rw [if_pos hs]
  have core : numB p = true ∧ sumR (numR p) ≤ 400 := by
    unfold numB numR
    rw [if_neg h0, if_neg h0]
    by_cases h1 : p.k = 1
    · rw [if_pos h1, if_pos h1]
      have := hd_gath (.inl rfl) (setM_inn p.y) (sane_apt (setM_sane p.y)) (matR_inn p.m 12) (sane_apt (matR_sane p.m 12)) ⟨y0, y1⟩ (hd_mat p.m (.inl rfl))
      exact ⟨decide_eq_true this.1, this.2⟩
    · rw [if_neg h1, if_neg h1]
      by_cases h2 : p.k = 2
      · rw [if_pos h2, if_pos h2]
        have := hd_gath (.inr rfl) (setM_inn p.y) (sane_apt (setM_sane p.y)) (matR_inn p.m 4) (sane_apt (matR_sane p.m 4)) ⟨y0, y1⟩ (hd_mat p.m (.inr rfl))
        exact ⟨decide_eq_true this.1, this.2⟩
      · rw [if_neg h2, if_neg h2]
        have l := hd_pos (fun r hr => (sane_ok (setM_sane p.y) r hr).1)
        rw [nf_of_sane (setM_sane p.y)]
        refine ⟨?_, by omega⟩
        rw [decide_eq_false (by omega)]
        rfl
  rw [if_pos core.1, if_pos (hd_edge S core.2 h0)]
end Go.Proofs.YtinpglfclbnhlaaGreatDoor
