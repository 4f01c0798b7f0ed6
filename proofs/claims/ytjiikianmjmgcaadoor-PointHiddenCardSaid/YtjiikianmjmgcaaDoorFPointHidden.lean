/-
  Joined: HidA, HidB, L8H, LPointHidden.
-/
import Derived.Test.YtjiikianmjmgcaaDoorGPtU
import Derived.Test.YtjiikianmjmgcaaDoorGSetC
import Derived.Test.YtjiikianmjmgcaaDoorGMask
import Derived.Test.YtjiikianmjmgcaaDoorL8S
import Derived.Test.YtjiikianmjmgcaaDoorCards
import Derived.Test.YtjiikianmjmgcaaDoorTie
import Derived.WalkKit
import Derived.ProofKit
import Derived.OpenShut
import Derived.ShutString
import Derived.ChangeOld
import Derived.Below
import Derived.Test.YtjiikianmjmgcaaDoor8T
import Derived.Deep.DeepHandedRow
import Derived.Lib.LaidTab
namespace Go.Proofs.YtjiikianmjmgcaaDoor
open Go.RowKit
set_option linter.unusedVariables false
set_option linter.unusedSimpArgs false
theorem hd_fur (b : Nat) : ∀ {l : List R}, (∀ r ∈ l, r.1 ≤ r.2) → sumR (furL b l) = if b = 88 then 10 * sumR l else sumR l := by
  have dig : ∀ (b : Nat) (lo : Int) (j : Nat), sumR (digR b lo j) = j := by
    intro b lo j
    induction j with
    | zero => rfl
    | succ j ih => rw [digR_snoc, sumR_append, ih, sumR, sumR]; simp only; omega
  intro l
  induction l with
  | nil => intro _; simp [furL, sumR]
  | cons r t ih =>
    intro h
    have i := ih (fun x hx => h x (by simp [hx]))
    have g := h r (by simp)
    have fc : furL b (r :: t) = furR b r ++ furL b t := by unfold furL; simp
    rw [fc, sumR_append, i, sumR]
    by_cases c : b = 88
    · rw [if_pos c, if_pos c]
      unfold furR
      rw [if_pos c, sumR, sumR]
      simp only
      omega
    · rw [if_neg c, if_neg c]
      unfold furR
      rw [if_neg c, dig]
      omega
theorem hd_setK (s : ByteArray) (h : ∀ i, i < s.size → bt s i = 88 ∨ (48 ≤ bt s i ∧ bt s i ≤ 57)) : ∀ k, k ≤ s.size → sumR (setK s k) = cntM s k := by
  intro k
  induction k with
  | zero => intro _; rfl
  | succ k ih =>
    intro hk
    have g := (setK_ok s h k (by omega)).1
    rw [setK, cntM, hd_fur _ (fun r hr => (g r hr).2.1), ih (by omega)]
    by_cases c : bt s k = 88
    · rw [if_pos c, if_pos (by simpa using c)]; omega
    · rw [if_neg c, if_neg (by simpa using c)]
/-- how many of the first places are hidden -/
def hidN (s : ByteArray) : Nat → Nat
  | 0 => 0
  | k + 1 => if bt s k = 88 then hidN s k + 1 else hidN s k
theorem hd_cnt0 {s : ByteArray} {k : Nat} (h : hidN s k = 0) : cntM s k = 1 := by
  induction k with
  | zero => rfl
  | succ k ih =>
    rw [hidN] at h
    by_cases c : bt s k = 88
    · rw [if_pos c] at h; omega
    · rw [if_neg c] at h; rw [cntM, if_neg (by simpa using c)]; exact ih h
theorem hd_cnt1 {s : ByteArray} {k : Nat} (h : hidN s k ≤ 1) : cntM s k ≤ 10 := by
  induction k with
  | zero => rw [cntM]; omega
  | succ k ih =>
    rw [hidN] at h
    by_cases c : bt s k = 88
    · rw [if_pos c] at h
      rw [cntM, if_pos (by simpa using c), hd_cnt0 (by omega)]
      omega
    · rw [if_neg c] at h; rw [cntM, if_neg (by simpa using c)]; exact ih h
theorem hd_years {s : ByteArray} (h : hidN s s.size ≤ 1) : sumR (setM s) ≤ 10 := by
  unfold setM
  split
  · rename_i hs
    rw [hd_setK s (mk_of hs).ok s.size (Nat.le_refl _)]
    exact hd_cnt1 h
  · rw [sumR]; omega
theorem hd_pos : ∀ {l : List R}, (∀ r ∈ l, r.1 ≤ r.2) → (l.length : Int) ≤ sumR l := by
  intro l
  induction l with
  | nil => intro _; simp [sumR]
  | cons r t ih =>
    intro h
    have := ih (fun x hx => h x (by simp [hx]))
    have := h r (by simp)
    rw [List.length_cons, sumR]
    omega
theorem hd_okpos {l : List R} (h : sane l) : 0 ≤ sumR l := by
  have := hd_pos (fun r hr => (sane_ok h r hr).1)
  omega
theorem hd_diff (a b : List R) : sumR (diffR a b) + sumR (interR a b) = sumR (nf a) := by
  have h := sumR_add (a := diffR a b) (b := interR a b) (u := nf a) (m := []) (diffR_sane _ _) (interR_sane _ _) (nf_sane _) trivial
    (fun n => by rw [nf_mem, diffR_mem, interR_mem]; by_cases g : memR b n <;> simp [g])
    (fun n => by rw [diffR_mem, interR_mem]; exact ⟨fun g => absurd g (memR_nil n), fun ⟨⟨_, g⟩, _, g2⟩ => absurd g2 g⟩)
  have z : sumR [] = 0 := rfl
  omega
theorem hd_inter (a b : List R) : sumR (interR a b) ≤ sumR (nf a) := by
  have := hd_diff a b
  have := hd_okpos (diffR_sane a b)
  omega
theorem hd_comm (a b : List R) : interR b a = interR a b := sane_ext (interR_sane _ _) (interR_sane _ _) (fun n => by rw [interR_mem, interR_mem, and_comm])
theorem hd_one {r : R} (h : okR r) : sumR (nf [r]) = r.2 - r.1 + 1 := by
  rw [nf_of_sane (show sane [r] from ⟨h, trivial, trivial⟩), sumR, sumR]; omega
theorem hd_nf : ∀ {l : List R}, (∀ r ∈ l, okR r) → sumR (nf l) ≤ sumR l := by
  intro l
  induction l with
  | nil => intro _; exact Int.le_refl _
  | cons r t ih =>
    intro h
    have i := ih (fun x hx => h x (by simp [hx]))
    have g := h r (by simp)
    have a := sumR_add (a := nf [r]) (b := nf t) (u := nf (r :: t)) (m := interR (nf [r]) (nf t)) (nf_sane _) (nf_sane _) (nf_sane _) (interR_sane _ _)
      (fun n => by rw [nf_mem, nf_mem, nf_mem, show r :: t = [r] ++ t from rfl]; unfold memR; simp only [List.mem_append, List.mem_singleton]; constructor
                   · rintro ⟨q, hq | hq, e⟩
                     · exact .inl ⟨q, hq, e⟩
                     · exact .inr ⟨q, hq, e⟩
                   · rintro (⟨q, hq, e⟩ | ⟨q, hq, e⟩)
                     · exact ⟨q, .inl hq, e⟩
                     · exact ⟨q, .inr hq, e⟩)
      (fun n => interR_mem _ _ n)
    have := hd_okpos (interR_sane (nf [r]) (nf t))
    rw [hd_one g] at a
    rw [sumR]
    omega
theorem hd_subset {a b : List R} (ha : sane a) (hb : sane b) (h : ∀ n, memR a n → memR b n) : diffR a b = [] ∧ sumR a ≤ sumR b := by
  have e : diffR a b = [] := by
    refine sane_ext (diffR_sane _ _) trivial fun n => ?_
    rw [diffR_mem]
    exact ⟨fun ⟨x, y⟩ => absurd (h n x) y, fun x => absurd x (memR_nil n)⟩
  refine ⟨e, ?_⟩
  have d := hd_diff a b
  have i := hd_inter b a
  rw [hd_comm, nf_of_sane hb] at i
  rw [e, nf_of_sane ha] at d
  have z : sumR [] = 0 := rfl
  omega
theorem hd_partR (most : Int) (parts : List R) (y : Int) : sumR (partR most parts y) = sumR parts := by
  unfold partR
  induction parts with
  | nil => rfl
  | cons q t ih => rw [List.map_cons, sumR, ih, sumR]; simp only; omega
theorem hd_flat (most : Int) (parts : List R) : ∀ l : List Int, sumR (l.flatMap (partR most parts)) = (l.length : Int) * sumR parts := by
  intro l
  induction l with
  | nil => simp [sumR]
  | cons y t ih =>
    rw [List.flatMap_cons, sumR_append, ih, hd_partR, List.length_cons, Int.natCast_add, Int.add_mul]
    omega
theorem hd_partY {most : Int} {parts : List R} {r : R} (h : r.1 ≤ r.2) (hm : most = 12 ∨ most = 4) : sumR (partY most parts r) = (r.2 - r.1 + 1) * sumR parts := by
  unfold partY
  split
  · rename_i e
    subst e
    have z : sumR [((1 : Int), most)] = most := by rw [sumR, sumR]; simp only; omega
    rw [z, sumR, sumR]
    rcases hm with rfl | rfl <;> (simp only; omega)
  · rw [hd_flat]
    congr 1
    unfold ofR
    rw [List.length_map, List.length_range]
    omega
theorem hd_parts {most : Int} {parts : List R} (hm : most = 12 ∨ most = 4) : ∀ {years : List R}, (∀ r ∈ years, r.1 ≤ r.2) → sumR (partsL most years parts) = sumR years * sumR parts := by
  intro years
  unfold partsL
  induction years with
  | nil => intro _; simp [sumR]
  | cons r t ih =>
    intro h
    rw [List.flatMap_cons, sumR_append, ih (fun x hx => h x (by simp [hx])), hd_partY (h r (by simp)) hm, sumR]
    exact (Int.add_mul _ _ _).symm
theorem hd_mat (s : ByteArray) {most : Int} (hm : most = 12 ∨ most = 4) : 0 ≤ sumR (matR s most) ∧ sumR (matR s most) ≤ most := by
  refine ⟨hd_okpos (matR_sane s most), ?_⟩
  have i := hd_inter [((1 : Int), most)] (setM s)
  rw [hd_comm] at i
  have o := hd_one (r := (1, most)) ⟨by simp only; omega, by simp only; omega, by simp only; omega⟩
  simp only at o
  unfold matR
  omega
theorem hd_nums : ∀ {l : List R}, (∀ r ∈ l, r.1 ≤ r.2) → sumR l = (nums l).length := by
  intro l
  induction l with
  | nil => intro _; rfl
  | cons r t ih =>
    intro h
    have h1 := h r (List.mem_cons_self)
    rw [show nums (r :: t) = runF r ++ nums t by simp [nums], List.length_append, sumR, ih (fun q hq => h q (List.mem_cons_of_mem _ hq))]
    unfold runF
    rw [upF_len]
    omega
theorem hd_edge {k : Int} {s : List R} (hs : sane s) (h : sumR s ≤ 400) (h0 : k ≠ 0) : edgB k s = true := by
  unfold edgB
  rw [if_neg h0]
  have a := hd_nums (l := unitsR k s) (fun r hr => (sane_ok (unitsR_sane k s) r hr).1)
  have b := hd_inter s [(0, cnt k - 1)]
  rw [nf_of_sane hs] at b
  unfold unitsR at *
  exact decide_eq_true (by omega)
theorem hd_gath {most : Int} {years parts : List R} (hm : most = 12 ∨ most = 4) (iy : Inn 0 9999 years) (ay : apt years) (ip : Inn 1 most parts) (ap : apt parts) (h10 : 0 ≤ sumR years ∧ sumR years ≤ 10) (hp : 0 ≤ sumR parts ∧ sumR parts ≤ most) :
    (gn (partsL most years parts)).length ≤ 400 ∧ sumR (capR (partsL most years parts)) ≤ 400 := by
  have e := hd_parts (parts := parts) hm (fun r hr => (iy r hr).2.1)
  have I := partsL_in hm ip iy
  have A := partsL_apt hm ip iy ap ay
  have b : sumR (partsL most years parts) ≤ 120 := by
    rw [e]
    have := Int.mul_le_mul h10.2 hp.2 hp.1 (by omega)
    rcases hm with rfl | rfl <;> omega
  have O : ∀ r ∈ partsL most years parts, okR r := fun r hr => by
    have := I r hr
    rcases hm with rfl | rfl <;> exact ⟨this.2.1, by omega, by omega⟩
  have g := gn_nf O A
  have l1 := nf_len (partsL most years parts)
  have l2 := hd_pos (fun r hr => (O r hr).1)
  have l3 := hd_nf O
  have c : (gn (partsL most years parts)).length ≤ 400 := by rw [g]; omega
  refine ⟨c, ?_⟩
  unfold capR
  rw [if_pos c, g]
  omega
/-- no more than ten years: never too many runs -/
theorem hd_wide {p : PT} (hs : saneP p = true) (h : hidN p.y p.y.size ≤ 1) (h0 : p.k ≠ 0) : setE p = 0 := by
  have y1 := hd_years h
  have y0 := hd_okpos (setM_sane p.y)
  have S := numR_sane p
  unfold setE
  rw [if_pos hs]
  have core : numB p = true ∧ sumR (numR p) ≤ 400 := by
    unfold numB numR
    rw [if_neg h0, if_neg h0]
    by_cases h1 : p.k = 1
    · rw [if_pos h1, if_pos h1]
      have := hd_gath (.inl rfl) (setM_inn p.y) (sane_apt (setM_sane p.y)) (matR_inn p.m 12) (sane_apt (matR_sane p.m 12)) ⟨y0, y1⟩ (hd_mat p.m (.inl rfl))
      exact ⟨decide_eq_true this.1, this.2⟩
    · rw [if_neg h1, if_neg h1]
      by_cases h2 : p.k = 2
      · rw [if_pos h2, if_pos h2]
        have := hd_gath (.inr rfl) (setM_inn p.y) (sane_apt (setM_sane p.y)) (matR_inn p.m 4) (sane_apt (matR_sane p.m 4)) ⟨y0, y1⟩ (hd_mat p.m (.inr rfl))
        exact ⟨decide_eq_true this.1, this.2⟩
      · rw [if_neg h2, if_neg h2]
        have l := hd_pos (fun r hr => (sane_ok (setM_sane p.y) r hr).1)
        rw [nf_of_sane (setM_sane p.y)]
        refine ⟨?_, by omega⟩
        rw [decide_eq_false (by omega)]
        rfl
  rw [if_pos core.1, if_pos (hd_edge S core.2 h0)]
end Go.Proofs.YtjiikianmjmgcaaDoor

namespace Go.Proofs.YtjiikianmjmgcaaDoor
open Go.RowKit
set_option linter.unusedVariables false
set_option linter.unusedSimpArgs false
/-- a place of a text is hidden -/
structure HidAt (s t : ByteArray) (i : Nat) : Prop where
  size : t.size = s.size
  lt : i < s.size
  at_ : bt t i = 88
  same : ∀ j, j ≠ i → bt t j = bt s j
theorem hd_up {s : ByteArray} {k : Nat} (h : ∀ i, i < k → okB (bt s i) = true) : upB s k = true := by
  induction k with
  | zero => rfl
  | succ k ih => rw [upB, ih (fun i hi => h i (by omega)), h k (by omega)]; rfl
theorem hd_fitAll {s : ByteArray} {n : Int} {k : Nat} (h : ∀ i, i < k → fitB (bt s i) n (P10 (s.size - 1 - i)) = true) : fitsM s n k = true := by
  induction k with
  | zero => rfl
  | succ k ih => rw [fitsM, ih (fun i hi => h i (by omega)), h k (by omega)]; rfl
theorem hd_fitAt {s : ByteArray} {n : Int} {k i : Nat} (h : fitsM s n k = true) (hi : i < k) : fitB (bt s i) n (P10 (s.size - 1 - i)) = true := by
  rcases Bool.eq_false_or_eq_true (fitB (bt s i) n (P10 (s.size - 1 - i))) with e | e
  · exact e
  · rw [fitsM_no hi e] at h; cases h
theorem HidAt.sane {s t : ByteArray} {i : Nat} (h : HidAt s t i) (hs : saneM s = true) : saneM t = true := by
  unfold saneM at *
  rw [Bool.and_eq_true] at *
  rw [h.size]
  refine ⟨hs.1, hd_up fun j hj => ?_⟩
  by_cases e : j = i
  · subst e; rw [h.at_]; rfl
  · rw [h.same j e]; exact upB_at hs.2 j hj
theorem HidAt.mt {s t : ByteArray} {i : Nat} (h : HidAt s t i) {n : Int} (hm : matchM s n = true) : matchM t n = true := by
  unfold matchM at *
  rw [Bool.and_eq_true, Bool.and_eq_true, Bool.and_eq_true] at *
  obtain ⟨⟨⟨a, b⟩, c⟩, d⟩ := hm
  rw [h.size]
  refine ⟨⟨⟨h.sane a, b⟩, c⟩, hd_fitAll fun j hj => ?_⟩
  by_cases e : j = i
  · subst e; rw [h.at_]; rfl
  · rw [h.same j e, h.size]; exact hd_fitAt d hj
theorem HidAt.count {s t : ByteArray} {i : Nat} (h : HidAt s t i) (hn : bt s i ≠ 88) : ∀ k, hidN t k = hidN s k + if i < k then 1 else 0 := by
  intro k
  induction k with
  | zero => rfl
  | succ k ih =>
    rw [hidN, hidN, ih]
    by_cases e : k = i
    · subst e
      rw [if_pos h.at_, if_neg hn, if_neg (by omega), if_pos (by omega)]
    · rw [h.same k e]
      by_cases c : i < k
      · rw [if_pos c, if_pos (show i < k + 1 by omega)]; split <;> omega
      · rw [if_neg c, if_neg (show ¬ i < k + 1 by omega)]; split <;> omega
theorem hd_ext {s t : ByteArray} (h : t.size = s.size) (g : ∀ j, bt t j = bt s j) : t = s := by
  have hl : t.data.toList = s.data.toList := by
    refine List.ext_getElem (by simpa using h) fun j h1 h2 => ?_
    have := g j
    unfold bt at this
    rw [List.getD_eq_getElem?_getD, List.getD_eq_getElem?_getD, List.getElem?_eq_getElem h1, List.getElem?_eq_getElem h2] at this
    exact UInt8.toNat_inj.1 this
  cases s; cases t
  simp only [ByteArray.mk.injEq]
  exact Array.toList_inj.1 hl
theorem HidAt.eq {s t : ByteArray} {i : Nat} (h : HidAt s t i) (hn : bt s i = 88) : t = s := hd_ext h.size fun j => by
  by_cases e : j = i
  · subst e; rw [h.at_, hn]
  · exact h.same j e
theorem hd_mem {l : List R} (h : sane l) (n : Int) : memR l n ↔ inL l n := by
  constructor
  · rintro ⟨r, hr, a, b, _⟩; exact ⟨r, hr, a, b⟩
  · rintro ⟨r, hr, a, b⟩
    obtain ⟨o1, o2, o3⟩ := sane_ok h r hr
    exact ⟨r, hr, a, b, by omega, by omega⟩
theorem hd_inU {k : Int} {y z m d : ByteArray} {i : Nat} (h : HidAt y z i) {n : Int} (g : inU ⟨k, y, m, d⟩ n = true) : inU ⟨k, z, m, d⟩ n = true := by
  unfold inU at *
  simp only at *
  by_cases h0 : k = 0
  · rw [if_pos h0] at *
    simp only [Bool.and_eq_true] at *
    exact ⟨g.1, h.mt g.2.1, g.2.2⟩
  · rw [if_neg h0] at *
    by_cases h1 : k = 1
    · rw [if_pos h1] at *
      simp only [Bool.and_eq_true] at *
      exact ⟨g.1, h.mt g.2.1, g.2.2⟩
    · rw [if_neg h1] at *
      by_cases h2 : k = 2
      · rw [if_pos h2] at *
        simp only [Bool.and_eq_true] at *
        exact ⟨g.1, h.mt g.2.1, g.2.2⟩
      · rw [if_neg h2] at *
        exact h.mt g
theorem hd_sane {k : Int} {y z m d : ByteArray} {i : Nat} (h : HidAt y z i) (hs : saneP ⟨k, y, m, d⟩ = true) : saneP ⟨k, z, m, d⟩ = true := by
  unfold saneP at *
  simp only [Bool.and_eq_true] at *
  rw [h.size]
  exact ⟨hs.1, hs.2.1, h.sane hs.2.2.1, hs.2.2.2⟩
theorem hd_ok {p : PT} (hs : saneP p = true) (he : setE p = 0) : numB p = true ∧ setS p = numR p := by
  unfold setE at he
  rw [if_pos hs] at he
  unfold setS
  rw [if_pos hs]
  by_cases a : numB p = true
  · rw [if_pos a] at he ⊢
    by_cases b : edgB p.k (numR p) = true
    · rw [if_pos b]; exact ⟨a, rfl⟩
    · rw [if_neg b] at he; cases he
  · rw [if_neg a] at he; cases he
theorem hd_sets {k : Int} {y z m d : ByteArray} {i : Nat} (h : HidAt y z i) (hs : saneP ⟨k, y, m, d⟩ = true) (e1 : setE ⟨k, y, m, d⟩ = 0) (e2 : setE ⟨k, z, m, d⟩ = 0) :
    diffR (setS ⟨k, y, m, d⟩) (setS ⟨k, z, m, d⟩) = [] ∧ sumR (setS ⟨k, y, m, d⟩) ≤ sumR (setS ⟨k, z, m, d⟩) := by
  have ht := hd_sane h hs
  obtain ⟨a1, a2⟩ := hd_ok hs e1
  obtain ⟨b1, b2⟩ := hd_ok ht e2
  rw [a2, b2]
  refine hd_subset (numR_sane _) (numR_sane _) fun n hn => ?_
  rw [hd_mem (numR_sane _), numR_in ht b1]
  rw [hd_mem (numR_sane _), numR_in hs a1] at hn
  exact hd_inU h hn
theorem hd_wide2 {k : Int} {y z m d : ByteArray} {i : Nat} (h : HidAt y z i) (hs : saneP ⟨k, y, m, d⟩ = true) (h0 : k ≠ 0) (h2 : hidN z z.size ≤ 2) : setE ⟨k, y, m, d⟩ = 0 ∨ z = y := by
  by_cases c : bt y i = 88
  · exact .inr (h.eq c)
  · left
    refine hd_wide hs ?_ h0
    have := h.count c z.size
    rw [h.size, if_pos h.lt] at this
    rw [h.size] at h2
    simp only
    omega
theorem hid_le (s : ByteArray) : ∀ k, hidN s k ≤ k
  | 0 => Nat.le_refl _
  | k + 1 => by have := hid_le s k; rw [hidN]; split <;> omega
theorem hd_at {s : ByteArray} {i : Nat} (h : i < s.size) : HidAt s (s.extract 0 i ++ (⟨#[88]⟩ : ByteArray) ++ s.extract (i + 1) s.size) i := by
  have hl : s.data.toList.length = s.size := by simp
  have e : (s.extract 0 i ++ (⟨#[88]⟩ : ByteArray) ++ s.extract (i + 1) s.size).data.toList = s.data.toList.take i ++ (88 :: s.data.toList.drop (i + 1)) := by
    simp only [ByteArray.data_append, Array.toList_append, ByteArray.data_extract, Array.toList_extract, List.extract_eq_take_drop, Nat.sub_zero, List.drop_zero]
    rw [List.append_assoc, List.take_of_length_le (l := s.data.toList.drop (i + 1)) (by rw [List.length_drop, hl]; omega)]
    rfl
  have ln : (s.data.toList.take i).length = i := by rw [List.length_take, hl]; omega
  refine ⟨?_, h, ?_, fun j hj => ?_⟩
  · have := congrArg List.length e
    rw [List.length_append, ln, List.length_cons, List.length_drop, hl] at this
    have q : (s.extract 0 i ++ (⟨#[88]⟩ : ByteArray) ++ s.extract (i + 1) s.size).data.toList.length = (s.extract 0 i ++ (⟨#[88]⟩ : ByteArray) ++ s.extract (i + 1) s.size).size := by rw [Array.length_toList]; rfl
    omega
  · unfold bt
    rw [e, List.getD_eq_getElem?_getD, List.getElem?_append_right (by omega), ln, Nat.sub_self]
    rfl
  · unfold bt
    rw [e, List.getD_eq_getElem?_getD, List.getD_eq_getElem?_getD]
    by_cases c : j < i
    · rw [List.getElem?_append_left (by omega), List.getElem?_take_of_lt c]
    · rw [List.getElem?_append_right (by omega), ln, show j - i = (j - i - 1) + 1 by omega, List.getElem?_cons_succ, List.getElem?_drop, show i + 1 + (j - i - 1) = j by omega]
theorem hd_err {p : PT} (hs : saneP p = true) : setE p = 0 ∨ setE p = 8 := by
  unfold setE
  rw [if_pos hs]
  split
  · split
    · exact .inl rfl
    · exact .inr rfl
  · exact .inr rfl
theorem hd_sset (p : PT) : sane (setS p) := by
  unfold setS
  split
  · split
    · split
      · exact numR_sane p
      · trivial
    · trivial
  · trivial
end Go.Proofs.YtjiikianmjmgcaaDoor

namespace Go.Proofs.YtjiikianmjmgcaaDoor
open Go.RowKit
set_option linter.unusedVariables false
set_option linter.unusedSimpArgs false
set_option maxHeartbeats 16000000 in
set_option maxRecDepth 100000 in
theorem hid_0 (p : PT) (n : Int) (w : World) (hp1 : -9223372036854775808 ≤ p.k) (hp2 : p.k ≤ 9223372036854775807) (hn1 : -9223372036854775808 ≤ n) (hn2 : n ≤ 9223372036854775807) (T : Tabs8 w) (hs : shortP p = false) :
    Calls Tryd.prog 4 #[ptV p, .int .i64 n] w fun e w' => e = .returned (.bool true) ∧ Kp w w' := by
  have AW := Lib.hid (fun w1 (kk : Kp w w1) => awake08 w1 (T.kp kk))
  have SH := Lib.hid (fun w1 (kk : Kp w w1) => short_any p w1)
  have SN := Lib.hid (fun w1 (kk : Kp w w1) => ptSane_any p w1 (T.kp kk).2.1)
  rw [hs] at SH
  clear hs T SN
  obtain ⟨kp, yp, mp, dp⟩ := p
  unfold ptV at *
  simp only at *
  obtain ⟨W0, hW⟩ : ∃ W0, W0 = w.alloc (.cells #[.int .i64 kp, .string yp, .string mp, .string dp] 27) := ⟨_, rfl⟩
  have K00 := Lib.hid (show Kp w W0 by rw [hW]; exact Kp.alloc _ _)
  have HB := Lib.hid (fun w1 (k : Kp W0 w1) => show w1.cell? ⟨w.heap.size, 0, none⟩ = some (.int .i64 kp) ∧ w1.cell? ⟨w.heap.size, 1, none⟩ = some (.string yp) ∧ w1.cell? ⟨w.heap.size, 2, none⟩ = some (.string mp) ∧ w1.cell? ⟨w.heap.size, 3, none⟩ = some (.string dp) from ⟨cell_up k (show W0.cell? ⟨w.heap.size, 0, none⟩ = some (.int .i64 kp) by rw [hW]; simp), cell_up k (show W0.cell? ⟨w.heap.size, 1, none⟩ = some (.string yp) by rw [hW]; simp), cell_up k (show W0.cell? ⟨w.heap.size, 2, none⟩ = some (.string mp) by rw [hW]; simp), cell_up k (show W0.cell? ⟨w.heap.size, 3, none⟩ = some (.string dp) by rw [hW]; simp)⟩)
  obtain ⟨c0, c1, c2, c3⟩ := HB.out W0 (Kp.refl _)
  have K0 := Lib.hid (Kp.refl W0)
  have HW := Lib.hid hW
  clear hW
  go_enter Tryd.func4, Tryd.ntmps4
  go_wp2_with fail
  rw [← HW.out]
  refine (AW.out _ (K00.out.trans (by first | with_reducible exact K0.out | with_reducible exact K0.out.trans (Kp.alloc _ _) | with_reducible exact (K0.out.trans (Kp.alloc _ _)).trans (Kp.alloc _ _) | with_reducible exact ((K0.out.trans (Kp.alloc _ _)).trans (Kp.alloc _ _)).trans (Kp.alloc _ _) | with_reducible exact K0.out.trans (Kp.drew _) | with_reducible exact K0.out.trans (Kp.drewN _ _)))).mono ?_
  rintro e w1 ⟨rfl, kk⟩
  have K1 := Lib.hid ((show Kp W0 _ from (by first | with_reducible exact K0.out | with_reducible exact K0.out.trans (Kp.alloc _ _) | with_reducible exact (K0.out.trans (Kp.alloc _ _)).trans (Kp.alloc _ _) | with_reducible exact ((K0.out.trans (Kp.alloc _ _)).trans (Kp.alloc _ _)).trans (Kp.alloc _ _) | with_reducible exact K0.out.trans (Kp.drew _) | with_reducible exact K0.out.trans (Kp.drewN _ _))).trans kk)
  clear kk
  clear c0 c1 c2 c3
  obtain ⟨c0, c1, c2, c3⟩ := HB.out w1 K1.out
  go_wp2_with fail
  refine (SH.out _ (K00.out.trans (by first | with_reducible exact K1.out | with_reducible exact K1.out.trans (Kp.alloc _ _) | with_reducible exact (K1.out.trans (Kp.alloc _ _)).trans (Kp.alloc _ _) | with_reducible exact ((K1.out.trans (Kp.alloc _ _)).trans (Kp.alloc _ _)).trans (Kp.alloc _ _) | with_reducible exact K1.out.trans (Kp.drew _) | with_reducible exact K1.out.trans (Kp.drewN _ _)))).mono ?_
  rintro e w2 ⟨rfl, kk⟩
  have K2 := Lib.hid ((show Kp W0 _ from (by first | with_reducible exact K1.out | with_reducible exact K1.out.trans (Kp.alloc _ _) | with_reducible exact (K1.out.trans (Kp.alloc _ _)).trans (Kp.alloc _ _) | with_reducible exact ((K1.out.trans (Kp.alloc _ _)).trans (Kp.alloc _ _)).trans (Kp.alloc _ _) | with_reducible exact K1.out.trans (Kp.drew _) | with_reducible exact K1.out.trans (Kp.drewN _ _))).trans kk)
  clear kk
  clear c0 c1 c2 c3
  obtain ⟨c0, c1, c2, c3⟩ := HB.out w2 K2.out
  go_wp2
  go_ret
  exact ⟨rfl, K00.out.trans K2.out⟩
set_option maxHeartbeats 16000000 in
set_option maxRecDepth 100000 in
theorem hid_1 (p : PT) (n : Int) (w : World) (hp1 : -9223372036854775808 ≤ p.k) (hp2 : p.k ≤ 9223372036854775807) (hn1 : -9223372036854775808 ≤ n) (hn2 : n ≤ 9223372036854775807) (T : Tabs8 w) (hs : shortP p = true) (hS : saneP p = false) :
    Calls Tryd.prog 4 #[ptV p, .int .i64 n] w fun e w' => e = .returned (.bool true) ∧ Kp w w' := by
  have AW := Lib.hid (fun w1 (kk : Kp w w1) => awake08 w1 (T.kp kk))
  have SH := Lib.hid (fun w1 (kk : Kp w w1) => short_any p w1)
  have SN := Lib.hid (fun w1 (kk : Kp w w1) => ptSane_any p w1 (T.kp kk).2.1)
  rw [hs] at SH
  rw [hS] at SN
  clear hs hS T
  obtain ⟨kp, yp, mp, dp⟩ := p
  unfold ptV at *
  simp only at *
  obtain ⟨W0, hW⟩ : ∃ W0, W0 = w.alloc (.cells #[.int .i64 kp, .string yp, .string mp, .string dp] 27) := ⟨_, rfl⟩
  have K00 := Lib.hid (show Kp w W0 by rw [hW]; exact Kp.alloc _ _)
  have HB := Lib.hid (fun w1 (k : Kp W0 w1) => show w1.cell? ⟨w.heap.size, 0, none⟩ = some (.int .i64 kp) ∧ w1.cell? ⟨w.heap.size, 1, none⟩ = some (.string yp) ∧ w1.cell? ⟨w.heap.size, 2, none⟩ = some (.string mp) ∧ w1.cell? ⟨w.heap.size, 3, none⟩ = some (.string dp) from ⟨cell_up k (show W0.cell? ⟨w.heap.size, 0, none⟩ = some (.int .i64 kp) by rw [hW]; simp), cell_up k (show W0.cell? ⟨w.heap.size, 1, none⟩ = some (.string yp) by rw [hW]; simp), cell_up k (show W0.cell? ⟨w.heap.size, 2, none⟩ = some (.string mp) by rw [hW]; simp), cell_up k (show W0.cell? ⟨w.heap.size, 3, none⟩ = some (.string dp) by rw [hW]; simp)⟩)
  obtain ⟨c0, c1, c2, c3⟩ := HB.out W0 (Kp.refl _)
  have K0 := Lib.hid (Kp.refl W0)
  have HW := Lib.hid hW
  clear hW
  go_enter Tryd.func4, Tryd.ntmps4
  go_wp2_with fail
  rw [← HW.out]
  refine (AW.out _ (K00.out.trans (by first | with_reducible exact K0.out | with_reducible exact K0.out.trans (Kp.alloc _ _) | with_reducible exact (K0.out.trans (Kp.alloc _ _)).trans (Kp.alloc _ _) | with_reducible exact ((K0.out.trans (Kp.alloc _ _)).trans (Kp.alloc _ _)).trans (Kp.alloc _ _) | with_reducible exact K0.out.trans (Kp.drew _) | with_reducible exact K0.out.trans (Kp.drewN _ _)))).mono ?_
  rintro e w1 ⟨rfl, kk⟩
  have K1 := Lib.hid ((show Kp W0 _ from (by first | with_reducible exact K0.out | with_reducible exact K0.out.trans (Kp.alloc _ _) | with_reducible exact (K0.out.trans (Kp.alloc _ _)).trans (Kp.alloc _ _) | with_reducible exact ((K0.out.trans (Kp.alloc _ _)).trans (Kp.alloc _ _)).trans (Kp.alloc _ _) | with_reducible exact K0.out.trans (Kp.drew _) | with_reducible exact K0.out.trans (Kp.drewN _ _))).trans kk)
  clear kk
  clear c0 c1 c2 c3
  obtain ⟨c0, c1, c2, c3⟩ := HB.out w1 K1.out
  go_wp2_with fail
  refine (SH.out _ (K00.out.trans (by first | with_reducible exact K1.out | with_reducible exact K1.out.trans (Kp.alloc _ _) | with_reducible exact (K1.out.trans (Kp.alloc _ _)).trans (Kp.alloc _ _) | with_reducible exact ((K1.out.trans (Kp.alloc _ _)).trans (Kp.alloc _ _)).trans (Kp.alloc _ _) | with_reducible exact K1.out.trans (Kp.drew _) | with_reducible exact K1.out.trans (Kp.drewN _ _)))).mono ?_
  rintro e w2 ⟨rfl, kk⟩
  have K2 := Lib.hid ((show Kp W0 _ from (by first | with_reducible exact K1.out | with_reducible exact K1.out.trans (Kp.alloc _ _) | with_reducible exact (K1.out.trans (Kp.alloc _ _)).trans (Kp.alloc _ _) | with_reducible exact ((K1.out.trans (Kp.alloc _ _)).trans (Kp.alloc _ _)).trans (Kp.alloc _ _) | with_reducible exact K1.out.trans (Kp.drew _) | with_reducible exact K1.out.trans (Kp.drewN _ _))).trans kk)
  clear kk
  clear c0 c1 c2 c3
  obtain ⟨c0, c1, c2, c3⟩ := HB.out w2 K2.out
  go_wp2_with fail
  refine (SN.out _ (K00.out.trans (by first | with_reducible exact K2.out | with_reducible exact K2.out.trans (Kp.alloc _ _) | with_reducible exact (K2.out.trans (Kp.alloc _ _)).trans (Kp.alloc _ _) | with_reducible exact ((K2.out.trans (Kp.alloc _ _)).trans (Kp.alloc _ _)).trans (Kp.alloc _ _) | with_reducible exact K2.out.trans (Kp.drew _) | with_reducible exact K2.out.trans (Kp.drewN _ _)))).mono ?_
  rintro e w3 ⟨rfl, kk⟩
  have K3 := Lib.hid ((show Kp W0 _ from (by first | with_reducible exact K2.out | with_reducible exact K2.out.trans (Kp.alloc _ _) | with_reducible exact (K2.out.trans (Kp.alloc _ _)).trans (Kp.alloc _ _) | with_reducible exact ((K2.out.trans (Kp.alloc _ _)).trans (Kp.alloc _ _)).trans (Kp.alloc _ _) | with_reducible exact K2.out.trans (Kp.drew _) | with_reducible exact K2.out.trans (Kp.drewN _ _))).trans kk)
  clear kk
  clear c0 c1 c2 c3
  obtain ⟨c0, c1, c2, c3⟩ := HB.out w3 K3.out
  go_wp2
  go_ret
  exact ⟨rfl, K00.out.trans K3.out⟩
abbrev hR0 : Oper := { dst := some 31, op := Go.Op.fieldAddr 27 (Go.Operand.tmp 2) 1, type := 0, pos := "more.go:18", after := #[], guard := none }
abbrev hR1 : Oper := { dst := some 32, op := Go.Op.load 9 (Go.Operand.tmp 31), type := 9, pos := "more.go:18", after := #[{ on := 0, ground := Go.Ground.data }], guard := none }
abbrev hR2 : Oper := { dst := some 33, op := Go.Op.move (Go.Operand.tmp 6), type := 3, pos := "more.go:18", after := #[], guard := none }
abbrev hR3 : Oper := { dst := some 34, op := Go.Op.slice 9 (Go.Operand.tmp 32) none (some (Go.Operand.tmp 33)) none, type := 9, pos := "more.go:18", after := #[{ on := 1, ground := Go.Ground.data }, { on := 2, ground := Go.Ground.data }], guard := none }
abbrev hR4 : Oper := { dst := some 35, op := Go.Op.binOp Go.BinOp.add 9 (Go.Operand.tmp 34) (Go.Operand.const (Go.Value.string { data := #[88] })) 9, type := 9, pos := "more.go:18", after := #[{ on := 3, ground := Go.Ground.data }], guard := none }
abbrev hR5 : Oper := { dst := some 36, op := Go.Op.fieldAddr 27 (Go.Operand.tmp 2) 1, type := 0, pos := "more.go:18", after := #[], guard := none }
abbrev hR6 : Oper := { dst := some 37, op := Go.Op.load 9 (Go.Operand.tmp 36), type := 9, pos := "more.go:18", after := #[{ on := 5, ground := Go.Ground.data }], guard := none }
abbrev hR7 : Oper := { dst := some 38, op := Go.Op.move (Go.Operand.tmp 6), type := 3, pos := "more.go:18", after := #[], guard := none }
abbrev hR8 : Oper := { dst := some 39, op := Go.Op.binOp Go.BinOp.add 3 (Go.Operand.tmp 38) (Go.Operand.const (Go.Value.int Go.IntKind.i64 1)) 3, type := 3, pos := "more.go:18", after := #[{ on := 7, ground := Go.Ground.data }], guard := none }
abbrev hR9 : Oper := { dst := some 40, op := Go.Op.slice 9 (Go.Operand.tmp 37) (some (Go.Operand.tmp 39)) none none, type := 9, pos := "more.go:18", after := #[{ on := 6, ground := Go.Ground.data }, { on := 8, ground := Go.Ground.data }], guard := none }
abbrev hR10 : Oper := { dst := some 41, op := Go.Op.binOp Go.BinOp.add 9 (Go.Operand.tmp 35) (Go.Operand.tmp 40) 9, type := 9, pos := "more.go:18", after := #[{ on := 4, ground := Go.Ground.data }, { on := 9, ground := Go.Ground.data }], guard := none }
abbrev hR11 : Oper := { dst := some 42, op := Go.Op.fieldAddr 27 (Go.Operand.tmp 7) 1, type := 0, pos := "more.go:18", after := #[{ on := 0, ground := Go.Ground.phase }, { on := 1, ground := Go.Ground.phase }, { on := 2, ground := Go.Ground.phase }, { on := 3, ground := Go.Ground.phase }, { on := 4, ground := Go.Ground.phase }, { on := 5, ground := Go.Ground.phase }, { on := 6, ground := Go.Ground.phase }, { on := 7, ground := Go.Ground.phase }, { on := 8, ground := Go.Ground.phase }, { on := 9, ground := Go.Ground.phase }, { on := 10, ground := Go.Ground.phase }], guard := none }
abbrev hR12 : Oper := { dst := none, op := Go.Op.store 9 (Go.Operand.tmp 42) (Go.Operand.tmp 41), type := 0, pos := "more.go:18", after := #[{ on := 11, ground := Go.Ground.data }, { on := 10, ground := Go.Ground.data }, { on := 0, ground := Go.Ground.phase }, { on := 1, ground := Go.Ground.phase }, { on := 2, ground := Go.Ground.phase }, { on := 3, ground := Go.Ground.phase }, { on := 4, ground := Go.Ground.phase }, { on := 5, ground := Go.Ground.phase }, { on := 6, ground := Go.Ground.phase }, { on := 7, ground := Go.Ground.phase }, { on := 8, ground := Go.Ground.phase }, { on := 9, ground := Go.Ground.phase }, { on := 10, ground := Go.Ground.phase }], guard := none }
set_option maxHeartbeats 16000000 in
set_option maxRecDepth 100000 in
theorem hid_m (p : PT) (n : Int) (w : World) (hp1 : -9223372036854775808 ≤ p.k) (hp2 : p.k ≤ 9223372036854775807) (hn1 : -9223372036854775808 ≤ n) (hn2 : n ≤ 9223372036854775807) (T : Tabs8 w) (hs : shortP p = true) (hS : saneP p = true) :
    Calls Tryd.prog 4 #[ptV p, .int .i64 n] w fun e w' => e = .returned (.bool true) ∧ Kp w w' := by
  have AW := Lib.hid (fun w1 (kk : Kp w w1) => awake08 w1 (T.kp kk))
  have SH := Lib.hid (fun w1 (kk : Kp w w1) => short_any p w1)
  have SN := Lib.hid (fun w1 (kk : Kp w w1) => ptSane_any p w1 (T.kp kk).2.1)
  rw [hs] at SH
  rw [hS] at SN
  have y4 : 1 ≤ p.y.size ∧ p.y.size ≤ 4 := by
    have h := hS
    unfold saneP saneM at h
    simp only [Bool.and_eq_true, decide_eq_true_eq] at h
    exact h.2.2.1.1
  have e16 := and16 n
  obtain ⟨i, hi⟩ : ∃ i : Nat, n % 65536 % (p.y.size : Int) = i ∧ i < p.y.size := by
    refine ⟨(n % 65536 % (p.y.size : Int)).toNat, ?_, ?_⟩
    · have := Int.emod_nonneg (n % 65536) (show (p.y.size : Int) ≠ 0 by omega); omega
    · have := Int.emod_nonneg (n % 65536) (show (p.y.size : Int) ≠ 0 by omega)
      have := Int.emod_lt_of_pos (n % 65536) (show (0 : Int) < (p.y.size : Int) by omega)
      omega
  have hid := hd_at hi.2
  obtain ⟨z, hz⟩ : ∃ z, p.y.extract 0 i ++ (⟨#[88]⟩ : ByteArray) ++ p.y.extract (i + 1) p.y.size = z := ⟨_, rfl⟩
  rw [hz] at hid
  have HZ := Lib.hid hz
  obtain ⟨q, hq⟩ : ∃ q : PT, q = ⟨p.k, z, p.m, p.d⟩ := ⟨_, rfl⟩
  have hSq : saneP q = true := by rw [hq]; exact hd_sane (k := p.k) (m := p.m) (d := p.d) hid hS
  have F1 := hd_err hS
  have F2 := hd_err hSq
  have F3 : setE p = 0 → setE q = 0 → diffR (setS p) (setS q) = [] ∧ sumR (nf (setS p)) ≤ sumR (nf (setS q)) := fun a b => by
    rw [nf_of_sane (hd_sset p), nf_of_sane (hd_sset q)]
    rw [hq] at b ⊢
    exact hd_sets (k := p.k) (m := p.m) (d := p.d) hid hS a b
  have F4 : p.k ≠ 0 → hidN z z.size ≤ 2 → setE p = 0 ∨ setE p = setE q := fun a b => by
    rcases hd_wide2 (k := p.k) (m := p.m) (d := p.d) hid hS a b with h | h
    · exact .inl h
    · exact .inr (by rw [hq, h])
  have SQ := Lib.hid (fun w1 (kk : Kp w w1) => ptSane_any q w1 (T.kp kk).2.1)
  rw [hSq] at SQ
  have ST1 := Lib.hid (fun w1 (kk : Kp w w1) => pset_any p w1 (T.kp kk))
  have ST2 := Lib.hid (fun w1 (kk : Kp w w1) => pset_any q w1 (T.kp kk))
  have i1 := sane_i64 (hd_sset p)
  have i2 := sane_i64 (hd_sset q)
  have n1 := setS_len p
  have n2 := setS_len q
  have z4 : z.size ≤ 4 := by rw [hid.size]; omega
  obtain ⟨E1, hE1⟩ : ∃ x, setE p = x := ⟨_, rfl⟩
  obtain ⟨E2, hE2⟩ : ∃ x, setE q = x := ⟨_, rfl⟩
  obtain ⟨S1, hS1⟩ : ∃ x, setS p = x := ⟨_, rfl⟩
  obtain ⟨S2, hS2⟩ : ∃ x, setS q = x := ⟨_, rfl⟩
  rw [hE1] at F1 F3 F4 ST1
  rw [hE2] at F2 F3 F4 ST2
  rw [hS1] at F3 ST1 i1 n1
  rw [hS2] at F3 ST2 i2 n2
  have CM := Lib.hid (fun v u w1 h1 h2 => minus_any v u S1 S2 w1 h1 h2 i1 i2 (by omega) (by omega))
  have CC1 := Lib.hid (fun v w1 h1 => scount_any v S1 w1 h1 i1 (by omega))
  have CC2 := Lib.hid (fun v w1 h1 => scount_any v S2 w1 h1 i2 (by omega))
  have D1 := Lib.hid F1
  have D2 := Lib.hid F2
  have D3 := Lib.hid F3
  have D4 := Lib.hid F4
  subst hq
  unfold ptV at SQ ST2
  simp only at SQ ST2
  have BT := Lib.hid (fun j (h : j < z.size) => bt_at z j h)
  clear hs hS T hid hz hSq F1 F2 F3 F4 i1 i2 n1 n2 hE1 hE2 hS1 hS2
  have CH := Lib.hid (fun wx => cut_head p.y i (by omega) wx)
  have CT := Lib.hid (fun wx => show (Instr.slice 9 (.string p.y) (some (.int .i64 ((i : Int) + 1))) none none).run Tryd.prog wx = .ok (.string (p.y.extract (i + 1) p.y.size)) wx from by
    have h := cut_tail p.y (i + 1) (by omega) wx
    rw [show ((i + 1 : Nat) : Int) = (i : Int) + 1 by omega] at h
    exact h)
  obtain ⟨kp, yp, mp, dp⟩ := p
  unfold ptV at *
  simp only at *
  obtain ⟨W0, hW⟩ : ∃ W0, W0 = w.alloc (.cells #[.int .i64 kp, .string yp, .string mp, .string dp] 27) := ⟨_, rfl⟩
  have K00 := Lib.hid (show Kp w W0 by rw [hW]; exact Kp.alloc _ _)
  have HB := Lib.hid (fun w1 (k : Kp W0 w1) => show w1.cell? ⟨w.heap.size, 0, none⟩ = some (.int .i64 kp) ∧ w1.cell? ⟨w.heap.size, 1, none⟩ = some (.string yp) ∧ w1.cell? ⟨w.heap.size, 2, none⟩ = some (.string mp) ∧ w1.cell? ⟨w.heap.size, 3, none⟩ = some (.string dp) from ⟨cell_up k (show W0.cell? ⟨w.heap.size, 0, none⟩ = some (.int .i64 kp) by rw [hW]; simp), cell_up k (show W0.cell? ⟨w.heap.size, 1, none⟩ = some (.string yp) by rw [hW]; simp), cell_up k (show W0.cell? ⟨w.heap.size, 2, none⟩ = some (.string mp) by rw [hW]; simp), cell_up k (show W0.cell? ⟨w.heap.size, 3, none⟩ = some (.string dp) by rw [hW]; simp)⟩)
  obtain ⟨c0, c1, c2, c3⟩ := HB.out W0 (Kp.refl _)
  have K0 := Lib.hid (Kp.refl W0)
  have HW := Lib.hid hW
  clear hW
  go_enter Tryd.func4, Tryd.ntmps4
  go_wp2_with fail
  rw [← HW.out]
  refine (AW.out _ (K00.out.trans (by first | with_reducible exact K0.out | with_reducible exact K0.out.trans (Kp.alloc _ _) | with_reducible exact (K0.out.trans (Kp.alloc _ _)).trans (Kp.alloc _ _) | with_reducible exact ((K0.out.trans (Kp.alloc _ _)).trans (Kp.alloc _ _)).trans (Kp.alloc _ _) | with_reducible exact K0.out.trans (Kp.drew _) | with_reducible exact K0.out.trans (Kp.drewN _ _)))).mono ?_
  rintro e w1 ⟨rfl, kk⟩
  have K1 := Lib.hid ((show Kp W0 _ from (by first | with_reducible exact K0.out | with_reducible exact K0.out.trans (Kp.alloc _ _) | with_reducible exact (K0.out.trans (Kp.alloc _ _)).trans (Kp.alloc _ _) | with_reducible exact ((K0.out.trans (Kp.alloc _ _)).trans (Kp.alloc _ _)).trans (Kp.alloc _ _) | with_reducible exact K0.out.trans (Kp.drew _) | with_reducible exact K0.out.trans (Kp.drewN _ _))).trans kk)
  clear kk
  clear c0 c1 c2 c3
  obtain ⟨c0, c1, c2, c3⟩ := HB.out w1 K1.out
  go_wp2_with fail
  refine (SH.out _ (K00.out.trans (by first | with_reducible exact K1.out | with_reducible exact K1.out.trans (Kp.alloc _ _) | with_reducible exact (K1.out.trans (Kp.alloc _ _)).trans (Kp.alloc _ _) | with_reducible exact ((K1.out.trans (Kp.alloc _ _)).trans (Kp.alloc _ _)).trans (Kp.alloc _ _) | with_reducible exact K1.out.trans (Kp.drew _) | with_reducible exact K1.out.trans (Kp.drewN _ _)))).mono ?_
  rintro e w2 ⟨rfl, kk⟩
  have K2 := Lib.hid ((show Kp W0 _ from (by first | with_reducible exact K1.out | with_reducible exact K1.out.trans (Kp.alloc _ _) | with_reducible exact (K1.out.trans (Kp.alloc _ _)).trans (Kp.alloc _ _) | with_reducible exact ((K1.out.trans (Kp.alloc _ _)).trans (Kp.alloc _ _)).trans (Kp.alloc _ _) | with_reducible exact K1.out.trans (Kp.drew _) | with_reducible exact K1.out.trans (Kp.drewN _ _))).trans kk)
  clear kk
  clear c0 c1 c2 c3
  obtain ⟨c0, c1, c2, c3⟩ := HB.out w2 K2.out
  go_wp2_with fail
  refine (SN.out _ (K00.out.trans (by first | with_reducible exact K2.out | with_reducible exact K2.out.trans (Kp.alloc _ _) | with_reducible exact (K2.out.trans (Kp.alloc _ _)).trans (Kp.alloc _ _) | with_reducible exact ((K2.out.trans (Kp.alloc _ _)).trans (Kp.alloc _ _)).trans (Kp.alloc _ _) | with_reducible exact K2.out.trans (Kp.drew _) | with_reducible exact K2.out.trans (Kp.drewN _ _)))).mono ?_
  rintro e w3 ⟨rfl, kk⟩
  have K3 := Lib.hid ((show Kp W0 _ from (by first | with_reducible exact K2.out | with_reducible exact K2.out.trans (Kp.alloc _ _) | with_reducible exact (K2.out.trans (Kp.alloc _ _)).trans (Kp.alloc _ _) | with_reducible exact ((K2.out.trans (Kp.alloc _ _)).trans (Kp.alloc _ _)).trans (Kp.alloc _ _) | with_reducible exact K2.out.trans (Kp.drew _) | with_reducible exact K2.out.trans (Kp.drewN _ _))).trans kk)
  clear kk
  clear c0 c1 c2 c3
  obtain ⟨c0, c1, c2, c3⟩ := HB.out w3 K3.out
  go_wp2_with fail
  rw [hi.1]
  obtain ⟨W1, hW1⟩ : ∃ x, x = w3.alloc (.cells #[.int .i64 kp, .string yp, .string mp, .string dp] 27) := ⟨_, rfl⟩
  have gB : W1.heap[w3.heap.size]? = some (.cells #[.int .i64 kp, .string yp, .string mp, .string dp] 27 (0, 0)) := by rw [hW1]; exact heap_at _ _ _ rfl
  have k1 : Kp w3 W1 := by rw [hW1]; exact Kp.alloc _ _
  rw [← hW1]
  obtain ⟨X, hX⟩ : ∃ x, x = W1.drew := ⟨_, rfl⟩
  have gX : X.heap[w3.heap.size]? = some (.cells #[.int .i64 kp, .string yp, .string mp, .string dp] 27 (0, 0)) := by rw [hX]; exact gB
  have kX := Lib.hid (show Kp w3 X by rw [hX]; exact k1.trans (Kp.drew _))
  have q1 : X.cell? ⟨w3.heap.size, 1, none⟩ = some (.string yp) := by simp [World.cell?, gX]
  have f1 : X.frozen? ⟨w3.heap.size, 1, none⟩ = false := by simp [World.frozen?, gX]
  have GX := Lib.hid gX
  have KS := Lib.hid (fun w' (kq : Kp w3 w') => show w'.cell? ⟨w.heap.size, 1, none⟩ = some (.string yp) ∧ Kp w3 w' from ⟨(HB.out w' (K3.out.trans kq)).2.1, kq⟩)
  have hsl := CH.out
  have hst := CT.out
  obtain ⟨za, hza⟩ : ∃ z, yp.extract 0 i = z := ⟨_, rfl⟩
  obtain ⟨zb, hzb⟩ : ∃ z, yp.extract (i + 1) yp.size = z := ⟨_, rfl⟩
  have la : za.size ≤ 4 := by rw [← hza, ByteArray.size_extract]; omega
  have lb : zb.size ≤ 4 := by rw [← hzb, ByteArray.size_extract]; omega
  have l1 : (9223372036854775807 < za.size + 1) = False := by simp; omega
  have l2 : (9223372036854775807 < za.size + 1 + zb.size) = False := by simp; omega
  have wr1 : IntKind.i64.wrap ((i : Int) + 1) = (i : Int) + 1 := by rw [IntKind.wrap_i64]; omega
  rw [hza] at hsl
  rw [hzb] at hst
  have HZA := Lib.hid hza
  have HZB := Lib.hid hzb
  clear hza hzb
  clear gB gX hW1 k1 c0 c1 c2 c3
  refine wp_region_held_drew (S := fun w' => w'.cell? ⟨w.heap.size, 1, none⟩ = some (.string yp) ∧ Kp w3 w') (by kernel_rfl) ?_ (fun hHeld0 => ?_)
  · rw [← hX]; exact KS.out _ kX.out
  rw [← hX] at hHeld0 ⊢
  clear hX
  refine tkV (v := ?_) 0 hR0 ?_ ?_
  rotate_left
  · intro w hSw; (try dsimp only at hSw); go_simp; (try with_reducible rfl)
  (try simp only [Act.put, hR0, xA, xB, xC])
  refine tkV (v := ?_) 1 hR1 ?_ ?_
  rotate_left
  · intro w hSw; (try dsimp only at hSw); go_simp; (try with_reducible rfl)
  (try simp only [Act.put, hR1, xA, xB, xC])
  refine tkV (v := ?_) 2 hR2 ?_ ?_
  rotate_left
  · intro w hSw; (try dsimp only at hSw); go_simp; (try with_reducible rfl)
  (try simp only [Act.put, hR2, xA, xB, xC])
  refine tkV (v := ?_) 3 hR3 ?_ ?_
  rotate_left
  · intro w hSw; (try dsimp only at hSw); go_simp; (try with_reducible rfl)
  (try simp only [Act.put, hR3, xA, xB, xC])
  refine tkV (v := ?_) 4 hR4 ?_ ?_
  rotate_left
  · intro w hSw; (try dsimp only at hSw); go_simp; (try with_reducible rfl)
  (try simp only [Act.put, hR4, xA, xB, xC])
  refine tkV (v := ?_) 5 hR5 ?_ ?_
  rotate_left
  · intro w hSw; (try dsimp only at hSw); go_simp; (try with_reducible rfl)
  (try simp only [Act.put, hR5, xA, xB, xC])
  refine tkV (v := ?_) 6 hR6 ?_ ?_
  rotate_left
  · intro w hSw; (try dsimp only at hSw); go_simp; (try with_reducible rfl)
  (try simp only [Act.put, hR6, xA, xB, xC])
  refine tkV (v := ?_) 7 hR7 ?_ ?_
  rotate_left
  · intro w hSw; (try dsimp only at hSw); go_simp; (try with_reducible rfl)
  (try simp only [Act.put, hR7, xA, xB, xC])
  refine tkV (v := ?_) 8 hR8 ?_ ?_
  rotate_left
  · intro w hSw; (try dsimp only at hSw); go_simp; (try with_reducible rfl)
  (try simp only [Act.put, hR8, xA, xB, xC])
  refine tkV (v := ?_) 9 hR9 ?_ ?_
  rotate_left
  · intro w hSw; (try dsimp only at hSw); go_simp; (try with_reducible rfl)
  (try simp only [Act.put, hR9, xA, xB, xC])
  refine tkV (v := ?_) 10 hR10 ?_ ?_
  rotate_left
  · intro w hSw; (try dsimp only at hSw); go_simp; (try with_reducible rfl)
  (try simp only [Act.put, hR10, xA, xB, xC])
  refine tkV (v := ?_) 11 hR11 ?_ ?_
  rotate_left
  · intro w hSw; (try dsimp only at hSw); go_simp; (try with_reducible rfl)
  (try simp only [Act.put, hR11, xA, xB, xC])
  refine tkE 12 hR12 rfl (by kernel_rfl) (fun K hK => ?_)
  go_simp
  skip
  (try go_wp2_with fail)
  refine hK.out _ _ ?_ (fun hHeld1 => ?_)
  · (try dsimp only); exact KS.out _ (by first | exact kX.out | exact Below.setCell kX.out (p := ⟨w3.heap.size, 1, none⟩) (Nat.le_refl _) _)
  clear hK K hHeld0
  (try simp only [Act.put, hR12, xA, xB, xC])
  refine wpAnyH_done (by kernel_rfl) ?_ _
  have zz : za ++ (⟨#[88]⟩ : ByteArray) ++ zb = z := by rw [← HZA.out, ← HZB.out]; exact HZ.out
  rw [zz]
  obtain ⟨V, hV⟩ : ∃ x, x = X.setCell ⟨w3.heap.size, 1, none⟩ (.string z) := ⟨_, rfl⟩
  have kV : Kp w3 V := by rw [hV]; exact Below.setCell kX.out (p := ⟨w3.heap.size, 1, none⟩) (Nat.le_refl _) _
  have gV : V.heap[w3.heap.size]? = some (.cells #[.int .i64 kp, .string z, .string mp, .string dp] 27 (0, 0)) := by rw [hV]; simp [World.setCell, Array.getElem?_modify, GX.out]
  have v0 : V.cell? ⟨w3.heap.size, 0, none⟩ = some (.int .i64 kp) := by simp [World.cell?, gV]
  have v1 : V.cell? ⟨w3.heap.size, 1, none⟩ = some (.string z) := by simp [World.cell?, gV]
  have v2 : V.cell? ⟨w3.heap.size, 2, none⟩ = some (.string mp) := by simp [World.cell?, gV]
  have v3 : V.cell? ⟨w3.heap.size, 3, none⟩ = some (.string dp) := by simp [World.cell?, gV]
  rw [← hV]
  have KW := Lib.hid (K00.out.trans (K3.out.trans kV))
  have HC := Lib.hid (fun w' (kq : Kp V w') => show w'.cell? ⟨w.heap.size, 0, none⟩ = some (.int .i64 kp) ∧ w'.cell? ⟨w.heap.size, 1, none⟩ = some (.string yp) ∧ w'.cell? ⟨w.heap.size, 2, none⟩ = some (.string mp) ∧ w'.cell? ⟨w.heap.size, 3, none⟩ = some (.string dp) ∧ w'.cell? ⟨w3.heap.size, 0, none⟩ = some (.int .i64 kp) ∧ w'.cell? ⟨w3.heap.size, 1, none⟩ = some (.string z) ∧ w'.cell? ⟨w3.heap.size, 2, none⟩ = some (.string mp) ∧ w'.cell? ⟨w3.heap.size, 3, none⟩ = some (.string dp) from
    have h := HB.out w' (K3.out.trans (kV.trans kq)); ⟨h.1, h.2.1, h.2.2.1, h.2.2.2, cell_up kq v0, cell_up kq v1, cell_up kq v2, cell_up kq v3⟩)
  clear zz q1 f1 hsl hst l1 l2 la lb wr1 GX kX KS hV kV gV v0 v2 v3 HZA HZB HZ CH CT hHeld1
  go_wp2
  go_loopw [8, 9] (fun h x ws => ∃ j : Nat, j ≤ z.size ∧ x = .int .i64 j ∧ h = .int .i64 (hidN z j : Nat) ∧ V = ws) (fun _ x _ => z.size - (intOf x).toNat)
  case atStart => exact ⟨0, Nat.zero_le _, rfl, rfl, rfl⟩
  case round =>
    obtain ⟨j, hj, rfl, rfl, rfl⟩ := hrel
    have nl := hid_le z j
    by_cases hlt : j < z.size
    · have hbt := BT.out j hlt
      have z1 : (j : Int) < (z.size : Int) := by omega
      have z3 : (0 : Int) ≤ (j : Int) := by omega
      have nx : hidN z (j + 1) = if bt z j = 88 then hidN z j + 1 else hidN z j := rfl
      obtain ⟨b, hb⟩ : ∃ u, bt z j = u := ⟨_, rfl⟩
      rw [hb] at hbt nx
      obtain ⟨c, hc⟩ : ∃ u, hidN z j = u := ⟨_, rfl⟩
      rw [hc] at nx nl ⊢
      have HLT := Lib.hid hlt
      by_cases c88 : b = 88
      · have f1 : ((b : Int) == 88) = true := by rw [c88]; rfl
        rw [if_pos c88] at nx
        have NX := Lib.hid nx
        clear c88 hb hc nx
        go_wp2
        go_roundw
        case rel => exact ⟨j + 1, HLT.out, by go_num, by rw [NX.out]; first | go_num | (congr 1; omega), trivial⟩
        case measure => have := HLT.out; simp [intOf]; omega
      · have f1 : ((b : Int) == 88) = false := beq_eq_false_iff_ne.2 (by omega)
        rw [if_neg c88] at nx
        have NX := Lib.hid nx
        clear c88 hb hc nx
        go_wp2
        go_roundw
        case rel => exact ⟨j + 1, HLT.out, by go_num, by rw [NX.out], trivial⟩
        case measure => have := HLT.out; simp [intOf]; omega
    · obtain rfl : j = z.size := by omega
      obtain ⟨c, hc⟩ : ∃ u, hidN z z.size = u := ⟨_, rfl⟩
      rw [hc] at D4 nl ⊢
      clear hlt hj hc v1
      obtain ⟨c0, c1, c2, c3, x0, x1, x2, x3⟩ := HC.out V (Kp.refl _)
      by_cases g : 2 < c
      · have g1 : decide (2 < (c : Int)) = true := decide_eq_true (by omega)
        have g2 : decide ((c : Int) > 2) = true := decide_eq_true (by omega)
        clear g
        have K4 := Lib.hid (Kp.refl V)
        go_wp2_with fail
        refine (SQ.out _ (KW.out.trans (by first | exact K4.out | exact K4.out.trans (Kp.drew _)))).mono ?_
        rintro e w5 ⟨rfl, kk⟩
        have K5 := Lib.hid ((show Kp V _ from (by first | exact K4.out | exact K4.out.trans (Kp.drew _))).trans kk)
        clear kk c0 c1 c2 c3 x0 x1 x2 x3
        obtain ⟨c0, c1, c2, c3, x0, x1, x2, x3⟩ := HC.out w5 K5.out
        go_wp2
        go_ret
        exact ⟨by first | rfl | simp, KW.out.trans K5.out⟩
      · have g1 : decide (2 < (c : Int)) = false := decide_eq_false (by omega)
        have g2 : decide ((c : Int) > 2) = false := decide_eq_false (by omega)
        have d4 := fun h => D4.out h (by omega)
        clear g
        have K4 := Lib.hid (Kp.refl V)
        go_wp2_with fail
        refine (ST1.out _ (KW.out.trans (by first | exact K4.out | exact K4.out.trans (Kp.drew _)))).mono ?_
        rintro e w5 ⟨va, rfl, own5, kk⟩
        have K5 := Lib.hid ((show Kp V _ from (by first | exact K4.out | exact K4.out.trans (Kp.drew _))).trans kk)
        have RA := Lib.hid (runsAt_own own5)
        obtain ⟨aA, cA, rfl⟩ := own_slice own5
        clear own5
        clear kk c0 c1 c2 c3 x0 x1 x2 x3
        obtain ⟨c0, c1, c2, c3, x0, x1, x2, x3⟩ := HC.out w5 K5.out
        go_wp2_with fail
        refine (ST2.out _ (KW.out.trans (by first | exact K5.out | exact K5.out.trans (Kp.drew _)))).mono ?_
        rintro e w6 ⟨vb, rfl, own6, kk⟩
        have K6 := Lib.hid ((show Kp V _ from (by first | exact K5.out | exact K5.out.trans (Kp.drew _))).trans kk)
        have RA := Lib.hid (RA.out.kp (show Kp w5 _ from by first | exact kk | exact (Kp.drew _).trans kk))
        have RB := Lib.hid (runsAt_own own6)
        obtain ⟨aB, cB, rfl⟩ := own_slice own6
        clear own6
        clear kk c0 c1 c2 c3 x0 x1 x2 x3
        obtain ⟨c0, c1, c2, c3, x0, x1, x2, x3⟩ := HC.out w6 K6.out
        go_wp2_with fail
        refine (SQ.out _ (KW.out.trans (by first | exact K6.out | exact K6.out.trans (Kp.drew _)))).mono ?_
        rintro e w7 ⟨rfl, kk⟩
        have K7 := Lib.hid ((show Kp V _ from (by first | exact K6.out | exact K6.out.trans (Kp.drew _))).trans kk)
        try have RA := Lib.hid (RA.out.kp (show Kp w6 _ from by first | exact kk | exact (Kp.drew _).trans kk))
        try have RB := Lib.hid (RB.out.kp (show Kp w6 _ from by first | exact kk | exact (Kp.drew _).trans kk))
        clear kk c0 c1 c2 c3 x0 x1 x2 x3
        obtain ⟨c0, c1, c2, c3, x0, x1, x2, x3⟩ := HC.out w7 K7.out
        rcases D1.out with rfl | rfl
        · rcases D2.out with rfl | rfl
          · obtain ⟨e1, e2⟩ := D3.out rfl rfl
            have e3 : decide (sumR (nf S1) ≤ sumR (nf S2)) = true := decide_eq_true e2
            obtain ⟨u1, hu1⟩ : ∃ u, sumR (nf S1) = u := ⟨_, rfl⟩
            obtain ⟨u2, hu2⟩ : ∃ u, sumR (nf S2) = u := ⟨_, rfl⟩
            rw [hu1] at CC1 e3
            rw [hu2] at CC2 e3
            rw [e1] at CM
            clear e1 e2 hu1 hu2 d4
            go_wp2_with fail
            refine (CM.out _ _ _ RA.out RB.out).mono ?_
            rintro e w8 ⟨vc, rfl, own8, kk⟩
            have K8 := Lib.hid ((show Kp V _ from (by first | exact K7.out | exact K7.out.trans (Kp.drew _))).trans kk)
            try have RA := Lib.hid (RA.out.kp (show Kp w7 _ from by first | exact kk | exact (Kp.drew _).trans kk))
            try have RB := Lib.hid (RB.out.kp (show Kp w7 _ from by first | exact kk | exact (Kp.drew _).trans kk))
            obtain ⟨aC, cC, rfl⟩ := own_slice own8
            clear own8
            clear kk c0 c1 c2 c3 x0 x1 x2 x3
            obtain ⟨c0, c1, c2, c3, x0, x1, x2, x3⟩ := HC.out w8 K8.out
            go_wp2_with fail
            refine (CC1.out _ _ RA.out).mono ?_
            rintro e w9 ⟨rfl, kk⟩
            have K9 := Lib.hid ((show Kp V _ from (by first | exact K8.out | exact K8.out.trans (Kp.drew _))).trans kk)
            try have RA := Lib.hid (RA.out.kp (show Kp w8 _ from by first | exact kk | exact (Kp.drew _).trans kk))
            try have RB := Lib.hid (RB.out.kp (show Kp w8 _ from by first | exact kk | exact (Kp.drew _).trans kk))
            clear kk c0 c1 c2 c3 x0 x1 x2 x3
            obtain ⟨c0, c1, c2, c3, x0, x1, x2, x3⟩ := HC.out w9 K9.out
            go_wp2_with fail
            refine (CC2.out _ _ RB.out).mono ?_
            rintro e w10 ⟨rfl, kk⟩
            have K10 := Lib.hid ((show Kp V _ from (by first | exact K9.out | exact K9.out.trans (Kp.drew _))).trans kk)
            try have RA := Lib.hid (RA.out.kp (show Kp w9 _ from by first | exact kk | exact (Kp.drew _).trans kk))
            try have RB := Lib.hid (RB.out.kp (show Kp w9 _ from by first | exact kk | exact (Kp.drew _).trans kk))
            clear kk c0 c1 c2 c3 x0 x1 x2 x3
            obtain ⟨c0, c1, c2, c3, x0, x1, x2, x3⟩ := HC.out w10 K10.out
            go_wp2
            go_ret
            exact ⟨by first | rfl | simp, KW.out.trans K10.out⟩
          · clear d4
            go_wp2
            go_ret
            exact ⟨by first | rfl | simp, KW.out.trans K7.out⟩
        · rcases D2.out with rfl | rfl
          · have k0 : kp = 0 := by
              by_cases h : kp = 0
              · exact h
              · rcases d4 h with h | h <;> cases h
            subst k0
            clear d4
            go_wp2
            go_ret
            exact ⟨by first | rfl | simp, KW.out.trans K7.out⟩
          · clear d4
            go_wp2
            go_ret
            exact ⟨by first | rfl | simp, KW.out.trans K7.out⟩
theorem pointHidden_walk (p : PT) (n : Int) (w : World) (h1 : -9223372036854775808 ≤ p.k) (h2 : p.k ≤ 9223372036854775807) (h3 : -9223372036854775808 ≤ n) (h4 : n ≤ 9223372036854775807) (T : Tabs8 w) :
    Calls Tryd.prog 4 #[ptV p, .int .i64 n] w fun e w' => e = .returned (.bool true) ∧ Kp w w' := by
  rcases Bool.eq_false_or_eq_true (shortP p) with hs | hs
  · rcases Bool.eq_false_or_eq_true (saneP p) with hS | hS
    · exact hid_m p n w h1 h2 h3 h4 T hs hS
    · exact hid_1 p n w h1 h2 h3 h4 T hs hS
  · exact hid_0 p n w h1 h2 h3 h4 T hs
end Go.Proofs.YtjiikianmjmgcaaDoor

namespace Go.Proofs.YtjiikianmjmgcaaDoor.lawPointHidden
open Go.ChangeShapes Go.WideShapes Go.ChangeAt Go.RowKit
open Go.ChangeMaps (open_string shut_string)
set_option linter.unusedVariables false

theorem own : ownKnob Tryd.prog.godebug = none := by kernel_rfl
theorem laidOut : laidOutB Tryd.prog = true := by kernel_rfl

/-- A world for the witness: the settled one, each table holding what its initialiser lays. -/
noncomputable def laidWorld (os : Os) : World :=
  { World.holding Tryd.prog os ⟨#[], #[], []⟩ with heap := (((((World.holding Tryd.prog os ⟨#[], #[], []⟩).heap.modify 2 fun
      | .cells _ t frozen => .cells #[.int .i64 0, .int .i64 31, .int .i64 28, .int .i64 31, .int .i64 30, .int .i64 31, .int .i64 30, .int .i64 31, .int .i64 31, .int .i64 30, .int .i64 31, .int .i64 30, .int .i64 31] t frozen
      | o => o).modify 3 fun
      | .cells _ t frozen => .cells #[.int .i64 3652425, .int .i64 120000, .int .i64 40000, .int .i64 10000, .int .i64 1000, .int .i64 100] t frozen
      | o => o).modify 0 fun
      | .cells _ t frozen => .cells #[.int .i64 4, .int .i64 2, .int .i64 2, .int .i64 12, .string ⟨#[]⟩, .int .i64 4, .int .i64 2, .int .i64 0, .int .i64 12, .string ⟨#[]⟩, .int .i64 4, .int .i64 1, .int .i64 0, .int .i64 4, .string ⟨#[]⟩, .int .i64 4, .int .i64 0, .int .i64 0, .int .i64 0, .string ⟨#[]⟩, .int .i64 3, .int .i64 0, .int .i64 0, .int .i64 0, .string ⟨#[100]⟩, .int .i64 2, .int .i64 0, .int .i64 0, .int .i64 0, .string ⟨#[99]⟩] t frozen
      | o => o).modify 1 fun
      | .cells _ t frozen => .cells #[.int .i64 3, .int .i64 1, .int .i64 1, .int .i64 2, .int .i64 1, .int .i64 1] t frozen
      | o => o) }
theorem laid_met (os : Os) : laidMet Tryd.prog Rows.pointHiddenRow.laid ((laidWorld os).forCall (fun _ _ => 0) ⟨#[], #[.agg #[.int .i64 0, .string ByteArray.empty, .string ByteArray.empty, .string ByteArray.empty], .int .i64 0], []⟩).memory :=
  laidMet_of_run' 8 (by kernel_rfl) (by kernel_rfl)
theorem reads (os : Os) {H : Type} (enc : TypeId × Value → H) : ∃ places, DataW.whole enc Tryd.prog ((laidWorld os).forCall (fun _ _ => 0) ⟨#[], #[.agg #[.int .i64 0, .string ByteArray.empty, .string ByteArray.empty, .string ByteArray.empty], .int .i64 0], []⟩).memory Tryd.f4.params.toList Rows.pointHiddenSpec.vars false (#[.agg #[.int .i64 0, .string ByteArray.empty, .string ByteArray.empty, .string ByteArray.empty], .int .i64 0] : Array Value).toList 8 = some ([.agg [.lit (.int .i64 0), .lit (.string []), .lit (.string []), .lit (.string [])], .lit (.int .i64 0)], [], places) :=
  ⟨[], by kernel_rfl⟩

set_option maxRecDepth 100000 in
theorem contract (H : Type) (enc : TypeId × Value → H) (W : World) (base : Nat) (args : Array Value) (ds gs : List (DataW H)) (before : List MemPlace)
    (hval : ∀ (j : Nat) t v, Tryd.f4.params[j]? = some t → args[j]? = some v → Value.okWide Tryd.prog W .any base t v)
    (hW : DataW.Whole enc Tryd.prog Tryd.f4.params.toList Rows.pointHiddenSpec.vars false W args.toList ds gs before) (hL : laidMetH Tryd.prog Rows.pointHiddenRow.laid W) :
    Calls Tryd.prog 4 args W fun e W' => ∃ v, e = .returned v ∧ Rows.pointHiddenSpec.post enc Tryd.prog Tryd.f4 false true false false W args v W' := by
  have hW' := hW
  have hltA : ∀ x ∈ before, x.block < W.heap.size := fun x hx => by simpa using hW'.lt x hx
  obtain ⟨p, q, hA0, hV, rfl, hfz, hnd⟩ := hW
  have hA : DataW.TrodAll enc Tryd.prog W 0 (fun _ => true) true Tryd.f4.params.toList args.toList ds p := hA0
  rw [Tryd.params4] at hA hval
  obtain ⟨v0, vs0, d0, ds0, p0, q0, hargs, rfl, rfl, h0, r0⟩ := trodAll_cons hA
  obtain ⟨v1, vs1, d1, ds1, p1, q1, rfl, rfl, rfl, h1, r1⟩ := trodAll_cons r0
  obtain ⟨rfl, rfl, rfl⟩ := trodAll_nil r1
  obtain rfl : args = #[v0, v1] := by cases args; simp_all
  obtain ⟨rfl, rfl⟩ := trodVars_none hV
  have hk0 := h0
  obtain ⟨p0d, rfl, pl0, ph0, py0, pm0, pd0⟩ := open_point (hval 0 27 v0 rfl rfl) h0
  have hk1 := h1
  obtain ⟨a1, rfl, rfl, rfl, w1⟩ := open_int Tryd.underlying3 (hval 1 3 v1 rfl rfl) h1
  clear hA0
  simp only [List.append_nil] at hW'
  refine (pointHidden_walk p0d a1 W pl0 ph0 (wf_bd w1).1 (wf_bd w1).2 (tabs_of hL)).mono fun e W' ⟨he, hg⟩ => ?_
  subst he
  have bel : Below W.heap.size W W' := hg
  exact ⟨_, rfl, _, _, _, [], _, [], hW', trodAll_mk1 (shut_bool Tryd.underlying4 _), (trodAll_cons_mk (Below.trod laidOut (by kernel_rfl) (of_decide_eq_true (by kernel_rfl)) hk0 bel (fun x hx => hltA x (by simp [hx]))) (trodAll_cons_mk (shut_int Tryd.underlying3 w1) trodAll_mk0)), rfl, bel.frame _, fun h => by cases h⟩

set_option maxRecDepth 100000 in
theorem lifted (os : Os) (started : os.Started) (H : Type) (enc : TypeId × Value → H) (F : Stop.Interp) :
    ReturnsInHanded {} Tryd.checked os 4 .any ((OpenSpec.ofChange Rows.pointHiddenSpec).preRow enc Tryd.prog Tryd.f4 Rows.pointHiddenRow.domain false Rows.pointHiddenRow.laid) (((OpenSpec.ofChange Rows.pointHiddenSpec).at F).post enc Tryd.prog Tryd.f4 false true false false) := by
  obtain ⟨places, hx⟩ := reads os enc
  refine returnsInHanded_of_row (C := Tryd.checked) (s := OpenSpec.ofChange Rows.pointHiddenSpec) own started (by kernel_rfl) Tryd.func4
    (witness_row_at (enc := enc) (C := Tryd.checked) false (laidWorld os) #[.agg #[.int .i64 0, .string ByteArray.empty, .string ByteArray.empty, .string ByteArray.empty], .int .i64 0] rfl (by kernel_rfl) (by kernel_rfl) (by kernel_rfl)
      (OpenSpec.preRow_of_cond 8 hx (by kernel_rfl) (fun k hk => by cases hk) (by kernel_rfl) (laid_met os))) ?_
  intro W base args ds gs before hval hW _ hcond _ hL _ _
  exact contract H enc W base args ds gs before hval hW hL

theorem said : Rows.PointHiddenSaid :=
  OpenClaim.holds_of_cond 4 Tryd.f4 rfl rfl rfl rfl rfl rfl rfl ⟨rfl, rfl, rfl, rfl, rfl⟩ rfl rfl rfl rfl rfl (by kernel_rfl) Tryd.func4 (by kernel_rfl)
    (of_decide_eq_true (by kernel_rfl)) (by unfold Func.isWrapper; first | (rw [if_pos (by decide +kernel)]; kernel_rfl) | (rw [if_neg (by decide +kernel)]; exact ⟨rfl, rfl⟩))
    (fun os started H enc _ F => by rw [OpenClaim.pre_eq_preRow]; exact lifted os started H enc F)

theorem plain (f : FuncId) (fn : Func) (hf : Tryd.pinned.checked.prog.funcNamed "lustrum/lustrumlaw08.PointHidden" = some f) (hfn : Tryd.pinned.checked.prog.funcs[f]? = some fn) :
    false = Tryd.pinned.checked.prog.looks [] ∧ ∀ (j : Nat) t, fn.params[j]? = some t → Tryd.pinned.checked.prog.wantsStandIn t = false := by
  obtain rfl : f = 4 := Option.some.inj ((show Tryd.prog.funcNamed "lustrum/lustrumlaw08.PointHidden" = some 4 by kernel_rfl).symm.trans hf) |>.symm
  obtain rfl : fn = Tryd.f4 := (Option.some.inj (Tryd.func4.symm.trans hfn)).symm
  refine ⟨by kernel_rfl, fun j t ht => ?_⟩
  rw [Tryd.params4] at ht
  have hm := Array.mem_of_getElem? ht
  have ho : t = 27 ∨ t = 3 := by first | simpa using hm | (simp at hm; rcases hm with h | h <;> simp [h])
  rcases ho with rfl | rfl
  · exact (show Tryd.prog.wantsStandIn 27 = false by kernel_rfl)
  · exact (show Tryd.prog.wantsStandIn 3 = false by kernel_rfl)

/-- THE CARD. -/
theorem proved : Rows.PointHiddenCardSaid :=
  Claim7.holds_tied_plain_at .later [] _ _ _ _ said (fun _ h => by cases h) (by kernel_rfl) (fun _ h => by cases h) pointHidden_row_tie rfl ⟨rfl, rfl⟩ (by kernel_rfl) rfl plain (by kernel_rfl)
#print axioms proved
end Go.Proofs.YtjiikianmjmgcaaDoor.lawPointHidden
