/-
  Layer 8, in plain lists: the numbers of a point's units, run by run.
-/
import Derived.Test.YtinpglfclbnhlaaGreatDoorGBa
import Derived.Test.YtinpglfclbnhlaaGreatDoorGUnit
namespace Go.Proofs.YtinpglfclbnhlaaGreatDoor
set_option linter.unusedVariables false
set_option linter.unusedSimpArgs false
/-- what is added to a growing set -/
def gstep (a : List R) (r : R) : List R :=
  if a = [] then [r] else if r.1 ≤ (a.getLastD (0, 0)).2 + 1 then a.dropLast ++ [((a.getLastD (0, 0)).1, r.2)] else a ++ [r]
def gn (l : List R) : List R := l.foldl gstep []
theorem gn_snoc (l : List R) (r : R) : gn (l ++ [r]) = gstep (gn l) r := by unfold gn; simp
theorem gstep_snoc (b : List R) (q r : R) : gstep (b ++ [q]) r = if r.1 ≤ q.2 + 1 then b ++ [(q.1, r.2)] else b ++ [q] ++ [r] := by
  unfold gstep; simp
theorem gstep_ge (a : List R) (r : R) : a.length ≤ (gstep a r).length ∧ (gstep a r).length ≤ a.length + 1 := by
  rcases snoc_cases a with rfl | ⟨b, q, rfl⟩
  · simp [gstep]
  · rw [gstep_snoc]; split <;> simp
theorem gn_pre {p l : List R} (h : p <+: l) : (gn p).length ≤ (gn l).length := by
  obtain ⟨t, rfl⟩ := h
  have : ∀ (t a : List R), a.length ≤ (t.foldl gstep a).length := by
    intro t
    induction t with
    | nil => intro a; exact Nat.le_refl _
    | cons r t ih => intro a; exact Nat.le_trans (gstep_ge a r).1 (ih _)
  unfold gn
  rw [List.foldl_append]
  exact this t _
/-- runs that rise, each behind the others -/
def apt (l : List R) : Prop := l.Pairwise fun a b => a.2 < b.1
theorem apt_rises {l : List R} (h : apt l) (o : ∀ r ∈ l, okR r) : rises l := by
  unfold rises
  refine List.Pairwise.imp_of_mem ?_ h
  intro a b ha hb hab
  have := (o a ha).1
  omega
theorem gn_jn : ∀ l : List R, (∀ r ∈ l, okR r) → apt l → gn l = jn l := by
  refine snoc_ind ?_ ?_
  · intro _ _; rfl
  · intro l r ih ho ha
    have ha2 := List.pairwise_append.1 ha
    have ho2 : ∀ x ∈ l, okR x := fun x hx => ho x (List.mem_append_left _ hx)
    have e := ih ho2 ha2.1
    rw [gn_snoc, jn_snoc, e]
    rcases snoc_cases (jn l) with e2 | ⟨b, q, e2⟩
    · rw [e2]; rfl
    · rw [e2, gstep_snoc, jstep_snoc]
      split
      · obtain ⟨s1, s2, _⟩ := jn_ok l ho2 (apt_rises ha2.1 ho2)
        have hq : okR q := by
          have := jn_all l ho2 q (by rw [e2]; simp)
          exact this
        have hm : memR (jn l) q.2 := by
          rw [e2, memR_append]
          exact .inr ⟨q, by simp, hq.1, Int.le_refl _, by have := hq.1; have := hq.2.1; omega, hq.2.2⟩
        obtain ⟨a, ha3, _, h4, _⟩ := (s2 q.2).1 hm
        have h5 := ha2.2.2 a ha3 r (by simp)
        have h6 := (ho r (by simp)).1
        rw [Int.max_eq_right (by omega)]
      · rfl
theorem gn_nf {l : List R} (o : ∀ r ∈ l, okR r) (a : apt l) : gn l = nf l := by
  rw [gn_jn l o a]
  obtain ⟨s, m, _⟩ := jn_ok l o (apt_rises a o)
  exact (nf_eq s m).symm
/-- the numbers of a run, as runs of one -/
def ofR (r : R) : List Int := (List.range (r.2 - r.1 + 1).toNat).map fun (i : Nat) => r.1 + (i : Int)
theorem ofR_mem (r : R) (n : Int) : n ∈ ofR r ↔ r.1 ≤ n ∧ n ≤ r.2 := by
  unfold ofR
  rw [List.mem_map]
  constructor
  · rintro ⟨i, hi, rfl⟩
    have := List.mem_range.1 hi
    omega
  · intro h
    exact ⟨(n - r.1).toNat, List.mem_range.2 (by omega), by omega⟩
theorem ofR_up (r : R) : (ofR r).Pairwise (· < ·) := by
  unfold ofR
  rw [List.pairwise_map]
  refine List.Pairwise.imp ?_ List.pairwise_lt_range
  intro a b h
  omega
/-- parts of a year's number -/
def partR (most : Int) (parts : List R) (y : Int) : List R := parts.map fun q => (most * y + q.1 - 1, most * y + q.2 - 1)
def partY (most : Int) (parts : List R) (r : R) : List R := if parts = [(1, most)] then [(most * r.1, most * r.2 + most - 1)] else (ofR r).flatMap (partR most parts)
def partsL (most : Int) (years parts : List R) : List R := years.flatMap (partY most parts)
/-- runs from a number to another -/
def Inn (a b : Int) (l : List R) : Prop := ∀ r ∈ l, a ≤ r.1 ∧ r.1 ≤ r.2 ∧ r.2 ≤ b
theorem partY_in {most : Int} {parts : List R} (hm : most = 12 ∨ most = 4) (hp : Inn 1 most parts) {r : R} (h0 : 0 ≤ r.1) (h1 : r.1 ≤ r.2) (h9 : r.2 ≤ 9999) : ∀ q ∈ partY most parts r, most * r.1 ≤ q.1 ∧ q.1 ≤ q.2 ∧ q.2 ≤ most * r.2 + most - 1 := by
  intro q hq
  unfold partY at hq
  split at hq
  · rw [List.mem_singleton.1 hq]
    rcases hm with rfl | rfl <;> (simp only; omega)
  · obtain ⟨y, hy, hq⟩ := List.mem_flatMap.1 hq
    unfold partR at hq
    obtain ⟨d, hd, rfl⟩ := List.mem_map.1 hq
    have := (ofR_mem r y).1 hy
    have := hp d hd
    rcases hm with rfl | rfl <;> (simp only; omega)
theorem partY_mem {most : Int} {parts : List R} (hm : most = 12 ∨ most = 4) (hp : Inn 1 most parts) {r : R} (h0 : 0 ≤ r.1) (h1 : r.1 ≤ r.2) (h9 : r.2 ≤ 9999) (n : Int) :
    (∃ q ∈ partY most parts r, q.1 ≤ n ∧ n ≤ q.2) ↔ ∃ y m, r.1 ≤ y ∧ y ≤ r.2 ∧ (∃ d ∈ parts, d.1 ≤ m ∧ m ≤ d.2) ∧ n = most * y + m - 1 := by
  unfold partY
  split
  · rename_i e
    subst e
    constructor
    · rintro ⟨q, hq, g1, g2⟩
      rw [List.mem_singleton.1 hq] at g1 g2
      refine ⟨n / most, n % most + 1, ?_, ?_, ⟨_, List.mem_singleton.2 rfl, ?_, ?_⟩, ?_⟩ <;> rcases hm with rfl | rfl <;> (simp only at *; omega)
    · rintro ⟨y, m, a1, a2, ⟨d, hd, a3, a4⟩, rfl⟩
      rw [List.mem_singleton.1 hd] at a3 a4
      refine ⟨_, List.mem_singleton.2 rfl, ?_, ?_⟩ <;> rcases hm with rfl | rfl <;> (simp only at *; omega)
  · constructor
    · rintro ⟨q, hq, g1, g2⟩
      obtain ⟨y, hy, hq⟩ := List.mem_flatMap.1 hq
      unfold partR at hq
      obtain ⟨d, hd, rfl⟩ := List.mem_map.1 hq
      have := (ofR_mem r y).1 hy
      simp only at g1 g2
      exact ⟨y, n - most * y + 1, this.1, this.2, ⟨d, hd, by omega, by omega⟩, by omega⟩
    · rintro ⟨y, m, a1, a2, ⟨d, hd, a3, a4⟩, rfl⟩
      exact ⟨_, List.mem_flatMap.2 ⟨y, (ofR_mem r y).2 ⟨a1, a2⟩, List.mem_map.2 ⟨d, hd, rfl⟩⟩, by simp only; omega, by simp only; omega⟩
theorem partsL_in {most : Int} {years parts : List R} (hm : most = 12 ∨ most = 4) (hp : Inn 1 most parts) (hy : Inn 0 9999 years) : Inn 0 (most * 10000 - 1) (partsL most years parts) := by
  intro q hq
  obtain ⟨r, hr, hq⟩ := List.mem_flatMap.1 hq
  have h := hy r hr
  have := partY_in hm hp h.1 h.2.1 h.2.2 q hq
  rcases hm with rfl | rfl <;> omega
theorem partsL_apt {most : Int} {years parts : List R} (hm : most = 12 ∨ most = 4) (hp : Inn 1 most parts) (hy : Inn 0 9999 years) (ap : apt parts) (ay : apt years) : apt (partsL most years parts) := by
  unfold apt partsL
  rw [List.pairwise_flatMap]
  constructor
  · intro r hr
    have h := hy r hr
    unfold partY
    split
    · exact List.pairwise_singleton _ _
    · rw [List.pairwise_flatMap]
      constructor
      · intro y hyy
        unfold partR
        rw [List.pairwise_map]
        refine List.Pairwise.imp ?_ ap
        intro a b hab
        simp only
        omega
      · refine List.Pairwise.imp ?_ (ofR_up r)
        intro y z hyz a ha b hb
        unfold partR at ha hb
        obtain ⟨d, hd, rfl⟩ := List.mem_map.1 ha
        obtain ⟨e, he, rfl⟩ := List.mem_map.1 hb
        have h1 := hp d hd
        have h2 := hp e he
        rcases hm with rfl | rfl <;> (simp only; omega)
  · refine List.Pairwise.imp_of_mem ?_ ay
    intro r s hr hs hrs a ha b hb
    have h1 := hy r hr
    have h2 := hy s hs
    have h3 := partY_in hm hp h1.1 h1.2.1 h1.2.2 a ha
    have h4 := partY_in hm hp h2.1 h2.2.1 h2.2.2 b hb
    rcases hm with rfl | rfl <;> omega
theorem partsL_mem {most : Int} {years parts : List R} (hm : most = 12 ∨ most = 4) (hp : Inn 1 most parts) (hy : Inn 0 9999 years) (n : Int) :
    (∃ q ∈ partsL most years parts, q.1 ≤ n ∧ n ≤ q.2) ↔ ∃ y m, (∃ r ∈ years, r.1 ≤ y ∧ y ≤ r.2) ∧ (∃ d ∈ parts, d.1 ≤ m ∧ m ≤ d.2) ∧ n = most * y + m - 1 := by
  constructor
  · rintro ⟨q, hq, g⟩
    obtain ⟨r, hr, hq⟩ := List.mem_flatMap.1 hq
    have h := hy r hr
    obtain ⟨y, m, a1, a2, a3, a4⟩ := (partY_mem hm hp h.1 h.2.1 h.2.2 n).1 ⟨q, hq, g⟩
    exact ⟨y, m, ⟨r, hr, a1, a2⟩, a3, a4⟩
  · rintro ⟨y, m, ⟨r, hr, a1, a2⟩, a3, a4⟩
    have h := hy r hr
    obtain ⟨q, hq, g⟩ := (partY_mem hm hp h.1 h.2.1 h.2.2 n).2 ⟨y, m, a1, a2, a3, a4⟩
    exact ⟨q, List.mem_flatMap.2 ⟨r, hr, hq⟩, g⟩
/-- the known days of a month, as far as it has them -/
def dayM (known : List R) (m : Int) : List R := known.flatMap fun d => if mon m + d.1 - 1 ≤ mon (m + 1) - 1 then [(mon m + d.1 - 1, min (mon m + d.2 - 1) (mon (m + 1) - 1))] else []
def daysL (months known : List R) : List R := months.flatMap fun r => (ofR r).flatMap (dayM known)
theorem dayM_in {known : List R} (hk : Inn 1 31 known) {m : Int} : ∀ q ∈ dayM known m, mon m ≤ q.1 ∧ q.1 ≤ q.2 ∧ q.2 ≤ mon (m + 1) - 1 := by
  intro q hq
  unfold dayM at hq
  obtain ⟨d, hd, hq⟩ := List.mem_flatMap.1 hq
  have h := hk d hd
  split at hq
  · rw [List.mem_singleton.1 hq]
    simp only
    omega
  · cases hq
theorem daysL_in {months known : List R} (hk : Inn 1 31 known) (hm : Inn 0 119999 months) : Inn 0 3652424 (daysL months known) := by
  intro q hq
  obtain ⟨r, hr, hq⟩ := List.mem_flatMap.1 hq
  obtain ⟨m, hmm, hq⟩ := List.mem_flatMap.1 hq
  have h := hm r hr
  have h2 := (ofR_mem r m).1 hmm
  have h3 := dayM_in hk q hq
  have h4 := mon_le 0 m (Int.le_refl _) (by omega)
  have h5 := mon_le (m + 1) 120000 (by omega) (by omega)
  rw [mon_0] at h4
  rw [mon_end] at h5
  omega
theorem daysL_apt {months known : List R} (hk : Inn 1 31 known) (hm : Inn 0 119999 months) (ak : apt known) (am : apt months) : apt (daysL months known) := by
  unfold apt daysL
  rw [List.pairwise_flatMap]
  constructor
  · intro r hr
    have h := hm r hr
    rw [List.pairwise_flatMap]
    constructor
    · intro m hmm
      unfold dayM
      rw [List.pairwise_flatMap]
      constructor
      · intro d hd
        split
        · exact List.pairwise_singleton _ _
        · exact List.Pairwise.nil
      · refine List.Pairwise.imp ?_ ak
        intro d e hde a ha b hb
        split at ha
        · split at hb
          · rw [List.mem_singleton.1 ha, List.mem_singleton.1 hb]
            simp only
            omega
          · cases hb
        · cases ha
    · refine List.Pairwise.imp_of_mem ?_ (ofR_up r)
      intro m n hm1 hn1 hmn a ha b hb
      have h1 := dayM_in hk a ha
      have h2 := dayM_in hk b hb
      have h3 := (ofR_mem r m).1 hm1
      have := mon_le (m + 1) n (by omega) (by omega)
      omega
  · refine List.Pairwise.imp_of_mem ?_ am
    intro r s hr hs hrs a ha b hb
    obtain ⟨m, hm1, ha⟩ := List.mem_flatMap.1 ha
    obtain ⟨n, hn1, hb⟩ := List.mem_flatMap.1 hb
    have h1 := dayM_in hk a ha
    have h2 := dayM_in hk b hb
    have h3 := (ofR_mem r m).1 hm1
    have h4 := (ofR_mem s n).1 hn1
    have h5 := hm r hr
    have := mon_le (m + 1) n (by omega) (by omega)
    omega
theorem daysL_mem {months known : List R} (hk : Inn 1 31 known) (n : Int) :
    (∃ q ∈ daysL months known, q.1 ≤ n ∧ n ≤ q.2) ↔ ∃ m d, (∃ r ∈ months, r.1 ≤ m ∧ m ≤ r.2) ∧ (∃ e ∈ known, e.1 ≤ d ∧ d ≤ e.2) ∧ n = mon m + d - 1 ∧ n ≤ mon (m + 1) - 1 := by
  constructor
  · rintro ⟨q, hq, g1, g2⟩
    obtain ⟨r, hr, hq⟩ := List.mem_flatMap.1 hq
    obtain ⟨m, hmm, hq⟩ := List.mem_flatMap.1 hq
    unfold dayM at hq
    obtain ⟨d, hd, hq⟩ := List.mem_flatMap.1 hq
    split at hq
    · rw [List.mem_singleton.1 hq] at g1 g2
      simp only at g1 g2
      exact ⟨m, n - mon m + 1, ⟨r, hr, (ofR_mem r m).1 hmm⟩, ⟨d, hd, by omega, by omega⟩, by omega, by omega⟩
    · cases hq
  · rintro ⟨m, d, ⟨r, hr, a1⟩, ⟨e, he, a2, a3⟩, rfl, a4⟩
    refine ⟨(mon m + e.1 - 1, min (mon m + e.2 - 1) (mon (m + 1) - 1)), List.mem_flatMap.2 ⟨r, hr, List.mem_flatMap.2 ⟨m, (ofR_mem r m).2 a1, ?_⟩⟩, ?_, ?_⟩
    · unfold dayM
      refine List.mem_flatMap.2 ⟨e, he, ?_⟩
      rw [if_pos (by omega)]
      exact List.mem_singleton.2 rfl
    · simp only; omega
    · simp only; omega
/-- those of the parts of a year that have a day in some year -/
def longM (d : Int) (m : Int) : List R := if mon m - 1 - mon (m - 1) + 1 ≥ d then [(m, m)] else []
def longR (parts : List R) (d : Int) : List R := parts.flatMap fun r => (ofR r).flatMap (longM d)
theorem longR_in {parts : List R} {d a b : Int} (h : Inn a b parts) : Inn a b (longR parts d) := by
  intro q hq
  obtain ⟨r, hr, hq⟩ := List.mem_flatMap.1 hq
  obtain ⟨m, hm, hq⟩ := List.mem_flatMap.1 hq
  unfold longM at hq
  split at hq
  · rw [List.mem_singleton.1 hq]
    have := h r hr
    have := (ofR_mem r m).1 hm
    simp only
    omega
  · cases hq
theorem longR_apt {parts : List R} {d : Int} (h : apt parts) : apt (longR parts d) := by
  unfold apt longR
  rw [List.pairwise_flatMap]
  constructor
  · intro r hr
    rw [List.pairwise_flatMap]
    constructor
    · intro m hm
      unfold longM
      split
      · exact List.pairwise_singleton _ _
      · exact List.Pairwise.nil
    · refine List.Pairwise.imp ?_ (ofR_up r)
      intro m n hmn a ha b hb
      unfold longM at ha hb
      split at ha
      · split at hb
        · rw [List.mem_singleton.1 ha, List.mem_singleton.1 hb]; exact hmn
        · cases hb
      · cases ha
  · refine List.Pairwise.imp ?_ h
    intro r s hrs a ha b hb
    obtain ⟨m, hm, ha⟩ := List.mem_flatMap.1 ha
    obtain ⟨n, hn, hb⟩ := List.mem_flatMap.1 hb
    have := (ofR_mem r m).1 hm
    have := (ofR_mem s n).1 hn
    unfold longM at ha hb
    split at ha
    · split at hb
      · rw [List.mem_singleton.1 ha, List.mem_singleton.1 hb]; simp only; omega
      · cases hb
    · cases ha
theorem longR_mem (parts : List R) (d m : Int) : (∃ q ∈ longR parts d, q.1 ≤ m ∧ m ≤ q.2) ↔ (∃ r ∈ parts, r.1 ≤ m ∧ m ≤ r.2) ∧ mon m - 1 - mon (m - 1) + 1 ≥ d := by
  constructor
  · rintro ⟨q, hq, g1, g2⟩
    obtain ⟨r, hr, hq⟩ := List.mem_flatMap.1 hq
    obtain ⟨k, hk, hq⟩ := List.mem_flatMap.1 hq
    unfold longM at hq
    split at hq
    · rename_i h
      rw [List.mem_singleton.1 hq] at g1 g2
      simp only at g1 g2
      have : k = m := by omega
      subst this
      exact ⟨⟨r, hr, (ofR_mem r k).1 hk⟩, h⟩
    · cases hq
  · rintro ⟨⟨r, hr, a⟩, h⟩
    refine ⟨(m, m), List.mem_flatMap.2 ⟨r, hr, List.mem_flatMap.2 ⟨m, (ofR_mem r m).2 a, ?_⟩⟩, Int.le_refl _, Int.le_refl _⟩
    unfold longM
    rw [if_pos h]
    exact List.mem_singleton.2 rfl
end Go.Proofs.YtinpglfclbnhlaaGreatDoor
