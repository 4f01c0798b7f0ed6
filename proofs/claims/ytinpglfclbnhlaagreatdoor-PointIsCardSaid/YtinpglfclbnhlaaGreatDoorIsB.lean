/-
  Layer 8: of PointIs, plain mathematics: the reference's units of a kind but 0 are the program's numbers.
-/
import Derived.Test.YtinpglfclbnhlaaGreatDoorIsA
import Derived.Test.YtinpglfclbnhlaaGreatDoorHidB
namespace Go.Proofs.YtinpglfclbnhlaaGreatDoor
open Go.RowKit
set_option linter.unusedVariables false
set_option linter.unusedSimpArgs false
/-- a number behind a set -/
def putI (l : List R) (n : Int) : List R := if l = [] then [(n, n)] else if (l.getLastD (0, 0)).2 = n - 1 then l.dropLast ++ [((l.getLastD (0, 0)).1, n)] else l ++ [(n, n)]
theorem is_put {l : List R} {n : Int} (h : ∀ q ∈ l, q.2 < n) : putI l n = gstep l (n, n) := by
  unfold putI gstep
  by_cases e : l = []
  · rw [if_pos e, if_pos e]
  · rw [if_neg e, if_neg e]
    have hl : l.getLastD (0, 0) ∈ l := by
      rw [List.getLastD_eq_getLast?, List.getLast?_eq_some_getLast e]
      exact List.getLast_mem e
    have := h _ hl
    by_cases c : (l.getLastD (0, 0)).2 = n - 1
    · rw [if_pos c, if_pos (by simp only; omega)]
    · rw [if_neg c, if_neg (by simp only; omega)]
theorem is_sing_snoc (l : List Int) (n : Int) : sing (l ++ [n]) = sing l ++ [(n, n)] := by unfold sing; simp
theorem is_puts : ∀ (L pre : List Int), (pre ++ L).Pairwise (fun a b => a < b) → L.foldl putI (gn (sing pre)) = gn (sing (pre ++ L))
  | [], pre, _ => by rw [List.append_nil]; rfl
  | n :: t, pre, h => by
    have hp := List.pairwise_append.1 h
    have e : putI (gn (sing pre)) n = gn (sing (pre ++ [n])) := by
      rw [is_put (fun q hq => ?_), is_sing_snoc, gn_snoc]
      obtain ⟨r, hr, e⟩ := gn_hi (sing pre) q hq
      unfold sing at hr
      obtain ⟨x, hx, rfl⟩ := List.mem_map.1 hr
      have := hp.2.2 x hx n (by simp)
      simp only at e
      omega
    rw [List.foldl_cons, e, is_puts t (pre ++ [n]) (by rw [List.append_assoc]; exact h), List.append_assoc]
    rfl
theorem is_apt {L : List Int} (h : L.Pairwise (fun a b => a < b)) : apt (sing L) := by
  unfold apt sing
  exact List.Pairwise.map _ (fun a b h => h) h
/-- the numbers of a set made number by number -/
theorem is_set {L : List Int} (h : L.Pairwise (fun a b => a < b)) (b : ∀ n ∈ L, -1000000000 ≤ n ∧ n ≤ 1000000000) : L.foldl putI [] = nf (sing L) := by
  have := is_puts L [] (by simpa using h)
  rw [List.nil_append] at this
  rw [show ([] : List R) = gn (sing []) from rfl, this]
  refine gn_nf (fun r hr => ?_) (is_apt h)
  unfold sing at hr
  obtain ⟨x, hx, rfl⟩ := List.mem_map.1 hr
  have := b x hx
  exact ⟨Int.le_refl _, by simp only; omega, by simp only; omega⟩
theorem is_mem {L : List Int} (b : ∀ n ∈ L, -1000000000 ≤ n ∧ n ≤ 1000000000) (n : Int) : memR (nf (sing L)) n ↔ n ∈ L := by
  rw [nf_mem, sing_mem]
  exact ⟨fun h => h.1, fun h => ⟨h, by have := b n h; omega⟩⟩
/-- the numbers from one to another that match -/
def numsL (s : ByteArray) (a b : Int) : List Int := (upL a (b - a + 1).toNat).filter fun n => matchM s n
theorem is_up (a : Int) (j : Nat) (n : Int) : n ∈ upL a j ↔ a ≤ n ∧ n < a + j := by
  unfold upL
  rw [List.mem_map]
  constructor
  · rintro ⟨i, hi, rfl⟩
    have := List.mem_range.1 hi
    omega
  · intro h
    exact ⟨(n - a).toNat, List.mem_range.2 (by omega), by omega⟩
theorem is_num {s : ByteArray} {a b n : Int} : n ∈ numsL s a b ↔ (a ≤ n ∧ n ≤ b) ∧ matchM s n = true := by
  unfold numsL
  rw [List.mem_filter, is_up]
  by_cases h : a ≤ n ∧ n ≤ b
  · exact ⟨fun g => ⟨h, g.2⟩, fun g => ⟨by omega, g.2⟩⟩
  · exact ⟨fun g => ⟨by omega, g.2⟩, fun g => absurd g.1 h⟩
theorem is_num_lt (s : ByteArray) (a b : Int) : (numsL s a b).Pairwise (fun a b => a < b) := by
  unfold numsL upL
  refine List.Pairwise.filter _ ?_
  exact List.Pairwise.map _ (fun a b h => by omega) List.pairwise_lt_range
/-- the reference's numbers of a kind but 0 -/
def unL (p : PT) : List Int :=
  if p.k = 1 then (numsL p.y 0 9999).flatMap fun y => (numsL p.m 1 12).map fun m => y * 12 + m - 1
  else if p.k = 2 then (numsL p.y 0 9999).flatMap fun y => (numsL p.m 1 4).map fun m => y * 4 + m - 1 else numsL p.y 0 9999
theorem is_parts_lt {Y M : List Int} {per : Int} (hp : per = 12 ∨ per = 4) (hy : Y.Pairwise (fun a b => a < b)) (hm : M.Pairwise (fun a b => a < b)) (bm : ∀ m ∈ M, 1 ≤ m ∧ m ≤ per) :
    (Y.flatMap fun y => M.map fun m => y * per + m - 1).Pairwise (fun a b => a < b) := by
  induction Y with
  | nil => exact List.Pairwise.nil
  | cons y t ih =>
    rw [List.flatMap_cons]
    obtain ⟨h1, h2⟩ := List.pairwise_cons.1 hy
    refine List.pairwise_append.2 ⟨List.Pairwise.map _ (fun a b h => by omega) hm, ih h2, fun a ha b hb => ?_⟩
    obtain ⟨m, hm1, rfl⟩ := List.mem_map.1 ha
    obtain ⟨y2, hy2, hb2⟩ := List.mem_flatMap.1 hb
    obtain ⟨m2, hm2, rfl⟩ := List.mem_map.1 hb2
    have := h1 y2 hy2
    have := bm m hm1
    have := bm m2 hm2
    rcases hp with rfl | rfl <;> omega
theorem is_un_lt (p : PT) : (unL p).Pairwise (fun a b => a < b) := by
  unfold unL
  split
  · exact is_parts_lt (.inl rfl) (is_num_lt _ _ _) (is_num_lt _ _ _) (fun m hm => (is_num.1 hm).1)
  · split
    · exact is_parts_lt (.inr rfl) (is_num_lt _ _ _) (is_num_lt _ _ _) (fun m hm => (is_num.1 hm).1)
    · exact is_num_lt _ _ _
theorem is_mt_bd {s : ByteArray} {n : Int} (h : matchM s n = true) : 0 ≤ n ∧ n ≤ 9999 := by
  obtain ⟨r, hr, a, b⟩ := (setM_in s n).2 h
  have := setM_inn s r hr
  omega
theorem is_un_in {p : PT} (h0 : p.k ≠ 0) (n : Int) : n ∈ unL p ↔ inU p n = true := by
  unfold unL inU
  rw [if_neg h0]
  by_cases h1 : p.k = 1
  · rw [if_pos h1, if_pos h1]
    simp only [List.mem_flatMap, List.mem_map, is_num, Bool.and_eq_true, decide_eq_true_eq]
    constructor
    · rintro ⟨y, ⟨a, b⟩, m, ⟨c, e⟩, rfl⟩
      rw [show (y * 12 + m - 1) / 12 = y by omega, show (y * 12 + m - 1) % 12 + 1 = m by omega]
      exact ⟨by omega, b, e⟩
    · rintro ⟨a, b, c⟩
      have := is_mt_bd b
      exact ⟨_, ⟨by omega, b⟩, _, ⟨by omega, c⟩, by omega⟩
  · rw [if_neg h1, if_neg h1]
    by_cases h2 : p.k = 2
    · rw [if_pos h2, if_pos h2]
      simp only [List.mem_flatMap, List.mem_map, is_num, Bool.and_eq_true, decide_eq_true_eq]
      constructor
      · rintro ⟨y, ⟨a, b⟩, m, ⟨c, e⟩, rfl⟩
        rw [show (y * 4 + m - 1) / 4 = y by omega, show (y * 4 + m - 1) % 4 + 1 = m by omega]
        exact ⟨by omega, b, e⟩
      · rintro ⟨a, b, c⟩
        have := is_mt_bd b
        exact ⟨_, ⟨by omega, b⟩, _, ⟨by omega, c⟩, by omega⟩
    · rw [if_neg h2, if_neg h2, is_num]
      exact ⟨fun h => h.2, fun h => ⟨is_mt_bd h, h⟩⟩
theorem is_un_bd {p : PT} (n : Int) (h : n ∈ unL p) : -1000000000 ≤ n ∧ n ≤ 1000000000 := by
  unfold unL at h
  split at h
  · simp only [List.mem_flatMap, List.mem_map, is_num] at h
    obtain ⟨y, ⟨a, b⟩, m, ⟨c, e⟩, rfl⟩ := h
    omega
  · split at h
    · simp only [List.mem_flatMap, List.mem_map, is_num] at h
      obtain ⟨y, ⟨a, b⟩, m, ⟨c, e⟩, rfl⟩ := h
      omega
    · have := (is_num.1 h).1
      omega
/-- where the program's count of runs allows it, its numbers are the reference's -/
theorem is_numR {p : PT} (hs : saneP p = true) (hb : numB p = true) (h0 : p.k ≠ 0) : numR p = (unL p).foldl putI [] := by
  rw [is_set (is_un_lt p) (fun n h => is_un_bd n h)]
  refine sane_ext (numR_sane p) (nf_sane _) fun n => ?_
  rw [hd_mem (numR_sane p), numR_in hs hb, is_mem (fun n h => is_un_bd n h), is_un_in h0]
end Go.Proofs.YtinpglfclbnhlaaGreatDoor
