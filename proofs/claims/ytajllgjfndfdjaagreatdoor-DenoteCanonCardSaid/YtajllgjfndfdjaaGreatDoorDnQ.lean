import Derived.Test.YtajllgjfndfdjaaGreatDoorGDn
import Derived.Test.YtajllgjfndfdjaaGreatDoorGCnB
namespace Go.Proofs.YtajllgjfndfdjaaGreatDoor
set_option linter.unusedVariables false
set_option linter.unusedSimpArgs false
mutual
theorem dnE_fl : ∀ n : ND, dnE n = 0 ↔ ∀ y ∈ flR n, dnE y = 0
 | .mk k p a t l => by
  by_cases hk : k = 2
  ·subst hk
   rw [flR_2, ← dnEL_fl l]
   simp only [dnE]
   first | rw [if_neg (by decide), if_pos trivial] | rw [if_neg (by decide), if_pos rfl]
  ·rw [flR_k hk]
   simp
theorem dnEL_fl : ∀ l : List ND, dnEL l = 0 ↔ ∀ y ∈ flRL l, dnE y = 0
 | [] => by simp [dnEL, flRL]
 | x :: l => by
  rw [dnEL_zero]
  have e : flRL (x :: l) = flR x ++ flRL l := by simp only [flRL]
  rw [e]
  constructor
  ·intro h y hy
   rcases List.mem_append.1 hy with hy | hy
   ·exact (dnE_fl x).1 (h x (by simp)) y hy
   ·exact (dnEL_fl l).1 (dnEL_zero.2 fun z hz => h z (by simp [hz])) y hy
  ·intro h y hy
   rcases List.mem_cons.1 hy with he | hy
   ·rw [he]
    exact (dnE_fl x).2 fun z hz => h z (List.mem_append.2 (.inl hz))
   ·exact dnEL_zero.1 ((dnEL_fl l).2 fun z hz => h z (List.mem_append.2 (.inr hz))) y hy
end
theorem flM : ∀ l : List ND, flRL l = l.flatMap flR
 | [] => rfl
 | x :: l => by simp only [flRL, flM l, List.flatMap_cons]
mutual
theorem dnS_fl : ∀ n : ND, dnS n = (flR n).flatMap dnS
 | .mk k p a t l => by
  by_cases hk : k = 2
  ·subst hk
   rw [flR_2, ← dnSL_fl l]
   simp only [dnS]
   first | rw [if_neg (by decide), if_pos trivial] | rw [if_neg (by decide), if_pos rfl]
  ·rw [flR_k hk]
   simp
theorem dnSL_fl : ∀ l : List ND, dnSL l = (flRL l).flatMap dnS
 | [] => by simp [dnSL, flRL]
 | x :: l => by
  simp only [dnSL, flRL, List.flatMap_append]
  rw [← dnS_fl x, ← dnSL_fl l]
end
theorem flR_can {n : ND} (h : saneN saneP n = true) : flR (canN n) = if n.k = 2 then cnS (flR n) else [n] := by
 have fs := flR_facts (cn_right h).1
 by_cases hk : n.k = 2
 ·rw [if_pos hk]
  unfold canN
  rw [if_pos hk]
  have nk : ∀ y ∈ cnS (flR n), ¬ y.k = 2 := fun y hy => (fs.2.2 y ((cnS_mem (flR_sns h) y).1 hy)).2
  generalize cnS (flR n) = e at nk
  unfold wrapC
  by_cases h1 : e.length = 1
  ·rw [if_pos h1]
   have e1 := len_one h1
   have m : nth e 0 ∈ e := by rw [e1]; simp [nth]
   rw [flR_n (nk _ m)]
   exact e1.symm
  ·rw [if_neg h1, flR_2, flM]
   clear h1
   induction e with
   | nil => rfl
   | cons x e ih => rw [List.flatMap_cons, ih (fun y hy => nk y (by simp [hy])), flR_n (nk x (by simp))]; rfl
 ·rw [if_neg hk]
  unfold canN
  rw [if_neg hk, flR_n hk]
theorem putT_sum (g : ND → Nat) : ∀ (l : List ND) (n : ND), ((putT l n).map g).sum ≤ (l.map g).sum + g n
 | [], n => by simp [putT]
 | x :: l, n => by
  have := putT_sum g l n
  unfold putT
  split
  ·simp only [List.map_cons, List.sum_cons]; omega
  ·split
   ·simp only [List.map_cons, List.sum_cons]; omega
   ·simp only [List.map_cons, List.sum_cons]; omega
theorem cnS_sum (g : ND → Nat) (L : List ND) : ((cnS L).map g).sum ≤ (L.map g).sum := by
 have key : ∀ (L l : List ND), ((L.foldl putT l).map g).sum ≤ (l.map g).sum + (L.map g).sum := by
  intro L
  induction L with
  | nil => intro l; simp
  | cons n L ih =>
   intro l
   have := ih (putT l n)
   have := putT_sum g l n
   simp only [List.foldl_cons, List.map_cons, List.sum_cons]
   omega
 have := key L []
 simpa [cnS] using this
theorem sizeL_flat (L : List ND) : sizeL (L.flatMap dnS) = (L.map fun y => sizeL (dnS y)).sum := by
 induction L with
 | nil => rfl
 | cons x L ih =>
  rw [List.flatMap_cons, List.map_cons, List.sum_cons, ← ih]
  unfold sizeL
  rw [List.map_append, List.sum_append]
theorem can_meanE {n : ND} (h : saneN saneP n = true) : dnE (canN n) = dnE n := by
 have a := dnE_cases (cn_right h).1
 have b := dnE_cases (cn_right (can_sane h).1).1
 have c : dnE (canN n) = 0 ↔ dnE n = 0 := by
  rw [dnE_fl (canN n), dnE_fl n]
  exact ⟨fun q y hy => q y ((can_flR h y).2 hy), fun q y hy => q y ((can_flR h y).1 hy)⟩
 rcases a with a | a <;> rcases b with b | b
 ·omega
 ·have := c.2 a; omega
 ·have := c.1 b; omega
 ·omega
theorem can_mem {n : ND} (h : saneN saneP n = true) (f : LF) : f ∈ dnS (canN n) ↔ f ∈ dnS n := by
 rw [dnS_fl (canN n), dnS_fl n, List.mem_flatMap, List.mem_flatMap]
 exact ⟨fun ⟨y, hy, hf⟩ => ⟨y, (can_flR h y).1 hy, hf⟩, fun ⟨y, hy, hf⟩ => ⟨y, (can_flR h y).2 hy, hf⟩⟩
theorem can_size {n : ND} (h : saneN saneP n = true) : sizeL (dnS (canN n)) ≤ sizeL (dnS n) := by
 rw [dnS_fl (canN n), dnS_fl n, sizeL_flat, sizeL_flat, flR_can h]
 split
 ·exact cnS_sum _ _
 ·rename_i hk
  rw [flR_n hk]
  exact Nat.le_refl _
theorem can_has {n : ND} (h : saneN saneP n = true) (S T : Int) : hasL (dnS (canN n)) S T = hasL (dnS n) S T := by
 unfold hasL
 rw [Bool.eq_iff_iff, List.any_eq_true, List.any_eq_true]
 exact ⟨fun ⟨f, hf, g⟩ => ⟨f, (can_mem h f).1 hf, g⟩, fun ⟨f, hf, g⟩ => ⟨f, (can_mem h f).2 hf, g⟩⟩
theorem can_of {n : ND} (h : saneN saneP n = true) : ofE (canN n) = ofE n ∧ (∀ S T, hasL (ofS (canN n)) S T = hasL (ofS n) S T) ∧ sizeL (ofS (canN n)) ≤ sizeL (ofS n) ∧ LsOk (ofS n) ∧ LsOk (ofS (canN n)) ∧ (ofS n).length ≤ 64 ∧ (ofS (canN n)).length ≤ 64 := by
 have cs := (can_sane h).1
 have key : ∀ {m : ND}, saneN saneP m = true → LsOk (ofS m) ∧ (ofS m).length ≤ 64 := by
  intro m hm
  unfold ofS
  split
  ·rename_i q
   refine ⟨lsOk_of fun f hf => dnS_ok (cn_right hm).1 q.2 f hf, ?_⟩
   rw [dnS_len]
   have := ptsC_cnt m
   have := (cn_right hm).2
   omega
  ·exact ⟨lsOk_of fun f hf => (by cases hf), Nat.zero_le _⟩
 refine ⟨?_, ?_, ?_, (key h).1, (key cs).1, (key h).2, (key cs).2⟩
 ·unfold ofE
  rw [if_pos h, if_pos cs, can_meanE h]
 ·intro S T
  unfold ofS
  rw [can_meanE h]
  by_cases q : dnE n = 0
  ·rw [if_pos ⟨cs, q⟩, if_pos ⟨h, q⟩]
   exact can_has h S T
  ·rw [if_neg (fun x => q x.2), if_neg (fun x => q x.2)]
 ·unfold ofS
  rw [can_meanE h]
  by_cases q : dnE n = 0
  ·rw [if_pos ⟨cs, q⟩, if_pos ⟨h, q⟩]
   exact can_size h
  ·rw [if_neg (fun x => q x.2), if_neg (fun x => q x.2)]
   exact Nat.le_refl _
end Go.Proofs.YtajllgjfndfdjaaGreatDoor
