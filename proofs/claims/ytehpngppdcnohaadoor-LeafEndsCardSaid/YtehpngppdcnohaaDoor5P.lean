/-
  Layer 5, the document's answer: plain lists: what each run has with each, all that is left, so many numbers.
-/
import Derived.Test.YtehpngppdcnohaaDoorSetsD
namespace Go.Proofs.YtehpngppdcnohaaDoor
set_option linter.unusedVariables false
set_option linter.unusedSimpArgs false
theorem sane_pw {l : List R} : sane l ↔ (∀ r ∈ l, okR r) ∧ l.Pairwise (fun a b => a.2 + 1 < b.1) := by
  induction l with
  | nil => simp [sane]
  | cons r t ih =>
    constructor
    · intro h
      have g := ih.1 (sane_tail h)
      refine ⟨fun q hq => ?_, List.pairwise_cons.2 ⟨fun b hb => ?_, g.2⟩⟩
      · rcases List.mem_cons.1 hq with e | e
        · subst e; exact sane_head h
        · exact g.1 q e
      · obtain ⟨o1, o2, o3⟩ := g.1 b hb
        exact sane_beyond h b.1 ⟨b, hb, Int.le_refl _, o1, o2, by omega⟩
    · rintro ⟨h1, h2⟩
      have h3 := List.pairwise_cons.1 h2
      exact sane_cons (h1 r (by simp)) (fun s t' e => h3.1 s (by rw [e]; simp)) (ih.2 ⟨fun q hq => h1 q (by simp [hq]), h3.2⟩)
def ov (x y : R) : List R := if max x.1 y.1 ≤ min x.2 y.2 then [(max x.1 y.1, min x.2 y.2)] else []
theorem ov_mem {x y q : R} (h : q ∈ ov x y) : q = (max x.1 y.1, min x.2 y.2) ∧ max x.1 y.1 ≤ min x.2 y.2 := by
  unfold ov at h
  split at h
  · exact ⟨by simpa using h, ‹_›⟩
  · cases h
def mtR (x : R) (B : List R) : List R := B.flatMap (ov x)
def mtL (A B : List R) : List R := A.flatMap fun x => mtR x B
theorem mtL_sane {A B : List R} (hA : sane A) (hB : sane B) : sane (mtL A B) := by
  have a := sane_pw.1 hA
  have b := sane_pw.1 hB
  refine sane_pw.2 ⟨fun q hq => ?_, ?_⟩
  · unfold mtL mtR at hq
    simp only [List.mem_flatMap] at hq
    obtain ⟨x, hx, y, hy, h⟩ := hq
    obtain ⟨rfl, h2⟩ := ov_mem h
    obtain ⟨p1, p2, p3⟩ := a.1 x hx
    obtain ⟨q1, q2, q3⟩ := b.1 y hy
    exact ⟨h2, by simp only; omega, by simp only; omega⟩
  · unfold mtL mtR
    rw [List.pairwise_flatMap]
    refine ⟨fun x hx => ?_, a.2.imp fun {x x'} h q hq q' hq' => ?_⟩
    · rw [List.pairwise_flatMap]
      refine ⟨fun y hy => ?_, b.2.imp fun {y y'} h q hq q' hq' => ?_⟩
      · unfold ov; split <;> simp
      · obtain ⟨rfl, h2⟩ := ov_mem hq
        obtain ⟨rfl, h3⟩ := ov_mem hq'
        simp only
        omega
    · simp only [List.mem_flatMap] at hq hq'
      obtain ⟨y, hy, g⟩ := hq
      obtain ⟨y', hy', g'⟩ := hq'
      obtain ⟨rfl, h2⟩ := ov_mem g
      obtain ⟨rfl, h3⟩ := ov_mem g'
      simp only
      omega
theorem mtL_mem (A B : List R) (n : Int) : memR (mtL A B) n ↔ memR A n ∧ memR B n := by
  unfold mtL mtR memR
  constructor
  · rintro ⟨q, hq, g1, g2, g3⟩
    simp only [List.mem_flatMap] at hq
    obtain ⟨x, hx, y, hy, h⟩ := hq
    obtain ⟨rfl, h2⟩ := ov_mem h
    simp only at g1 g2
    exact ⟨⟨x, hx, by omega, by omega, g3⟩, ⟨y, hy, by omega, by omega, g3⟩⟩
  · rintro ⟨⟨x, hx, g1, g2, g3⟩, ⟨y, hy, g4, g5, _⟩⟩
    refine ⟨(max x.1 y.1, min x.2 y.2), ?_, by simp only; omega, by simp only; omega, g3⟩
    simp only [List.mem_flatMap]
    refine ⟨x, hx, y, hy, ?_⟩
    unfold ov
    rw [if_pos (by omega)]
    simp
theorem mtL_inter (a b : List R) : mtL (nf a) (nf b) = interR a b :=
  sane_ext (mtL_sane (nf_sane a) (nf_sane b)) (interR_sane a b) fun n => by rw [mtL_mem, interR_mem, nf_mem, nf_mem]
/-- what is out at run i of A and run k of B -/
def mtO (A B : List R) (i k : Nat) : List R := mtL (A.take i) B ++ mtR (at_ A i) (B.take k)
theorem mtR_take (x : R) (B : List R) (k : Nat) (h : k < B.length) : mtR x (B.take (k + 1)) = mtR x (B.take k) ++ ov x (at_ B k) := by
  rw [take_at B k h]; unfold mtR; simp
theorem mtO_next (A B : List R) (i k : Nat) (h : k < B.length) : mtO A B i (k + 1) = mtO A B i k ++ ov (at_ A i) (at_ B k) := by
  unfold mtO; rw [mtR_take _ _ _ h, List.append_assoc]
theorem mtO_row (A B : List R) (i : Nat) (h : i < A.length) : mtO A B i B.length = mtO A B (i + 1) 0 := by
  unfold mtO mtL
  rw [List.take_length, take_at A i h]
  simp [mtR]
theorem mtO_start (A B : List R) : mtO A B 0 0 = [] := by unfold mtO mtL mtR; simp
theorem mtO_end (A B : List R) : mtO A B A.length 0 = mtL A B := by unfold mtO mtR; simp
theorem ov_len (x y : R) : (ov x y).length ≤ 1 := by unfold ov; split <;> simp
theorem mtR_len (x : R) : ∀ B : List R, (mtR x B).length ≤ B.length := by
  intro B
  induction B with
  | nil => simp [mtR]
  | cons y t ih =>
    have h : mtR x (y :: t) = ov x y ++ mtR x t := by simp [mtR]
    have := ov_len x y
    rw [h, List.length_append, List.length_cons]
    omega
theorem mtL_len (B : List R) : ∀ A : List R, (mtL A B).length ≤ A.length * B.length := by
  intro A
  induction A with
  | nil => simp [mtL]
  | cons y t ih =>
    have h : mtL (y :: t) B = mtR y B ++ mtL t B := by simp [mtL]
    have := mtR_len y B
    rw [h, List.length_append, List.length_cons, Nat.succ_mul]
    omega
theorem mtO_len {A B : List R} {i k p q : Nat} (hi : i < A.length) (hk : k ≤ B.length) (ha : A.length ≤ p) (hb : B.length ≤ q) : (mtO A B i k).length ≤ p * q := by
  unfold mtO
  have h1 := mtL_len B (A.take i)
  have h2 := mtR_len (at_ A i) (B.take k)
  have h3 : (A.take i).length = i := by simp; omega
  have h4 : (B.take k).length = k := by simp; omega
  have h5 : (i + 1) * B.length ≤ p * q := Nat.mul_le_mul (by omega) hb
  rw [h3] at h1
  rw [Nat.succ_mul] at h5
  rw [List.length_append]
  omega
theorem gaps_next (L : List R) (k : Nat) (h : k < L.length) (f : Int) : gaps f (L.drop k) = (if f < (at_ L k).1 then [(f, (at_ L k).1 - 1)] else []) ++ gaps ((at_ L k).2 + 1) (L.drop (k + 1)) := by
  have e : L.drop k = at_ L k :: L.drop (k + 1) := by
    rw [List.drop_eq_getElem_cons h]; unfold at_; simp [List.getD, h]
  rw [e, gaps]
/-- numbers, each so far from the next -/
def spd (d : Int) (k : Nat) : List R := (List.range k).map fun i : Nat => ((i : Int) * d, (i : Int) * d)
theorem spd_len (d : Int) (k : Nat) : (spd d k).length = k := by simp [spd]
theorem spd_next (d : Int) (k : Nat) : spd d (k + 1) = spd d k ++ [((k : Int) * d, (k : Int) * d)] := by simp [spd, List.range_succ]
theorem spd_bd {d : Int} {k : Nat} (h1 : 1 ≤ d) (h2 : d ≤ 8) (hk : k ≤ 512) : ∀ r ∈ spd d k, okR r := by
  intro r hr
  simp only [spd, List.mem_map, List.mem_range] at hr
  obtain ⟨i, hi, rfl⟩ := hr
  have a1 : (0 : Int) ≤ (i : Int) * d := Int.mul_nonneg (by omega) (by omega)
  have a2 : (i : Int) * d ≤ 512 * 8 := Int.mul_le_mul (by omega) h2 (by omega) (by omega)
  exact ⟨Int.le_refl _, by simp only; omega, by simp only; omega⟩
theorem spd_sane {d : Int} {k : Nat} (h1 : 2 ≤ d) (h2 : d ≤ 8) (hk : k ≤ 512) : sane (spd d k) := by
  refine sane_pw.2 ⟨spd_bd (by omega) h2 hk, ?_⟩
  unfold spd
  rw [List.pairwise_map]
  refine List.pairwise_lt_range.imp fun {i j} h => ?_
  simp only
  have a1 : ((i : Int) + 1) * d ≤ (j : Int) * d := Int.mul_le_mul_of_nonneg_right (by omega) (by omega)
  rw [Int.add_mul] at a1
  omega
theorem spd_one (k : Nat) (hk : k ≤ 512) : (nf (spd 1 k)).length ≤ 1 := by
  have e : nf (spd 1 k) = if k = 0 then [] else [((0 : Int), (k : Int) - 1)] := by
    refine nf_eq ?_ fun n => ?_
    · split
      · trivial
      · exact ⟨⟨by simp only; omega, by simp only; omega, by simp only; omega⟩, trivial, trivial⟩
    · split
      · subst_vars; simp [spd]
      · rw [memR_cons]
        constructor
        · rintro (g | g)
          · simp only at g
            refine ⟨(n, n), ?_, Int.le_refl _, Int.le_refl _, g.2.2.1, g.2.2.2⟩
            simp only [spd, List.mem_map, List.mem_range]
            exact ⟨n.toNat, by omega, by rw [Int.mul_one]; congr 1 <;> omega⟩
          · exact absurd g (memR_nil n)
        · rintro ⟨r, hr, g1, g2, g3⟩
          simp only [spd, List.mem_map, List.mem_range] at hr
          obtain ⟨i, hi, rfl⟩ := hr
          simp only at g1 g2
          exact .inl ⟨by simp only; omega, by simp only; omega, g3⟩
  rw [e]
  split <;> simp
theorem spd_wide {d : Int} {k : Nat} (h1 : 1 ≤ d) (h2 : d ≤ 8) (hk : k ≤ 512) : decide (400 < (nf (spd d k)).length) = decide (400 < k ∧ 1 < d) := by
  by_cases e : d = 1
  · subst e
    have := spd_one k hk
    rw [decide_eq_false (by omega), decide_eq_false (by omega)]
  · rw [nf_of_sane (spd_sane (by omega) h2 hk), spd_len]
    congr 1
    apply propext
    omega
end Go.Proofs.YtehpngppdcnohaaDoor
