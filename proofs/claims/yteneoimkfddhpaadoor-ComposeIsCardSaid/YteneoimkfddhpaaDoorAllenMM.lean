/-
  Masks of relations: flipped, listed.
-/
import Derived.Test.YteneoimkfddhpaaDoorAllenC
namespace Go.Proofs.YteneoimkfddhpaaDoor
open Go.RowKit
set_option linter.unusedVariables false
theorem bitB_eq (m : Int) (r : Nat) (h : m / 2 ^ r % 2 = 0) : bitB m r = false := by unfold bitB; rw [h]; rfl
/-- a bit as a number -/
def bI (m : Int) (r : Nat) : Int := m / 2 ^ r % 2
theorem bI_bd (m : Int) (r : Nat) : bI m r = 0 ∨ bI m r = 1 := by unfold bI; omega
theorem bitB_bI (m : Int) (r : Nat) : bitB m r = decide (bI m r = 1) := rfl
theorem ite_bI (m : Int) (r : Nat) (x : Int) : (if bitB m r = true then x else 0) = bI m r * x := by
  rw [bitB_bI]; rcases bI_bd m r with h | h <;> rw [h] <;> simp
theorem flip_sum (m : Int) : flip m = bI m 0 * 4096 + bI m 1 * 2048 + bI m 2 * 1024 + bI m 3 * 512 + bI m 4 * 256 + bI m 5 * 128 + bI m 6 * 64 + bI m 7 * 32 + bI m 8 * 16 + bI m 9 * 8 + bI m 10 * 4 + bI m 11 * 2 + bI m 12 := by
  unfold flip
  simp only [fl, ite_bI]
  simp
theorem bI_step (m : Int) (q : Int) (h : 0 < q) (r : Nat) (e : (2 : Int) ^ r = q) : m / q = 2 * (m / (2 * q)) + bI m r := by
  unfold bI
  rw [e, Int.mul_comm 2 q, ← Int.ediv_ediv_of_nonneg (Int.le_of_lt h)]
  omega
theorem low_sum (m : Int) : m % 8192 = bI m 12 * 4096 + bI m 11 * 2048 + bI m 10 * 1024 + bI m 9 * 512 + bI m 8 * 256 + bI m 7 * 128 + bI m 6 * 64 + bI m 5 * 32 + bI m 4 * 16 + bI m 3 * 8 + bI m 2 * 4 + bI m 1 * 2 + bI m 0 := by
  have e0 := bI_step m 1 (by decide) 0 (by decide)
  have e1 := bI_step m 2 (by decide) 1 (by decide)
  have e2 := bI_step m 4 (by decide) 2 (by decide)
  have e3 := bI_step m 8 (by decide) 3 (by decide)
  have e4 := bI_step m 16 (by decide) 4 (by decide)
  have e5 := bI_step m 32 (by decide) 5 (by decide)
  have e6 := bI_step m 64 (by decide) 6 (by decide)
  have e7 := bI_step m 128 (by decide) 7 (by decide)
  have e8 := bI_step m 256 (by decide) 8 (by decide)
  have e9 := bI_step m 512 (by decide) 9 (by decide)
  have e10 := bI_step m 1024 (by decide) 10 (by decide)
  have e11 := bI_step m 2048 (by decide) 11 (by decide)
  have e12 := bI_step m 4096 (by decide) 12 (by decide)
  have e := Int.mul_ediv_add_emod m 8192
  simp only [Int.ediv_one, Int.reduceMul] at e0 e1 e2 e3 e4 e5 e6 e7 e8 e9 e10 e11 e12
  generalize m / 2 = q1 at *
  generalize m / 4 = q2 at *
  generalize m / 8 = q3 at *
  generalize m / 16 = q4 at *
  generalize m / 32 = q5 at *
  generalize m / 64 = q6 at *
  generalize m / 128 = q7 at *
  generalize m / 256 = q8 at *
  generalize m / 512 = q9 at *
  generalize m / 1024 = q10 at *
  generalize m / 2048 = q11 at *
  generalize m / 4096 = q12 at *
  generalize m / 8192 = q13 at *
  generalize bI m 0 = x0 at *
  generalize bI m 1 = x1 at *
  generalize bI m 2 = x2 at *
  generalize bI m 3 = x3 at *
  generalize bI m 4 = x4 at *
  generalize bI m 5 = x5 at *
  generalize bI m 6 = x6 at *
  generalize bI m 7 = x7 at *
  generalize bI m 8 = x8 at *
  generalize bI m 9 = x9 at *
  generalize bI m 10 = x10 at *
  generalize bI m 11 = x11 at *
  generalize bI m 12 = x12 at *
  omega
theorem bit_mid (f h x l p : Int) (hp : 0 < p) (e : f = h * (2 * p) + x * p + l) (l1 : 0 ≤ l) (l2 : l < p) (x1 : x = 0 ∨ x = 1) : f / p % 2 = x := by
  have k : f = l + (2 * h + x) * p := by rw [e, Int.add_mul, ← Int.mul_assoc, Int.mul_comm h 2, Int.mul_assoc 2 h p]; omega
  rw [k, Int.add_mul_ediv_right _ _ (by omega), Int.ediv_eq_zero_of_lt l1 l2]
  omega
theorem bI_flip_0 (m : Int) : bI (flip m) 0 = bI m 12 := by
  have s := flip_sum m
  have c : ∀ i, 0 ≤ bI m i ∧ bI m i ≤ 1 := fun i => by have := bI_bd m i; omega
  have b0 := c 0
  have b1 := c 1
  have b2 := c 2
  have b3 := c 3
  have b4 := c 4
  have b5 := c 5
  have b6 := c 6
  have b7 := c 7
  have b8 := c 8
  have b9 := c 9
  have b10 := c 10
  have b11 := c 11
  have b12 := c 12
  exact bit_mid (flip m) (bI m 11 * 1 + bI m 10 * 2 + bI m 9 * 4 + bI m 8 * 8 + bI m 7 * 16 + bI m 6 * 32 + bI m 5 * 64 + bI m 4 * 128 + bI m 3 * 256 + bI m 2 * 512 + bI m 1 * 1024 + bI m 0 * 2048) (bI m 12) (0) 1 (by omega) (by omega) (by omega) (by omega) (bI_bd m 12)
theorem bI_flip_1 (m : Int) : bI (flip m) 1 = bI m 11 := by
  have s := flip_sum m
  have c : ∀ i, 0 ≤ bI m i ∧ bI m i ≤ 1 := fun i => by have := bI_bd m i; omega
  have b0 := c 0
  have b1 := c 1
  have b2 := c 2
  have b3 := c 3
  have b4 := c 4
  have b5 := c 5
  have b6 := c 6
  have b7 := c 7
  have b8 := c 8
  have b9 := c 9
  have b10 := c 10
  have b11 := c 11
  have b12 := c 12
  exact bit_mid (flip m) (bI m 10 * 1 + bI m 9 * 2 + bI m 8 * 4 + bI m 7 * 8 + bI m 6 * 16 + bI m 5 * 32 + bI m 4 * 64 + bI m 3 * 128 + bI m 2 * 256 + bI m 1 * 512 + bI m 0 * 1024) (bI m 11) (bI m 12 * 1) 2 (by omega) (by omega) (by omega) (by omega) (bI_bd m 11)
theorem bI_flip_2 (m : Int) : bI (flip m) 2 = bI m 10 := by
  have s := flip_sum m
  have c : ∀ i, 0 ≤ bI m i ∧ bI m i ≤ 1 := fun i => by have := bI_bd m i; omega
  have b0 := c 0
  have b1 := c 1
  have b2 := c 2
  have b3 := c 3
  have b4 := c 4
  have b5 := c 5
  have b6 := c 6
  have b7 := c 7
  have b8 := c 8
  have b9 := c 9
  have b10 := c 10
  have b11 := c 11
  have b12 := c 12
  exact bit_mid (flip m) (bI m 9 * 1 + bI m 8 * 2 + bI m 7 * 4 + bI m 6 * 8 + bI m 5 * 16 + bI m 4 * 32 + bI m 3 * 64 + bI m 2 * 128 + bI m 1 * 256 + bI m 0 * 512) (bI m 10) (bI m 12 * 1 + bI m 11 * 2) 4 (by omega) (by omega) (by omega) (by omega) (bI_bd m 10)
theorem bI_flip_3 (m : Int) : bI (flip m) 3 = bI m 9 := by
  have s := flip_sum m
  have c : ∀ i, 0 ≤ bI m i ∧ bI m i ≤ 1 := fun i => by have := bI_bd m i; omega
  have b0 := c 0
  have b1 := c 1
  have b2 := c 2
  have b3 := c 3
  have b4 := c 4
  have b5 := c 5
  have b6 := c 6
  have b7 := c 7
  have b8 := c 8
  have b9 := c 9
  have b10 := c 10
  have b11 := c 11
  have b12 := c 12
  exact bit_mid (flip m) (bI m 8 * 1 + bI m 7 * 2 + bI m 6 * 4 + bI m 5 * 8 + bI m 4 * 16 + bI m 3 * 32 + bI m 2 * 64 + bI m 1 * 128 + bI m 0 * 256) (bI m 9) (bI m 12 * 1 + bI m 11 * 2 + bI m 10 * 4) 8 (by omega) (by omega) (by omega) (by omega) (bI_bd m 9)
theorem bI_flip_4 (m : Int) : bI (flip m) 4 = bI m 8 := by
  have s := flip_sum m
  have c : ∀ i, 0 ≤ bI m i ∧ bI m i ≤ 1 := fun i => by have := bI_bd m i; omega
  have b0 := c 0
  have b1 := c 1
  have b2 := c 2
  have b3 := c 3
  have b4 := c 4
  have b5 := c 5
  have b6 := c 6
  have b7 := c 7
  have b8 := c 8
  have b9 := c 9
  have b10 := c 10
  have b11 := c 11
  have b12 := c 12
  exact bit_mid (flip m) (bI m 7 * 1 + bI m 6 * 2 + bI m 5 * 4 + bI m 4 * 8 + bI m 3 * 16 + bI m 2 * 32 + bI m 1 * 64 + bI m 0 * 128) (bI m 8) (bI m 12 * 1 + bI m 11 * 2 + bI m 10 * 4 + bI m 9 * 8) 16 (by omega) (by omega) (by omega) (by omega) (bI_bd m 8)
theorem bI_flip_5 (m : Int) : bI (flip m) 5 = bI m 7 := by
  have s := flip_sum m
  have c : ∀ i, 0 ≤ bI m i ∧ bI m i ≤ 1 := fun i => by have := bI_bd m i; omega
  have b0 := c 0
  have b1 := c 1
  have b2 := c 2
  have b3 := c 3
  have b4 := c 4
  have b5 := c 5
  have b6 := c 6
  have b7 := c 7
  have b8 := c 8
  have b9 := c 9
  have b10 := c 10
  have b11 := c 11
  have b12 := c 12
  exact bit_mid (flip m) (bI m 6 * 1 + bI m 5 * 2 + bI m 4 * 4 + bI m 3 * 8 + bI m 2 * 16 + bI m 1 * 32 + bI m 0 * 64) (bI m 7) (bI m 12 * 1 + bI m 11 * 2 + bI m 10 * 4 + bI m 9 * 8 + bI m 8 * 16) 32 (by omega) (by omega) (by omega) (by omega) (bI_bd m 7)
theorem bI_flip_6 (m : Int) : bI (flip m) 6 = bI m 6 := by
  have s := flip_sum m
  have c : ∀ i, 0 ≤ bI m i ∧ bI m i ≤ 1 := fun i => by have := bI_bd m i; omega
  have b0 := c 0
  have b1 := c 1
  have b2 := c 2
  have b3 := c 3
  have b4 := c 4
  have b5 := c 5
  have b6 := c 6
  have b7 := c 7
  have b8 := c 8
  have b9 := c 9
  have b10 := c 10
  have b11 := c 11
  have b12 := c 12
  exact bit_mid (flip m) (bI m 5 * 1 + bI m 4 * 2 + bI m 3 * 4 + bI m 2 * 8 + bI m 1 * 16 + bI m 0 * 32) (bI m 6) (bI m 12 * 1 + bI m 11 * 2 + bI m 10 * 4 + bI m 9 * 8 + bI m 8 * 16 + bI m 7 * 32) 64 (by omega) (by omega) (by omega) (by omega) (bI_bd m 6)
theorem bI_flip_7 (m : Int) : bI (flip m) 7 = bI m 5 := by
  have s := flip_sum m
  have c : ∀ i, 0 ≤ bI m i ∧ bI m i ≤ 1 := fun i => by have := bI_bd m i; omega
  have b0 := c 0
  have b1 := c 1
  have b2 := c 2
  have b3 := c 3
  have b4 := c 4
  have b5 := c 5
  have b6 := c 6
  have b7 := c 7
  have b8 := c 8
  have b9 := c 9
  have b10 := c 10
  have b11 := c 11
  have b12 := c 12
  exact bit_mid (flip m) (bI m 4 * 1 + bI m 3 * 2 + bI m 2 * 4 + bI m 1 * 8 + bI m 0 * 16) (bI m 5) (bI m 12 * 1 + bI m 11 * 2 + bI m 10 * 4 + bI m 9 * 8 + bI m 8 * 16 + bI m 7 * 32 + bI m 6 * 64) 128 (by omega) (by omega) (by omega) (by omega) (bI_bd m 5)
theorem bI_flip_8 (m : Int) : bI (flip m) 8 = bI m 4 := by
  have s := flip_sum m
  have c : ∀ i, 0 ≤ bI m i ∧ bI m i ≤ 1 := fun i => by have := bI_bd m i; omega
  have b0 := c 0
  have b1 := c 1
  have b2 := c 2
  have b3 := c 3
  have b4 := c 4
  have b5 := c 5
  have b6 := c 6
  have b7 := c 7
  have b8 := c 8
  have b9 := c 9
  have b10 := c 10
  have b11 := c 11
  have b12 := c 12
  exact bit_mid (flip m) (bI m 3 * 1 + bI m 2 * 2 + bI m 1 * 4 + bI m 0 * 8) (bI m 4) (bI m 12 * 1 + bI m 11 * 2 + bI m 10 * 4 + bI m 9 * 8 + bI m 8 * 16 + bI m 7 * 32 + bI m 6 * 64 + bI m 5 * 128) 256 (by omega) (by omega) (by omega) (by omega) (bI_bd m 4)
theorem bI_flip_9 (m : Int) : bI (flip m) 9 = bI m 3 := by
  have s := flip_sum m
  have c : ∀ i, 0 ≤ bI m i ∧ bI m i ≤ 1 := fun i => by have := bI_bd m i; omega
  have b0 := c 0
  have b1 := c 1
  have b2 := c 2
  have b3 := c 3
  have b4 := c 4
  have b5 := c 5
  have b6 := c 6
  have b7 := c 7
  have b8 := c 8
  have b9 := c 9
  have b10 := c 10
  have b11 := c 11
  have b12 := c 12
  exact bit_mid (flip m) (bI m 2 * 1 + bI m 1 * 2 + bI m 0 * 4) (bI m 3) (bI m 12 * 1 + bI m 11 * 2 + bI m 10 * 4 + bI m 9 * 8 + bI m 8 * 16 + bI m 7 * 32 + bI m 6 * 64 + bI m 5 * 128 + bI m 4 * 256) 512 (by omega) (by omega) (by omega) (by omega) (bI_bd m 3)
theorem bI_flip_10 (m : Int) : bI (flip m) 10 = bI m 2 := by
  have s := flip_sum m
  have c : ∀ i, 0 ≤ bI m i ∧ bI m i ≤ 1 := fun i => by have := bI_bd m i; omega
  have b0 := c 0
  have b1 := c 1
  have b2 := c 2
  have b3 := c 3
  have b4 := c 4
  have b5 := c 5
  have b6 := c 6
  have b7 := c 7
  have b8 := c 8
  have b9 := c 9
  have b10 := c 10
  have b11 := c 11
  have b12 := c 12
  exact bit_mid (flip m) (bI m 1 * 1 + bI m 0 * 2) (bI m 2) (bI m 12 * 1 + bI m 11 * 2 + bI m 10 * 4 + bI m 9 * 8 + bI m 8 * 16 + bI m 7 * 32 + bI m 6 * 64 + bI m 5 * 128 + bI m 4 * 256 + bI m 3 * 512) 1024 (by omega) (by omega) (by omega) (by omega) (bI_bd m 2)
theorem bI_flip_11 (m : Int) : bI (flip m) 11 = bI m 1 := by
  have s := flip_sum m
  have c : ∀ i, 0 ≤ bI m i ∧ bI m i ≤ 1 := fun i => by have := bI_bd m i; omega
  have b0 := c 0
  have b1 := c 1
  have b2 := c 2
  have b3 := c 3
  have b4 := c 4
  have b5 := c 5
  have b6 := c 6
  have b7 := c 7
  have b8 := c 8
  have b9 := c 9
  have b10 := c 10
  have b11 := c 11
  have b12 := c 12
  exact bit_mid (flip m) (bI m 0 * 1) (bI m 1) (bI m 12 * 1 + bI m 11 * 2 + bI m 10 * 4 + bI m 9 * 8 + bI m 8 * 16 + bI m 7 * 32 + bI m 6 * 64 + bI m 5 * 128 + bI m 4 * 256 + bI m 3 * 512 + bI m 2 * 1024) 2048 (by omega) (by omega) (by omega) (by omega) (bI_bd m 1)
theorem bI_flip_12 (m : Int) : bI (flip m) 12 = bI m 0 := by
  have s := flip_sum m
  have c : ∀ i, 0 ≤ bI m i ∧ bI m i ≤ 1 := fun i => by have := bI_bd m i; omega
  have b0 := c 0
  have b1 := c 1
  have b2 := c 2
  have b3 := c 3
  have b4 := c 4
  have b5 := c 5
  have b6 := c 6
  have b7 := c 7
  have b8 := c 8
  have b9 := c 9
  have b10 := c 10
  have b11 := c 11
  have b12 := c 12
  exact bit_mid (flip m) (0) (bI m 0) (bI m 12 * 1 + bI m 11 * 2 + bI m 10 * 4 + bI m 9 * 8 + bI m 8 * 16 + bI m 7 * 32 + bI m 6 * 64 + bI m 5 * 128 + bI m 4 * 256 + bI m 3 * 512 + bI m 2 * 1024 + bI m 1 * 2048) 4096 (by omega) (by omega) (by omega) (by omega) (bI_bd m 0)
theorem flip_flip (m : Int) : flip (flip m) = m % 8192 := by
  rw [flip_sum (flip m), low_sum m]
  rw [bI_flip_0 m, bI_flip_1 m, bI_flip_2 m, bI_flip_3 m, bI_flip_4 m, bI_flip_5 m, bI_flip_6 m, bI_flip_7 m, bI_flip_8 m, bI_flip_9 m, bI_flip_10 m, bI_flip_11 m, bI_flip_12 m]
theorem flip_bd (m : Int) : 0 ≤ flip m ∧ flip m ≤ 8191 := by
  have s := flip_sum m
  have c : ∀ i, 0 ≤ bI m i ∧ bI m i ≤ 1 := fun i => by have := bI_bd m i; omega
  have b0 := c 0
  have b1 := c 1
  have b2 := c 2
  have b3 := c 3
  have b4 := c 4
  have b5 := c 5
  have b6 := c 6
  have b7 := c 7
  have b8 := c 8
  have b9 := c 9
  have b10 := c 10
  have b11 := c 11
  have b12 := c 12
  omega
theorem li_count (m : Int) : ((li m 13).length : Int) = bI m 0 + bI m 1 + bI m 2 + bI m 3 + bI m 4 + bI m 5 + bI m 6 + bI m 7 + bI m 8 + bI m 9 + bI m 10 + bI m 11 + bI m 12 := by
  have step : ∀ k, ((li m (k + 1)).length : Int) = (li m k).length + bI m k := by
    intro k
    rcases Bool.eq_false_or_eq_true (bitB m k) with h | h
    · rw [li_yes m k h]; rw [bitB_bI] at h; simp at h; simp [h]
    · rw [li_no m k h]; rw [bitB_bI] at h; simp at h; rcases bI_bd m k with g | g
      · omega
      · exact absurd g h
  rw [step 12, step 11, step 10, step 9, step 8, step 7, step 6, step 5, step 4, step 3, step 2, step 1, step 0]
  simp [li]
theorem li_flip_len (m : Int) : (li (flip m) 13).length = (li m 13).length := by
  have a := li_count m
  have b := li_count (flip m)
  rw [bI_flip_0 m, bI_flip_1 m, bI_flip_2 m, bI_flip_3 m, bI_flip_4 m, bI_flip_5 m, bI_flip_6 m, bI_flip_7 m, bI_flip_8 m, bI_flip_9 m, bI_flip_10 m, bI_flip_11 m, bI_flip_12 m] at b
  omega
theorem li_mem (m : Int) (k r : Nat) : (r : Int) ∈ li m k ↔ r < k ∧ bitB m r = true := by
  unfold li
  simp only [List.mem_map, List.mem_filter, List.mem_range]
  constructor
  · rintro ⟨a, ha, e⟩
    obtain rfl : a = r := by omega
    exact ha
  · intro h; exact ⟨r, h, rfl⟩
theorem li_bd (m : Int) (k : Nat) (x : Int) (h : x ∈ li m k) : 0 ≤ x ∧ x < k := by
  unfold li at h; simp only [List.mem_map, List.mem_filter, List.mem_range] at h
  obtain ⟨a, ⟨h1, _⟩, rfl⟩ := h
  omega
theorem li_sorted (m : Int) (k : Nat) : (li m k).Pairwise (· < ·) := by
  induction k with
  | zero => simp [li]
  | succ k ih =>
    rcases Bool.eq_false_or_eq_true (bitB m k) with h | h
    · rw [li_yes m k h, List.pairwise_append]
      refine ⟨ih, by simp, ?_⟩
      intro x hx y hy
      simp at hy
      subst hy
      exact (li_bd m k x hx).2
    · rw [li_no m k h]; exact ih
theorem li_next (m : Int) (i : Nat) (h : i + 1 < (li m 13).length) : (li m 13).getD i 0 < (li m 13).getD (i + 1) 0 := by
  have p := List.pairwise_iff_getElem.1 (li_sorted m 13) i (i + 1) (by omega) h (by omega)
  simpa [List.getD, h, show i < (li m 13).length by omega] using p
end Go.Proofs.YteneoimkfddhpaaDoor
