import Derived.Test.YtamdjbpgkiekcaaGreatDoorAllenC
namespace Go.Proofs.YtamdjbpgkiekcaaGreatDoor
open Go.RowKit
set_option linter.unusedVariables false
def bI (m : Int) (r : Nat) : Int := m / 2 ^ r % 2
theorem bI_bd (m : Int) (r : Nat) : bI m r = 0 ∨ bI m r = 1 := by unfold bI; omega
theorem bitB_bI (m : Int) (r : Nat) : bitB m r = decide (bI m r = 1) := rfl
theorem ite_bI (m : Int) (r : Nat) (x : Int) : (if bitB m r = true then x else 0) = bI m r * x := by
 rw [bitB_bI]; rcases bI_bd m r with h | h <;> rw [h] <;> simp
theorem flip_sum (m : Int) : flip m = bI m 0 * 4096 + bI m 1 * 2048 + bI m 2 * 1024 + bI m 3 * 512 + bI m 4 * 256 + bI m 5 * 128 + bI m 6 * 64 + bI m 7 * 32 + bI m 8 * 16 + bI m 9 * 8 + bI m 10 * 4 + bI m 11 * 2 + bI m 12 := by
 unfold flip
 simp only [fl, ite_bI]
 simp
theorem bit_mid (f h x l p : Int) (hp : 0 < p) (e : f = h * (2 * p) + x * p + l) (l1 : 0 ≤ l) (l2 : l < p) (x1 : x = 0 ∨ x = 1) : f / p % 2 = x := by
 have k : f = l + (2 * h + x) * p := by rw [e, Int.add_mul, ← Int.mul_assoc, Int.mul_comm h 2, Int.mul_assoc 2 h p]; omega
 rw [k, Int.add_mul_ediv_right _ _ (by omega), Int.ediv_eq_zero_of_lt l1 l2]
 omega
theorem bI_flip_0 (m : Int) : bI (flip m) 0 = bI m 12 := by
 have s := flip_sum m
 have c : ∀ i, 0 ≤ bI m i ∧ bI m i ≤ 1 := fun i => by have := bI_bd m i; omega
 have b0 := c 0
 have b1 := c 1
 have b2 := c 2
 have b3 := c 3
 have b4 := c 4
 have b5 := c 5
 have b6 := c 6
 have b7 := c 7
 have b8 := c 8
 have b9 := c 9
 have b10 := c 10
 have b11 := c 11
 have b12 := c 12
 exact bit_mid (flip m) (bI m 11 * 1 + bI m 10 * 2 + bI m 9 * 4 + bI m 8 * 8 + bI m 7 * 16 + bI m 6 * 32 + bI m 5 * 64 + bI m 4 * 128 + bI m 3 * 256 + bI m 2 * 512 + bI m 1 * 1024 + bI m 0 * 2048) (bI m 12) (0) 1 (by omega) (by omega) (by omega) (by omega) (bI_bd m 12)
theorem bI_flip_1 (m : Int) : bI (flip m) 1 = bI m 11 := by
 have s := flip_sum m
 have c : ∀ i, 0 ≤ bI m i ∧ bI m i ≤ 1 := fun i => by have := bI_bd m i; omega
 have b0 := c 0
 have b1 := c 1
 have b2 := c 2
 have b3 := c 3
 have b4 := c 4
 have b5 := c 5
 have b6 := c 6
 have b7 := c 7
 have b8 := c 8
 have b9 := c 9
 have b10 := c 10
 have b11 := c 11
 have b12 := c 12
 exact bit_mid (flip m) (bI m 10 * 1 + bI m 9 * 2 + bI m 8 * 4 + bI m 7 * 8 + bI m 6 * 16 + bI m 5 * 32 + bI m 4 * 64 + bI m 3 * 128 + bI m 2 * 256 + bI m 1 * 512 + bI m 0 * 1024) (bI m 11) (bI m 12 * 1) 2 (by omega) (by omega) (by omega) (by omega) (bI_bd m 11)
theorem bI_flip_2 (m : Int) : bI (flip m) 2 = bI m 10 := by
 have s := flip_sum m
 have c : ∀ i, 0 ≤ bI m i ∧ bI m i ≤ 1 := fun i => by have := bI_bd m i; omega
 have b0 := c 0
 have b1 := c 1
 have b2 := c 2
 have b3 := c 3
 have b4 := c 4
 have b5 := c 5
 have b6 := c 6
 have b7 := c 7
 have b8 := c 8
 have b9 := c 9
 have b10 := c 10
 have b11 := c 11
 have b12 := c 12
 exact bit_mid (flip m) (bI m 9 * 1 + bI m 8 * 2 + bI m 7 * 4 + bI m 6 * 8 + bI m 5 * 16 + bI m 4 * 32 + bI m 3 * 64 + bI m 2 * 128 + bI m 1 * 256 + bI m 0 * 512) (bI m 10) (bI m 12 * 1 + bI m 11 * 2) 4 (by omega) (by omega) (by omega) (by omega) (bI_bd m 10)
theorem bI_flip_3 (m : Int) : bI (flip m) 3 = bI m 9 := by
 have s := flip_sum m
 have c : ∀ i, 0 ≤ bI m i ∧ bI m i ≤ 1 := fun i => by have := bI_bd m i; omega
 have b0 := c 0
 have b1 := c 1
 have b2 := c 2
 have b3 := c 3
 have b4 := c 4
 have b5 := c 5
 have b6 := c 6
 have b7 := c 7
 have b8 := c 8
 have b9 := c 9
 have b10 := c 10
 have b11 := c 11
 have b12 := c 12
 exact bit_mid (flip m) (bI m 8 * 1 + bI m 7 * 2 + bI m 6 * 4 + bI m 5 * 8 + bI m 4 * 16 + bI m 3 * 32 + bI m 2 * 64 + bI m 1 * 128 + bI m 0 * 256) (bI m 9) (bI m 12 * 1 + bI m 11 * 2 + bI m 10 * 4) 8 (by omega) (by omega) (by omega) (by omega) (bI_bd m 9)
theorem bI_flip_4 (m : Int) : bI (flip m) 4 = bI m 8 := by
 have s := flip_sum m
 have c : ∀ i, 0 ≤ bI m i ∧ bI m i ≤ 1 := fun i => by have := bI_bd m i; omega
 have b0 := c 0
 have b1 := c 1
 have b2 := c 2
 have b3 := c 3
 have b4 := c 4
 have b5 := c 5
 have b6 := c 6
 have b7 := c 7
 have b8 := c 8
 have b9 := c 9
 have b10 := c 10
 have b11 := c 11
 have b12 := c 12
 exact bit_mid (flip m) (bI m 7 * 1 + bI m 6 * 2 + bI m 5 * 4 + bI m 4 * 8 + bI m 3 * 16 + bI m 2 * 32 + bI m 1 * 64 + bI m 0 * 128) (bI m 8) (bI m 12 * 1 + bI m 11 * 2 + bI m 10 * 4 + bI m 9 * 8) 16 (by omega) (by omega) (by omega) (by omega) (bI_bd m 8)
theorem bI_flip_5 (m : Int) : bI (flip m) 5 = bI m 7 := by
 have s := flip_sum m
 have c : ∀ i, 0 ≤ bI m i ∧ bI m i ≤ 1 := fun i => by have := bI_bd m i; omega
 have b0 := c 0
 have b1 := c 1
 have b2 := c 2
 have b3 := c 3
 have b4 := c 4
 have b5 := c 5
 have b6 := c 6
 have b7 := c 7
 have b8 := c 8
 have b9 := c 9
 have b10 := c 10
 have b11 := c 11
 have b12 := c 12
 exact bit_mid (flip m) (bI m 6 * 1 + bI m 5 * 2 + bI m 4 * 4 + bI m 3 * 8 + bI m 2 * 16 + bI m 1 * 32 + bI m 0 * 64) (bI m 7) (bI m 12 * 1 + bI m 11 * 2 + bI m 10 * 4 + bI m 9 * 8 + bI m 8 * 16) 32 (by omega) (by omega) (by omega) (by omega) (bI_bd m 7)
theorem bI_flip_6 (m : Int) : bI (flip m) 6 = bI m 6 := by
 have s := flip_sum m
 have c : ∀ i, 0 ≤ bI m i ∧ bI m i ≤ 1 := fun i => by have := bI_bd m i; omega
 have b0 := c 0
 have b1 := c 1
 have b2 := c 2
 have b3 := c 3
 have b4 := c 4
 have b5 := c 5
 have b6 := c 6
 have b7 := c 7
 have b8 := c 8
 have b9 := c 9
 have b10 := c 10
 have b11 := c 11
 have b12 := c 12
 exact bit_mid (flip m) (bI m 5 * 1 + bI m 4 * 2 + bI m 3 * 4 + bI m 2 * 8 + bI m 1 * 16 + bI m 0 * 32) (bI m 6) (bI m 12 * 1 + bI m 11 * 2 + bI m 10 * 4 + bI m 9 * 8 + bI m 8 * 16 + bI m 7 * 32) 64 (by omega) (by omega) (by omega) (by omega) (bI_bd m 6)
theorem bI_flip_7 (m : Int) : bI (flip m) 7 = bI m 5 := by
 have s := flip_sum m
 have c : ∀ i, 0 ≤ bI m i ∧ bI m i ≤ 1 := fun i => by have := bI_bd m i; omega
 have b0 := c 0
 have b1 := c 1
 have b2 := c 2
 have b3 := c 3
 have b4 := c 4
 have b5 := c 5
 have b6 := c 6
 have b7 := c 7
 have b8 := c 8
 have b9 := c 9
 have b10 := c 10
 have b11 := c 11
 have b12 := c 12
 exact bit_mid (flip m) (bI m 4 * 1 + bI m 3 * 2 + bI m 2 * 4 + bI m 1 * 8 + bI m 0 * 16) (bI m 5) (bI m 12 * 1 + bI m 11 * 2 + bI m 10 * 4 + bI m 9 * 8 + bI m 8 * 16 + bI m 7 * 32 + bI m 6 * 64) 128 (by omega) (by omega) (by omega) (by omega) (bI_bd m 5)
theorem bI_flip_8 (m : Int) : bI (flip m) 8 = bI m 4 := by
 have s := flip_sum m
 have c : ∀ i, 0 ≤ bI m i ∧ bI m i ≤ 1 := fun i => by have := bI_bd m i; omega
 have b0 := c 0
 have b1 := c 1
 have b2 := c 2
 have b3 := c 3
 have b4 := c 4
 have b5 := c 5
 have b6 := c 6
 have b7 := c 7
 have b8 := c 8
 have b9 := c 9
 have b10 := c 10
 have b11 := c 11
 have b12 := c 12
 exact bit_mid (flip m) (bI m 3 * 1 + bI m 2 * 2 + bI m 1 * 4 + bI m 0 * 8) (bI m 4) (bI m 12 * 1 + bI m 11 * 2 + bI m 10 * 4 + bI m 9 * 8 + bI m 8 * 16 + bI m 7 * 32 + bI m 6 * 64 + bI m 5 * 128) 256 (by omega) (by omega) (by omega) (by omega) (bI_bd m 4)
theorem bI_flip_9 (m : Int) : bI (flip m) 9 = bI m 3 := by
 have s := flip_sum m
 have c : ∀ i, 0 ≤ bI m i ∧ bI m i ≤ 1 := fun i => by have := bI_bd m i; omega
 have b0 := c 0
 have b1 := c 1
 have b2 := c 2
 have b3 := c 3
 have b4 := c 4
 have b5 := c 5
 have b6 := c 6
 have b7 := c 7
 have b8 := c 8
 have b9 := c 9
 have b10 := c 10
 have b11 := c 11
 have b12 := c 12
 exact bit_mid (flip m) (bI m 2 * 1 + bI m 1 * 2 + bI m 0 * 4) (bI m 3) (bI m 12 * 1 + bI m 11 * 2 + bI m 10 * 4 + bI m 9 * 8 + bI m 8 * 16 + bI m 7 * 32 + bI m 6 * 64 + bI m 5 * 128 + bI m 4 * 256) 512 (by omega) (by omega) (by omega) (by omega) (bI_bd m 3)
theorem bI_flip_10 (m : Int) : bI (flip m) 10 = bI m 2 := by
 have s := flip_sum m
 have c : ∀ i, 0 ≤ bI m i ∧ bI m i ≤ 1 := fun i => by have := bI_bd m i; omega
 have b0 := c 0
 have b1 := c 1
 have b2 := c 2
 have b3 := c 3
 have b4 := c 4
 have b5 := c 5
 have b6 := c 6
 have b7 := c 7
 have b8 := c 8
 have b9 := c 9
 have b10 := c 10
 have b11 := c 11
 have b12 := c 12
 exact bit_mid (flip m) (bI m 1 * 1 + bI m 0 * 2) (bI m 2) (bI m 12 * 1 + bI m 11 * 2 + bI m 10 * 4 + bI m 9 * 8 + bI m 8 * 16 + bI m 7 * 32 + bI m 6 * 64 + bI m 5 * 128 + bI m 4 * 256 + bI m 3 * 512) 1024 (by omega) (by omega) (by omega) (by omega) (bI_bd m 2)
theorem bI_flip_11 (m : Int) : bI (flip m) 11 = bI m 1 := by
 have s := flip_sum m
 have c : ∀ i, 0 ≤ bI m i ∧ bI m i ≤ 1 := fun i => by have := bI_bd m i; omega
 have b0 := c 0
 have b1 := c 1
 have b2 := c 2
 have b3 := c 3
 have b4 := c 4
 have b5 := c 5
 have b6 := c 6
 have b7 := c 7
 have b8 := c 8
 have b9 := c 9
 have b10 := c 10
 have b11 := c 11
 have b12 := c 12
 exact bit_mid (flip m) (bI m 0 * 1) (bI m 1) (bI m 12 * 1 + bI m 11 * 2 + bI m 10 * 4 + bI m 9 * 8 + bI m 8 * 16 + bI m 7 * 32 + bI m 6 * 64 + bI m 5 * 128 + bI m 4 * 256 + bI m 3 * 512 + bI m 2 * 1024) 2048 (by omega) (by omega) (by omega) (by omega) (bI_bd m 1)
theorem bI_flip_12 (m : Int) : bI (flip m) 12 = bI m 0 := by
 have s := flip_sum m
 have c : ∀ i, 0 ≤ bI m i ∧ bI m i ≤ 1 := fun i => by have := bI_bd m i; omega
 have b0 := c 0
 have b1 := c 1
 have b2 := c 2
 have b3 := c 3
 have b4 := c 4
 have b5 := c 5
 have b6 := c 6
 have b7 := c 7
 have b8 := c 8
 have b9 := c 9
 have b10 := c 10
 have b11 := c 11
 have b12 := c 12
 exact bit_mid (flip m) (0) (bI m 0) (bI m 12 * 1 + bI m 11 * 2 + bI m 10 * 4 + bI m 9 * 8 + bI m 8 * 16 + bI m 7 * 32 + bI m 6 * 64 + bI m 5 * 128 + bI m 4 * 256 + bI m 3 * 512 + bI m 2 * 1024 + bI m 1 * 2048) 4096 (by omega) (by omega) (by omega) (by omega) (bI_bd m 0)
theorem flip_bd (m : Int) : 0 ≤ flip m ∧ flip m ≤ 8191 := by
 have s := flip_sum m
 have c : ∀ i, 0 ≤ bI m i ∧ bI m i ≤ 1 := fun i => by have := bI_bd m i; omega
 have b0 := c 0
 have b1 := c 1
 have b2 := c 2
 have b3 := c 3
 have b4 := c 4
 have b5 := c 5
 have b6 := c 6
 have b7 := c 7
 have b8 := c 8
 have b9 := c 9
 have b10 := c 10
 have b11 := c 11
 have b12 := c 12
 omega
end Go.Proofs.YtamdjbpgkiekcaaGreatDoor
