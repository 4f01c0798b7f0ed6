import Derived.Test.YtcooaoponkkpeaaGreatDoorGBa
import Derived.Test.YtcooaoponkkpeaaGreatDoorChecked
import Derived.Laws.Bits128
import Derived.LoopTactic
import Derived.OwnWalk
import Derived.Deep.DeepMust
import Derived.Lib.LaidTab
import Derived.Laws.Rows
import Derived.ChangeKeysEq
import Derived.Laws.PanicsMore
set_option maxHeartbeats 4000000
set_option maxRecDepth 100000
namespace Go.Proofs.YtcooaoponkkpeaaGreatDoor
open Go.RowKit
set_option linter.unusedVariables false
def rel (a b c d : Int) : Int :=
 if b < c then (if b + 1 = c then 1 else 0)
 else if d < a then (if d + 1 = a then 11 else 12)
 else if a < c then (if b < d then 2 else if b = d then 7 else 8)
 else if a = c then (if b < d then 3 else if b = d then 6 else 9)
 else (if b < d then 4 else if b = d then 5 else 10)
def invB (r : Int) : Bool := decide (0 ≤ r ∧ r ≤ 12)
theorem isrel_any (r : Int) (w : World) : Calls Tryz.prog 70 #[.int .i64 r] w fun e w' => e = .returned (.bool (invB r)) ∧ w = w' := by
 go_enter Tryz.func70, Tryz.ntmps70
 go_wp2
 all_goals go_ret
 all_goals refine ⟨ret_bool ?_, rfl⟩
 all_goals unfold invB; rw [Bool.eq_iff_iff]
 all_goals simp
 all_goals try omega
def bitB (m : Int) (r : Nat) : Bool := decide (m / 2 ^ r % 2 = 1)
theorem and_pow (n i : Nat) : n &&& 2 ^ i = n / 2 ^ i % 2 * 2 ^ i := by
 apply Nat.eq_of_testBit_eq
 intro j
 rw [Nat.testBit_and, Nat.testBit_two_pow]
 have : n / 2 ^ i % 2 = 0 ∨ n / 2 ^ i % 2 = 1 := by omega
 have p : 2 ^ i / 2 ^ i % 2 = 1 := by rw [Nat.div_self (Nat.two_pow_pos i)]
 by_cases h : i = j
 ·subst h
  rcases this with e | e
  ·rw [e]; simp [Nat.testBit_eq_decide_div_mod_eq, e]
  ·rw [e]; simp [Nat.testBit_eq_decide_div_mod_eq, e, p]
 ·rcases this with e | e <;> rw [e] <;> simp [h]
theorem pow_aux (n m : Int) (i : Nat) (h : (BitVec.ofInt 64 m).toNat = 2 ^ i) : bits .and .i64 n m = IntKind.i64.wrap (((n % ((2 ^ 64 : Nat) : Int)).toNat / 2 ^ i % 2 * 2 ^ i : Nat) : Int) := by
 have key : (BitVec.ofInt 64 n &&& BitVec.ofInt 64 m).toNat = (n % ((2 ^ 64 : Nat) : Int)).toNat / 2 ^ i % 2 * 2 ^ i := by
  rw [BitVec.toNat_and, BitVec.toNat_ofInt, h, and_pow]
 show IntKind.i64.wrap ((BitVec.ofInt 64 n &&& BitVec.ofInt 64 m).toNat : Nat) = _
 rw [key]
theorem bit_0 (n : Int) : (bits .and .i64 n 1 != 0) = bitB n 0 := by
 rw [pow_aux n _ 0 (by decide), IntKind.wrap_i64, bitB, Bool.eq_iff_iff]
 simp only [bne_iff_ne, decide_eq_true_eq]
 omega
theorem bit_1 (n : Int) : (bits .and .i64 n 2 != 0) = bitB n 1 := by
 rw [pow_aux n _ 1 (by decide), IntKind.wrap_i64, bitB, Bool.eq_iff_iff]
 simp only [bne_iff_ne, decide_eq_true_eq]
 omega
theorem bit_2 (n : Int) : (bits .and .i64 n 4 != 0) = bitB n 2 := by
 rw [pow_aux n _ 2 (by decide), IntKind.wrap_i64, bitB, Bool.eq_iff_iff]
 simp only [bne_iff_ne, decide_eq_true_eq]
 omega
theorem bit_3 (n : Int) : (bits .and .i64 n 8 != 0) = bitB n 3 := by
 rw [pow_aux n _ 3 (by decide), IntKind.wrap_i64, bitB, Bool.eq_iff_iff]
 simp only [bne_iff_ne, decide_eq_true_eq]
 omega
theorem bit_4 (n : Int) : (bits .and .i64 n 16 != 0) = bitB n 4 := by
 rw [pow_aux n _ 4 (by decide), IntKind.wrap_i64, bitB, Bool.eq_iff_iff]
 simp only [bne_iff_ne, decide_eq_true_eq]
 omega
theorem bit_5 (n : Int) : (bits .and .i64 n 32 != 0) = bitB n 5 := by
 rw [pow_aux n _ 5 (by decide), IntKind.wrap_i64, bitB, Bool.eq_iff_iff]
 simp only [bne_iff_ne, decide_eq_true_eq]
 omega
theorem bit_6 (n : Int) : (bits .and .i64 n 64 != 0) = bitB n 6 := by
 rw [pow_aux n _ 6 (by decide), IntKind.wrap_i64, bitB, Bool.eq_iff_iff]
 simp only [bne_iff_ne, decide_eq_true_eq]
 omega
theorem bit_7 (n : Int) : (bits .and .i64 n 128 != 0) = bitB n 7 := by
 rw [pow_aux n _ 7 (by decide), IntKind.wrap_i64, bitB, Bool.eq_iff_iff]
 simp only [bne_iff_ne, decide_eq_true_eq]
 omega
theorem bit_8 (n : Int) : (bits .and .i64 n 256 != 0) = bitB n 8 := by
 rw [pow_aux n _ 8 (by decide), IntKind.wrap_i64, bitB, Bool.eq_iff_iff]
 simp only [bne_iff_ne, decide_eq_true_eq]
 omega
theorem bit_9 (n : Int) : (bits .and .i64 n 512 != 0) = bitB n 9 := by
 rw [pow_aux n _ 9 (by decide), IntKind.wrap_i64, bitB, Bool.eq_iff_iff]
 simp only [bne_iff_ne, decide_eq_true_eq]
 omega
theorem bit_10 (n : Int) : (bits .and .i64 n 1024 != 0) = bitB n 10 := by
 rw [pow_aux n _ 10 (by decide), IntKind.wrap_i64, bitB, Bool.eq_iff_iff]
 simp only [bne_iff_ne, decide_eq_true_eq]
 omega
theorem bit_11 (n : Int) : (bits .and .i64 n 2048 != 0) = bitB n 11 := by
 rw [pow_aux n _ 11 (by decide), IntKind.wrap_i64, bitB, Bool.eq_iff_iff]
 simp only [bne_iff_ne, decide_eq_true_eq]
 omega
theorem bit_12 (n : Int) : (bits .and .i64 n 4096 != 0) = bitB n 12 := by
 rw [pow_aux n _ 12 (by decide), IntKind.wrap_i64, bitB, Bool.eq_iff_iff]
 simp only [bne_iff_ne, decide_eq_true_eq]
 omega
theorem ahas_any (m : Int) (r : Nat) (w : World) (h : r ≤ 12) :
  Calls Tryz.prog 111 #[.int .i64 m, .int .i64 r] w fun e w' => e = .returned (.bool (bitB m r)) ∧ w = w' := by
 have : r = 0 ∨ r = 1 ∨ r = 2 ∨ r = 3 ∨ r = 4 ∨ r = 5 ∨ r = 6 ∨ r = 7 ∨ r = 8 ∨ r = 9 ∨ r = 10 ∨ r = 11 ∨ r = 12 := by omega
 clear h
 rcases this with rfl | rfl | rfl | rfl | rfl | rfl | rfl | rfl | rfl | rfl | rfl | rfl | rfl
 ·have e := bit_0 m
  generalize bitB m 0 = v at *
  go_enter Tryz.func111, Tryz.ntmps111
  go_wp2
  go_ret
  exact ⟨rfl, rfl⟩
 ·have e := bit_1 m
  generalize bitB m 1 = v at *
  go_enter Tryz.func111, Tryz.ntmps111
  go_wp2
  go_ret
  exact ⟨rfl, rfl⟩
 ·have e := bit_2 m
  generalize bitB m 2 = v at *
  go_enter Tryz.func111, Tryz.ntmps111
  go_wp2
  go_ret
  exact ⟨rfl, rfl⟩
 ·have e := bit_3 m
  generalize bitB m 3 = v at *
  go_enter Tryz.func111, Tryz.ntmps111
  go_wp2
  go_ret
  exact ⟨rfl, rfl⟩
 ·have e := bit_4 m
  generalize bitB m 4 = v at *
  go_enter Tryz.func111, Tryz.ntmps111
  go_wp2
  go_ret
  exact ⟨rfl, rfl⟩
 ·have e := bit_5 m
  generalize bitB m 5 = v at *
  go_enter Tryz.func111, Tryz.ntmps111
  go_wp2
  go_ret
  exact ⟨rfl, rfl⟩
 ·have e := bit_6 m
  generalize bitB m 6 = v at *
  go_enter Tryz.func111, Tryz.ntmps111
  go_wp2
  go_ret
  exact ⟨rfl, rfl⟩
 ·have e := bit_7 m
  generalize bitB m 7 = v at *
  go_enter Tryz.func111, Tryz.ntmps111
  go_wp2
  go_ret
  exact ⟨rfl, rfl⟩
 ·have e := bit_8 m
  generalize bitB m 8 = v at *
  go_enter Tryz.func111, Tryz.ntmps111
  go_wp2
  go_ret
  exact ⟨rfl, rfl⟩
 ·have e := bit_9 m
  generalize bitB m 9 = v at *
  go_enter Tryz.func111, Tryz.ntmps111
  go_wp2
  go_ret
  exact ⟨rfl, rfl⟩
 ·have e := bit_10 m
  generalize bitB m 10 = v at *
  go_enter Tryz.func111, Tryz.ntmps111
  go_wp2
  go_ret
  exact ⟨rfl, rfl⟩
 ·have e := bit_11 m
  generalize bitB m 11 = v at *
  go_enter Tryz.func111, Tryz.ntmps111
  go_wp2
  go_ret
  exact ⟨rfl, rfl⟩
 ·have e := bit_12 m
  generalize bitB m 12 = v at *
  go_enter Tryz.func111, Tryz.ntmps111
  go_wp2
  go_ret
  exact ⟨rfl, rfl⟩
def fl (m : Int) : Nat → Int
 | 0 => 0
 | k + 1 => fl m k + if bitB m k then 2 ^ (12 - k) else 0
def flip (m : Int) : Int := fl m 13
theorem fl_form (m : Int) : ∀ k : Nat, k ≤ 13 → ∃ Q : Nat, fl m k = (Q : Int) * 2 ^ (13 - k) ∧ Q < 2 ^ k := by
 intro k
 induction k with
 | zero => intro _; exact ⟨0, by simp [fl], by simp⟩
 | succ k ih =>
  intro h
  obtain ⟨Q, e, b⟩ := ih (by omega)
  have p : (2 : Int) ^ (13 - k) = 2 * 2 ^ (13 - (k + 1)) := by rw [show 13 - k = (13 - (k + 1)) + 1 by omega, Int.pow_succ]; omega
  refine ⟨2 * Q + (if bitB m k then 1 else 0), ?_, ?_⟩
  ·rw [fl, e, p, show 12 - k = 13 - (k + 1) by omega]
   split
   ·rw [show (((2 * Q + 1 : Nat)) : Int) = 2 * (Q : Int) + 1 by omega, Int.add_mul, Int.one_mul, Int.mul_comm 2 (Q : Int), Int.mul_assoc]
   ·rw [show (((2 * Q + 0 : Nat)) : Int) = 2 * (Q : Int) by omega, Int.mul_comm 2 (Q : Int), Int.mul_assoc]; simp
  ·rw [Nat.pow_succ]; split <;> omega
theorem wraps_i64 (n : Int) (h₀ : 0 ≤ n) (h₁ : n < 2 ^ 14) : IntKind.i64.wrap n = n := by rw [IntKind.wrap_i64]; omega
theorem flip_any (m : Int) (w : World) :
  Calls Tryz.prog 59 #[.int .i64 m] w fun e w' => e = .returned (.int .i64 (flip m)) ∧ w = w' := by
 go_enter Tryz.func59, Tryz.ntmps59
 go_wp2
 go_loop [3, 5] (fun f i => ∃ k : Nat, k ≤ 13 ∧ i = .int .i64 k ∧ f = .int .i64 (fl m k)) (fun _ i => 13 - (intOf i).toNat)
 case atStart => exact ⟨0, by omega, rfl, rfl⟩
 case round =>
  obtain ⟨k, hk, rfl, rfl⟩ := hrel
  by_cases hlt : k < 13
  ·have C := Hd (fun w => ahas_any m k w (by omega))
   have S : Hid (fl m (k + 1) = fl m k + if bitB m k then 2 ^ (12 - k) else 0) := rfl
   obtain ⟨Q, e, b⟩ := fl_form m k (by omega)
   rcases Bool.eq_false_or_eq_true (bitB m k) with h | h
   ·rw [h] at C S
    clear h
    have : k = 0 ∨ k = 1 ∨ k = 2 ∨ k = 3 ∨ k = 4 ∨ k = 5 ∨ k = 6 ∨ k = 7 ∨ k = 8 ∨ k = 9 ∨ k = 10 ∨ k = 11 ∨ k = 12 := by omega
    generalize fl m k = x at *
    clear hk hlt
    rcases this with rfl | rfl | rfl | rfl | rfl | rfl | rfl | rfl | rfl | rfl | rfl | rfl | rfl
    ·have j := bits_join .i64 14 (by decide) wraps_i64 13 x 4096 (by omega) (by omega) (by omega) (by omega) (by decide) (by decide)
     clear e b
     go_wp2_with fail; refine ((C.out _)).mono ?_; rintro e w' ⟨rfl, rfl⟩
     go_wp2
     go_round
     case rel => exact ⟨1, by omega, rfl, by rw [S.out]; rfl⟩
     case measure => simp [intOf]
    ·have j := bits_join .i64 14 (by decide) wraps_i64 12 x 2048 (by omega) (by omega) (by omega) (by omega) (by decide) (by decide)
     clear e b
     go_wp2_with fail; refine ((C.out _)).mono ?_; rintro e w' ⟨rfl, rfl⟩
     go_wp2
     go_round
     case rel => exact ⟨2, by omega, rfl, by rw [S.out]; rfl⟩
     case measure => simp [intOf]
    ·have j := bits_join .i64 14 (by decide) wraps_i64 11 x 1024 (by omega) (by omega) (by omega) (by omega) (by decide) (by decide)
     clear e b
     go_wp2_with fail; refine ((C.out _)).mono ?_; rintro e w' ⟨rfl, rfl⟩
     go_wp2
     go_round
     case rel => exact ⟨3, by omega, rfl, by rw [S.out]; rfl⟩
     case measure => simp [intOf]
    ·have j := bits_join .i64 14 (by decide) wraps_i64 10 x 512 (by omega) (by omega) (by omega) (by omega) (by decide) (by decide)
     clear e b
     go_wp2_with fail; refine ((C.out _)).mono ?_; rintro e w' ⟨rfl, rfl⟩
     go_wp2
     go_round
     case rel => exact ⟨4, by omega, rfl, by rw [S.out]; rfl⟩
     case measure => simp [intOf]
    ·have j := bits_join .i64 14 (by decide) wraps_i64 9 x 256 (by omega) (by omega) (by omega) (by omega) (by decide) (by decide)
     clear e b
     go_wp2_with fail; refine ((C.out _)).mono ?_; rintro e w' ⟨rfl, rfl⟩
     go_wp2
     go_round
     case rel => exact ⟨5, by omega, rfl, by rw [S.out]; rfl⟩
     case measure => simp [intOf]
    ·have j := bits_join .i64 14 (by decide) wraps_i64 8 x 128 (by omega) (by omega) (by omega) (by omega) (by decide) (by decide)
     clear e b
     go_wp2_with fail; refine ((C.out _)).mono ?_; rintro e w' ⟨rfl, rfl⟩
     go_wp2
     go_round
     case rel => exact ⟨6, by omega, rfl, by rw [S.out]; rfl⟩
     case measure => simp [intOf]
    ·have j := bits_join .i64 14 (by decide) wraps_i64 7 x 64 (by omega) (by omega) (by omega) (by omega) (by decide) (by decide)
     clear e b
     go_wp2_with fail; refine ((C.out _)).mono ?_; rintro e w' ⟨rfl, rfl⟩
     go_wp2
     go_round
     case rel => exact ⟨7, by omega, rfl, by rw [S.out]; rfl⟩
     case measure => simp [intOf]
    ·have j := bits_join .i64 14 (by decide) wraps_i64 6 x 32 (by omega) (by omega) (by omega) (by omega) (by decide) (by decide)
     clear e b
     go_wp2_with fail; refine ((C.out _)).mono ?_; rintro e w' ⟨rfl, rfl⟩
     go_wp2
     go_round
     case rel => exact ⟨8, by omega, rfl, by rw [S.out]; rfl⟩
     case measure => simp [intOf]
    ·have j := bits_join .i64 14 (by decide) wraps_i64 5 x 16 (by omega) (by omega) (by omega) (by omega) (by decide) (by decide)
     clear e b
     go_wp2_with fail; refine ((C.out _)).mono ?_; rintro e w' ⟨rfl, rfl⟩
     go_wp2
     go_round
     case rel => exact ⟨9, by omega, rfl, by rw [S.out]; rfl⟩
     case measure => simp [intOf]
    ·have j := bits_join .i64 14 (by decide) wraps_i64 4 x 8 (by omega) (by omega) (by omega) (by omega) (by decide) (by decide)
     clear e b
     go_wp2_with fail; refine ((C.out _)).mono ?_; rintro e w' ⟨rfl, rfl⟩
     go_wp2
     go_round
     case rel => exact ⟨10, by omega, rfl, by rw [S.out]; rfl⟩
     case measure => simp [intOf]
    ·have j := bits_join .i64 14 (by decide) wraps_i64 3 x 4 (by omega) (by omega) (by omega) (by omega) (by decide) (by decide)
     clear e b
     go_wp2_with fail; refine ((C.out _)).mono ?_; rintro e w' ⟨rfl, rfl⟩
     go_wp2
     go_round
     case rel => exact ⟨11, by omega, rfl, by rw [S.out]; rfl⟩
     case measure => simp [intOf]
    ·have j := bits_join .i64 14 (by decide) wraps_i64 2 x 2 (by omega) (by omega) (by omega) (by omega) (by decide) (by decide)
     clear e b
     go_wp2_with fail; refine ((C.out _)).mono ?_; rintro e w' ⟨rfl, rfl⟩
     go_wp2
     go_round
     case rel => exact ⟨12, by omega, rfl, by rw [S.out]; rfl⟩
     case measure => simp [intOf]
    ·have j := bits_join .i64 14 (by decide) wraps_i64 1 x 1 (by omega) (by omega) (by omega) (by omega) (by decide) (by decide)
     clear e b
     go_wp2_with fail; refine ((C.out _)).mono ?_; rintro e w' ⟨rfl, rfl⟩
     go_wp2
     go_round
     case rel => exact ⟨13, by omega, rfl, by rw [S.out]; rfl⟩
     case measure => simp [intOf]
   ·rw [h] at C S
    have S2 : Hid (fl m (k + 1) = fl m k) := by unfold Hid; rw [S.out]; simp
    clear h e b S
    go_wp2_with fail; refine ((C.out _)).mono ?_; rintro e w' ⟨rfl, rfl⟩
    go_wp2
    go_round
    case rel => exact ⟨k + 1, by omega, by go_num, by rw [S2.out]⟩
    case measure => simp [intOf]; omega
  ·obtain rfl : k = 13 := by omega
   go_wp2
   go_ret
   exact ⟨rfl, rfl⟩
def bI (m : Int) (r : Nat) : Int := m / 2 ^ r % 2
theorem bI_bd (m : Int) (r : Nat) : bI m r = 0 ∨ bI m r = 1 := by unfold bI; omega
theorem bitB_bI (m : Int) (r : Nat) : bitB m r = decide (bI m r = 1) := rfl
theorem ite_bI (m : Int) (r : Nat) (x : Int) : (if bitB m r = true then x else 0) = bI m r * x := by
 rw [bitB_bI]; rcases bI_bd m r with h | h <;> rw [h] <;> simp
theorem flip_sum (m : Int) : flip m = bI m 0 * 4096 + bI m 1 * 2048 + bI m 2 * 1024 + bI m 3 * 512 + bI m 4 * 256 + bI m 5 * 128 + bI m 6 * 64 + bI m 7 * 32 + bI m 8 * 16 + bI m 9 * 8 + bI m 10 * 4 + bI m 11 * 2 + bI m 12 := by
 unfold flip
 simp only [fl, ite_bI]
 simp
theorem bit_mid (f h x l p : Int) (hp : 0 < p) (e : f = h * (2 * p) + x * p + l) (l1 : 0 ≤ l) (l2 : l < p) (x1 : x = 0 ∨ x = 1) : f / p % 2 = x := by
 have k : f = l + (2 * h + x) * p := by rw [e, Int.add_mul, ← Int.mul_assoc, Int.mul_comm h 2, Int.mul_assoc 2 h p]; omega
 rw [k, Int.add_mul_ediv_right _ _ (by omega), Int.ediv_eq_zero_of_lt l1 l2]
 omega
theorem bI_flip_0 (m : Int) : bI (flip m) 0 = bI m 12 := by
 have s := flip_sum m
 have c : ∀ i, 0 ≤ bI m i ∧ bI m i ≤ 1 := fun i => by have := bI_bd m i; omega
 have b0 := c 0
 have b1 := c 1
 have b2 := c 2
 have b3 := c 3
 have b4 := c 4
 have b5 := c 5
 have b6 := c 6
 have b7 := c 7
 have b8 := c 8
 have b9 := c 9
 have b10 := c 10
 have b11 := c 11
 have b12 := c 12
 exact bit_mid (flip m) (bI m 11 * 1 + bI m 10 * 2 + bI m 9 * 4 + bI m 8 * 8 + bI m 7 * 16 + bI m 6 * 32 + bI m 5 * 64 + bI m 4 * 128 + bI m 3 * 256 + bI m 2 * 512 + bI m 1 * 1024 + bI m 0 * 2048) (bI m 12) (0) 1 (by omega) (by omega) (by omega) (by omega) (bI_bd m 12)
theorem bI_flip_1 (m : Int) : bI (flip m) 1 = bI m 11 := by
 have s := flip_sum m
 have c : ∀ i, 0 ≤ bI m i ∧ bI m i ≤ 1 := fun i => by have := bI_bd m i; omega
 have b0 := c 0
 have b1 := c 1
 have b2 := c 2
 have b3 := c 3
 have b4 := c 4
 have b5 := c 5
 have b6 := c 6
 have b7 := c 7
 have b8 := c 8
 have b9 := c 9
 have b10 := c 10
 have b11 := c 11
 have b12 := c 12
 exact bit_mid (flip m) (bI m 10 * 1 + bI m 9 * 2 + bI m 8 * 4 + bI m 7 * 8 + bI m 6 * 16 + bI m 5 * 32 + bI m 4 * 64 + bI m 3 * 128 + bI m 2 * 256 + bI m 1 * 512 + bI m 0 * 1024) (bI m 11) (bI m 12 * 1) 2 (by omega) (by omega) (by omega) (by omega) (bI_bd m 11)
theorem bI_flip_2 (m : Int) : bI (flip m) 2 = bI m 10 := by
 have s := flip_sum m
 have c : ∀ i, 0 ≤ bI m i ∧ bI m i ≤ 1 := fun i => by have := bI_bd m i; omega
 have b0 := c 0
 have b1 := c 1
 have b2 := c 2
 have b3 := c 3
 have b4 := c 4
 have b5 := c 5
 have b6 := c 6
 have b7 := c 7
 have b8 := c 8
 have b9 := c 9
 have b10 := c 10
 have b11 := c 11
 have b12 := c 12
 exact bit_mid (flip m) (bI m 9 * 1 + bI m 8 * 2 + bI m 7 * 4 + bI m 6 * 8 + bI m 5 * 16 + bI m 4 * 32 + bI m 3 * 64 + bI m 2 * 128 + bI m 1 * 256 + bI m 0 * 512) (bI m 10) (bI m 12 * 1 + bI m 11 * 2) 4 (by omega) (by omega) (by omega) (by omega) (bI_bd m 10)
theorem bI_flip_3 (m : Int) : bI (flip m) 3 = bI m 9 := by
 have s := flip_sum m
 have c : ∀ i, 0 ≤ bI m i ∧ bI m i ≤ 1 := fun i => by have := bI_bd m i; omega
 have b0 := c 0
 have b1 := c 1
 have b2 := c 2
 have b3 := c 3
 have b4 := c 4
 have b5 := c 5
 have b6 := c 6
 have b7 := c 7
 have b8 := c 8
 have b9 := c 9
 have b10 := c 10
 have b11 := c 11
 have b12 := c 12
 exact bit_mid (flip m) (bI m 8 * 1 + bI m 7 * 2 + bI m 6 * 4 + bI m 5 * 8 + bI m 4 * 16 + bI m 3 * 32 + bI m 2 * 64 + bI m 1 * 128 + bI m 0 * 256) (bI m 9) (bI m 12 * 1 + bI m 11 * 2 + bI m 10 * 4) 8 (by omega) (by omega) (by omega) (by omega) (bI_bd m 9)
theorem bI_flip_4 (m : Int) : bI (flip m) 4 = bI m 8 := by
 have s := flip_sum m
 have c : ∀ i, 0 ≤ bI m i ∧ bI m i ≤ 1 := fun i => by have := bI_bd m i; omega
 have b0 := c 0
 have b1 := c 1
 have b2 := c 2
 have b3 := c 3
 have b4 := c 4
 have b5 := c 5
 have b6 := c 6
 have b7 := c 7
 have b8 := c 8
 have b9 := c 9
 have b10 := c 10
 have b11 := c 11
 have b12 := c 12
 exact bit_mid (flip m) (bI m 7 * 1 + bI m 6 * 2 + bI m 5 * 4 + bI m 4 * 8 + bI m 3 * 16 + bI m 2 * 32 + bI m 1 * 64 + bI m 0 * 128) (bI m 8) (bI m 12 * 1 + bI m 11 * 2 + bI m 10 * 4 + bI m 9 * 8) 16 (by omega) (by omega) (by omega) (by omega) (bI_bd m 8)
theorem bI_flip_5 (m : Int) : bI (flip m) 5 = bI m 7 := by
 have s := flip_sum m
 have c : ∀ i, 0 ≤ bI m i ∧ bI m i ≤ 1 := fun i => by have := bI_bd m i; omega
 have b0 := c 0
 have b1 := c 1
 have b2 := c 2
 have b3 := c 3
 have b4 := c 4
 have b5 := c 5
 have b6 := c 6
 have b7 := c 7
 have b8 := c 8
 have b9 := c 9
 have b10 := c 10
 have b11 := c 11
 have b12 := c 12
 exact bit_mid (flip m) (bI m 6 * 1 + bI m 5 * 2 + bI m 4 * 4 + bI m 3 * 8 + bI m 2 * 16 + bI m 1 * 32 + bI m 0 * 64) (bI m 7) (bI m 12 * 1 + bI m 11 * 2 + bI m 10 * 4 + bI m 9 * 8 + bI m 8 * 16) 32 (by omega) (by omega) (by omega) (by omega) (bI_bd m 7)
theorem bI_flip_6 (m : Int) : bI (flip m) 6 = bI m 6 := by
 have s := flip_sum m
 have c : ∀ i, 0 ≤ bI m i ∧ bI m i ≤ 1 := fun i => by have := bI_bd m i; omega
 have b0 := c 0
 have b1 := c 1
 have b2 := c 2
 have b3 := c 3
 have b4 := c 4
 have b5 := c 5
 have b6 := c 6
 have b7 := c 7
 have b8 := c 8
 have b9 := c 9
 have b10 := c 10
 have b11 := c 11
 have b12 := c 12
 exact bit_mid (flip m) (bI m 5 * 1 + bI m 4 * 2 + bI m 3 * 4 + bI m 2 * 8 + bI m 1 * 16 + bI m 0 * 32) (bI m 6) (bI m 12 * 1 + bI m 11 * 2 + bI m 10 * 4 + bI m 9 * 8 + bI m 8 * 16 + bI m 7 * 32) 64 (by omega) (by omega) (by omega) (by omega) (bI_bd m 6)
theorem bI_flip_7 (m : Int) : bI (flip m) 7 = bI m 5 := by
 have s := flip_sum m
 have c : ∀ i, 0 ≤ bI m i ∧ bI m i ≤ 1 := fun i => by have := bI_bd m i; omega
 have b0 := c 0
 have b1 := c 1
 have b2 := c 2
 have b3 := c 3
 have b4 := c 4
 have b5 := c 5
 have b6 := c 6
 have b7 := c 7
 have b8 := c 8
 have b9 := c 9
 have b10 := c 10
 have b11 := c 11
 have b12 := c 12
 exact bit_mid (flip m) (bI m 4 * 1 + bI m 3 * 2 + bI m 2 * 4 + bI m 1 * 8 + bI m 0 * 16) (bI m 5) (bI m 12 * 1 + bI m 11 * 2 + bI m 10 * 4 + bI m 9 * 8 + bI m 8 * 16 + bI m 7 * 32 + bI m 6 * 64) 128 (by omega) (by omega) (by omega) (by omega) (bI_bd m 5)
theorem bI_flip_8 (m : Int) : bI (flip m) 8 = bI m 4 := by
 have s := flip_sum m
 have c : ∀ i, 0 ≤ bI m i ∧ bI m i ≤ 1 := fun i => by have := bI_bd m i; omega
 have b0 := c 0
 have b1 := c 1
 have b2 := c 2
 have b3 := c 3
 have b4 := c 4
 have b5 := c 5
 have b6 := c 6
 have b7 := c 7
 have b8 := c 8
 have b9 := c 9
 have b10 := c 10
 have b11 := c 11
 have b12 := c 12
 exact bit_mid (flip m) (bI m 3 * 1 + bI m 2 * 2 + bI m 1 * 4 + bI m 0 * 8) (bI m 4) (bI m 12 * 1 + bI m 11 * 2 + bI m 10 * 4 + bI m 9 * 8 + bI m 8 * 16 + bI m 7 * 32 + bI m 6 * 64 + bI m 5 * 128) 256 (by omega) (by omega) (by omega) (by omega) (bI_bd m 4)
theorem bI_flip_9 (m : Int) : bI (flip m) 9 = bI m 3 := by
 have s := flip_sum m
 have c : ∀ i, 0 ≤ bI m i ∧ bI m i ≤ 1 := fun i => by have := bI_bd m i; omega
 have b0 := c 0
 have b1 := c 1
 have b2 := c 2
 have b3 := c 3
 have b4 := c 4
 have b5 := c 5
 have b6 := c 6
 have b7 := c 7
 have b8 := c 8
 have b9 := c 9
 have b10 := c 10
 have b11 := c 11
 have b12 := c 12
 exact bit_mid (flip m) (bI m 2 * 1 + bI m 1 * 2 + bI m 0 * 4) (bI m 3) (bI m 12 * 1 + bI m 11 * 2 + bI m 10 * 4 + bI m 9 * 8 + bI m 8 * 16 + bI m 7 * 32 + bI m 6 * 64 + bI m 5 * 128 + bI m 4 * 256) 512 (by omega) (by omega) (by omega) (by omega) (bI_bd m 3)
theorem bI_flip_10 (m : Int) : bI (flip m) 10 = bI m 2 := by
 have s := flip_sum m
 have c : ∀ i, 0 ≤ bI m i ∧ bI m i ≤ 1 := fun i => by have := bI_bd m i; omega
 have b0 := c 0
 have b1 := c 1
 have b2 := c 2
 have b3 := c 3
 have b4 := c 4
 have b5 := c 5
 have b6 := c 6
 have b7 := c 7
 have b8 := c 8
 have b9 := c 9
 have b10 := c 10
 have b11 := c 11
 have b12 := c 12
 exact bit_mid (flip m) (bI m 1 * 1 + bI m 0 * 2) (bI m 2) (bI m 12 * 1 + bI m 11 * 2 + bI m 10 * 4 + bI m 9 * 8 + bI m 8 * 16 + bI m 7 * 32 + bI m 6 * 64 + bI m 5 * 128 + bI m 4 * 256 + bI m 3 * 512) 1024 (by omega) (by omega) (by omega) (by omega) (bI_bd m 2)
theorem bI_flip_11 (m : Int) : bI (flip m) 11 = bI m 1 := by
 have s := flip_sum m
 have c : ∀ i, 0 ≤ bI m i ∧ bI m i ≤ 1 := fun i => by have := bI_bd m i; omega
 have b0 := c 0
 have b1 := c 1
 have b2 := c 2
 have b3 := c 3
 have b4 := c 4
 have b5 := c 5
 have b6 := c 6
 have b7 := c 7
 have b8 := c 8
 have b9 := c 9
 have b10 := c 10
 have b11 := c 11
 have b12 := c 12
 exact bit_mid (flip m) (bI m 0 * 1) (bI m 1) (bI m 12 * 1 + bI m 11 * 2 + bI m 10 * 4 + bI m 9 * 8 + bI m 8 * 16 + bI m 7 * 32 + bI m 6 * 64 + bI m 5 * 128 + bI m 4 * 256 + bI m 3 * 512 + bI m 2 * 1024) 2048 (by omega) (by omega) (by omega) (by omega) (bI_bd m 1)
theorem bI_flip_12 (m : Int) : bI (flip m) 12 = bI m 0 := by
 have s := flip_sum m
 have c : ∀ i, 0 ≤ bI m i ∧ bI m i ≤ 1 := fun i => by have := bI_bd m i; omega
 have b0 := c 0
 have b1 := c 1
 have b2 := c 2
 have b3 := c 3
 have b4 := c 4
 have b5 := c 5
 have b6 := c 6
 have b7 := c 7
 have b8 := c 8
 have b9 := c 9
 have b10 := c 10
 have b11 := c 11
 have b12 := c 12
 exact bit_mid (flip m) (0) (bI m 0) (bI m 12 * 1 + bI m 11 * 2 + bI m 10 * 4 + bI m 9 * 8 + bI m 8 * 16 + bI m 7 * 32 + bI m 6 * 64 + bI m 5 * 128 + bI m 4 * 256 + bI m 3 * 512 + bI m 2 * 1024 + bI m 1 * 2048) 4096 (by omega) (by omega) (by omega) (by omega) (bI_bd m 0)
theorem flip_bd (m : Int) : 0 ≤ flip m ∧ flip m ≤ 8191 := by
 have s := flip_sum m
 have c : ∀ i, 0 ≤ bI m i ∧ bI m i ≤ 1 := fun i => by have := bI_bd m i; omega
 have b0 := c 0
 have b1 := c 1
 have b2 := c 2
 have b3 := c 3
 have b4 := c 4
 have b5 := c 5
 have b6 := c 6
 have b7 := c 7
 have b8 := c 8
 have b9 := c 9
 have b10 := c 10
 have b11 := c 11
 have b12 := c 12
 omega
def nmsL : List ByteArray := [⟨#[98, 101, 102, 111, 114, 101]⟩, ⟨#[109, 101, 101, 116, 115]⟩, ⟨#[111, 118, 101, 114, 108, 97, 112, 115]⟩, ⟨#[115, 116, 97, 114, 116, 115]⟩, ⟨#[100, 117, 114, 105, 110, 103]⟩, ⟨#[102, 105, 110, 105, 115, 104, 101, 115]⟩, ⟨#[101, 113, 117, 97, 108, 115]⟩, ⟨#[102, 105, 110, 105, 115, 104, 101, 100, 45, 98, 121]⟩, ⟨#[99, 111, 110, 116, 97, 105, 110, 115]⟩, ⟨#[115, 116, 97, 114, 116, 101, 100, 45, 98, 121]⟩, ⟨#[111, 118, 101, 114, 108, 97, 112, 112, 101, 100, 45, 98, 121]⟩, ⟨#[109, 101, 116, 45, 98, 121]⟩, ⟨#[97, 102, 116, 101, 114]⟩]
def TabNM (w : World) : Prop := w.var? Tryz.prog "lustrum/allen.names" = some (nmsL.map Value.string).toArray
theorem gNM : Tryz.prog.globalNamed "lustrum/allen.names" = some 0 := by kernel_rfl
theorem nth_arr (L : List ByteArray) (i : Nat) (h : i < L.length) : (L.map Value.string).toArray[i]? = some (.string (L.getD i ByteArray.empty)) := by simp [List.getD, h]
theorem TabNM.cell {w : World} (h : TabNM w) (i : Nat) (hi : i < 13) : w.cell? ⟨0, i, none⟩ = some (.string (nmsL.getD i ByteArray.empty)) := by
 have q := World.var?_cell gNM h i
 have l : nmsL.length = 13 := rfl
 have e := nth_arr nmsL i (by omega)
 rw [q, e]
theorem TabNM.kp {w w' : World} (h : TabNM w) (k : Kp w w') : TabNM w' := var?_below k gNM (var_lt gNM h) h
def nm (r : Int) : ByteArray := if invB r then nmsL.getD r.toNat ByteArray.empty else ByteArray.empty
theorem name_any (r : Int) (w : World) (hT : TabNM w) :
  Calls Tryz.prog 31 #[.int .i64 r] w fun e w' => e = .returned (.string (nm r)) ∧ w = w' := by
 have C := Hd (isrel_any r w)
 rcases Bool.eq_false_or_eq_true (invB r) with h | h
 ·have bd : 0 ≤ r ∧ r ≤ 12 := by unfold invB at h; simpa using h
  obtain ⟨k, rfl⟩ := Int.eq_ofNat_of_zero_le bd.1
  have hk : k < 13 := by omega
  have c := hT.cell k hk
  rw [show nm k = nmsL.getD k ByteArray.empty by unfold nm; rw [h]; simp]
  rw [h] at C
  generalize nmsL.getD k ByteArray.empty = s at *
  clear h bd hT
  go_enter Tryz.func31, Tryz.ntmps31
  go_wp2_with fail; refine (C.out).mono ?_; rintro e w' ⟨rfl, rfl⟩
  go_wp2
  go_ret
  exact ⟨rfl, rfl⟩
 ·rw [show nm r = ByteArray.empty by unfold nm; rw [h]; rfl]
  rw [h] at C
  clear h hT
  go_enter Tryz.func31, Tryz.ntmps31
  go_wp2_with fail; refine (C.out).mono ?_; rintro e w' ⟨rfl, rfl⟩
  go_wp2
  go_ret
  exact ⟨rfl, rfl⟩
theorem sh_0 (n : Int) : (bits .and .i64 n 1 == 1) = bitB n 0 := by
 rw [pow_aux n _ 0 (by decide), IntKind.wrap_i64, bitB, Bool.eq_iff_iff]
 simp only [beq_iff_eq, decide_eq_true_eq]
 omega
theorem sh_1 (n : Int) : (bits .and .i64 (n / 2) 1 == 1) = bitB n 1 := by
 rw [pow_aux (n / 2) _ 0 (by decide), IntKind.wrap_i64, bitB, Bool.eq_iff_iff]
 simp only [beq_iff_eq, decide_eq_true_eq]
 omega
theorem sh_2 (n : Int) : (bits .and .i64 (n / 4) 1 == 1) = bitB n 2 := by
 rw [pow_aux (n / 4) _ 0 (by decide), IntKind.wrap_i64, bitB, Bool.eq_iff_iff]
 simp only [beq_iff_eq, decide_eq_true_eq]
 omega
theorem sh_3 (n : Int) : (bits .and .i64 (n / 8) 1 == 1) = bitB n 3 := by
 rw [pow_aux (n / 8) _ 0 (by decide), IntKind.wrap_i64, bitB, Bool.eq_iff_iff]
 simp only [beq_iff_eq, decide_eq_true_eq]
 omega
theorem sh_4 (n : Int) : (bits .and .i64 (n / 16) 1 == 1) = bitB n 4 := by
 rw [pow_aux (n / 16) _ 0 (by decide), IntKind.wrap_i64, bitB, Bool.eq_iff_iff]
 simp only [beq_iff_eq, decide_eq_true_eq]
 omega
theorem sh_5 (n : Int) : (bits .and .i64 (n / 32) 1 == 1) = bitB n 5 := by
 rw [pow_aux (n / 32) _ 0 (by decide), IntKind.wrap_i64, bitB, Bool.eq_iff_iff]
 simp only [beq_iff_eq, decide_eq_true_eq]
 omega
theorem sh_6 (n : Int) : (bits .and .i64 (n / 64) 1 == 1) = bitB n 6 := by
 rw [pow_aux (n / 64) _ 0 (by decide), IntKind.wrap_i64, bitB, Bool.eq_iff_iff]
 simp only [beq_iff_eq, decide_eq_true_eq]
 omega
theorem sh_7 (n : Int) : (bits .and .i64 (n / 128) 1 == 1) = bitB n 7 := by
 rw [pow_aux (n / 128) _ 0 (by decide), IntKind.wrap_i64, bitB, Bool.eq_iff_iff]
 simp only [beq_iff_eq, decide_eq_true_eq]
 omega
theorem sh_8 (n : Int) : (bits .and .i64 (n / 256) 1 == 1) = bitB n 8 := by
 rw [pow_aux (n / 256) _ 0 (by decide), IntKind.wrap_i64, bitB, Bool.eq_iff_iff]
 simp only [beq_iff_eq, decide_eq_true_eq]
 omega
theorem sh_9 (n : Int) : (bits .and .i64 (n / 512) 1 == 1) = bitB n 9 := by
 rw [pow_aux (n / 512) _ 0 (by decide), IntKind.wrap_i64, bitB, Bool.eq_iff_iff]
 simp only [beq_iff_eq, decide_eq_true_eq]
 omega
theorem sh_10 (n : Int) : (bits .and .i64 (n / 1024) 1 == 1) = bitB n 10 := by
 rw [pow_aux (n / 1024) _ 0 (by decide), IntKind.wrap_i64, bitB, Bool.eq_iff_iff]
 simp only [beq_iff_eq, decide_eq_true_eq]
 omega
theorem sh_11 (n : Int) : (bits .and .i64 (n / 2048) 1 == 1) = bitB n 11 := by
 rw [pow_aux (n / 2048) _ 0 (by decide), IntKind.wrap_i64, bitB, Bool.eq_iff_iff]
 simp only [beq_iff_eq, decide_eq_true_eq]
 omega
theorem sh_12 (n : Int) : (bits .and .i64 (n / 4096) 1 == 1) = bitB n 12 := by
 rw [pow_aux (n / 4096) _ 0 (by decide), IntKind.wrap_i64, bitB, Bool.eq_iff_iff]
 simp only [beq_iff_eq, decide_eq_true_eq]
 omega
theorem refHas_any (m : Int) (r : Nat) (w : World) (h : r ≤ 12) :
  Calls Tryz.prog 32 #[.int .i64 m, .int .i64 r] w fun e w' => e = .returned (.bool (bitB m r)) ∧ w = w' := by
 have : r = 0 ∨ r = 1 ∨ r = 2 ∨ r = 3 ∨ r = 4 ∨ r = 5 ∨ r = 6 ∨ r = 7 ∨ r = 8 ∨ r = 9 ∨ r = 10 ∨ r = 11 ∨ r = 12 := by omega
 clear h
 rcases this with rfl | rfl | rfl | rfl | rfl | rfl | rfl | rfl | rfl | rfl | rfl | rfl | rfl
 ·have e := sh_0 m
  generalize bitB m 0 = v at *
  go_enter Tryz.func32, Tryz.ntmps32
  go_wp2
  go_ret
  exact ⟨rfl, rfl⟩
 ·have e := sh_1 m
  generalize bitB m 1 = v at *
  go_enter Tryz.func32, Tryz.ntmps32
  go_wp2
  go_ret
  exact ⟨rfl, rfl⟩
 ·have e := sh_2 m
  generalize bitB m 2 = v at *
  go_enter Tryz.func32, Tryz.ntmps32
  go_wp2
  go_ret
  exact ⟨rfl, rfl⟩
 ·have e := sh_3 m
  generalize bitB m 3 = v at *
  go_enter Tryz.func32, Tryz.ntmps32
  go_wp2
  go_ret
  exact ⟨rfl, rfl⟩
 ·have e := sh_4 m
  generalize bitB m 4 = v at *
  go_enter Tryz.func32, Tryz.ntmps32
  go_wp2
  go_ret
  exact ⟨rfl, rfl⟩
 ·have e := sh_5 m
  generalize bitB m 5 = v at *
  go_enter Tryz.func32, Tryz.ntmps32
  go_wp2
  go_ret
  exact ⟨rfl, rfl⟩
 ·have e := sh_6 m
  generalize bitB m 6 = v at *
  go_enter Tryz.func32, Tryz.ntmps32
  go_wp2
  go_ret
  exact ⟨rfl, rfl⟩
 ·have e := sh_7 m
  generalize bitB m 7 = v at *
  go_enter Tryz.func32, Tryz.ntmps32
  go_wp2
  go_ret
  exact ⟨rfl, rfl⟩
 ·have e := sh_8 m
  generalize bitB m 8 = v at *
  go_enter Tryz.func32, Tryz.ntmps32
  go_wp2
  go_ret
  exact ⟨rfl, rfl⟩
 ·have e := sh_9 m
  generalize bitB m 9 = v at *
  go_enter Tryz.func32, Tryz.ntmps32
  go_wp2
  go_ret
  exact ⟨rfl, rfl⟩
 ·have e := sh_10 m
  generalize bitB m 10 = v at *
  go_enter Tryz.func32, Tryz.ntmps32
  go_wp2
  go_ret
  exact ⟨rfl, rfl⟩
 ·have e := sh_11 m
  generalize bitB m 11 = v at *
  go_enter Tryz.func32, Tryz.ntmps32
  go_wp2
  go_ret
  exact ⟨rfl, rfl⟩
 ·have e := sh_12 m
  generalize bitB m 12 = v at *
  go_enter Tryz.func32, Tryz.ntmps32
  go_wp2
  go_ret
  exact ⟨rfl, rfl⟩
theorem refFlip_any (m : Int) (w : World) :
  Calls Tryz.prog 65 #[.int .i64 m] w fun e w' => e = .returned (.int .i64 (flip m)) ∧ w = w' := by
 go_enter Tryz.func65, Tryz.ntmps65
 go_wp2
 go_loop [3, 4] (fun f i => ∃ k : Nat, k ≤ 13 ∧ i = .int .i64 k ∧ f = .int .i64 (fl m k)) (fun _ i => 13 - (intOf i).toNat)
 case atStart => exact ⟨0, by omega, rfl, rfl⟩
 case round =>
  obtain ⟨k, hk, rfl, rfl⟩ := hrel
  by_cases hlt : k < 13
  ·have C := Hd (fun w => refHas_any m k w (by omega))
   have S : Hid (fl m (k + 1) = fl m k + if bitB m k then 2 ^ (12 - k) else 0) := rfl
   obtain ⟨Q, e, b⟩ := fl_form m k (by omega)
   rcases Bool.eq_false_or_eq_true (bitB m k) with h | h
   ·rw [h] at C S
    clear h
    have : k = 0 ∨ k = 1 ∨ k = 2 ∨ k = 3 ∨ k = 4 ∨ k = 5 ∨ k = 6 ∨ k = 7 ∨ k = 8 ∨ k = 9 ∨ k = 10 ∨ k = 11 ∨ k = 12 := by omega
    generalize fl m k = x at *
    clear hk hlt
    rcases this with rfl | rfl | rfl | rfl | rfl | rfl | rfl | rfl | rfl | rfl | rfl | rfl | rfl
    ·have j := bits_join .i64 14 (by decide) wraps_i64 13 x 4096 (by omega) (by omega) (by omega) (by omega) (by decide) (by decide)
     clear e b
     go_wp2_with fail; refine ((C.out _)).mono ?_; rintro e w' ⟨rfl, rfl⟩
     go_wp2
     go_round
     case rel => exact ⟨1, by omega, rfl, by rw [S.out]; rfl⟩
     case measure => simp [intOf]
    ·have j := bits_join .i64 14 (by decide) wraps_i64 12 x 2048 (by omega) (by omega) (by omega) (by omega) (by decide) (by decide)
     clear e b
     go_wp2_with fail; refine ((C.out _)).mono ?_; rintro e w' ⟨rfl, rfl⟩
     go_wp2
     go_round
     case rel => exact ⟨2, by omega, rfl, by rw [S.out]; rfl⟩
     case measure => simp [intOf]
    ·have j := bits_join .i64 14 (by decide) wraps_i64 11 x 1024 (by omega) (by omega) (by omega) (by omega) (by decide) (by decide)
     clear e b
     go_wp2_with fail; refine ((C.out _)).mono ?_; rintro e w' ⟨rfl, rfl⟩
     go_wp2
     go_round
     case rel => exact ⟨3, by omega, rfl, by rw [S.out]; rfl⟩
     case measure => simp [intOf]
    ·have j := bits_join .i64 14 (by decide) wraps_i64 10 x 512 (by omega) (by omega) (by omega) (by omega) (by decide) (by decide)
     clear e b
     go_wp2_with fail; refine ((C.out _)).mono ?_; rintro e w' ⟨rfl, rfl⟩
     go_wp2
     go_round
     case rel => exact ⟨4, by omega, rfl, by rw [S.out]; rfl⟩
     case measure => simp [intOf]
    ·have j := bits_join .i64 14 (by decide) wraps_i64 9 x 256 (by omega) (by omega) (by omega) (by omega) (by decide) (by decide)
     clear e b
     go_wp2_with fail; refine ((C.out _)).mono ?_; rintro e w' ⟨rfl, rfl⟩
     go_wp2
     go_round
     case rel => exact ⟨5, by omega, rfl, by rw [S.out]; rfl⟩
     case measure => simp [intOf]
    ·have j := bits_join .i64 14 (by decide) wraps_i64 8 x 128 (by omega) (by omega) (by omega) (by omega) (by decide) (by decide)
     clear e b
     go_wp2_with fail; refine ((C.out _)).mono ?_; rintro e w' ⟨rfl, rfl⟩
     go_wp2
     go_round
     case rel => exact ⟨6, by omega, rfl, by rw [S.out]; rfl⟩
     case measure => simp [intOf]
    ·have j := bits_join .i64 14 (by decide) wraps_i64 7 x 64 (by omega) (by omega) (by omega) (by omega) (by decide) (by decide)
     clear e b
     go_wp2_with fail; refine ((C.out _)).mono ?_; rintro e w' ⟨rfl, rfl⟩
     go_wp2
     go_round
     case rel => exact ⟨7, by omega, rfl, by rw [S.out]; rfl⟩
     case measure => simp [intOf]
    ·have j := bits_join .i64 14 (by decide) wraps_i64 6 x 32 (by omega) (by omega) (by omega) (by omega) (by decide) (by decide)
     clear e b
     go_wp2_with fail; refine ((C.out _)).mono ?_; rintro e w' ⟨rfl, rfl⟩
     go_wp2
     go_round
     case rel => exact ⟨8, by omega, rfl, by rw [S.out]; rfl⟩
     case measure => simp [intOf]
    ·have j := bits_join .i64 14 (by decide) wraps_i64 5 x 16 (by omega) (by omega) (by omega) (by omega) (by decide) (by decide)
     clear e b
     go_wp2_with fail; refine ((C.out _)).mono ?_; rintro e w' ⟨rfl, rfl⟩
     go_wp2
     go_round
     case rel => exact ⟨9, by omega, rfl, by rw [S.out]; rfl⟩
     case measure => simp [intOf]
    ·have j := bits_join .i64 14 (by decide) wraps_i64 4 x 8 (by omega) (by omega) (by omega) (by omega) (by decide) (by decide)
     clear e b
     go_wp2_with fail; refine ((C.out _)).mono ?_; rintro e w' ⟨rfl, rfl⟩
     go_wp2
     go_round
     case rel => exact ⟨10, by omega, rfl, by rw [S.out]; rfl⟩
     case measure => simp [intOf]
    ·have j := bits_join .i64 14 (by decide) wraps_i64 3 x 4 (by omega) (by omega) (by omega) (by omega) (by decide) (by decide)
     clear e b
     go_wp2_with fail; refine ((C.out _)).mono ?_; rintro e w' ⟨rfl, rfl⟩
     go_wp2
     go_round
     case rel => exact ⟨11, by omega, rfl, by rw [S.out]; rfl⟩
     case measure => simp [intOf]
    ·have j := bits_join .i64 14 (by decide) wraps_i64 2 x 2 (by omega) (by omega) (by omega) (by omega) (by decide) (by decide)
     clear e b
     go_wp2_with fail; refine ((C.out _)).mono ?_; rintro e w' ⟨rfl, rfl⟩
     go_wp2
     go_round
     case rel => exact ⟨12, by omega, rfl, by rw [S.out]; rfl⟩
     case measure => simp [intOf]
    ·have j := bits_join .i64 14 (by decide) wraps_i64 1 x 1 (by omega) (by omega) (by omega) (by omega) (by decide) (by decide)
     clear e b
     go_wp2_with fail; refine ((C.out _)).mono ?_; rintro e w' ⟨rfl, rfl⟩
     go_wp2
     go_round
     case rel => exact ⟨13, by omega, rfl, by rw [S.out]; rfl⟩
     case measure => simp [intOf]
   ·rw [h] at C S
    have S2 : Hid (fl m (k + 1) = fl m k) := by unfold Hid; rw [S.out]; simp
    clear h e b S
    go_wp2_with fail; refine ((C.out _)).mono ?_; rintro e w' ⟨rfl, rfl⟩
    go_wp2
    go_round
    case rel => exact ⟨k + 1, by omega, by go_num, by rw [S2.out]⟩
    case measure => simp [intOf]; omega
  ·obtain rfl : k = 13 := by omega
   go_wp2
   go_ret
   exact ⟨rfl, rfl⟩
end Go.Proofs.YtcooaoponkkpeaaGreatDoor
