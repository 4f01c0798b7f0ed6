import Derived.Test.YtamdjbpgkiekcaaGreatDoorAllenA
import Derived.Laws.Bits128
import Derived.LoopTactic
namespace Go.Proofs.YtamdjbpgkiekcaaGreatDoor
open Go.RowKit
set_option linter.unusedVariables false
def bitB (m : Int) (r : Nat) : Bool := decide (m / 2 ^ r % 2 = 1)
theorem and_pow (n i : Nat) : n &&& 2 ^ i = n / 2 ^ i % 2 * 2 ^ i := by
 apply Nat.eq_of_testBit_eq
 intro j
 rw [Nat.testBit_and, Nat.testBit_two_pow]
 have : n / 2 ^ i % 2 = 0 ∨ n / 2 ^ i % 2 = 1 := by omega
 have p : 2 ^ i / 2 ^ i % 2 = 1 := by rw [Nat.div_self (Nat.two_pow_pos i)]
 by_cases h : i = j
 ·subst h
  rcases this with e | e
  ·rw [e]; simp [Nat.testBit_eq_decide_div_mod_eq, e]
  ·rw [e]; simp [Nat.testBit_eq_decide_div_mod_eq, e, p]
 ·rcases this with e | e <;> rw [e] <;> simp [h]
theorem pow_aux (n m : Int) (i : Nat) (h : (BitVec.ofInt 64 m).toNat = 2 ^ i) : bits .and .i64 n m = IntKind.i64.wrap (((n % ((2 ^ 64 : Nat) : Int)).toNat / 2 ^ i % 2 * 2 ^ i : Nat) : Int) := by
 have key : (BitVec.ofInt 64 n &&& BitVec.ofInt 64 m).toNat = (n % ((2 ^ 64 : Nat) : Int)).toNat / 2 ^ i % 2 * 2 ^ i := by
  rw [BitVec.toNat_and, BitVec.toNat_ofInt, h, and_pow]
 show IntKind.i64.wrap ((BitVec.ofInt 64 n &&& BitVec.ofInt 64 m).toNat : Nat) = _
 rw [key]
theorem bit_0 (n : Int) : (bits .and .i64 n 1 != 0) = bitB n 0 := by
 rw [pow_aux n _ 0 (by decide), IntKind.wrap_i64, bitB, Bool.eq_iff_iff]
 simp only [bne_iff_ne, decide_eq_true_eq]
 omega
theorem bit_1 (n : Int) : (bits .and .i64 n 2 != 0) = bitB n 1 := by
 rw [pow_aux n _ 1 (by decide), IntKind.wrap_i64, bitB, Bool.eq_iff_iff]
 simp only [bne_iff_ne, decide_eq_true_eq]
 omega
theorem bit_2 (n : Int) : (bits .and .i64 n 4 != 0) = bitB n 2 := by
 rw [pow_aux n _ 2 (by decide), IntKind.wrap_i64, bitB, Bool.eq_iff_iff]
 simp only [bne_iff_ne, decide_eq_true_eq]
 omega
theorem bit_3 (n : Int) : (bits .and .i64 n 8 != 0) = bitB n 3 := by
 rw [pow_aux n _ 3 (by decide), IntKind.wrap_i64, bitB, Bool.eq_iff_iff]
 simp only [bne_iff_ne, decide_eq_true_eq]
 omega
theorem bit_4 (n : Int) : (bits .and .i64 n 16 != 0) = bitB n 4 := by
 rw [pow_aux n _ 4 (by decide), IntKind.wrap_i64, bitB, Bool.eq_iff_iff]
 simp only [bne_iff_ne, decide_eq_true_eq]
 omega
theorem bit_5 (n : Int) : (bits .and .i64 n 32 != 0) = bitB n 5 := by
 rw [pow_aux n _ 5 (by decide), IntKind.wrap_i64, bitB, Bool.eq_iff_iff]
 simp only [bne_iff_ne, decide_eq_true_eq]
 omega
theorem bit_6 (n : Int) : (bits .and .i64 n 64 != 0) = bitB n 6 := by
 rw [pow_aux n _ 6 (by decide), IntKind.wrap_i64, bitB, Bool.eq_iff_iff]
 simp only [bne_iff_ne, decide_eq_true_eq]
 omega
theorem bit_7 (n : Int) : (bits .and .i64 n 128 != 0) = bitB n 7 := by
 rw [pow_aux n _ 7 (by decide), IntKind.wrap_i64, bitB, Bool.eq_iff_iff]
 simp only [bne_iff_ne, decide_eq_true_eq]
 omega
theorem bit_8 (n : Int) : (bits .and .i64 n 256 != 0) = bitB n 8 := by
 rw [pow_aux n _ 8 (by decide), IntKind.wrap_i64, bitB, Bool.eq_iff_iff]
 simp only [bne_iff_ne, decide_eq_true_eq]
 omega
theorem bit_9 (n : Int) : (bits .and .i64 n 512 != 0) = bitB n 9 := by
 rw [pow_aux n _ 9 (by decide), IntKind.wrap_i64, bitB, Bool.eq_iff_iff]
 simp only [bne_iff_ne, decide_eq_true_eq]
 omega
theorem bit_10 (n : Int) : (bits .and .i64 n 1024 != 0) = bitB n 10 := by
 rw [pow_aux n _ 10 (by decide), IntKind.wrap_i64, bitB, Bool.eq_iff_iff]
 simp only [bne_iff_ne, decide_eq_true_eq]
 omega
theorem bit_11 (n : Int) : (bits .and .i64 n 2048 != 0) = bitB n 11 := by
 rw [pow_aux n _ 11 (by decide), IntKind.wrap_i64, bitB, Bool.eq_iff_iff]
 simp only [bne_iff_ne, decide_eq_true_eq]
 omega
theorem bit_12 (n : Int) : (bits .and .i64 n 4096 != 0) = bitB n 12 := by
 rw [pow_aux n _ 12 (by decide), IntKind.wrap_i64, bitB, Bool.eq_iff_iff]
 simp only [bne_iff_ne, decide_eq_true_eq]
 omega
set_option maxHeartbeats 1000000 in
theorem ahas_any (m : Int) (r : Nat) (w : World) (h : r ≤ 12) :
  Calls Tryz.prog 43 #[.int .i64 m, .int .i64 r] w fun e w' => e = .returned (.bool (bitB m r)) ∧ w = w' := by
 have : r = 0 ∨ r = 1 ∨ r = 2 ∨ r = 3 ∨ r = 4 ∨ r = 5 ∨ r = 6 ∨ r = 7 ∨ r = 8 ∨ r = 9 ∨ r = 10 ∨ r = 11 ∨ r = 12 := by omega
 clear h
 rcases this with rfl | rfl | rfl | rfl | rfl | rfl | rfl | rfl | rfl | rfl | rfl | rfl | rfl
 ·have e := bit_0 m
  generalize bitB m 0 = v at *
  go_enter Tryz.func43, Tryz.ntmps43
  go_wp2
  go_ret
  exact ⟨rfl, rfl⟩
 ·have e := bit_1 m
  generalize bitB m 1 = v at *
  go_enter Tryz.func43, Tryz.ntmps43
  go_wp2
  go_ret
  exact ⟨rfl, rfl⟩
 ·have e := bit_2 m
  generalize bitB m 2 = v at *
  go_enter Tryz.func43, Tryz.ntmps43
  go_wp2
  go_ret
  exact ⟨rfl, rfl⟩
 ·have e := bit_3 m
  generalize bitB m 3 = v at *
  go_enter Tryz.func43, Tryz.ntmps43
  go_wp2
  go_ret
  exact ⟨rfl, rfl⟩
 ·have e := bit_4 m
  generalize bitB m 4 = v at *
  go_enter Tryz.func43, Tryz.ntmps43
  go_wp2
  go_ret
  exact ⟨rfl, rfl⟩
 ·have e := bit_5 m
  generalize bitB m 5 = v at *
  go_enter Tryz.func43, Tryz.ntmps43
  go_wp2
  go_ret
  exact ⟨rfl, rfl⟩
 ·have e := bit_6 m
  generalize bitB m 6 = v at *
  go_enter Tryz.func43, Tryz.ntmps43
  go_wp2
  go_ret
  exact ⟨rfl, rfl⟩
 ·have e := bit_7 m
  generalize bitB m 7 = v at *
  go_enter Tryz.func43, Tryz.ntmps43
  go_wp2
  go_ret
  exact ⟨rfl, rfl⟩
 ·have e := bit_8 m
  generalize bitB m 8 = v at *
  go_enter Tryz.func43, Tryz.ntmps43
  go_wp2
  go_ret
  exact ⟨rfl, rfl⟩
 ·have e := bit_9 m
  generalize bitB m 9 = v at *
  go_enter Tryz.func43, Tryz.ntmps43
  go_wp2
  go_ret
  exact ⟨rfl, rfl⟩
 ·have e := bit_10 m
  generalize bitB m 10 = v at *
  go_enter Tryz.func43, Tryz.ntmps43
  go_wp2
  go_ret
  exact ⟨rfl, rfl⟩
 ·have e := bit_11 m
  generalize bitB m 11 = v at *
  go_enter Tryz.func43, Tryz.ntmps43
  go_wp2
  go_ret
  exact ⟨rfl, rfl⟩
 ·have e := bit_12 m
  generalize bitB m 12 = v at *
  go_enter Tryz.func43, Tryz.ntmps43
  go_wp2
  go_ret
  exact ⟨rfl, rfl⟩
def fl (m : Int) : Nat → Int
 | 0 => 0
 | k + 1 => fl m k + if bitB m k then 2 ^ (12 - k) else 0
def flip (m : Int) : Int := fl m 13
theorem fl_form (m : Int) : ∀ k : Nat, k ≤ 13 → ∃ Q : Nat, fl m k = (Q : Int) * 2 ^ (13 - k) ∧ Q < 2 ^ k := by
 intro k
 induction k with
 | zero => intro _; exact ⟨0, by simp [fl], by simp⟩
 | succ k ih =>
  intro h
  obtain ⟨Q, e, b⟩ := ih (by omega)
  have p : (2 : Int) ^ (13 - k) = 2 * 2 ^ (13 - (k + 1)) := by rw [show 13 - k = (13 - (k + 1)) + 1 by omega, Int.pow_succ]; omega
  refine ⟨2 * Q + (if bitB m k then 1 else 0), ?_, ?_⟩
  ·rw [fl, e, p, show 12 - k = 13 - (k + 1) by omega]
   split
   ·rw [show (((2 * Q + 1 : Nat)) : Int) = 2 * (Q : Int) + 1 by omega, Int.add_mul, Int.one_mul, Int.mul_comm 2 (Q : Int), Int.mul_assoc]
   ·rw [show (((2 * Q + 0 : Nat)) : Int) = 2 * (Q : Int) by omega, Int.mul_comm 2 (Q : Int), Int.mul_assoc]; simp
  ·rw [Nat.pow_succ]; split <;> omega
theorem wraps_i64 (n : Int) (h₀ : 0 ≤ n) (h₁ : n < 2 ^ 14) : IntKind.i64.wrap n = n := by rw [IntKind.wrap_i64]; omega
set_option maxHeartbeats 4000000 in
theorem flip_any (m : Int) (w : World) :
  Calls Tryz.prog 22 #[.int .i64 m] w fun e w' => e = .returned (.int .i64 (flip m)) ∧ w = w' := by
 go_enter Tryz.func22, Tryz.ntmps22
 go_wp2
 go_loop [3, 5] (fun f i => ∃ k : Nat, k ≤ 13 ∧ i = .int .i64 k ∧ f = .int .i64 (fl m k)) (fun _ i => 13 - (intOf i).toNat)
 case atStart => exact ⟨0, by omega, rfl, rfl⟩
 case round =>
  obtain ⟨k, hk, rfl, rfl⟩ := hrel
  by_cases hlt : k < 13
  ·have C := Lib.hid (fun w => ahas_any m k w (by omega))
   have S : Hid (fl m (k + 1) = fl m k + if bitB m k then 2 ^ (12 - k) else 0) := rfl
   obtain ⟨Q, e, b⟩ := fl_form m k (by omega)
   rcases Bool.eq_false_or_eq_true (bitB m k) with h | h
   ·rw [h] at C S
    clear h
    have : k = 0 ∨ k = 1 ∨ k = 2 ∨ k = 3 ∨ k = 4 ∨ k = 5 ∨ k = 6 ∨ k = 7 ∨ k = 8 ∨ k = 9 ∨ k = 10 ∨ k = 11 ∨ k = 12 := by omega
    generalize fl m k = x at *
    clear hk hlt
    rcases this with rfl | rfl | rfl | rfl | rfl | rfl | rfl | rfl | rfl | rfl | rfl | rfl | rfl
    ·have j := bits_join .i64 14 (by decide) wraps_i64 13 x 4096 (by omega) (by omega) (by omega) (by omega) (by decide) (by decide)
     clear e b
     go_wp2_with fail; refine ((C.out _)).mono ?_; rintro e w' ⟨rfl, rfl⟩
     go_wp2
     go_round
     case rel => exact ⟨1, by omega, rfl, by rw [S.out]; rfl⟩
     case measure => simp [intOf]
    ·have j := bits_join .i64 14 (by decide) wraps_i64 12 x 2048 (by omega) (by omega) (by omega) (by omega) (by decide) (by decide)
     clear e b
     go_wp2_with fail; refine ((C.out _)).mono ?_; rintro e w' ⟨rfl, rfl⟩
     go_wp2
     go_round
     case rel => exact ⟨2, by omega, rfl, by rw [S.out]; rfl⟩
     case measure => simp [intOf]
    ·have j := bits_join .i64 14 (by decide) wraps_i64 11 x 1024 (by omega) (by omega) (by omega) (by omega) (by decide) (by decide)
     clear e b
     go_wp2_with fail; refine ((C.out _)).mono ?_; rintro e w' ⟨rfl, rfl⟩
     go_wp2
     go_round
     case rel => exact ⟨3, by omega, rfl, by rw [S.out]; rfl⟩
     case measure => simp [intOf]
    ·have j := bits_join .i64 14 (by decide) wraps_i64 10 x 512 (by omega) (by omega) (by omega) (by omega) (by decide) (by decide)
     clear e b
     go_wp2_with fail; refine ((C.out _)).mono ?_; rintro e w' ⟨rfl, rfl⟩
     go_wp2
     go_round
     case rel => exact ⟨4, by omega, rfl, by rw [S.out]; rfl⟩
     case measure => simp [intOf]
    ·have j := bits_join .i64 14 (by decide) wraps_i64 9 x 256 (by omega) (by omega) (by omega) (by omega) (by decide) (by decide)
     clear e b
     go_wp2_with fail; refine ((C.out _)).mono ?_; rintro e w' ⟨rfl, rfl⟩
     go_wp2
     go_round
     case rel => exact ⟨5, by omega, rfl, by rw [S.out]; rfl⟩
     case measure => simp [intOf]
    ·have j := bits_join .i64 14 (by decide) wraps_i64 8 x 128 (by omega) (by omega) (by omega) (by omega) (by decide) (by decide)
     clear e b
     go_wp2_with fail; refine ((C.out _)).mono ?_; rintro e w' ⟨rfl, rfl⟩
     go_wp2
     go_round
     case rel => exact ⟨6, by omega, rfl, by rw [S.out]; rfl⟩
     case measure => simp [intOf]
    ·have j := bits_join .i64 14 (by decide) wraps_i64 7 x 64 (by omega) (by omega) (by omega) (by omega) (by decide) (by decide)
     clear e b
     go_wp2_with fail; refine ((C.out _)).mono ?_; rintro e w' ⟨rfl, rfl⟩
     go_wp2
     go_round
     case rel => exact ⟨7, by omega, rfl, by rw [S.out]; rfl⟩
     case measure => simp [intOf]
    ·have j := bits_join .i64 14 (by decide) wraps_i64 6 x 32 (by omega) (by omega) (by omega) (by omega) (by decide) (by decide)
     clear e b
     go_wp2_with fail; refine ((C.out _)).mono ?_; rintro e w' ⟨rfl, rfl⟩
     go_wp2
     go_round
     case rel => exact ⟨8, by omega, rfl, by rw [S.out]; rfl⟩
     case measure => simp [intOf]
    ·have j := bits_join .i64 14 (by decide) wraps_i64 5 x 16 (by omega) (by omega) (by omega) (by omega) (by decide) (by decide)
     clear e b
     go_wp2_with fail; refine ((C.out _)).mono ?_; rintro e w' ⟨rfl, rfl⟩
     go_wp2
     go_round
     case rel => exact ⟨9, by omega, rfl, by rw [S.out]; rfl⟩
     case measure => simp [intOf]
    ·have j := bits_join .i64 14 (by decide) wraps_i64 4 x 8 (by omega) (by omega) (by omega) (by omega) (by decide) (by decide)
     clear e b
     go_wp2_with fail; refine ((C.out _)).mono ?_; rintro e w' ⟨rfl, rfl⟩
     go_wp2
     go_round
     case rel => exact ⟨10, by omega, rfl, by rw [S.out]; rfl⟩
     case measure => simp [intOf]
    ·have j := bits_join .i64 14 (by decide) wraps_i64 3 x 4 (by omega) (by omega) (by omega) (by omega) (by decide) (by decide)
     clear e b
     go_wp2_with fail; refine ((C.out _)).mono ?_; rintro e w' ⟨rfl, rfl⟩
     go_wp2
     go_round
     case rel => exact ⟨11, by omega, rfl, by rw [S.out]; rfl⟩
     case measure => simp [intOf]
    ·have j := bits_join .i64 14 (by decide) wraps_i64 2 x 2 (by omega) (by omega) (by omega) (by omega) (by decide) (by decide)
     clear e b
     go_wp2_with fail; refine ((C.out _)).mono ?_; rintro e w' ⟨rfl, rfl⟩
     go_wp2
     go_round
     case rel => exact ⟨12, by omega, rfl, by rw [S.out]; rfl⟩
     case measure => simp [intOf]
    ·have j := bits_join .i64 14 (by decide) wraps_i64 1 x 1 (by omega) (by omega) (by omega) (by omega) (by decide) (by decide)
     clear e b
     go_wp2_with fail; refine ((C.out _)).mono ?_; rintro e w' ⟨rfl, rfl⟩
     go_wp2
     go_round
     case rel => exact ⟨13, by omega, rfl, by rw [S.out]; rfl⟩
     case measure => simp [intOf]
   ·rw [h] at C S
    have S2 : Hid (fl m (k + 1) = fl m k) := by unfold Hid; rw [S.out]; simp
    clear h e b S
    go_wp2_with fail; refine ((C.out _)).mono ?_; rintro e w' ⟨rfl, rfl⟩
    go_wp2
    go_round
    case rel => exact ⟨k + 1, by omega, by go_num, by rw [S2.out]⟩
    case measure => simp [intOf]; omega
  ·obtain rfl : k = 13 := by omega
   go_wp2
   go_ret
   exact ⟨rfl, rfl⟩
end Go.Proofs.YtamdjbpgkiekcaaGreatDoor
