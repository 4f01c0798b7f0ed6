/-
  A bitwise 'and' of an int with a mask of low bits is a remainder.
-/
import Derived.Test.YtinpglfclbnhlaaGreatDoorGBa
import Derived.Laws.Bits128
namespace Go.Proofs.YtinpglfclbnhlaaGreatDoor
theorem and_aux (n m : Int) (i : Nat) (h : (BitVec.ofInt 64 m).toNat = 2 ^ i - 1) : bits .and .i64 n m = IntKind.i64.wrap (((n % ((2 ^ 64 : Nat) : Int)).toNat % 2 ^ i : Nat) : Int) := by
  have key : (BitVec.ofInt 64 n &&& BitVec.ofInt 64 m).toNat = (n % ((2 ^ 64 : Nat) : Int)).toNat % 2 ^ i := by
    rw [BitVec.toNat_and, BitVec.toNat_ofInt, h, Nat.and_two_pow_sub_one_eq_mod]
  show IntKind.i64.wrap ((BitVec.ofInt 64 n &&& BitVec.ofInt 64 m).toNat : Nat) = _
  rw [key]
theorem and22 (n : Int) : bits .and .i64 n 4194303 = n % 4194304 := by
  rw [and_aux n _ 22 (by decide), IntKind.wrap_i64]; omega
theorem and16 (n : Int) : bits .and .i64 n 65535 = n % 65536 := by
  rw [and_aux n _ 16 (by decide), IntKind.wrap_i64]; omega
theorem and30 (n : Int) : bits .and .i64 n 1073741823 = n % 1073741824 := by
  rw [and_aux n _ 30 (by decide), IntKind.wrap_i64]; omega
theorem and13 (n : Int) : bits .and .i64 n 8191 = n % 8192 := by
  rw [and_aux n _ 13 (by decide), IntKind.wrap_i64]; omega
theorem and20 (n : Int) : bits .and .i64 n 1048575 = n % 1048576 := by
  rw [and_aux n _ 20 (by decide), IntKind.wrap_i64]; omega
theorem and24 (n : Int) : bits .and .i64 n 16777215 = n % 16777216 := by
  rw [and_aux n _ 24 (by decide), IntKind.wrap_i64]; omega
theorem and8 (n : Int) : bits .and .i64 n 255 = n % 256 := by
  rw [and_aux n _ 8 (by decide), IntKind.wrap_i64]; omega
theorem and7 (n : Int) : bits .and .i64 n 127 = n % 128 := by
  rw [and_aux n _ 7 (by decide), IntKind.wrap_i64]; omega
end Go.Proofs.YtinpglfclbnhlaaGreatDoor
