/-
  The sort of runs: bits.Len, the next power of two, the random numbers, the break of patterns.
-/
import Derived.Test.YtndmohamjffpcaaDoorSortS
import Derived.Lib.BitFns
import Derived.Sort.LotD5
import Derived.Laws.Bits64
import Derived.Laws.Bits64b
namespace Go.Proofs.YtndmohamjffpcaaDoor
open Go.RowKit Go.Sort Go.Shelf
set_option linter.unusedVariables false
set_option linter.unusedSimpArgs false
theorem len_eq (x : Nat) (h : x < 2 ^ 64) : Lib.bitLen x = bitsLen x := by
  induction x using Nat.strongRecOn with
  | _ x ih =>
    unfold bitsLen
    by_cases h0 : x = 0
    · subst h0; rfl
    · rw [Lib.bitLen_half x h0 h, ih (x / 2) (by omega) (by omega), if_neg h0, Nat.log2_def x]
      unfold bitsLen
      by_cases h2 : 2 ≤ x
      · rw [if_pos h2, if_neg (by omega)]; omega
      · obtain rfl : x = 1 := by omega
        simp
set_option maxHeartbeats 4000000 in
set_option maxRecDepth 100000 in
theorem len64_any (x : Int) (w : World) (h0 : 0 ≤ x) (h1 : x ≤ 4294967295) :
    Calls Tryd.prog 91 #[.int .u64 x] w fun e w' => e = .returned (.int .i64 (bitsLen x.toNat)) ∧ w = w' := by
  rw [← len_eq x.toNat (by omega)]
  have z : decide (4294967296 ≤ x) = false := decide_eq_false (by omega)
  have z' : ¬ 4294967296 ≤ x := by omega
  have cs : (65536 ≤ x ∧ 256 ≤ x / 65536) ∨ (65536 ≤ x ∧ x / 65536 < 256) ∨ (x < 65536 ∧ 256 ≤ x) ∨ (x < 65536 ∧ x < 256) := by omega
  rcases cs with ⟨c1, c2⟩ | ⟨c1, c2⟩ | ⟨c1, c2⟩ | ⟨c1, c2⟩
  · have g : 0 = 0 := rfl
    have b0 : 0 ≤ x / 65536 / 256 := by omega
    have b1 : x / 65536 / 256 ≤ 255 := by omega
    have l := Lib.bitLen_le8' (x / 65536 / 256) b0 b1
    have q := Lib.len8_of (x / 65536 / 256) b0 b1
    have s := Lib.bitLen_shift24 x.toNat (by omega) (by omega)
    have e : (x / 65536 / 256).toNat = x.toNat / 16777216 := by omega
    rw [e] at l q
    have r : Hid ((Lib.bitLen x.toNat : Int) = 24 + Lib.len8 (x / 65536 / 256)) := by unfold Hid; omega
    obtain ⟨m, hm⟩ : ∃ m, m = Lib.len8 (x / 65536 / 256) := ⟨_, rfl⟩
    have m0 : 0 ≤ m := by omega
    have m1 : m ≤ 8 := by omega
    rw [r.out, ← hm]
    have HM := Lib.hid hm.symm
    clear l q hm r s e
    go_enter Tryd.func91, Tryd.ntmps91
    go_wp2
    rw [HM.out]
    go_ret
    exact ⟨congrArg Ending.returned (congrArg (Value.int IntKind.i64) (by simp only [wrap64]; omega)), rfl⟩
  · have g : x / 65536 < 256 := by omega
    have b0 : 0 ≤ x / 65536 := by omega
    have b1 : x / 65536 ≤ 255 := by omega
    have l := Lib.bitLen_le8' (x / 65536) b0 b1
    have q := Lib.len8_of (x / 65536) b0 b1
    have s := Lib.bitLen_shift16 x.toNat (by omega) (by omega)
    have e : (x / 65536).toNat = x.toNat / 65536 := by omega
    rw [e] at l q
    have r : Hid ((Lib.bitLen x.toNat : Int) = 16 + Lib.len8 (x / 65536)) := by unfold Hid; omega
    obtain ⟨m, hm⟩ : ∃ m, m = Lib.len8 (x / 65536) := ⟨_, rfl⟩
    have m0 : 0 ≤ m := by omega
    have m1 : m ≤ 8 := by omega
    rw [r.out, ← hm]
    have HM := Lib.hid hm.symm
    clear l q hm r s e
    go_enter Tryd.func91, Tryd.ntmps91
    go_wp2
    rw [HM.out]
    go_ret
    exact ⟨congrArg Ending.returned (congrArg (Value.int IntKind.i64) (by simp only [wrap64]; omega)), rfl⟩
  · have g : x < 65536 := by omega
    have b0 : 0 ≤ x / 256 := by omega
    have b1 : x / 256 ≤ 255 := by omega
    have l := Lib.bitLen_le8' (x / 256) b0 b1
    have q := Lib.len8_of (x / 256) b0 b1
    have s := Lib.bitLen_shift8 x.toNat (by omega) (by omega)
    have e : (x / 256).toNat = x.toNat / 256 := by omega
    rw [e] at l q
    have r : Hid ((Lib.bitLen x.toNat : Int) = 8 + Lib.len8 (x / 256)) := by unfold Hid; omega
    obtain ⟨m, hm⟩ : ∃ m, m = Lib.len8 (x / 256) := ⟨_, rfl⟩
    have m0 : 0 ≤ m := by omega
    have m1 : m ≤ 8 := by omega
    rw [r.out, ← hm]
    have HM := Lib.hid hm.symm
    clear l q hm r s e
    go_enter Tryd.func91, Tryd.ntmps91
    go_wp2
    rw [HM.out]
    go_ret
    exact ⟨congrArg Ending.returned (congrArg (Value.int IntKind.i64) (by simp only [wrap64]; omega)), rfl⟩
  · have g : x < 256 := by omega
    have b0 : 0 ≤ x := by omega
    have b1 : x ≤ 255 := by omega
    have l := Lib.bitLen_le8' (x) b0 b1
    have q := Lib.len8_of (x) b0 b1
    have r : Hid ((Lib.bitLen x.toNat : Int) = Lib.len8 (x)) := by unfold Hid; omega
    obtain ⟨m, hm⟩ : ∃ m, m = Lib.len8 (x) := ⟨_, rfl⟩
    have m0 : 0 ≤ m := by omega
    have m1 : m ≤ 8 := by omega
    rw [r.out, ← hm]
    have HM := Lib.hid hm.symm
    clear l q hm r
    go_enter Tryd.func91, Tryd.ntmps91
    go_wp2
    rw [HM.out]
    go_ret
    exact ⟨congrArg Ending.returned (congrArg (Value.int IntKind.i64) (by simp only [wrap64]; omega)), rfl⟩
theorem len_any (x : Int) (w : World) (h0 : 0 ≤ x) (h1 : x ≤ 4294967295) :
    Calls Tryd.prog 80 #[.int .u64 x] w fun e w' => e = .returned (.int .i64 (bitsLen x.toNat)) ∧ w = w' := by
  have C := Lib.hid (fun w => len64_any x w h0 h1)
  go_enter Tryd.func80, Tryd.ntmps80
  go_wp2_with fail; refine ((C.out _)).mono ?_; rintro e w' ⟨rfl, rfl⟩
  go_wp2
  go_ret
  exact ⟨rfl, rfl⟩
theorem two_pow_wrap (k : Nat) (hk : k ≤ 62) : IntKind.u64.wrap ((2 : Int) ^ k) = ((1 <<< k : Nat) : Int) := by
  have h : (2 : Nat) ^ k ≤ 2 ^ 62 := Nat.pow_le_pow_right (by decide) hk
  rw [IntKind.wrap_u64, Nat.one_shiftLeft, show ((2 : Int) ^ k) = ((2 ^ k : Nat) : Int) by push_cast; rfl]
  generalize (2 : Nat) ^ k = p at h
  omega
theorem pow_any (n : Nat) (w : World) (h1 : n ≤ 4294967295) :
    Calls Tryd.prog 94 #[.int .i64 n] w fun e w' => e = .returned (.int .u64 ((1 <<< bitsLen n : Nat) : Int)) ∧ w = w' := by
  have C := Lib.hid (fun w => len_any n w (by omega) (by omega))
  rw [Int.toNat_natCast] at C
  have hk : bitsLen n ≤ 62 := (bitsLen_le_iff n 62).2 (by omega)
  have hp := two_pow_wrap (bitsLen n) hk
  have wr : IntKind.u64.wrap (n : Int) = n := by simp [IntKind.wrap, IntKind.bits, IntKind.signed]; omega
  generalize bitsLen n = k at *
  go_enter Tryd.func94, Tryd.ntmps94
  go_wp2_with (go_at_call 80; refine (C.out _).mono ?_; rintro e w' ⟨rfl, rfl⟩)
  go_ret
  exact ⟨rfl, rfl⟩
theorem setCell_twice (w : World) (blk off : Nat) (v v' : Value) : (w.setCell ⟨blk, off, none⟩ v).setCell ⟨blk, off, none⟩ v' = w.setCell ⟨blk, off, none⟩ v' := by
  rw [setCell_eq, setCell_eq, mapBlock_mapBlock, setCell_eq]
  congr 1
  funext c
  simp
set_option maxHeartbeats 2000000 in
set_option maxRecDepth 1000000 in
theorem xor_any (rb ro X : Nat) (hX : X < 18446744073709551616) (w : World) (hc : w.cell? ⟨rb, ro, none⟩ = some (.int .u64 X)) (hf : w.frozen? ⟨rb, ro, none⟩ = false) :
    Calls Tryd.prog 95 #[.pointer (some ⟨rb, ro, none⟩)] w fun e w' => e = .returned (.int .u64 (xorNextN X : Nat)) ∧ w' = (w.setCell ⟨rb, ro, none⟩ (.int .u64 (xorNextN X : Nat))).drewN 3 := by
  have mx := mixed
  obtain ⟨A, hA⟩ : ∃ A : Nat, A = X ^^^ (X * 8192 % 18446744073709551616) := ⟨_, rfl⟩
  obtain ⟨B, hB⟩ : ∃ B : Nat, B = A ^^^ (A / 128) := ⟨_, rfl⟩
  obtain ⟨C, hC⟩ : ∃ C : Nat, C = B ^^^ (B * 131072 % 18446744073709551616) := ⟨_, rfl⟩
  have lA : A < 18446744073709551616 := by rw [hA]; exact Nat.xor_lt_two_pow (n := 64) (by omega) (by omega)
  have lB : B < 18446744073709551616 := by rw [hB]; exact Nat.xor_lt_two_pow (n := 64) (by omega) (by omega)
  have e1 : bits .xor .u64 (X : Int) (IntKind.u64.wrap ((X : Int) * 8192)) = (A : Int) := by
    rw [IntKind.wrap_u64, show ((X : Int) * 8192 % 18446744073709551616) = ((X * 8192 % 18446744073709551616 : Nat) : Int) by omega, bits_xor_u64_nat _ _ hX (by omega), hA]
  have e2 : bits .xor .u64 (A : Int) ((A : Int) / 128) = (B : Int) := by
    rw [show ((A : Int) / 128) = ((A / 128 : Nat) : Int) by omega, bits_xor_u64_nat _ _ lA (by omega), hB]
  have e3 : bits .xor .u64 (B : Int) (IntKind.u64.wrap ((B : Int) * 131072)) = (C : Int) := by
    rw [IntKind.wrap_u64, show ((B : Int) * 131072 % 18446744073709551616) = ((B * 131072 % 18446744073709551616 : Nat) : Int) by omega, bits_xor_u64_nat _ _ lB (by omega), hC]
  have hv : xorNextN X = C := by unfold xorNextN; simp only []; rw [← hA, ← hB, ← hC]
  rw [hv]
  clear hA hB hC hv
  have hss : ∀ v v', (w.setCell ⟨rb, ro, none⟩ v).setCell ⟨rb, ro, none⟩ v' = w.setCell ⟨rb, ro, none⟩ v' := setCell_twice w rb ro
  go_enter Tryd.func95, Tryd.ntmps95
  go_wp2
  go_region_o
  all_goals go_wp2
  all_goals go_region_o
  all_goals go_wp2
  all_goals go_region_o
  all_goals go_wp2
  go_ret
  exact ⟨rfl, rfl⟩
end Go.Proofs.YtndmohamjffpcaaDoor
