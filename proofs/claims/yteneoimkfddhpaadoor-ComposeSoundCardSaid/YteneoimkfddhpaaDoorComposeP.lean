/-
  Layer 19: masks and what follows of them: plain mathematics for the statements.
-/
import Derived.Test.YteneoimkfddhpaaDoorComposeH
import Derived.Test.YteneoimkfddhpaaDoorComposeT
namespace Go.Proofs.YteneoimkfddhpaaDoor
open Go.RowKit
set_option linter.unusedVariables false
theorem both_congr {A B C D : Nat → Bool} (h : ∀ r, r ≤ 12 → A r = C r) (g : ∀ s, s ≤ 12 → B s = D s) : bothP A B = bothP C D := by
  apply both_ext
  intro x
  constructor
  · rintro ⟨r, s, hr, hs, t⟩
    have b := tri_bd t
    exact ⟨r, s, (h r b.1) ▸ hr, (g s b.2.1) ▸ hs, t⟩
  · rintro ⟨r, s, hr, hs, t⟩
    have b := tri_bd t
    exact ⟨r, s, (h r b.1).symm ▸ hr, (g s b.2.1).symm ▸ hs, t⟩
theorem bA_bI (m : Int) (r : Nat) : bA m r = decide (bI m r = 1) := rfl
theorem bA_flip (m : Int) (j : Nat) (h : j ≤ 12) : bA (flip m) j = bA m (12 - j) := by
  rw [bA_bI, bA_bI]
  have : j = 0 ∨ j = 1 ∨ j = 2 ∨ j = 3 ∨ j = 4 ∨ j = 5 ∨ j = 6 ∨ j = 7 ∨ j = 8 ∨ j = 9 ∨ j = 10 ∨ j = 11 ∨ j = 12 := by omega
  rcases this with rfl | rfl | rfl | rfl | rfl | rfl | rfl | rfl | rfl | rfl | rfl | rfl | rfl
  · rw [bI_flip_0]
  · rw [bI_flip_1]
  · rw [bI_flip_2]
  · rw [bI_flip_3]
  · rw [bI_flip_4]
  · rw [bI_flip_5]
  · rw [bI_flip_6]
  · rw [bI_flip_7]
  · rw [bI_flip_8]
  · rw [bI_flip_9]
  · rw [bI_flip_10]
  · rw [bI_flip_11]
  · rw [bI_flip_12]
theorem nat_bit_hi {m j : Nat} (h : m < 8192) (g : 12 < j) : m.testBit j = false :=
  Nat.testBit_lt_two_pow (Nat.lt_of_lt_of_le h (show 8192 ≤ 2 ^ j from by have := Nat.pow_le_pow_right (n := 2) (by omega) (show 13 ≤ j from g); omega))
theorem eq_of_low {m n : Nat} (hm : m < 8192) (hn : n < 8192) (h : ∀ j, j ≤ 12 → m.testBit j = n.testBit j) : m = n := by
  apply Nat.eq_of_testBit_eq
  intro j
  rcases Nat.lt_or_ge 12 j with g | g
  · rw [nat_bit_hi hm g, nat_bit_hi hn g]
  · exact h j g
theorem flip_nat (m : Int) : flip m = ((flip m).toNat : Int) := by have := flip_bd m; omega
/-- the other way round it is the inverses, the other way round -/
theorem both_flip (a b : Int) : flip (bothP (bA a) (bA b) : Nat) = (bothP (bA (flip b)) (bA (flip a)) : Nat) := by
  rw [flip_nat (bothP (bA a) (bA b) : Nat)]
  have fb := flip_bd (bothP (bA a) (bA b) : Nat)
  congr 1
  refine eq_of_low (by omega) (both_lt _ _) fun x hx => ?_
  rw [← bA_nat, ← flip_nat, bA_flip _ _ hx, bA_nat, Bool.eq_iff_iff, both_bit, both_bit]
  constructor
  · rintro ⟨r, s, hr, hs, t⟩
    have b1 := tri_bd t
    refine ⟨12 - s, 12 - r, ?_, ?_, ?_⟩
    · rw [bA_flip _ _ (by omega), show 12 - (12 - s) = s by omega]; exact hs
    · rw [bA_flip _ _ (by omega), show 12 - (12 - r) = r by omega]; exact hr
    · have := tri_sym t; rwa [show 12 - (12 - x) = x by omega] at this
  · rintro ⟨r, s, hr, hs, t⟩
    have b1 := tri_bd t
    rw [bA_flip _ _ (by omega)] at hr hs
    exact ⟨12 - s, 12 - r, hs, hr, tri_sym t⟩
theorem tb_right : ∀ r : Nat, r < 13 → tb r 6 = 2 ^ r := by decide +kernel
theorem tb_left : ∀ r : Nat, r < 13 → tb 6 r = 2 ^ r := by decide +kernel
theorem tri_right (r x : Nat) (hr : r ≤ 12) : Tri r 6 x ↔ r = x := by
  rw [← tb_bit r 6 x hr (by omega), tb_right r (by omega), Nat.testBit_two_pow, decide_eq_true_eq]
theorem tri_left (r x : Nat) (hr : r ≤ 12) : Tri 6 r x ↔ r = x := by
  rw [← tb_bit 6 r x (by omega) hr, tb_left r (by omega), Nat.testBit_two_pow, decide_eq_true_eq]
theorem bA_64 (j : Nat) : bA 64 j = decide (6 = j) := by
  rw [show (64 : Int) = ((2 ^ 6 : Nat) : Int) by decide, bA_nat, Nat.testBit_two_pow]
theorem bA_low (m : Int) (j : Nat) (h : j ≤ 12) : (m % 8192).toNat.testBit j = bA m j := by
  rw [← bA_nat, bA_bI, bA_bI, show (((m % 8192).toNat : Nat) : Int) = m % 8192 by omega]
  congr 1
  unfold bI
  have : j = 0 ∨ j = 1 ∨ j = 2 ∨ j = 3 ∨ j = 4 ∨ j = 5 ∨ j = 6 ∨ j = 7 ∨ j = 8 ∨ j = 9 ∨ j = 10 ∨ j = 11 ∨ j = 12 := by omega
  rcases this with rfl | rfl | rfl | rfl | rfl | rfl | rfl | rfl | rfl | rfl | rfl | rfl | rfl <;> simp <;> omega
theorem both_same (a : Int) : ((bothP (bA a) (bA 64) : Nat) : Int) = a % 8192 := by
  rw [show a % 8192 = ((a % 8192).toNat : Int) by omega]
  congr 1
  refine eq_of_low (both_lt _ _) (by omega) fun x hx => ?_
  rw [bA_low a x hx, Bool.eq_iff_iff, both_bit]
  constructor
  · rintro ⟨r, s, hr, hs, t⟩
    rw [bA_64, decide_eq_true_eq] at hs
    subst hs
    rw [tri_right r x (tri_bd t).1] at t
    subst t
    exact hr
  · intro h
    exact ⟨x, 6, h, by rw [bA_64]; rfl, (tri_right x x hx).2 rfl⟩
theorem same_both (a : Int) : ((bothP (bA 64) (bA a) : Nat) : Int) = a % 8192 := by
  rw [show a % 8192 = ((a % 8192).toNat : Int) by omega]
  congr 1
  refine eq_of_low (both_lt _ _) (by omega) fun x hx => ?_
  rw [bA_low a x hx, Bool.eq_iff_iff, both_bit]
  constructor
  · rintro ⟨s, r, hs, hr, t⟩
    rw [bA_64, decide_eq_true_eq] at hs
    subst hs
    rw [tri_left r x (tri_bd t).2.1] at t
    subst t
    exact hr
  · intro h
    exact ⟨6, x, by rw [bA_64]; rfl, h, (tri_left x x hx).2 rfl⟩
theorem both_none (a : Int) : bothP (bA a) (bA 0) = 0 := by
  refine eq_of_low (both_lt _ _) (by omega) fun x hx => ?_
  rw [Bool.eq_iff_iff, both_bit]
  constructor
  · rintro ⟨r, s, hr, hs, t⟩
    rw [show (0 : Int) = ((0 : Nat) : Int) from rfl, bA_nat] at hs
    simp at hs
  · intro h; simp at h
/-- of three masks it does not matter which two are taken first -/
theorem both_three_I (a b c : Int) : bothP (bA (bothP (bA a) (bA b) : Nat)) (bA c) = bothP (bA a) (bA (bothP (bA b) (bA c) : Nat)) := by
  rw [bA_nat, bA_nat]; exact both_three _ _ _
/-- the bits of an or -/
theorem wrap_low (z : Nat) (h : z < 18446744073709551616) : (IntKind.i64.wrap (z : Int) % 8192).toNat = z % 8192 := by
  rw [IntKind.wrap_i64]; omega
theorem mod_low (a : Int) (x : Nat) (h : (a % 18446744073709551616).toNat = x) : (a % 8192).toNat = x % 8192 := by omega
theorem bA_or (a b : Int) (j : Nat) (h : j ≤ 12) : bA (bits .or .i64 a b) j = (bA a j || bA b j) := by
  obtain ⟨x, hx⟩ : ∃ x, x = (a % 18446744073709551616).toNat := ⟨_, rfl⟩
  obtain ⟨y, hy⟩ : ∃ y, y = (b % 18446744073709551616).toNat := ⟨_, rfl⟩
  have lx : x < 2 ^ 64 := by omega
  have ly : y < 2 ^ 64 := by omega
  have e : bits .or .i64 a b = IntKind.i64.wrap ((x ||| y : Nat) : Int) := by
    have key : (BitVec.ofInt 64 a ||| BitVec.ofInt 64 b).toNat = x ||| y := by
      rw [BitVec.toNat_or, BitVec.toNat_ofInt, BitVec.toNat_ofInt, hx, hy]; rfl
    show IntKind.i64.wrap ((BitVec.ofInt 64 a ||| BitVec.ofInt 64 b).toNat : Nat) = _
    rw [key]
  have lo := Nat.or_lt_two_pow lx ly
  rw [e, ← bA_low (IntKind.i64.wrap _) j h, ← bA_low a j h, ← bA_low b j h, wrap_low _ lo, mod_low a x hx.symm, mod_low b y hy.symm]
  have d : decide (j < 13) = true := by simp; omega
  rw [show (8192 : Nat) = 2 ^ 13 by decide, Nat.testBit_mod_two_pow, Nat.testBit_mod_two_pow, Nat.testBit_mod_two_pow, Nat.testBit_or, d]
  simp
theorem or_both (A B C : Nat → Bool) : bothP (fun r => A r || B r) C = bothP A C ||| bothP B C := by
  apply Nat.eq_of_testBit_eq
  intro x
  rw [Nat.testBit_or, Bool.eq_iff_iff, Bool.or_eq_true, both_bit, both_bit, both_bit]
  constructor
  · rintro ⟨r, s, hr, hs, t⟩
    rw [Bool.or_eq_true] at hr
    rcases hr with hr | hr
    · exact .inl ⟨r, s, hr, hs, t⟩
    · exact .inr ⟨r, s, hr, hs, t⟩
  · rintro (⟨r, s, hr, hs, t⟩ | ⟨r, s, hr, hs, t⟩)
    · exact ⟨r, s, by simp [hr], hs, t⟩
    · exact ⟨r, s, by simp [hr], hs, t⟩
theorem both_or (A B C : Nat → Bool) : bothP C (fun r => A r || B r) = bothP C A ||| bothP C B := by
  apply Nat.eq_of_testBit_eq
  intro x
  rw [Nat.testBit_or, Bool.eq_iff_iff, Bool.or_eq_true, both_bit, both_bit, both_bit]
  constructor
  · rintro ⟨r, s, hr, hs, t⟩
    rw [Bool.or_eq_true] at hs
    rcases hs with hs | hs
    · exact .inl ⟨r, s, hr, hs, t⟩
    · exact .inr ⟨r, s, hr, hs, t⟩
  · rintro (⟨r, s, hr, hs, t⟩ | ⟨r, s, hr, hs, t⟩)
    · exact ⟨r, s, hr, by simp [hs], t⟩
    · exact ⟨r, s, hr, by simp [hs], t⟩
theorem more_left (a b c : Int) : ((bothP (bA (bits .or .i64 a b)) (bA c) : Nat) : Int) = bits .or .i64 (bothP (bA a) (bA c) : Nat) (bothP (bA b) (bA c) : Nat) := by
  rw [or_nat _ _ (both_lt _ _) (both_lt _ _), ← or_both, both_congr (fun r hr => bA_or a b r hr) (fun _ _ => rfl)]
theorem more_right (a b c : Int) : ((bothP (bA c) (bA (bits .or .i64 a b)) : Nat) : Int) = bits .or .i64 (bothP (bA c) (bA a) : Nat) (bothP (bA c) (bA b) : Nat) := by
  rw [or_nat _ _ (both_lt _ _) (both_lt _ _), ← both_or, both_congr (fun _ _ => rfl) (fun r hr => bA_or a b r hr)]
/-- what holds of three intervals is among what follows -/
theorem comp_sound (a b c d e f : Int) (h1 : a ≤ b) (h2 : c ≤ d) (h3 : e ≤ f) : (compN (rel a b c d) (rel c d e f)).testBit (rel a b e f).toNat = true := by
  have r1 := rel_bd a b c d
  have r2 := rel_bd c d e f
  unfold compN
  rw [if_pos (by unfold invB; simp; omega), both_bit]
  exact ⟨_, _, by unfold isI; simp; omega, by unfold isI; simp; omega, tri_any a b c d e f h1 h2 h3⟩
end Go.Proofs.YteneoimkfddhpaaDoor
