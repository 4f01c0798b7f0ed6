/-
  Walk of ComposeIs: what follows of two masks is what the document says.
-/
import Derived.Test.YteneoimkfddhpaaDoorComposeQ
import Derived.Test.YteneoimkfddhpaaDoorComposeW1
namespace Go.Proofs.YteneoimkfddhpaaDoor
open Go.RowKit
set_option linter.unusedVariables false
def mIn (a b : Int) (r acc : Nat) : Nat → Nat
  | 0 => acc
  | k + 1 => if (bitB a r && bitB b k) = true then mIn a b r acc k ||| compN r k else mIn a b r acc k
def mOut (a b : Int) : Nat → Nat
  | 0 => 0
  | n + 1 => mIn a b n (mOut a b n) 13
theorem mIn_bit (a b : Int) (r acc x : Nat) : ∀ k, (mIn a b r acc k).testBit x = true ↔ acc.testBit x = true ∨ ∃ s, s < k ∧ bitB a r = true ∧ bitB b s = true ∧ (compN r s).testBit x = true := by
  intro k
  induction k with
  | zero => simp [mIn]
  | succ k ih =>
    rw [mIn]
    by_cases h : (bitB a r && bitB b k) = true
    · rw [if_pos h, Nat.testBit_or, Bool.or_eq_true, ih]
      rw [Bool.and_eq_true] at h
      constructor
      · rintro ((h1 | ⟨l, h1, h2⟩) | h1)
        · exact .inl h1
        · exact .inr ⟨l, by omega, h2⟩
        · exact .inr ⟨k, by omega, h.1, h.2, h1⟩
      · rintro (h1 | ⟨l, h1, h2, h3, h4⟩)
        · exact .inl (.inl h1)
        · by_cases e : l = k
          · subst e; exact .inr h4
          · exact .inl (.inr ⟨l, by omega, h2, h3, h4⟩)
    · rw [if_neg h, ih]
      rw [Bool.and_eq_true] at h
      constructor
      · rintro (h1 | ⟨l, h1, h2⟩)
        · exact .inl h1
        · exact .inr ⟨l, by omega, h2⟩
      · rintro (h1 | ⟨l, h1, h2, h3, h4⟩)
        · exact .inl h1
        · by_cases e : l = k
          · subst e; exact absurd ⟨h2, h3⟩ h
          · exact .inr ⟨l, by omega, h2, h3, h4⟩
theorem mOut_bit (a b : Int) (x : Nat) : ∀ n, (mOut a b n).testBit x = true ↔ ∃ r s, r < n ∧ s < 13 ∧ bitB a r = true ∧ bitB b s = true ∧ (compN r s).testBit x = true := by
  intro n
  induction n with
  | zero => simp [mOut]
  | succ n ih =>
    rw [mOut, mIn_bit, ih]
    constructor
    · rintro (⟨r, s, h1, h2⟩ | ⟨s, h1, h2⟩)
      · exact ⟨r, s, by omega, h2⟩
      · exact ⟨n, s, by omega, h1, h2⟩
    · rintro ⟨r, s, h1, h2, h3⟩
      by_cases e : r = n
      · subst e; exact .inr ⟨s, h2, h3⟩
      · exact .inl ⟨r, s, by omega, h2, h3⟩
theorem compN_bit (r s : Nat) (x : Nat) (hr : r ≤ 12) (hs : s ≤ 12) : (compN r s).testBit x = true ↔ Tri r s x := by
  unfold compN
  rw [if_pos (by unfold invB; simp; omega), both_bit]
  constructor
  · rintro ⟨r', s', h1, h2, h⟩
    unfold isI at h1 h2
    rw [beq_iff_eq] at h1 h2
    have e1 : r' = r := by omega
    have e2 : s' = s := by omega
    rw [e1, e2] at h
    exact h
  · intro h
    exact ⟨r, s, by unfold isI; simp, by unfold isI; simp, h⟩
theorem mOut_both (a b : Int) : mOut a b 13 = bothP (bA a) (bA b) := by
  apply Nat.eq_of_testBit_eq
  intro x
  rw [Bool.eq_iff_iff, mOut_bit, both_bit]
  constructor
  · rintro ⟨r, s, h1, h2, h3, h4, h5⟩
    exact ⟨r, s, h3, h4, (compN_bit r s x (by omega) (by omega)).1 h5⟩
  · rintro ⟨r, s, h3, h4, h5⟩
    have b := tri_bd h5
    exact ⟨r, s, by omega, by omega, h3, h4, (compN_bit r s x (by omega) (by omega)).2 h5⟩
theorem mIn_lt (a b : Int) (r acc k : Nat) (h : acc < 8192) : mIn a b r acc k < 8192 := by
  induction k with
  | zero => exact h
  | succ k ih =>
    rw [mIn]
    split
    · have l := compN_lt r k
      have : mIn a b r acc k ||| compN r k < 2 ^ 13 := Nat.or_lt_two_pow (by omega) (by omega)
      omega
    · exact ih
theorem mOut_lt (a b : Int) (n : Nat) : mOut a b n < 8192 := by
  induction n with
  | zero => show (0 : Nat) < 8192; omega
  | succ n ih => exact mIn_lt _ _ _ _ _ ih
set_option maxHeartbeats 2000000 in
theorem refBoth_any (a b : Int) (w : World) :
    Calls Tryd.prog 32 #[.int .i64 a, .int .i64 b] w fun e w' => e = .returned (.int .i64 (bothP (bA a) (bA b) : Nat)) ∧ Kp w w' := by
  rw [← mOut_both]
  go_enter Tryd.func32, Tryd.ntmps32
  go_wp2
  go_loopw [5, 6] (fun m i wr => ∃ n : Nat, n ≤ 13 ∧ i = .int .i64 n ∧ m = .int .i64 (mOut a b n : Nat) ∧ Kp w wr) (fun _ i _ => 13 - (intOf i).toNat)
  case atStart => exact ⟨0, by omega, rfl, rfl, Kp.refl _⟩
  case round =>
    obtain ⟨n, hn, rfl, rfl, k4⟩ := hrel
    have K4 := Lib.hid k4
    clear k4
    by_cases hlt : n ≤ 12
    · have hd : decide ((n : Int) ≤ 12) = true := by simp; omega
      have ml := mOut_lt a b n
      have CS := Lib.hid (show mOut a b (n + 1) = mIn a b n (mOut a b n) 13 from rfl)
      have CO := Lib.hid (show mIn a b n (mOut a b n) 0 = mOut a b n from rfl)
      generalize mOut a b n = c0 at *
      go_wp2
      go_loopw [5, 7] (fun m i wr => ∃ k : Nat, k ≤ 13 ∧ i = .int .i64 k ∧ m = .int .i64 (mIn a b n c0 k : Nat) ∧ Kp w wr) (fun _ i _ => 13 - (intOf i).toNat)
      case atStart => exact ⟨0, by omega, rfl, by rw [CO.out], K4.out⟩
      case round =>
        obtain ⟨k, hk, rfl, rfl, k5⟩ := hrel
        have K5 := Lib.hid k5
        clear k5
        by_cases hlt2 : k ≤ 12
        · have C1 := Lib.hid (fun w => refHas_any a n w hlt)
          have C2 := Lib.hid (fun w => refHas_any b k w hlt2)
          have C3 := Lib.hid (fun w => refComp_any n k w (by unfold invB; simp; omega) (by unfold invB; simp; omega))
          have SX := show mIn a b n c0 (k + 1) = if (bitB a n && bitB b k) = true then mIn a b n c0 k ||| compN n k else mIn a b n c0 k from rfl
          have l1 := mIn_lt a b n c0 k ml
          have l2 := compN_lt n k
          have O := Lib.hid (or_nat _ _ l1 l2)
          clear l1 l2 CS CO ml
          generalize mIn a b n c0 k = c at *
          generalize compN n k = d at *
          rcases Bool.eq_false_or_eq_true (bitB a n) with g1 | g1
          · rcases Bool.eq_false_or_eq_true (bitB b k) with g2 | g2
            · rw [g1, g2] at SX
              rw [g1] at C1
              rw [g2] at C2
              have S2 := Lib.hid (show mIn a b n c0 (k + 1) = c ||| d from SX)
              clear SX g1 g2
              go_wp2_with fail; refine ((C1.out _)).mono ?_; rintro e w' ⟨rfl, rfl⟩
              go_wp2_with fail; refine ((C2.out _)).mono ?_; rintro e w' ⟨rfl, rfl⟩
              go_wp2_with fail; refine (C3.out _).mono ?_; rintro e w2 ⟨rfl, k1⟩; have K6 := Lib.hid (K5.out.trans k1); clear k1
              go_wp2
              go_roundw
              case rel => exact ⟨k + 1, by omega, by go_num, by rw [S2.out]; exact congrArg (Value.int .i64) O.out, K6.out⟩
              case measure => simp [intOf]; omega
            · rw [g1, g2] at SX
              rw [g1] at C1
              rw [g2] at C2
              have S2 := Lib.hid (show mIn a b n c0 (k + 1) = c from SX)
              clear SX g1 g2
              go_wp2_with fail; refine ((C1.out _)).mono ?_; rintro e w' ⟨rfl, rfl⟩
              go_wp2_with fail; refine ((C2.out _)).mono ?_; rintro e w' ⟨rfl, rfl⟩
              go_wp2
              go_roundw
              case rel => exact ⟨k + 1, by omega, by go_num, by rw [S2.out], K5.out⟩
              case measure => simp [intOf]; omega
          · rw [g1] at SX
            rw [g1] at C1
            have S2 := Lib.hid (show mIn a b n c0 (k + 1) = c from SX)
            clear SX g1
            go_wp2_with fail; refine ((C1.out _)).mono ?_; rintro e w' ⟨rfl, rfl⟩
            go_wp2
            go_roundw
            case rel => exact ⟨k + 1, by omega, by go_num, by rw [S2.out], K5.out⟩
            case measure => simp [intOf]; omega
        · obtain rfl : k = 13 := by omega
          rw [← CS.out]
          go_wp2
          go_roundw
          case rel => exact ⟨n + 1, by omega, by go_num, rfl, K5.out⟩
          case measure => simp [intOf]; omega
    · obtain rfl : n = 13 := by omega
      go_wp2
      go_ret
      exact ⟨rfl, K4.out⟩
theorem refComp_no (r s : Int) (w : World) (h : r < 0 ∨ (0 ≤ r ∧ 12 < r) ∨ (0 ≤ r ∧ r ≤ 12 ∧ s < 0) ∨ (0 ≤ r ∧ r ≤ 12 ∧ 0 ≤ s ∧ 12 < s)) :
    Calls Tryd.prog 30 #[.int .i64 r, .int .i64 s] w fun e w' => e = .returned (.int .i64 (compN r s : Nat)) ∧ Kp w w' := by
  have e : compN r s = 0 := by
    unfold compN
    rw [if_neg]
    unfold invB
    simp
    omega
  rw [e]
  clear e
  rcases h with h | ⟨h1, h2⟩ | ⟨h1, h2, h3⟩ | ⟨h1, h2, h3, h4⟩
  · go_enter Tryd.func30, Tryd.ntmps30
    go_wp2
    go_ret
    exact ⟨rfl, Kp.refl _⟩
  · go_enter Tryd.func30, Tryd.ntmps30
    go_wp2
    go_ret
    exact ⟨rfl, Kp.refl _⟩
  · go_enter Tryd.func30, Tryd.ntmps30
    go_wp2
    go_ret
    exact ⟨rfl, Kp.refl _⟩
  · go_enter Tryd.func30, Tryd.ntmps30
    go_wp2
    go_ret
    exact ⟨rfl, Kp.refl _⟩
theorem refComp_all (r s : Int) (w : World) :
    Calls Tryd.prog 30 #[.int .i64 r, .int .i64 s] w fun e w' => e = .returned (.int .i64 (compN r s : Nat)) ∧ Kp w w' := by
  by_cases h : (0 ≤ r ∧ r ≤ 12) ∧ 0 ≤ s ∧ s ≤ 12
  · exact refComp_any r s w (by unfold invB; simp; omega) (by unfold invB; simp; omega)
  · exact refComp_no r s w (by omega)
set_option maxHeartbeats 1000000 in
theorem composeIs_walk (r s a b : Int) (w : World) (hT : TabNM w) :
    Calls Tryd.prog 8 #[.int .i64 r, .int .i64 s, .int .i64 a, .int .i64 b] w fun e w' => e = .returned (.bool true) ∧ Below w.heap.size w w' := by
  have A0 := Lib.hid (awake19 w hT)
  have HT := Lib.hid (fun w' (k : Kp w w') => hT.kp k)
  have A1 := Lib.hid (fun w h => ccomp_any r s w h)
  have A2 := Lib.hid (fun w => refComp_all r s w)
  have A3 := Lib.hid (fun w => cboth_any a b w)
  have A4 := Lib.hid (fun w => refBoth_any a b w)
  generalize ((compN r s : Nat) : Int) = x at *
  generalize ((bothP (bA a) (bA b) : Nat) : Int) = y at *
  clear hT
  go_enter Tryd.func8, Tryd.ntmps8
  go_wp2_with fail; refine (A0.out).mono ?_; rintro e w1 ⟨rfl, k1⟩; have K1 := Lib.hid (id k1); clear k1
  go_wp2_with fail; refine (A1.out _ (HT.out _ K1.out)).mono ?_; rintro e w2 ⟨rfl, k1⟩; have K2 := Lib.hid (K1.out.trans k1); clear k1
  go_wp2_with fail; refine (A2.out _).mono ?_; rintro e w3 ⟨rfl, k1⟩; have K3 := Lib.hid (K2.out.trans k1); clear k1
  go_wp2_with fail; refine (A3.out _).mono ?_; rintro e w4 ⟨rfl, k1⟩; have K4 := Lib.hid (K3.out.trans k1); clear k1
  go_wp2_with fail; refine (A4.out _).mono ?_; rintro e w5 ⟨rfl, k1⟩; have K5 := Lib.hid (K4.out.trans k1); clear k1
  go_wp2
  go_ret
  exact ⟨rfl, K5.out⟩
end Go.Proofs.YteneoimkfddhpaaDoor
