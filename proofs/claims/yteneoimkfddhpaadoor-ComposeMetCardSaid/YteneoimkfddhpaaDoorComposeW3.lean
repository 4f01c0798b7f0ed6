/-
  Walk of ComposeMet: what follows is met.
-/
import Derived.Test.YteneoimkfddhpaaDoorComposeW2
namespace Go.Proofs.YteneoimkfddhpaaDoor
open Go.RowKit
set_option linter.unusedVariables false
theorem bs_mono (a b : Nat) (h : a ≤ b) (g : b ≤ 5) : bs a ≤ bs b := by
  have : a = 0 ∨ a = 1 ∨ a = 2 ∨ a = 3 ∨ a = 4 ∨ a = 5 := by omega
  have : b = 0 ∨ b = 1 ∨ b = 2 ∨ b = 3 ∨ b = 4 ∨ b = 5 := by omega
  rcases ‹a = 0 ∨ _› with rfl | rfl | rfl | rfl | rfl | rfl <;> rcases ‹b = 0 ∨ _› with rfl | rfl | rfl | rfl | rfl | rfl <;> first | omega | decide
theorem bs_top (a : Nat) (h : a ≤ 5) : bs a ≤ 15 := bs_mono a 5 h (by omega)
set_option maxHeartbeats 1000000 in
theorem one_any (k : Nat) (w : World) (hk : k < 15) :
    Calls Tryd.prog 33 #[.int .i64 k] w fun e w' => e = .returned (.agg #[.int .i64 (iv k).1, .int .i64 (iv k).2]) ∧ Kp w w' := by
  obtain ⟨s, t, hst, ht, e⟩ : ∃ s t : Nat, s ≤ t ∧ t ≤ 4 ∧ k = bs s + (t - s) := by
    have : k = 0 ∨ k = 1 ∨ k = 2 ∨ k = 3 ∨ k = 4 ∨ k = 5 ∨ k = 6 ∨ k = 7 ∨ k = 8 ∨ k = 9 ∨ k = 10 ∨ k = 11 ∨ k = 12 ∨ k = 13 ∨ k = 14 := by omega
    rcases this with rfl | rfl | rfl | rfl | rfl | rfl | rfl | rfl | rfl | rfl | rfl | rfl | rfl | rfl | rfl
    · exact ⟨0, 0, by omega, by omega, rfl⟩
    · exact ⟨0, 1, by omega, by omega, rfl⟩
    · exact ⟨0, 2, by omega, by omega, rfl⟩
    · exact ⟨0, 3, by omega, by omega, rfl⟩
    · exact ⟨0, 4, by omega, by omega, rfl⟩
    · exact ⟨1, 1, by omega, by omega, rfl⟩
    · exact ⟨1, 2, by omega, by omega, rfl⟩
    · exact ⟨1, 3, by omega, by omega, rfl⟩
    · exact ⟨1, 4, by omega, by omega, rfl⟩
    · exact ⟨2, 2, by omega, by omega, rfl⟩
    · exact ⟨2, 3, by omega, by omega, rfl⟩
    · exact ⟨2, 4, by omega, by omega, rfl⟩
    · exact ⟨3, 3, by omega, by omega, rfl⟩
    · exact ⟨3, 4, by omega, by omega, rfl⟩
    · exact ⟨4, 4, by omega, by omega, rfl⟩
  have v := (iv_at s t hst ht).2
  rw [← e] at v
  rw [v]
  have E := Lib.hid e
  clear v e
  go_enter Tryd.func33, Tryd.ntmps33
  go_wp2
  go_loopw [0, 3] (fun i j wr => ∃ u : Nat, u ≤ s ∧ j = .int .i64 u ∧ i = .int .i64 ((bs s + (t - s) - bs u : Nat) : Int) ∧ wr = w.alloc (.cells #[.int .i64 0, .int .i64 0] 23)) (fun _ i _ => 5 - (intOf i).toNat)
  case atStart => exact ⟨0, by omega, rfl, by rw [E.out]; rfl, rfl⟩
  case round =>
    obtain ⟨u, hu, rfl, rfl, rfl⟩ := hrel
    by_cases h : u < s
    · have b1 := bs_next u (by omega)
      have b2 := bs_mono (u + 1) s h (by omega)
      obtain ⟨n, hn⟩ : ∃ n, n = bs s + (t - s) - bs (u + 1) := ⟨_, rfl⟩
      rw [show bs s + (t - s) - bs u = n + 5 - u by omega, show ((n + 5 - u : Nat) : Int) = (n : Int) + 5 - u by omega]
      have HN := Lib.hid hn
      have d : decide ((5 : Int) - (u : Int) ≤ (n : Int) + 5 - (u : Int)) = true := by simp; omega
      have hu4 : u ≤ 4 := by omega
      have hn4 : n ≤ 20 := by have := bs_top s (by omega); omega
      clear b1 b2 hn E
      go_wp2
      go_roundw
      case rel => exact ⟨u + 1, by omega, by go_num, by rw [← HN.out]; congr 1; omega, trivial⟩
      case measure => simp [intOf]; omega
    · obtain rfl : u = s := by omega
      rw [show bs u + (t - u) - bs u = t - u by omega, show ((t - u : Nat) : Int) = (t : Int) - u by omega]
      have d : decide ((5 : Int) - (u : Int) ≤ (t : Int) - (u : Int)) = false := by simp; omega
      clear E h
      go_wp2
      rw [show (u : Int) + ((t : Int) - u) = t by omega]
      exact bodyPost_ret (v := .agg #[.int .i64 u, .int .i64 t]) (by simp [results, Tryd.results33, go_sem]) rfl ⟨rfl, Kp.alloc _ _⟩
def metK (r s : Int) : Nat → Nat
  | 0 => 0
  | k + 1 => if ((rel (iv (k % 15)).1 (iv (k % 15)).2 (iv (k / 15 % 15)).1 (iv (k / 15 % 15)).2 == r) && (rel (iv (k / 15 % 15)).1 (iv (k / 15 % 15)).2 (iv (k / 225)).1 (iv (k / 225)).2 == s)) = true then metK r s k ||| 2 ^ relN (iv (k % 15)) (iv (k / 225)) else metK r s k
theorem met_bit (r s : Int) (x : Nat) : ∀ n, (metK r s n).testBit x = true ↔ ∃ k, k < n ∧ ((relN (iv (k % 15)) (iv (k / 15 % 15)) : Nat) : Int) = r ∧ ((relN (iv (k / 15 % 15)) (iv (k / 225)) : Nat) : Int) = s ∧ relN (iv (k % 15)) (iv (k / 225)) = x := by
  intro n
  induction n with
  | zero => simp [metK]
  | succ n ih =>
    rw [metK]
    by_cases h : ((rel (iv (n % 15)).1 (iv (n % 15)).2 (iv (n / 15 % 15)).1 (iv (n / 15 % 15)).2 == r) && (rel (iv (n / 15 % 15)).1 (iv (n / 15 % 15)).2 (iv (n / 225)).1 (iv (n / 225)).2 == s)) = true
    · rw [if_pos h, Nat.testBit_or, Bool.or_eq_true, ih, Nat.testBit_two_pow, decide_eq_true_eq]
      simp only [Bool.and_eq_true, beq_iff_eq, ← relN_eq] at h
      constructor
      · rintro (⟨k, h1, h2⟩ | h1)
        · exact ⟨k, by omega, h2⟩
        · exact ⟨n, by omega, h.1, h.2, h1⟩
      · rintro ⟨k, h1, h2, h3, h4⟩
        by_cases e : k = n
        · subst e; exact .inr h4
        · exact .inl ⟨k, by omega, h2, h3, h4⟩
    · rw [if_neg h, ih]
      simp only [Bool.and_eq_true, beq_iff_eq, ← relN_eq] at h
      constructor
      · rintro ⟨k, h1, h2⟩
        exact ⟨k, by omega, h2⟩
      · rintro ⟨k, h1, h2, h3, h4⟩
        by_cases e : k = n
        · subst e; exact absurd ⟨h2, h3⟩ h
        · exact ⟨k, by omega, h2, h3, h4⟩
theorem met_lt (r s : Int) (n : Nat) : metK r s n < 8192 := lt13_of_bits fun x hx => by
  obtain ⟨k, _, _, _, rfl⟩ := (met_bit r s x n).1 hx
  exact relN_bd _ _
theorem met_all (r s : Int) (hr : invB r = true) (hs : invB s = true) : metK r s 3375 = compN r s := by
  unfold compN
  rw [if_pos (by rw [hr, hs]; rfl)]
  apply Nat.eq_of_testBit_eq
  intro x
  rw [Bool.eq_iff_iff, met_bit, both_bit]
  constructor
  · rintro ⟨k, h1, h2, h3, h4⟩
    exact ⟨_, _, by unfold isI; rw [← h2]; simp, by unfold isI; rw [← h3]; simp, k % 15, k / 15 % 15, k / 225, by omega, by omega, by omega, rfl, rfl, h4⟩
  · rintro ⟨r', s', h1, h2, i, j, l, hi, hj, hl, rfl, rfl, h⟩
    unfold isI at h1 h2
    simp only [beq_iff_eq] at h1 h2
    refine ⟨i + 15 * j + 225 * l, by omega, ?_⟩
    rw [show (i + 15 * j + 225 * l) % 15 = i by omega, show (i + 15 * j + 225 * l) / 15 % 15 = j by omega, show (i + 15 * j + 225 * l) / 225 = l by omega]
    exact ⟨h1.symm, h2.symm, h⟩
def Box (w : World) (b : Nat) (x y : Int) : Prop := b < w.heap.size ∧ w.cell? ⟨b, 0, none⟩ = some (.int .i64 x) ∧ w.cell? ⟨b, 1, none⟩ = some (.int .i64 y)
theorem Box.kp {w w' : World} {b : Nat} {x y : Int} (h : Box w b x y) (k : Kp w w') : Box w' b x y :=
  ⟨Nat.lt_of_lt_of_le h.1 k.size, (k.cell (p := ⟨b, 0, none⟩) h.1).trans h.2.1, (k.cell (p := ⟨b, 1, none⟩) h.1).trans h.2.2⟩
theorem Box.new (w : World) (x y : Int) (t : TypeId) : Box (w.alloc (.cells #[.int .i64 x, .int .i64 y] t)) w.heap.size x y := ⟨by simp, by simp, by simp⟩
end Go.Proofs.YteneoimkfddhpaaDoor
