/-
  Contracts of package compose: Both and Compose.
-/
import Derived.Test.YteneoimkfddhpaaDoorComposeG
import Derived.Test.YteneoimkfddhpaaDoorTabs5
import Derived.Laws.Strings
namespace Go.Proofs.YteneoimkfddhpaaDoor
open Go.RowKit
set_option linter.unusedVariables false
theorem clo2_any (p : Int × Int) (a b c d e f m n : Int) (acc k : Nat) (B C : Nat) (w : World) (s t : Nat) (hp : 0 ≤ p.1 ∧ p.1 ≤ p.2 ∧ p.2 ≤ 4) (hst : s ≤ t) (ht : t ≤ 4) (hacc : acc < 8192)
    (hi : iv k = ((s : Int), (t : Int))) (hQ : Qc w B a b c d e f m n (secondK (bA m) (bA n) p acc k : Nat)) (hC : C < w.heap.size) (hn : C ≠ B) (hc : w.cell? ⟨C, 0, none⟩ = some (.int .i64 p.1)) (hc' : w.cell? ⟨C, 1, none⟩ = some (.int .i64 p.2)) :
    Calls Tryd.prog 46 #[.agg #[.int .i64 s, .int .i64 t], .pointer (some ⟨C, 0, none⟩), .pointer (some ⟨B, 0, none⟩)] w fun r w' => r = .returned (.tuple #[]) ∧ (∃ a b c d e f : Int, Qc w' B a b c d e f m n (secondK (bA m) (bA n) p acc (k + 1) : Nat)) ∧ But B w w' := by
  have l := second_lt (bA m) (bA n) p acc k hacc
  rw [show secondK (bA m) (bA n) p acc (k + 1) = if (bA m) (relN p (iv k)) then thirdK (bA n) p (iv k) (secondK (bA m) (bA n) p acc k) 15 else secondK (bA m) (bA n) p acc k from rfl]
  have e1 := relN_eq p (iv k)
  have b1 := relN_bd p (iv k)
  generalize secondK (bA m) (bA n) p acc k = y at *
  rw [hi] at e1 b1 ⊢
  rcases Bool.eq_false_or_eq_true (bA m (relN p ((s : Int), (t : Int)))) with h | h
  · rw [if_pos h]
    refine (clo2_yes a b c d e f p.1 p.2 s t m n y B C w (by omega) (by omega) (by omega) (by omega) (by omega) (by omega) (by omega) (by omega) (by omega) (by omega) hQ hC hn hc hc' _ b1 e1 h l).mono ?_
    rintro r w2 ⟨hr, ⟨e2, f2, q2⟩, u2⟩
    exact ⟨hr, ⟨_, _, _, _, _, _, q2⟩, u2⟩
  · rw [if_neg (by rw [h]; simp)]
    refine (clo2_no a b c d e f p.1 p.2 s t m n y B C w (by omega) (by omega) (by omega) (by omega) (by omega) (by omega) (by omega) (by omega) (by omega) (by omega) hQ hC hn hc hc' _ b1 e1 h).mono ?_
    rintro r w2 ⟨hr, q2, u2⟩
    exact ⟨hr, ⟨_, _, _, _, _, _, q2⟩, u2⟩
/-- what the rounds over the second interval keep -/
def I2 (p : Int × Int) (m n : Int) (acc B C : Nat) (w0 : World) (k : Nat) (w : World) : Prop :=
  (∃ a b c d e f : Int, Qc w B a b c d e f m n (secondK (bA m) (bA n) p acc k : Nat)) ∧ But B w0 w ∧ C < w.heap.size ∧ w.cell? ⟨C, 0, none⟩ = some (.int .i64 p.1) ∧ w.cell? ⟨C, 1, none⟩ = some (.int .i64 p.2)
theorem clo1_any (s t : Nat) (a b c d e f m n : Int) (acc B : Nat) (w : World) (hst : s ≤ t) (ht : t ≤ 4) (hacc : acc < 8192) (hQ : Qc w B a b c d e f m n acc) :
    Calls Tryd.prog 45 #[.agg #[.int .i64 s, .int .i64 t], .pointer (some ⟨B, 0, none⟩)] w fun r w' => r = .returned (.tuple #[]) ∧ (∃ a b c d e f : Int, Qc w' B a b c d e f m n (secondK (bA m) (bA n) ((s : Int), (t : Int)) acc 15 : Nat)) ∧ But B w w' := by
  have hB := hQ.1
  have hmf : ∀ (fn : Fn) (first cap : Array Value) (w : World), (Instr.makeFunc fn first cap).run Tryd.prog w = .ok (.func fn first cap) w := fun _ _ _ _ => rfl
  have E := Lib.hid (each_any 46 #[.pointer (some ⟨w.heap.size, 0, none⟩), .pointer (some ⟨B, 0, none⟩)] (I2 ((s : Int), (t : Int)) m n acc B w.heap.size (w.alloc (.cells #[.int .i64 s, .int .i64 t] 23))) (w.alloc (.cells #[.int .i64 s, .int .i64 t] 23))
    (enters_of Tryd.func46 (by kernel_rfl) rfl) ⟨⟨a, b, c, d, e, f, hQ.kp (Kp.alloc _ _)⟩, But.refl _ _, by simp, by simp, by simp⟩
    (fun s1 t1 w1 hst1 ht1 ⟨⟨a1, b1, c1, d1, e1, f1, q1⟩, u, hC, hc, hc'⟩ => by
      have v := iv_at s1 t1 hst1 ht1
      exact (clo2_any ((s : Int), (t : Int)) a1 b1 c1 d1 e1 f1 m n acc (bs s1 + (t1 - s1)) B w.heap.size w1 s1 t1 (by simp only; omega) hst1 ht1 hacc v.2 q1 hC (by omega) hc hc').mono fun r w2 ⟨hr, q2, u2⟩ =>
        ⟨hr, q2, u.trans u2, Nat.lt_of_lt_of_le hC u2.size, (u2.cell hC (by omega)).trans hc, (u2.cell hC (by omega)).trans hc'⟩))
  clear hQ
  go_enter Tryd.func45, Tryd.ntmps45
  go_wp2_with fail
  refine (E.out).mono ?_
  rintro r w2 ⟨rfl, q2, u2, _, _⟩
  have Q2 := Lib.hid q2
  have U2 := Lib.hid u2
  clear q2 u2
  go_wp2
  go_end0
  exact ⟨rfl, Q2.out, (But.kp (Kp.alloc w _) B).trans U2.out⟩
def I1 (m n : Int) (B : Nat) (w0 : World) (k : Nat) (w : World) : Prop :=
  (∃ a b c d e f : Int, Qc w B a b c d e f m n (firstK (bA m) (bA n) k : Nat)) ∧ But B w0 w
theorem Qc.new (w : World) (t : TypeId) (a b c d e f m n k : Int) : Qc (w.alloc (.cells #[.int .i64 a, .int .i64 b, .int .i64 c, .int .i64 d, .int .i64 e, .int .i64 f, .int .i64 m, .int .i64 n, .int .i64 k] t)) w.heap.size a b c d e f m n k := by
  refine ⟨by simp, fun j x hj => ?_⟩
  have hl : j < 9 := by
    rcases Nat.lt_or_ge j 9 with h | h
    · exact h
    · rw [List.getElem?_eq_none (by simpa [qL] using h)] at hj; cases hj
  have : j = 0 ∨ j = 1 ∨ j = 2 ∨ j = 3 ∨ j = 4 ∨ j = 5 ∨ j = 6 ∨ j = 7 ∨ j = 8 := by omega
  rcases this with rfl | rfl | rfl | rfl | rfl | rfl | rfl | rfl | rfl <;> (simp [qL] at hj; subst hj; simp)
set_option maxHeartbeats 1000000 in
theorem cboth_any (m n : Int) (w : World) :
    Calls Tryd.prog 31 #[.int .i64 m, .int .i64 n] w fun r w' => r = .returned (.int .i64 (bothP (bA m) (bA n) : Nat)) ∧ Kp w w' := by
  unfold bothP
  have hmf : ∀ (fn : Fn) (first cap : Array Value) (w : World), (Instr.makeFunc fn first cap).run Tryd.prog w = .ok (.func fn first cap) w := fun _ _ _ _ => rfl
  obtain ⟨W1, hW⟩ : ∃ W1, W1 = w.alloc (.cells #[.int .i64 0, .int .i64 0, .int .i64 0, .int .i64 0, .int .i64 0, .int .i64 0, .int .i64 m, .int .i64 n, .int .i64 0] 60) := ⟨_, rfl⟩
  have E := Lib.hid (each_any 45 #[.pointer (some ⟨w.heap.size, 0, none⟩)] (I1 m n w.heap.size W1) W1
    (enters_of Tryd.func45 (by kernel_rfl) rfl) ⟨⟨0, 0, 0, 0, 0, 0, by rw [hW]; exact Qc.new _ _ _ _ _ _ _ _ _ _ _⟩, But.refl _ _⟩
    (fun s1 t1 w1 hst1 ht1 ⟨⟨a1, b1, c1, d1, e1, f1, q1⟩, u⟩ => by
      have v := iv_at s1 t1 hst1 ht1
      refine (clo1_any s1 t1 a1 b1 c1 d1 e1 f1 m n _ w.heap.size w1 hst1 ht1 (first_lt _ _ _) q1).mono fun r w2 ⟨hr, q2, u2⟩ => ⟨hr, ?_, u.trans u2⟩
      rw [← v.2] at q2
      exact q2))
  have HW := Lib.hid hW
  rw [hW] at E
  clear hW
  go_enter Tryd.func31, Tryd.ntmps31
  go_wp2_with fail
  refine (E.out).mono ?_
  rintro r w2 ⟨rfl, ⟨a, b, c, d, e, f, q2⟩, u2⟩
  have z := q2.cells.2.2.2.2.2.2.2.2
  have U2 := Lib.hid u2
  clear q2 u2
  go_wp2
  go_ret
  exact ⟨rfl, Below.trans (Kp.alloc w _) (U2.out.below (Nat.le_refl _) (by simp))⟩
theorem nm_ne (r : Int) (h : invB r = true) : (nm r).toList.isEmpty = false := by
  have bd : 0 ≤ r ∧ r ≤ 12 := by unfold invB at h; simpa using h
  have : r = 0 ∨ r = 1 ∨ r = 2 ∨ r = 3 ∨ r = 4 ∨ r = 5 ∨ r = 6 ∨ r = 7 ∨ r = 8 ∨ r = 9 ∨ r = 10 ∨ r = 11 ∨ r = 12 := by omega
  rw [ByteArray.toList_eq]
  rcases this with rfl | rfl | rfl | rfl | rfl | rfl | rfl | rfl | rfl | rfl | rfl | rfl | rfl <;> rfl
theorem cisrel_any (r : Int) (w : World) (hT : TabNM w) : Calls Tryd.prog 41 #[.int .i64 r] w fun e w' => e = .returned (.bool (invB r)) ∧ w = w' := by
  have C := Lib.hid (name_any r w hT)
  rcases Bool.eq_false_or_eq_true (invB r) with h | h
  · have n1 := nm_ne r h
    have n2 : (nm r).toList ≠ [] := by intro e; rw [e] at n1; cases n1
    rw [h]
    generalize nm r = s at *
    clear h hT
    go_enter Tryd.func41, Tryd.ntmps41
    go_wp2_with fail; refine (C.out).mono ?_; rintro e w' ⟨rfl, rfl⟩
    go_wp2
    go_ret
    exact ⟨rfl, rfl⟩
  · rw [show nm r = ByteArray.empty by unfold nm; rw [h]; rfl] at C
    rw [h]
    clear h hT
    go_enter Tryd.func41, Tryd.ntmps41
    go_wp2_with fail; refine (C.out).mono ?_; rintro e w' ⟨rfl, rfl⟩
    go_wp2
    go_ret
    exact ⟨rfl, rfl⟩
theorem bA_nat (m : Nat) : bA (m : Int) = m.testBit := by
  funext j
  unfold bA bitB
  rw [Nat.testBit_eq_decide_div_mod_eq, Bool.eq_iff_iff, decide_eq_true_eq, decide_eq_true_eq]
  have : ((m / 2 ^ j % 2 : Nat) : Int) = (m : Int) / 2 ^ j % 2 := by push_cast; rfl
  omega
theorem wrap_pow {k : Nat} (h : k ≤ 12) : IntKind.i64.wrap ((2 : Int) ^ k) = ((2 ^ k : Nat) : Int) := by
  have p := pow12 h
  have q : ((2 ^ k : Nat) : Int) < 8192 := Int.ofNat_lt.2 p
  have q0 : (0 : Int) ≤ ((2 ^ k : Nat) : Int) := Int.natCast_nonneg _
  rw [show ((2 : Int) ^ k) = ((2 ^ k : Nat) : Int) by simp, IntKind.wrap_i64]
  generalize ((2 ^ k : Nat) : Int) = y at *
  omega
def isI (r : Int) (j : Nat) : Bool := r == (j : Int)
/-- what follows of two relations -/
def compN (r s : Int) : Nat := if (invB r && invB s) = true then bothP (isI r) (isI s) else 0
theorem two_pow_bits (k : Nat) : (2 ^ k : Nat).testBit = isI k := by
  funext j
  unfold isI
  rw [Nat.testBit_two_pow, Bool.eq_iff_iff]
  simp only [decide_eq_true_eq, beq_iff_eq]
  omega
theorem compN_lt (r s : Int) : compN r s < 8192 := by unfold compN; split; exact both_lt _ _; omega
set_option maxHeartbeats 1000000 in
theorem ccomp_any (r s : Int) (w : World) (hT : TabNM w) :
    Calls Tryd.prog 29 #[.int .i64 r, .int .i64 s] w fun e w' => e = .returned (.int .i64 (compN r s : Nat)) ∧ Kp w w' := by
  have C1 := Lib.hid (cisrel_any r w hT)
  have C2 := Lib.hid (cisrel_any s w hT)
  clear hT
  rcases Bool.eq_false_or_eq_true (invB r) with h | h
  · rw [h] at C1
    rcases Bool.eq_false_or_eq_true (invB s) with g | g
    · rw [g] at C2
      have b1 : 0 ≤ r ∧ r ≤ 12 := by unfold invB at h; simpa using h
      have b2 : 0 ≤ s ∧ s ≤ 12 := by unfold invB at g; simpa using g
      obtain ⟨k, rfl⟩ := Int.eq_ofNat_of_zero_le b1.1
      obtain ⟨l, rfl⟩ := Int.eq_ofNat_of_zero_le b2.1
      have hk : k ≤ 12 := by omega
      have hl : l ≤ 12 := by omega
      have C3 := Lib.hid (fun w => cboth_any (IntKind.i64.wrap (2 ^ k)) (IntKind.i64.wrap (2 ^ l)) w)
      rw [wrap_pow hk, wrap_pow hl, bA_nat, bA_nat, two_pow_bits, two_pow_bits, ← wrap_pow hk, ← wrap_pow hl] at C3
      rw [show compN (k : Int) (l : Int) = bothP (isI k) (isI l) by unfold compN; rw [h, g]; rfl]
      generalize bothP (isI k) (isI l) = y at *
      have z1 : (0 : Int) ≤ k := by omega
      have z2 : (0 : Int) ≤ l := by omega
      have z3 : ((k : Int) < 0) = False := by simp
      clear h g b1 b2
      go_enter Tryd.func29, Tryd.ntmps29
      go_wp2_with fail; refine (C1.out).mono ?_; rintro e w' ⟨rfl, rfl⟩
      go_wp2_with fail; refine (C2.out).mono ?_; rintro e w' ⟨rfl, rfl⟩
      go_wp2_with fail
      go_region_held3 (fun w' => Kp w w') (first | assumption | exact Kp.drew _)
        (first | (go_at_call 31; refine (C3.out _).mono ?_; rintro e w' ⟨rfl, k1⟩; have k2 := (Kp.drew w).trans k1))
      go_wp2
      go_ret
      exact ⟨rfl, k2⟩
    · rw [g] at C2
      rw [show compN r s = 0 by unfold compN; rw [h, g]; rfl]
      clear h g
      go_enter Tryd.func29, Tryd.ntmps29
      go_wp2_with fail; refine (C1.out).mono ?_; rintro e w' ⟨rfl, rfl⟩
      go_wp2_with fail; refine (C2.out).mono ?_; rintro e w' ⟨rfl, rfl⟩
      go_wp2
      go_ret
      exact ⟨rfl, Kp.refl _⟩
  · rw [h] at C1
    rw [show compN r s = 0 by unfold compN; rw [h]; rfl]
    clear h
    go_enter Tryd.func29, Tryd.ntmps29
    go_wp2_with fail; refine (C1.out).mono ?_; rintro e w' ⟨rfl, rfl⟩
    go_wp2
    go_ret
    exact ⟨rfl, Kp.refl _⟩
end Go.Proofs.YteneoimkfddhpaaDoor
