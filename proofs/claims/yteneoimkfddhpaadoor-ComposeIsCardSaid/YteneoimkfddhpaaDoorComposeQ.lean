/-
  The document's answer for layer 19: Compose and Both.
-/
import Derived.Test.YteneoimkfddhpaaDoorComposeJ
import Derived.Test.YteneoimkfddhpaaDoorAllenRC
namespace Go.Proofs.YteneoimkfddhpaaDoor
open Go.RowKit
set_option linter.unusedVariables false
/-- the innermost fold: of a pair all of the second list -/
def cin (p : NN) (B : List NN) (acc : Nat) : Nat → Nat
  | 0 => acc
  | k + 1 => if (p.2 == (atN B k).1) = true then cin p B acc k ||| 2 ^ relN (iv p.1) (iv (atN B k).2) else cin p B acc k
def cout (A B : List NN) : Nat → Nat
  | 0 => 0
  | i + 1 => cin (atN A i) B (cout A B i) B.length
theorem cin_bit (p : NN) (B : List NN) (acc x : Nat) : ∀ k, (cin p B acc k).testBit x = true ↔ acc.testBit x = true ∨ ∃ j, j < k ∧ p.2 = (atN B j).1 ∧ relN (iv p.1) (iv (atN B j).2) = x := by
  intro k
  induction k with
  | zero => simp [cin]
  | succ k ih =>
    rw [cin]
    by_cases h : (p.2 == (atN B k).1) = true
    · rw [if_pos h, Nat.testBit_or, Bool.or_eq_true, ih, Nat.testBit_two_pow, decide_eq_true_eq]
      rw [beq_iff_eq] at h
      constructor
      · rintro ((h1 | ⟨l, h1, h2, h3⟩) | h1)
        · exact .inl h1
        · exact .inr ⟨l, by omega, h2, h3⟩
        · exact .inr ⟨k, by omega, h, h1⟩
      · rintro (h1 | ⟨l, h1, h2, h3⟩)
        · exact .inl (.inl h1)
        · by_cases e : l = k
          · subst e; exact .inr h3
          · exact .inl (.inr ⟨l, by omega, h2, h3⟩)
    · rw [if_neg h, ih]
      rw [beq_iff_eq] at h
      constructor
      · rintro (h1 | ⟨l, h1, h2, h3⟩)
        · exact .inl h1
        · exact .inr ⟨l, by omega, h2, h3⟩
      · rintro (h1 | ⟨l, h1, h2, h3⟩)
        · exact .inl h1
        · by_cases e : l = k
          · subst e; exact absurd h2 h
          · exact .inr ⟨l, by omega, h2, h3⟩
theorem cout_bit (A B : List NN) (x : Nat) : ∀ n, (cout A B n).testBit x = true ↔ ∃ i j, i < n ∧ j < B.length ∧ (atN A i).2 = (atN B j).1 ∧ relN (iv (atN A i).1) (iv (atN B j).2) = x := by
  intro n
  induction n with
  | zero => simp [cout]
  | succ n ih =>
    rw [cout, cin_bit, ih]
    constructor
    · rintro (⟨i, j, h1, h2⟩ | ⟨j, h1, h2⟩)
      · exact ⟨i, j, by omega, h2⟩
      · exact ⟨n, j, by omega, h1, h2⟩
    · rintro ⟨i, j, h1, h2, h3⟩
      by_cases e : i = n
      · subst e; exact .inr ⟨j, h2, h3⟩
      · exact .inl ⟨i, j, by omega, h2, h3⟩
theorem cin_lt (p : NN) (B : List NN) (acc k : Nat) (h : acc < 8192) : cin p B acc k < 8192 := lt13_of_bits fun x hx => by
  rcases (cin_bit p B acc x k).1 hx with h1 | ⟨l, _, _, rfl⟩
  · rcases Nat.lt_or_ge 12 x with h2 | h2
    · rw [nat_bit_hi h h2] at h1; cases h1
    · exact h2
  · exact relN_bd _ _
theorem cout_lt (A B : List NN) (n : Nat) : cout A B n < 8192 := lt13_of_bits fun x hx => by
  obtain ⟨i, j, _, _, _, rfl⟩ := (cout_bit A B x n).1 hx
  exact relN_bd _ _
theorem atN_mem (l : List NN) (i : Nat) (h : i < l.length) : atN l i ∈ l := by
  unfold atN; simp [List.getD, h]
theorem mem_atN (l : List NN) (x : NN) (h : x ∈ l) : ∃ i, i < l.length ∧ atN l i = x := by
  obtain ⟨i, hi, e⟩ := List.getElem_of_mem h
  exact ⟨i, hi, by unfold atN; simp [List.getD, hi, e]⟩
theorem cout_comp (r s : Int) (hr : invB r = true) (hs : invB s = true) : cout (rowsK r 225) (rowsK s 225) (rowsK r 225).length = compN r s := by
  unfold compN
  rw [if_pos (by rw [hr, hs]; rfl)]
  apply Nat.eq_of_testBit_eq
  intro x
  rw [Bool.eq_iff_iff, cout_bit, both_bit]
  constructor
  · rintro ⟨i, j, hi, hj, e, h⟩
    have m1 := (rowsK_mem r (atN (rowsK r 225) i) 225 (by omega)).1 (atN_mem _ _ hi)
    have m2 := (rowsK_mem s (atN (rowsK s 225) j) 225 (by omega)).1 (atN_mem _ _ hj)
    obtain ⟨a1, a2, a3⟩ := m1
    obtain ⟨b1, b2, b3⟩ := m2
    rw [← e] at b2 b3
    refine ⟨_, _, by unfold isI; rw [beq_iff_eq, relN_eq]; exact a3.symm, by unfold isI; rw [beq_iff_eq, relN_eq]; exact b3.symm, _, _, _, by omega, a1, b1, rfl, rfl, h⟩
  · rintro ⟨r', s', h1, h2, i, j, l, hi, hj, hl, rfl, rfl, h⟩
    unfold isI at h1 h2
    simp only [beq_iff_eq] at h1 h2
    rw [relN_eq] at h1 h2
    obtain ⟨x1, x2, x3⟩ := mem_atN _ _ ((rowsK_mem r (i, j) 225 (by omega)).2 ⟨hj, by simp only; omega, h1.symm⟩)
    obtain ⟨y1, y2, y3⟩ := mem_atN _ _ ((rowsK_mem s (j, l) 225 (by omega)).2 ⟨hl, by simp only; omega, h2.symm⟩)
    exact ⟨x1, y1, x2, y2, by rw [x3, y3], by rw [x3, y3]; exact h⟩
theorem rowsK_ne (r : Int) (h : invB r = true) : rowsK r 225 ≠ [] := by
  have bd : 0 ≤ r ∧ r ≤ 12 := by unfold invB at h; simpa using h
  obtain ⟨k, rfl⟩ := Int.eq_ofNat_of_zero_le bd.1
  obtain ⟨i, j, l, hi, hj, hl, e, _, _⟩ := (tri_right k k (by omega)).2 rfl
  have m := (rowsK_mem (k : Int) (i, j) 225 (by omega)).2 ⟨hj, by simp only; omega, by rw [← relN_eq, e]⟩
  intro c
  rw [c] at m
  cases m
theorem PairsAt.some {w : World} {v : Value} {l : List NN} (h : PairsAt w v l) (hn : l ≠ []) : ∃ b cap, v = .slice (some ⟨b, 0, none⟩) l.length cap ∧ b < w.heap.size ∧
    ∀ i, i < l.length → w.cell? ⟨b, i * 2, none⟩ = some (.int .i64 (atN l i).1) ∧ w.cell? ⟨b, i * 2 + 1, none⟩ = some (.int .i64 (atN l i).2) := by
  rcases h with ⟨_, h⟩ | h
  · exact absurd h hn
  · exact h
set_option maxHeartbeats 4000000 in
set_option maxRecDepth 100000 in
theorem refComp_any (r s : Int) (w : World) (hr : invB r = true) (hs : invB s = true) :
    Calls Tryd.prog 30 #[.int .i64 r, .int .i64 s] w fun e w' => e = .returned (.int .i64 (compN r s : Nat)) ∧ Kp w w' := by
  rw [← cout_comp r s hr hs]
  have A1 := Lib.hid (fun w => some_any w)
  have A2 := Lib.hid (fun v w h => rows_any v r w h)
  have A3 := Lib.hid (fun v w h => rows_any v s w h)
  have n1 := Lib.hid (rowsK_ne r hr)
  have n2 := Lib.hid (rowsK_ne s hs)
  have l1 := rowsK_len r 225
  have l2 := rowsK_len s 225
  have M1 := Lib.hid (fun x h => (rowsK_mem r x 225 (by omega)).1 h)
  have M2 := Lib.hid (fun x h => (rowsK_mem s x 225 (by omega)).1 h)
  have b1 : 0 ≤ r ∧ r ≤ 12 := by unfold invB at hr; simpa using hr
  have b2 : 0 ≤ s ∧ s ≤ 12 := by unfold invB at hs; simpa using hs
  obtain ⟨r1, r2⟩ := b1
  obtain ⟨s1, s2⟩ := b2
  clear hr hs
  generalize rowsK r 225 = A at *
  generalize rowsK s 225 = B at *
  go_enter Tryd.func30, Tryd.ntmps30
  go_wp2_with fail; refine (A1.out _).mono ?_; rintro e w1 ⟨v1, rfl, p1, k1⟩; have P1 := Lib.hid p1; have K1 := Lib.hid k1; clear p1 k1
  go_wp2_with fail; refine (A2.out _ _ P1.out).mono ?_; rintro e w2 ⟨v2, rfl, p2, k2⟩; have P2 := Lib.hid p2; have Q1 := Lib.hid (P1.out.kp k2); have K2 := Lib.hid (K1.out.trans k2); clear p2 k2 P1
  go_wp2_with fail; refine (A3.out _ _ Q1.out).mono ?_; rintro e w3 ⟨v3, rfl, p3, k3⟩; have K3 := Lib.hid (K2.out.trans k3)
  obtain ⟨gl, cl, rfl, hgl, hl⟩ := (Q1.out.kp k3).some (by decide)
  obtain ⟨ga, ca, rfl, hga, ha⟩ := (P2.out.kp k3).some n1.out
  obtain ⟨gb, cb, rfl, hgb, hb⟩ := p3.some n2.out
  rw [show ivN.length = 15 from rfl] at hl ⊢
  have HL := Lib.hid hl
  have HA := Lib.hid ha
  have HB := Lib.hid hb
  clear hl ha hb p3 k3 Q1 P2 K1 K2 n1 n2
  go_wp2
  go_loopw [8, 9] (fun m i wr => ∃ n : Nat, n ≤ A.length ∧ i = .int .i64 n ∧ m = .int .i64 (cout A B n : Nat) ∧ Kp w3 wr) (fun _ i _ => A.length - (intOf i).toNat)
  case atStart => exact ⟨0, by omega, rfl, rfl, Kp.refl _⟩
  case round =>
    obtain ⟨n, hn, rfl, rfl, k4⟩ := hrel
    have K4 := Lib.hid k4
    clear k4
    by_cases hlt : n < A.length
    · have hd : decide ((n : Int) < (A.length : Int)) = true := by simp; omega
      have ml := cout_lt A B n
      have CS := Lib.hid (show cout A B (n + 1) = cin (atN A n) B (cout A B n) B.length from rfl)
      have CO := Lib.hid (show cin (atN A n) B (cout A B n) 0 = cout A B n from rfl)
      generalize cout A B n = c0 at *
      go_wp2
      go_loopw [8, 10] (fun m i wr => ∃ k : Nat, k ≤ B.length ∧ i = .int .i64 k ∧ m = .int .i64 (cin (atN A n) B c0 k : Nat) ∧ Kp w3 wr) (fun _ i _ => B.length - (intOf i).toNat)
      case atStart => exact ⟨0, by omega, rfl, by rw [CO.out], K4.out⟩
      case round =>
        obtain ⟨k, hk, rfl, rfl, k5⟩ := hrel
        have K5 := Lib.hid k5
        clear k5
        by_cases hlt2 : k < B.length
        · obtain ⟨x1, x2⟩ := HA.out n hlt
          obtain ⟨x3, x4⟩ := HB.out k hlt2
          have m1 := M1.out _ (atN_mem A n hlt)
          have m2 := M2.out _ (atN_mem B k hlt2)
          have SX := show cin (atN A n) B c0 (k + 1) = if ((atN A n).2 == (atN B k).1) = true then cin (atN A n) B c0 k ||| 2 ^ relN (iv (atN A n).1) (iv (atN B k).2) else cin (atN A n) B c0 k from rfl
          have cl0 := cin_lt (atN A n) B c0 k ml
          obtain ⟨p1, hp1⟩ : ∃ x, x = (atN A n).1 := ⟨_, rfl⟩
          obtain ⟨p2, hp2⟩ : ∃ x, x = (atN A n).2 := ⟨_, rfl⟩
          obtain ⟨q1, hq1⟩ : ∃ x, x = (atN B k).1 := ⟨_, rfl⟩
          obtain ⟨q2, hq2⟩ : ∃ x, x = (atN B k).2 := ⟨_, rfl⟩
          rw [← hp1, ← hp2] at m1
          rw [← hq1, ← hq2] at m2
          rw [← hp1] at x1
          rw [← hp2] at x2
          rw [← hq1] at x3
          rw [← hq2] at x4
          rw [← hp1, ← hp2, ← hq1, ← hq2] at SX
          clear hp1 hp2 hq1 hq2
          obtain ⟨i2, i1, _⟩ := m1
          obtain ⟨j2, j1, _⟩ := m2
          have i1' : p1 < 15 := by omega
          clear i1 j1
          obtain ⟨x5, x6⟩ := HL.out p1 i1'
          obtain ⟨x7, x8⟩ := HL.out q2 j2
          have e1 := ivN_iv p1
          have e2 := ivN_iv q2
          have bd1 := iv_bd p1
          have bd2 := iv_bd q2
          have eN := relN_eq (iv p1) (iv q2)
          have bN := relN_bd (iv p1) (iv q2)
          rw [← e1] at bd1
          rw [← e2] at bd2
          rw [← e1, ← e2] at SX eN bN
          simp only at bd1 bd2 eN
          generalize ((atN ivN p1).1 : Int) = y1 at *
          generalize ((atN ivN p1).2 : Int) = y2 at *
          generalize ((atN ivN q2).1 : Int) = z1 at *
          generalize ((atN ivN q2).2 : Int) = z2 at *
          generalize relN (y1, y2) (z1, z2) = x at *
          have C := Lib.hid (fun w => refOf_any y1 y2 z1 z2 w (by omega) (by omega) (by omega) (by omega) (by omega) (by omega) (by omega) (by omega))
          rw [show relV y1 y2 z1 z2 = rel y1 y2 z1 z2 by unfold relV ivB; simp [bd1.2.1, bd2.2.1], show ivB y1 y2 z1 z2 = true by unfold ivB; simp [bd1.2.1, bd2.2.1], ← eN] at C
          have d1 := (K5.out.cell (p := ⟨ga, n * 2, none⟩) hga).trans x1
          have d2 := (K5.out.cell (p := ⟨ga, n * 2 + 1, none⟩) hga).trans x2
          have d3 := (K5.out.cell (p := ⟨gb, k * 2, none⟩) hgb).trans x3
          have d4 := (K5.out.cell (p := ⟨gb, k * 2 + 1, none⟩) hgb).trans x4
          have d5 := (K5.out.cell (p := ⟨gl, p1 * 2, none⟩) hgl).trans x5
          have d6 := (K5.out.cell (p := ⟨gl, p1 * 2 + 1, none⟩) hgl).trans x6
          have d7 := (K5.out.cell (p := ⟨gl, q2 * 2, none⟩) hgl).trans x7
          have d8 := (K5.out.cell (p := ⟨gl, q2 * 2 + 1, none⟩) hgl).trans x8
          clear x1 x2 x3 x4 x5 x6 x7 x8 e1 e2 bd1 bd2 eN
          have sa := Nat.lt_of_lt_of_le hga K5.out.size
          have sb := Nat.lt_of_lt_of_le hgb K5.out.size
          have sl := Nat.lt_of_lt_of_le hgl K5.out.size
          have KS := Lib.hid (fun w' (g : Kp wr w') => (show w'.cell? ⟨ga, n * 2, none⟩ = some (.int .i64 p1) ∧ w'.cell? ⟨ga, n * 2 + 1, none⟩ = some (.int .i64 p2) ∧ w'.cell? ⟨gb, k * 2, none⟩ = some (.int .i64 q1) ∧ w'.cell? ⟨gb, k * 2 + 1, none⟩ = some (.int .i64 q2) ∧ w'.cell? ⟨gl, p1 * 2, none⟩ = some (.int .i64 y1) ∧ w'.cell? ⟨gl, p1 * 2 + 1, none⟩ = some (.int .i64 y2) ∧ w'.cell? ⟨gl, q2 * 2, none⟩ = some (.int .i64 z1) ∧ w'.cell? ⟨gl, q2 * 2 + 1, none⟩ = some (.int .i64 z2) ∧ Kp wr w' from
            ⟨(g.cell (p := ⟨ga, n * 2, none⟩) sa).trans d1, (g.cell (p := ⟨ga, n * 2 + 1, none⟩) sa).trans d2, (g.cell (p := ⟨gb, k * 2, none⟩) sb).trans d3, (g.cell (p := ⟨gb, k * 2 + 1, none⟩) sb).trans d4, (g.cell (p := ⟨gl, p1 * 2, none⟩) sl).trans d5, (g.cell (p := ⟨gl, p1 * 2 + 1, none⟩) sl).trans d6, (g.cell (p := ⟨gl, q2 * 2, none⟩) sl).trans d7, (g.cell (p := ⟨gl, q2 * 2 + 1, none⟩) sl).trans d8, g⟩))
          clear sa sb sl
          have z5 : (0 : Int) ≤ (n : Int) := by omega
          have z6 : (n : Int) < A.length := by omega
          have z7 : (0 : Int) ≤ (k : Int) := by omega
          have z8 : (k : Int) < B.length := by omega
          have z9 : (0 : Int) ≤ (p1 : Int) := by omega
          have z10 : (p1 : Int) < 15 := by omega
          have z11 : (0 : Int) ≤ (q2 : Int) := by omega
          have z12 : (q2 : Int) < 15 := by omega
          clear CS CO
          generalize cin (atN A n) B c0 k = c at *
          rcases Bool.eq_false_or_eq_true (p2 == q1) with g | g
          · rw [g] at SX
            have S2 := Lib.hid (show cin (atN A n) B c0 (k + 1) = c ||| 2 ^ x from SX)
            have O := Lib.hid (show bits .or .i64 (c : Int) (wrap64 (2 ^ x)) = ((c ||| 2 ^ x : Nat) : Int) by rw [show wrap64 ((2 : Int) ^ x) = IntKind.i64.wrap (2 ^ x) by rw [IntKind.wrap_i64, wrap64]]; exact or_bit cl0 bN)
            have g' : ((p2 : Int) == (q1 : Int)) = true := by simp at g ⊢; omega
            clear SX ml cl0
            go_wp2_with fail
            go_quiet (fail)
            go_wp2_with fail
            go_region_held3 (fun w' => w'.cell? ⟨ga, n * 2, none⟩ = some (.int .i64 p1) ∧ w'.cell? ⟨ga, n * 2 + 1, none⟩ = some (.int .i64 p2) ∧ w'.cell? ⟨gb, k * 2, none⟩ = some (.int .i64 q1) ∧ w'.cell? ⟨gb, k * 2 + 1, none⟩ = some (.int .i64 q2) ∧ w'.cell? ⟨gl, p1 * 2, none⟩ = some (.int .i64 y1) ∧ w'.cell? ⟨gl, p1 * 2 + 1, none⟩ = some (.int .i64 y2) ∧ w'.cell? ⟨gl, q2 * 2, none⟩ = some (.int .i64 z1) ∧ w'.cell? ⟨gl, q2 * 2 + 1, none⟩ = some (.int .i64 z2) ∧ Kp wr w') (first | exact KS.out _ (by first | assumption | exact (Kp.drewN _ _).trans (Kp.drew _)))
              (first | (go_at_call 16; refine (C.out _).mono ?_; rintro e w2 ⟨rfl, k1⟩; have k2 := ((Kp.drewN wr _).trans (Kp.drew _)).trans k1))
            have K6 := Lib.hid (K5.out.trans k2)
            go_wp2
            go_roundw
            case rel => exact ⟨k + 1, by omega, by go_num, by rw [S2.out]; exact congrArg (Value.int .i64) O.out, K6.out⟩
            case measure => simp [intOf]; omega
          · rw [g] at SX
            have S2 := Lib.hid (show cin (atN A n) B c0 (k + 1) = c from SX)
            have g' : ((p2 : Int) == (q1 : Int)) = false := by simp at g ⊢; omega
            clear SX ml cl0
            go_wp2_with fail
            go_quiet (fail)
            go_wp2
            go_roundw
            case rel => exact ⟨k + 1, by omega, by go_num, by rw [S2.out], K5.out.trans (Kp.drewN _ _)⟩
            case measure => simp [intOf]; omega
        · obtain rfl : k = B.length := by omega
          rw [← CS.out]
          go_wp2
          go_roundw
          case rel => exact ⟨n + 1, by omega, by go_num, rfl, K5.out⟩
          case measure => simp [intOf]; omega
    · obtain rfl : n = A.length := by omega
      go_wp2
      go_ret
      exact ⟨rfl, K3.out.trans K4.out⟩
end Go.Proofs.YteneoimkfddhpaaDoor
