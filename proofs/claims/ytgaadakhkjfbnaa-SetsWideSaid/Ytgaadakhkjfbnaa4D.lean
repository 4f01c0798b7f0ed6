/-
  Contracts of the document's answer for layer 4: Has, Count, Next, Prev.
-/
import Derived.Test.Ytgaadakhkjfbnaa4F
namespace Go.Proofs.Ytgaadakhkjfbnaa
open Go.RowKit
set_option linter.unusedVariables false
set_option linter.unusedSimpArgs false
theorem has_no {l : List R} {n : Int} (hs : sane l) (h : ∀ i, i < l.length → ¬ ((at_ l i).1 ≤ n ∧ n ≤ (at_ l i).2)) : hasB l n = false := by
  rcases Bool.eq_false_or_eq_true (hasB l n) with g | g
  · obtain ⟨r, hr, h1⟩ := (has_sane hs n).1 g
    obtain ⟨i, hi, e⟩ := List.getElem_of_mem hr
    refine absurd ?_ (h i hi)
    unfold at_; simp [List.getD, hi, e]; exact h1
  · exact g
theorem has_yes {l : List R} {n : Int} (hs : sane l) {k : Nat} (hk : k < l.length) (h : (at_ l k).1 ≤ n ∧ n ≤ (at_ l k).2) : hasB l n = true := (has_sane hs n).2 ⟨_, at_mem hk, h⟩
set_option maxHeartbeats 1000000 in
theorem rhas_of (v : Value) (l : List R) (n : Int) (w : World) (A : AsR v l w) (h : sane l) (hl : l.length ≤ 1000000) :
    Calls Try.prog 34 #[v, .int .i64 n] w fun e w' => e = .returned (.bool (hasB l n)) ∧ Kp w w' := by
  have C := Lib.hid (A w (Kp.refl w))
  have HS := Lib.hid h
  clear A h
  go_enter Try.func34, Try.ntmps34
  go_wp2_with fail; refine (C.out).mono ?_; rintro e w1 ⟨v1, rfl, hv1, k1⟩; obtain ⟨ad1, c1, rfl⟩ := hv1.slice; have HV := Lib.hid hv1; have K1 := Lib.hid k1; clear hv1 k1
  go_wp2
  go_loopw [6] (fun i wr => ∃ k : Nat, k ≤ l.length ∧ i = .int .i64 k ∧ Hid (∀ i, i < k → ¬ ((at_ l i).1 ≤ n ∧ n ≤ (at_ l i).2)) ∧ Hid (Kp w1 wr)) (fun i _ => l.length - (intOf i).toNat)
  case atStart => exact ⟨0, by omega, rfl, Lib.hid (fun i h => by omega), Lib.hid (Kp.refl _)⟩
  case round =>
    obtain ⟨k, hk, rfl, NO, K2⟩ := hrel
    by_cases hlt : k < l.length
    · rcases HV.out with ⟨_, _, _, e⟩ | ⟨b, off, cap, ev, hc, hm, hx⟩; { rw [e] at hlt; simp at hlt }; cases ev; obtain ⟨d1, d2⟩ := rd_at hx K2.out k hlt; clear hx
      have Y := Lib.hid (has_yes HS.out hlt (n := n))
      have NX := Lib.hid (fun (hn : ¬ ((at_ l k).1 ≤ n ∧ n ≤ (at_ l k).2)) => (show ∀ i, i < k + 1 → ¬ ((at_ l i).1 ≤ n ∧ n ≤ (at_ l i).2) from fun i hi => by
        by_cases c : i < k
        · exact NO.out i c
        · obtain rfl : i = k := by omega
          exact hn))
      obtain ⟨lo1, hi1, ee⟩ : ∃ x y, at_ l k = (x, y) := ⟨_, _, rfl⟩
      rw [ee] at d1 d2 Y NX
      simp only at d1 d2 Y NX
      clear ee
      have z1 : (0 : Int) ≤ (k : Int) := by omega
      have z2 : (k : Int) < l.length := by omega
      by_cases a1 : lo1 ≤ n
      · have q1 : decide (lo1 ≤ n) = true := decide_eq_true a1
        by_cases a2 : n ≤ hi1
        · have q2 : decide (n ≤ hi1) = true := decide_eq_true a2
          have YY := Lib.hid (Y.out ⟨a1, a2⟩)
          go_wp2
          go_ret
          exact ⟨ret_bool YY.out.symm, K1.out.trans K2.out⟩
        · have q2 : decide (n ≤ hi1) = false := decide_eq_false a2
          have N2 := Lib.hid (NX.out (fun g => a2 g.2))
          go_wp2
          go_roundw
          case rel => exact ⟨k + 1, by omega, by go_num, N2, K2⟩
          case measure => simp [intOf]; omega
      · have q1 : decide (lo1 ≤ n) = false := decide_eq_false a1
        have N2 := Lib.hid (NX.out (fun g => a1 g.1))
        go_wp2
        go_roundw
        case rel => exact ⟨k + 1, by omega, by go_num, N2, K2⟩
        case measure => simp [intOf]; omega
    · have N2 := Lib.hid (has_no HS.out (n := n) (fun i hi => NO.out i (by omega)))
      have q : decide ((k : Int) < l.length) = false := by simp; omega
      go_wp2
      go_ret
      exact ⟨ret_bool N2.out.symm, K1.out.trans K2.out⟩
set_option maxHeartbeats 1000000 in
theorem rcount_of (v : Value) (l : List R) (w : World) (A : AsR v l w) (h : sane l) (hl : l.length ≤ 1000000) :
    Calls Try.prog 36 #[v] w fun e w' => e = .returned (.int .i64 (sumR l)) ∧ Kp w w' := by
  have C := Lib.hid (A w (Kp.refl w))
  have H := Lib.hid ((sane_idx l).1 h)
  have B := sumR_bd l (-1099511627776) h (fun r t e => by subst e; exact (sane_head h).2.1) (by omega)
  have TB := Lib.hid (fun k => sumR_take_bd l k h)
  obtain ⟨_, B2⟩ := B
  clear A h
  go_enter Try.func36, Try.ntmps36
  go_wp2_with fail; refine (C.out).mono ?_; rintro e w1 ⟨v1, rfl, hv1, k1⟩; obtain ⟨ad1, c1, rfl⟩ := hv1.slice; have HV := Lib.hid hv1; have K1 := Lib.hid k1; clear hv1 k1
  go_wp2
  go_loopw [4, 5] (fun c i wr => ∃ k : Nat, k ≤ l.length ∧ i = .int .i64 k ∧ c = .int .i64 (sumR (l.take k)) ∧ Hid (Kp w1 wr)) (fun _ i _ => l.length - (intOf i).toNat)
  case atStart => exact ⟨0, by omega, rfl, rfl, Lib.hid (Kp.refl _)⟩
  case round =>
    obtain ⟨k, hk, rfl, rfl, K2⟩ := hrel
    by_cases hlt : k < l.length
    · rcases HV.out with ⟨_, _, _, e⟩ | ⟨b, off, cap, ev, hc, hm, hx⟩; { rw [e] at hlt; simp at hlt }; cases ev; obtain ⟨d1, d2⟩ := rd_at hx K2.out k hlt; clear hx
      obtain ⟨o1, o2, o3⟩ := (H.out k hlt).1
      have S := sumR_take l k hlt
      have t1 := TB.out k
      have t2 := TB.out (k + 1)
      rw [S] at t2
      obtain ⟨lo, hi', ee⟩ : ∃ x y, at_ l k = (x, y) := ⟨_, _, rfl⟩
      rw [ee] at d1 d2 o1 o2 o3 S t2
      simp only at d1 d2 o1 o2 o3 S t2
      have S2 := Lib.hid S
      clear ee S
      generalize sumR (l.take k) = x at *
      obtain ⟨t3, t4⟩ := t1
      obtain ⟨t5, t6⟩ := t2
      have t7 : x + (hi' - lo + 1) ≤ 2199023255553 := by omega
      clear t6 t4
      have z1 : (0 : Int) ≤ (k : Int) := by omega
      have z2 : (k : Int) < l.length := by omega
      have wa : IntKind.i64.wrap (x + hi') = x + hi' := by rw [IntKind.wrap_i64]; omega
      have wb : IntKind.i64.wrap (x + hi' - lo) = x + hi' - lo := by rw [IntKind.wrap_i64]; omega
      have wc : IntKind.i64.wrap (x + hi' - lo + 1) = x + hi' - lo + 1 := by rw [IntKind.wrap_i64]; omega
      go_wp2_with fail
      go_quiet (fail)
      go_wp2
      go_roundw
      case rel => exact ⟨k + 1, by omega, by go_num, by rw [S2.out]; congr 1; omega, Lib.hid (K2.out.trans (Kp.drewN _ _))⟩
      case measure => simp [intOf]; omega
    · obtain rfl : k = l.length := by omega
      rw [List.take_length]
      have q : decide ((l.length : Int) < l.length) = false := by simp
      go_wp2
      go_ret
      exact ⟨rfl, K1.out.trans K2.out⟩
set_option maxHeartbeats 1000000 in
theorem rnext_of (v : Value) (l : List R) (n : Int) (w : World) (A : AsR v l w) (hl : l.length ≤ 1000000) :
    Calls Try.prog 23 #[v, .int .i64 n] w fun e w' => e = .returned (.tuple #[.int .i64 (nxt l n).1, .bool (nxt l n).2]) ∧ Kp w w' := by
  have C := Lib.hid (A w (Kp.refl w))
  have NX := Lib.hid (nxt_at l n)
  clear A
  go_enter Try.func23, Try.ntmps23
  go_wp2_with fail; refine (C.out).mono ?_; rintro e w1 ⟨v1, rfl, hv1, k1⟩; obtain ⟨ad1, c1, rfl⟩ := hv1.slice; have HV := Lib.hid hv1; have K1 := Lib.hid k1; clear hv1 k1
  go_wp2
  go_loopw [7] (fun i wr => ∃ k : Nat, k ≤ l.length ∧ i = .int .i64 k ∧ Hid (∀ i, i < k → (at_ l i).2 < n) ∧ Hid (Kp w1 wr)) (fun i _ => l.length - (intOf i).toNat)
  case atStart => exact ⟨0, by omega, rfl, Lib.hid (fun i h => by omega), Lib.hid (Kp.refl _)⟩
  case round =>
    obtain ⟨k, hk, rfl, NO, K2⟩ := hrel
    by_cases hlt : k < l.length
    · rcases HV.out with ⟨_, _, _, e⟩ | ⟨b, off, cap, ev, hc, hm, hx⟩; { rw [e] at hlt; simp at hlt }; cases ev; obtain ⟨d1, d2⟩ := rd_at hx K2.out k hlt; clear hx
      have Y := Lib.hid (fun (g : n ≤ (at_ l k).2) => NX.out k hk NO.out (fun _ => g))
      have N2 := Lib.hid (fun (hn : (at_ l k).2 < n) => (show ∀ i, i < k + 1 → (at_ l i).2 < n from fun i hi => by
        by_cases c : i < k
        · exact NO.out i c
        · obtain rfl : i = k := by omega
          exact hn))
      obtain ⟨lo1, hi1, ee⟩ : ∃ x y, at_ l k = (x, y) := ⟨_, _, rfl⟩
      rw [ee] at d1 d2 Y N2
      simp only at d1 d2 Y N2
      clear ee
      have z1 : (0 : Int) ≤ (k : Int) := by omega
      have z2 : (k : Int) < l.length := by omega
      by_cases a1 : n ≤ hi1
      · have q1 : decide (n ≤ hi1) = true := decide_eq_true a1
        have Y2 := Lib.hid (Y.out a1)
        rw [if_neg (by omega)] at Y2
        clear Y N2 NX
        go_wp2
        go_ret2
        refine ⟨?_, K1.out.trans K2.out⟩
        rw [Y2.out]
        rfl
      · have q1 : decide (n ≤ hi1) = false := decide_eq_false a1
        have N3 := Lib.hid (N2.out (by omega))
        clear Y N2
        go_wp2
        go_roundw
        case rel => exact ⟨k + 1, by omega, by go_num, N3, K2⟩
        case measure => simp [intOf]; omega
    · obtain rfl : k = l.length := by omega
      have Y2 := Lib.hid (NX.out l.length (Nat.le_refl _) NO.out (fun h => by omega))
      rw [if_pos rfl] at Y2
      have q : decide ((l.length : Int) < l.length) = false := by simp
      go_wp2
      go_ret2
      refine ⟨?_, K1.out.trans K2.out⟩
      rw [Y2.out]
      rfl
set_option maxHeartbeats 1000000 in
theorem rprev_of (v : Value) (l : List R) (n : Int) (w : World) (A : AsR v l w) (hl : l.length ≤ 1000000) :
    Calls Try.prog 25 #[v, .int .i64 n] w fun e w' => e = .returned (.tuple #[.int .i64 (prv l n).1, .bool (prv l n).2]) ∧ Kp w w' := by
  have C := Lib.hid (A w (Kp.refl w))
  have PX := Lib.hid (prv_at l n)
  clear A
  go_enter Try.func25, Try.ntmps25
  go_wp2_with fail; refine (C.out).mono ?_; rintro e w1 ⟨v1, rfl, hv1, k1⟩; obtain ⟨ad1, c1, rfl⟩ := hv1.slice; have HV := Lib.hid hv1; have K1 := Lib.hid k1; clear hv1 k1
  have wl : IntKind.i64.wrap ((l.length : Int) - 1) = (l.length : Int) - 1 := by rw [IntKind.wrap_i64]; omega
  go_wp2
  go_loopw [7] (fun i wr => ∃ k : Nat, k ≤ l.length ∧ i = .int .i64 ((k : Int) - 1) ∧ Hid (∀ i, k ≤ i → i < l.length → n < (at_ l i).1) ∧ Hid (Kp w1 wr)) (fun i _ => (intOf i + 1).toNat)
  case atStart => exact ⟨l.length, by omega, rfl, Lib.hid (fun i h g => by omega), Lib.hid (Kp.refl _)⟩
  case round =>
    obtain ⟨k, hk, rfl, NO, K2⟩ := hrel
    cases k with
    | succ k =>
      have hlt : k < l.length := by omega
      rcases HV.out with ⟨_, _, _, e⟩ | ⟨b, off, cap, ev, hc, hm, hx⟩; { rw [e] at hlt; simp at hlt }; cases ev; obtain ⟨d1, d2⟩ := rd_at hx K2.out k hlt; clear hx
      have Y := Lib.hid (fun (g : (at_ l k).1 ≤ n) => PX.out (k + 1) hk NO.out (fun _ => by rw [Nat.add_sub_cancel]; exact g))
      rw [if_neg (by omega), Nat.add_sub_cancel] at Y
      have N2 := Lib.hid (fun (hn : n < (at_ l k).1) => (show ∀ i, k ≤ i → i < l.length → n < (at_ l i).1 from fun i hi hi2 => by
        by_cases c : k + 1 ≤ i
        · exact NO.out i c hi2
        · obtain rfl : i = k := by omega
          exact hn))
      obtain ⟨lo1, hi1, ee⟩ : ∃ x y, at_ l k = (x, y) := ⟨_, _, rfl⟩
      rw [ee] at d1 d2 Y N2
      simp only at d1 d2 Y N2
      clear ee
      have z1 : (0 : Int) ≤ (k : Int) := by omega
      have z2 : (k : Int) < l.length := by omega
      have wk : IntKind.i64.wrap ((k : Int) - 1) = (k : Int) - 1 := by rw [IntKind.wrap_i64]; omega
      have ek : (((k + 1 : Nat) : Int) - 1) = (k : Int) := by omega
      rw [ek]
      by_cases a1 : lo1 ≤ n
      · have q1 : decide (lo1 ≤ n) = true := decide_eq_true a1
        have Y2 := Lib.hid (Y.out a1)
        clear Y N2 PX
        go_wp2
        go_ret2
        refine ⟨?_, K1.out.trans K2.out⟩
        rw [Y2.out]
        rfl
      · have q1 : decide (lo1 ≤ n) = false := decide_eq_false a1
        have N3 := Lib.hid (N2.out (by omega))
        clear Y N2
        go_wp2
        go_roundw
        case rel => exact ⟨k, by omega, rfl, N3, K2⟩
        case measure => simp [intOf]
    | zero =>
      have Y2 := Lib.hid (PX.out 0 (Nat.zero_le _) NO.out (fun h => by omega))
      rw [if_pos rfl] at Y2
      go_wp2
      go_ret2
      refine ⟨?_, K1.out.trans K2.out⟩
      rw [Y2.out]
      rfl
end Go.Proofs.Ytgaadakhkjfbnaa
