/-
  Layer 4: the walk of RunsMake.
-/
import Derived.Test.YtgaadakhkjfbnaaL4A
namespace Go.Proofs.Ytgaadakhkjfbnaa
open Go.RowKit
set_option linter.unusedVariables false
set_option linter.unusedSimpArgs false
theorem memR_take (l : List R) (k : Nat) (n : Int) (h : k < l.length) : memR (l.take (k + 1)) n ↔ memR (l.take k) n ∨ ((at_ l k).1 ≤ n ∧ n ≤ (at_ l k).2 ∧ -1099511627776 ≤ n ∧ n ≤ 1099511627776) := by
  rw [take_at l k h, memR_append, memR_cons]
  have := memR_nil n
  constructor
  · rintro (q | q | q)
    · exact .inl q
    · exact .inr q
    · exact absurd q this
  · rintro (q | q)
    · exact .inl q
    · exact .inr (.inl q)
theorem hasB_nf (l : List R) (n : Int) : hasB (nf l) n = true ↔ memR l n := by
  rw [has_sane (nf_sane l) n, ← nf_mem l n]
  constructor
  · rintro ⟨r, hr, h⟩
    have := sane_ok (nf_sane l) r hr
    obtain ⟨o1, o2, o3⟩ := this
    exact ⟨r, hr, h.1, h.2, by omega, by omega⟩
  · rintro ⟨r, hr, h⟩
    exact ⟨r, hr, h.1, h.2.1⟩
theorem bool_iff {a b : Bool} (h : a = true ↔ b = true) : a = b := by cases a <;> cases b <;> simp_all
set_option maxHeartbeats 4000000 in
set_option maxRecDepth 100000 in
theorem runsMake_walk (v : Value) (l : List R) (n : Int) (w : World) (hv : RunsAt w v l) (hl : I64R l) (b1 : -9223372036854775808 ≤ n) (b2 : n ≤ 9223372036854775807) :
    Calls Try.prog 4 #[v, .int .i64 n] w fun e w' => e = .returned (.bool true) ∧ Kp w w' := by
  obtain ⟨ad, c, rfl⟩ := hv.slice
  by_cases h40 : l.length ≤ 40
  · have g40 : decide ((40 : Int) < l.length) = false := decide_eq_false (by omega)
    have g40' : ¬ (40 : Int) < l.length := by omega
    have HV := Lib.hid hv
    have HL := Lib.hid hl
    have C1 := Lib.hid (fun w1 (k : Kp w w1) => make_any (.slice ad l.length c) l w1 (hv.kp k) hl (by omega))
    have A1 := Lib.hid (fun w1 (k : Kp w w1) => asS_any (.slice ad l.length c) l w1 (hv.kp k) hl (by omega))
    clear hv hl
    go_enter Try.func4, Try.ntmps4
    go_wp2_with fail
    refine (awake04 _).mono ?_
    rintro e w1 ⟨rfl, k1⟩
    have K1 := Lib.hid k1
    clear k1
    go_wp2_with fail
    refine (C1.out _ K1.out).mono ?_
    rintro e w2 ⟨v2, rfl, own2, k2⟩
    have K2 := Lib.hid (K1.out.trans k2)
    have R2 := Lib.hid (runsAt_own own2)
    clear own2 k2
    go_wp2
    go_loopw [7, 8] (fun b i wr => ∃ (k : Nat) (q : Bool), k ≤ l.length ∧ i = .int .i64 k ∧ b = .bool q ∧ Hid (q = true ↔ memR (l.take k) n) ∧ Hid (Kp w2 wr)) (fun _ i _ => l.length - (intOf i).toNat)
    case atStart => exact ⟨0, false, by omega, rfl, rfl, Lib.hid (by simp [memR_nil]), Lib.hid (Kp.refl _)⟩
    case round =>
      obtain ⟨k, q, hk, rfl, rfl, HQ, K3⟩ := hrel
      by_cases hlt : k < l.length
      · rcases HV.out with ⟨_, _, _, e⟩ | ⟨b, off, cap, ev, hc, hm, hx⟩
        · rw [e] at hlt; simp at hlt
        cases ev
        obtain ⟨d1, d2⟩ := rd_at hx (K2.out.trans K3.out) k hlt
        clear hx
        have M := Lib.hid (memR_take l k n hlt)
        obtain ⟨lo, hi', ee⟩ : ∃ x y, at_ l k = (x, y) := ⟨_, _, rfl⟩
        rw [ee] at d1 d2 M
        simp only at d1 d2 M
        clear ee
        have z1 : (0 : Int) ≤ (k : Int) := by omega
        have z2 : (k : Int) < l.length := by omega
        cases q with
        | true =>
          have Q2 := Lib.hid (show true = true ↔ memR (l.take (k + 1)) n from ⟨fun _ => M.out.2 (.inl (HQ.out.1 rfl)), fun _ => rfl⟩)
          go_wp2
          go_roundw
          case rel => exact ⟨k + 1, true, by omega, by go_num, rfl, Q2, K3⟩
          case measure => simp [intOf]; omega
        | false =>
          have NO := Lib.hid (fun h => Bool.false_ne_true (HQ.out.2 h))
          by_cases h1 : lo ≤ n
          · have q1 : decide (lo ≤ n) = true := decide_eq_true h1
            by_cases h2 : n ≤ hi'
            · have q2 : decide (n ≤ hi') = true := decide_eq_true h2
              by_cases h3 : -1099511627776 ≤ n
              · have q3 : decide (-1099511627776 ≤ n) = true := decide_eq_true h3
                by_cases h4 : n ≤ 1099511627776
                · have q4 : decide (n ≤ 1099511627776) = true := decide_eq_true h4
                  have Q2 := Lib.hid (show true = true ↔ memR (l.take (k + 1)) n from ⟨fun _ => M.out.2 (.inr ⟨h1, h2, h3, h4⟩), fun _ => rfl⟩)
                  go_wp2
                  go_roundw
                  case rel => exact ⟨k + 1, true, by omega, by go_num, rfl, Q2, K3⟩
                  case measure => simp [intOf]; omega
                · have q4 : decide (n ≤ 1099511627776) = false := decide_eq_false h4
                  have Q2 := Lib.hid (show false = true ↔ memR (l.take (k + 1)) n from ⟨fun h => absurd h Bool.false_ne_true, fun h => absurd (M.out.1 h) (fun g => g.elim NO.out (fun g => h4 g.2.2.2))⟩)
                  go_wp2
                  go_roundw
                  case rel => exact ⟨k + 1, false, by omega, by go_num, rfl, Q2, K3⟩
                  case measure => simp [intOf]; omega
              · have q3 : decide (-1099511627776 ≤ n) = false := decide_eq_false h3
                have Q2 := Lib.hid (show false = true ↔ memR (l.take (k + 1)) n from ⟨fun h => absurd h Bool.false_ne_true, fun h => absurd (M.out.1 h) (fun g => g.elim NO.out (fun g => h3 g.2.2.1))⟩)
                go_wp2
                go_roundw
                case rel => exact ⟨k + 1, false, by omega, by go_num, rfl, Q2, K3⟩
                case measure => simp [intOf]; omega
            · have q2 : decide (n ≤ hi') = false := decide_eq_false h2
              have Q2 := Lib.hid (show false = true ↔ memR (l.take (k + 1)) n from ⟨fun h => absurd h Bool.false_ne_true, fun h => absurd (M.out.1 h) (fun g => g.elim NO.out (fun g => h2 g.2.1))⟩)
              go_wp2
              go_roundw
              case rel => exact ⟨k + 1, false, by omega, by go_num, rfl, Q2, K3⟩
              case measure => simp [intOf]; omega
          · have q1 : decide (lo ≤ n) = false := decide_eq_false h1
            have Q2 := Lib.hid (show false = true ↔ memR (l.take (k + 1)) n from ⟨fun h => absurd h Bool.false_ne_true, fun h => absurd (M.out.1 h) (fun g => g.elim NO.out (fun g => h1 g.1))⟩)
            go_wp2
            go_roundw
            case rel => exact ⟨k + 1, false, by omega, by go_num, rfl, Q2, K3⟩
            case measure => simp [intOf]; omega
      · have E : q = hasB (nf l) n := bool_iff (by
          have := HQ.out
          rw [show k = l.length by omega, List.take_length] at this
          rw [hasB_nf, this])
        have q0 : decide ((k : Int) < l.length) = false := by simp; omega
        subst E
        clear HQ
        obtain ⟨ad2, c2, rfl⟩ := R2.out.slice
        have S2 := nf_sane l
        have I2 := ok_i64 (sane_ok S2)
        have nl := nf_len l
        have C2 := Lib.hid (fun w' (k : Kp w2 w') => sane_any _ (nf l) w' (R2.out.kp k) I2)
        rw [saneB_yes S2] at C2
        have C3 := Lib.hid (fun w' (k : Kp w2 w') => make_any _ (nf l) w' (R2.out.kp k) I2 (by omega))
        rw [nf_of_sane S2] at C3
        have C4 := Lib.hid (fun (u : Value) w' (h : RunsAt w' u (nf l)) (k : Kp w2 w') => rsame_any u _ (nf l) (nf l) w' h (R2.out.kp k) (by omega) (by omega))
        rw [decide_eq_true rfl] at C4
        have C5 := Lib.hid (fun w' (k : Kp w2 w') => has_of ad2 (nf l).length c2 (nf l) n w' (asS_sane _ _ w' (R2.out.kp k) I2 S2) S2 (by omega) b1 b2)
        have C6 := Lib.hid (fun w' (k : Kp w w') => has_of ad l.length c (nf l) n w' (A1.out w' k) S2 (by omega) b1 b2)
        generalize hasB (nf l) n = q at *
        go_wp2_with fail
        refine (C2.out _ K3.out).mono ?_
        rintro e w4 ⟨rfl, k4⟩
        have K4 := Lib.hid (K3.out.trans k4)
        clear k4
        go_wp2_with fail
        refine (C3.out _ K4.out).mono ?_
        rintro e w5 ⟨v5, rfl, own5, k5⟩
        have K5 := Lib.hid (K4.out.trans k5)
        have R5 := Lib.hid (runsAt_own own5)
        clear k5 own5
        go_wp2_with fail
        refine (C4.out _ _ R5.out K5.out).mono ?_
        rintro e w6 ⟨rfl, k6⟩
        have K6 := Lib.hid (K5.out.trans k6)
        clear k6
        go_wp2_with fail
        refine (C5.out _ K6.out).mono ?_
        rintro e w7 ⟨rfl, k7⟩
        have K7 := Lib.hid (K6.out.trans k7)
        clear k7
        go_wp2_with fail
        refine (C6.out _ (K2.out.trans K7.out)).mono ?_
        rintro e w8 ⟨rfl, k8⟩
        have K8 := Lib.hid (K7.out.trans k8)
        clear k8
        go_wp2
        go_ret
        exact ⟨rfl, K2.out.trans K8.out⟩
  · have g40 : decide ((40 : Int) < l.length) = true := decide_eq_true (by omega)
    have g40' : (40 : Int) < l.length := by omega
    clear hv
    go_enter Try.func4, Try.ntmps4
    go_wp2_with fail
    refine (awake04 _).mono ?_
    rintro e w1 ⟨rfl, k1⟩
    have K1 := Lib.hid k1
    clear k1
    go_wp2
    go_ret
    exact ⟨rfl, K1.out⟩
end Go.Proofs.Ytgaadakhkjfbnaa
