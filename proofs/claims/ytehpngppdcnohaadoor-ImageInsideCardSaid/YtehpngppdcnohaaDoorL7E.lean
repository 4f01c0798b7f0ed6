/-
  Layer 7: the walk of ImageInside.
-/
import Derived.Test.YtehpngppdcnohaaDoorGImgC
namespace Go.Proofs.YtehpngppdcnohaaDoor
open Go.RowKit
set_option linter.unusedVariables false
set_option linter.unusedSimpArgs false
set_option maxHeartbeats 8000000 in
set_option maxRecDepth 100000 in
theorem imageInside_walk (k lo hi' i : Int) (w : World) (T : Tabs w) (k1 : -9223372036854775808 ≤ lo) (k2 : lo ≤ 9223372036854775807) (n1 : -9223372036854775808 ≤ hi') (n2 : hi' ≤ 9223372036854775807) (i1 : -9223372036854775808 ≤ i) (i2 : i ≤ 9223372036854775807) :
    Calls Tryd.prog 6 #[.int .i64 k, .int .i64 lo, .int .i64 hi', .int .i64 i] w fun e w' => e = .returned (.bool true) ∧ Kp w w' := by
  have A := Lib.hid (awake07 w T)
  have F := Lib.hid (fun w1 (kk : Kp w w1) => first_any k i w1 (T.kp kk).1 (T.kp kk).2)
  have G := Lib.hid (fun w1 (kk : Kp w w1) => last_any k i w1 (T.kp kk).1 (T.kp kk).2)
  have P1 := Lib.hid (fun w1 (kk : Kp w w1) => inside_any k lo hi' w1 (T.kp kk) k1 n2)
  have P2 := Lib.hid (fun w1 (kk : Kp w w1) => touch_any k lo hi' w1 (T.kp kk))
  have S1 := insR_sane k lo hi'
  have S2 := touR_sane k lo hi'
  have L1 : (insR k lo hi').length ≤ 1000000 := by unfold insR; split; · have := nf_len [insP k lo hi']; simp at this; omega
                                                   · simp
  have L2 : (touR k lo hi').length ≤ 1000000 := by unfold touR; split <;> simp
  have E1 : hasB (nf (insR k lo hi')) i = (okU k i && (decide (lo ≤ firV k i) && decide (lasV k i ≤ hi'))) := bool_iff (by
    rw [hasB_nf, insR_mem, Bool.and_eq_true, Bool.and_eq_true, decide_eq_true_iff, decide_eq_true_iff]
    constructor
    · rintro ⟨o, h⟩; obtain ⟨u1, u2⟩ := (okU_iff k i).1 o; rw [firV_in u1 u2, lasV_in u1 u2]; exact ⟨o, h⟩
    · rintro ⟨o, h⟩; obtain ⟨u1, u2⟩ := (okU_iff k i).1 o; rw [firV_in u1 u2, lasV_in u1 u2] at h; exact ⟨o, h⟩)
  have E2 : hasB (nf (touR k lo hi')) i = (okU k i && (decide (lo ≤ hi') && (decide (firV k i ≤ hi') && decide (lo ≤ lasV k i)))) := bool_iff (by
    rw [hasB_nf, touR_mem, Bool.and_eq_true, Bool.and_eq_true, Bool.and_eq_true, decide_eq_true_iff, decide_eq_true_iff, decide_eq_true_iff]
    constructor
    · rintro ⟨o, h⟩; obtain ⟨u1, u2⟩ := (okU_iff k i).1 o; rw [firV_in u1 u2, lasV_in u1 u2]; exact ⟨o, h⟩
    · rintro ⟨o, h⟩; obtain ⟨u1, u2⟩ := (okU_iff k i).1 o; rw [firV_in u1 u2, lasV_in u1 u2] at h; exact ⟨o, h⟩)
  have H1 := Lib.hid (fun w1 ad1 c1 (h : RunsAt w1 (.slice ad1 (insR k lo hi').length c1) (insR k lo hi')) => has_any ad1 c1 (insR k lo hi') i w1 h (sane_i64 S1) L1 i1 i2)
  have H2 := Lib.hid (fun w1 ad1 c1 (h : RunsAt w1 (.slice ad1 (touR k lo hi').length c1) (touR k lo hi')) => has_any ad1 c1 (touR k lo hi') i w1 h (sane_i64 S2) L2 i1 i2)
  have Y1 := Lib.hid (fun w1 v (h : RunsAt w1 v (insR k lo hi')) => sane_yes v _ w1 h S1)
  have Y2 := Lib.hid (fun w1 v (h : RunsAt w1 v (touR k lo hi')) => sane_yes v _ w1 h S2)
  rw [E1] at H1
  rw [E2] at H2
  clear E1 E2 S1 S2 L1 L2 T k1 k2 n1 n2 i1 i2
  generalize insR k lo hi' = X1 at *
  generalize touR k lo hi' = X2 at *
  generalize firV k i = x at *
  generalize lasV k i = y at *
  generalize okU k i = o at *
  cases o with
  | false =>
    simp only [Bool.false_and] at H1 H2
    go_enter Tryd.func6, Tryd.ntmps6
    go_wp2_with fail
    refine (A.out).mono ?_
    rintro e w0 ⟨rfl, kk⟩
    have K0 := Lib.hid kk
    clear kk A
    go_wp2_with fail
    refine (F.out _ K0.out).mono ?_
    rintro e w1 ⟨rfl, kk⟩
    have K1 := Lib.hid (K0.out.trans kk)
    clear kk F
    go_wp2_with fail
    refine (G.out _ K1.out).mono ?_
    rintro e w2 ⟨rfl, kk⟩
    have K2 := Lib.hid (K1.out.trans kk)
    clear kk G
    go_wp2_with fail
    refine (P1.out _ K2.out).mono ?_
    rintro e w3 ⟨v3, rfl, own, kk⟩
    obtain ⟨a3, c3, rfl⟩ := own_slice own
    have R3 := Lib.hid (runsAt_own own)
    have K3 := Lib.hid (K2.out.trans kk)
    clear kk own P1
    go_wp2_with fail
    refine (P2.out _ K3.out).mono ?_
    rintro e w4 ⟨v4, rfl, own, kk⟩
    obtain ⟨a4, c4, rfl⟩ := own_slice own
    have R3' := Lib.hid (R3.out.kp kk)
    have R4 := Lib.hid (runsAt_own own)
    have K4 := Lib.hid (K3.out.trans kk)
    clear kk own P2 R3
    go_wp2_with fail
    refine (Y1.out _ _ R3'.out).mono ?_
    rintro e w5 ⟨rfl, kk⟩
    have R3 := Lib.hid (R3'.out.kp kk)
    have R4' := Lib.hid (R4.out.kp kk)
    have K5 := Lib.hid (K4.out.trans kk)
    clear kk R3' R4 Y1
    go_wp2_with fail
    refine (Y2.out _ _ R4'.out).mono ?_
    rintro e w6 ⟨rfl, kk⟩
    have R3' := Lib.hid (R3.out.kp kk)
    have R4 := Lib.hid (R4'.out.kp kk)
    have K6 := Lib.hid (K5.out.trans kk)
    clear kk R3 R4' Y2
    go_wp2_with fail
    refine (H1.out _ _ _ R3'.out).mono ?_
    rintro e w7 ⟨rfl, kk⟩
    have R4' := Lib.hid (R4.out.kp kk)
    have K7 := Lib.hid (K6.out.trans kk)
    clear kk R3' R4 H1
    go_wp2_with fail
    refine (H2.out _ _ _ R4'.out).mono ?_
    rintro e w8 ⟨rfl, kk⟩
    have K0 := Lib.hid (K7.out.trans kk)
    clear kk R4' H2
    go_wp2
    go_ret
    exact ⟨rfl, K0.out⟩
  | true =>
    simp only [Bool.true_and] at H1 H2
    by_cases p0 : lo ≤ x
    · have p0q : decide (lo ≤ x) = true := decide_eq_true p0
      rw [p0q] at H1
      by_cases p1 : y ≤ hi'
      · have p1q : decide (y ≤ hi') = true := decide_eq_true p1
        rw [p1q] at H1
        by_cases r0 : lo ≤ hi'
        · have r0q : decide (lo ≤ hi') = true := decide_eq_true r0
          rw [r0q] at H2
          by_cases r1 : x ≤ hi'
          · have r1q : decide (x ≤ hi') = true := decide_eq_true r1
            rw [r1q] at H2
            by_cases r2 : lo ≤ y
            · have r2q : decide (lo ≤ y) = true := decide_eq_true r2
              rw [r2q] at H2
              simp only [Bool.true_and, Bool.false_and, Bool.and_true, Bool.and_false] at H1 H2
              go_enter Tryd.func6, Tryd.ntmps6
              go_wp2_with fail
              refine (A.out).mono ?_
              rintro e w0 ⟨rfl, kk⟩
              have K0 := Lib.hid kk
              clear kk A
              go_wp2_with fail
              refine (F.out _ K0.out).mono ?_
              rintro e w1 ⟨rfl, kk⟩
              have K1 := Lib.hid (K0.out.trans kk)
              clear kk F
              go_wp2_with fail
              refine (G.out _ K1.out).mono ?_
              rintro e w2 ⟨rfl, kk⟩
              have K2 := Lib.hid (K1.out.trans kk)
              clear kk G
              go_wp2_with fail
              refine (P1.out _ K2.out).mono ?_
              rintro e w3 ⟨v3, rfl, own, kk⟩
              obtain ⟨a3, c3, rfl⟩ := own_slice own
              have R3 := Lib.hid (runsAt_own own)
              have K3 := Lib.hid (K2.out.trans kk)
              clear kk own P1
              go_wp2_with fail
              refine (P2.out _ K3.out).mono ?_
              rintro e w4 ⟨v4, rfl, own, kk⟩
              obtain ⟨a4, c4, rfl⟩ := own_slice own
              have R3' := Lib.hid (R3.out.kp kk)
              have R4 := Lib.hid (runsAt_own own)
              have K4 := Lib.hid (K3.out.trans kk)
              clear kk own P2 R3
              go_wp2_with fail
              refine (Y1.out _ _ R3'.out).mono ?_
              rintro e w5 ⟨rfl, kk⟩
              have R3 := Lib.hid (R3'.out.kp kk)
              have R4' := Lib.hid (R4.out.kp kk)
              have K5 := Lib.hid (K4.out.trans kk)
              clear kk R3' R4 Y1
              go_wp2_with fail
              refine (Y2.out _ _ R4'.out).mono ?_
              rintro e w6 ⟨rfl, kk⟩
              have R3' := Lib.hid (R3.out.kp kk)
              have R4 := Lib.hid (R4'.out.kp kk)
              have K6 := Lib.hid (K5.out.trans kk)
              clear kk R3 R4' Y2
              go_wp2_with fail
              refine (H1.out _ _ _ R3'.out).mono ?_
              rintro e w7 ⟨rfl, kk⟩
              have R4' := Lib.hid (R4.out.kp kk)
              have K7 := Lib.hid (K6.out.trans kk)
              clear kk R3' R4 H1
              go_wp2_with fail
              refine (H2.out _ _ _ R4'.out).mono ?_
              rintro e w8 ⟨rfl, kk⟩
              have K0 := Lib.hid (K7.out.trans kk)
              clear kk R4' H2
              go_wp2
              go_ret
              exact ⟨rfl, K0.out⟩
            · have r2q : decide (lo ≤ y) = false := decide_eq_false r2
              rw [r2q] at H2
              simp only [Bool.true_and, Bool.false_and, Bool.and_true, Bool.and_false] at H1 H2
              go_enter Tryd.func6, Tryd.ntmps6
              go_wp2_with fail
              refine (A.out).mono ?_
              rintro e w0 ⟨rfl, kk⟩
              have K0 := Lib.hid kk
              clear kk A
              go_wp2_with fail
              refine (F.out _ K0.out).mono ?_
              rintro e w1 ⟨rfl, kk⟩
              have K1 := Lib.hid (K0.out.trans kk)
              clear kk F
              go_wp2_with fail
              refine (G.out _ K1.out).mono ?_
              rintro e w2 ⟨rfl, kk⟩
              have K2 := Lib.hid (K1.out.trans kk)
              clear kk G
              go_wp2_with fail
              refine (P1.out _ K2.out).mono ?_
              rintro e w3 ⟨v3, rfl, own, kk⟩
              obtain ⟨a3, c3, rfl⟩ := own_slice own
              have R3 := Lib.hid (runsAt_own own)
              have K3 := Lib.hid (K2.out.trans kk)
              clear kk own P1
              go_wp2_with fail
              refine (P2.out _ K3.out).mono ?_
              rintro e w4 ⟨v4, rfl, own, kk⟩
              obtain ⟨a4, c4, rfl⟩ := own_slice own
              have R3' := Lib.hid (R3.out.kp kk)
              have R4 := Lib.hid (runsAt_own own)
              have K4 := Lib.hid (K3.out.trans kk)
              clear kk own P2 R3
              go_wp2_with fail
              refine (Y1.out _ _ R3'.out).mono ?_
              rintro e w5 ⟨rfl, kk⟩
              have R3 := Lib.hid (R3'.out.kp kk)
              have R4' := Lib.hid (R4.out.kp kk)
              have K5 := Lib.hid (K4.out.trans kk)
              clear kk R3' R4 Y1
              go_wp2_with fail
              refine (Y2.out _ _ R4'.out).mono ?_
              rintro e w6 ⟨rfl, kk⟩
              have R3' := Lib.hid (R3.out.kp kk)
              have R4 := Lib.hid (R4'.out.kp kk)
              have K6 := Lib.hid (K5.out.trans kk)
              clear kk R3 R4' Y2
              go_wp2_with fail
              refine (H1.out _ _ _ R3'.out).mono ?_
              rintro e w7 ⟨rfl, kk⟩
              have R4' := Lib.hid (R4.out.kp kk)
              have K7 := Lib.hid (K6.out.trans kk)
              clear kk R3' R4 H1
              go_wp2_with fail
              refine (H2.out _ _ _ R4'.out).mono ?_
              rintro e w8 ⟨rfl, kk⟩
              have K0 := Lib.hid (K7.out.trans kk)
              clear kk R4' H2
              go_wp2
              go_ret
              exact ⟨rfl, K0.out⟩
          · have r1q : decide (x ≤ hi') = false := decide_eq_false r1
            rw [r1q] at H2
            simp only [Bool.true_and, Bool.false_and, Bool.and_true, Bool.and_false] at H1 H2
            go_enter Tryd.func6, Tryd.ntmps6
            go_wp2_with fail
            refine (A.out).mono ?_
            rintro e w0 ⟨rfl, kk⟩
            have K0 := Lib.hid kk
            clear kk A
            go_wp2_with fail
            refine (F.out _ K0.out).mono ?_
            rintro e w1 ⟨rfl, kk⟩
            have K1 := Lib.hid (K0.out.trans kk)
            clear kk F
            go_wp2_with fail
            refine (G.out _ K1.out).mono ?_
            rintro e w2 ⟨rfl, kk⟩
            have K2 := Lib.hid (K1.out.trans kk)
            clear kk G
            go_wp2_with fail
            refine (P1.out _ K2.out).mono ?_
            rintro e w3 ⟨v3, rfl, own, kk⟩
            obtain ⟨a3, c3, rfl⟩ := own_slice own
            have R3 := Lib.hid (runsAt_own own)
            have K3 := Lib.hid (K2.out.trans kk)
            clear kk own P1
            go_wp2_with fail
            refine (P2.out _ K3.out).mono ?_
            rintro e w4 ⟨v4, rfl, own, kk⟩
            obtain ⟨a4, c4, rfl⟩ := own_slice own
            have R3' := Lib.hid (R3.out.kp kk)
            have R4 := Lib.hid (runsAt_own own)
            have K4 := Lib.hid (K3.out.trans kk)
            clear kk own P2 R3
            go_wp2_with fail
            refine (Y1.out _ _ R3'.out).mono ?_
            rintro e w5 ⟨rfl, kk⟩
            have R3 := Lib.hid (R3'.out.kp kk)
            have R4' := Lib.hid (R4.out.kp kk)
            have K5 := Lib.hid (K4.out.trans kk)
            clear kk R3' R4 Y1
            go_wp2_with fail
            refine (Y2.out _ _ R4'.out).mono ?_
            rintro e w6 ⟨rfl, kk⟩
            have R3' := Lib.hid (R3.out.kp kk)
            have R4 := Lib.hid (R4'.out.kp kk)
            have K6 := Lib.hid (K5.out.trans kk)
            clear kk R3 R4' Y2
            go_wp2_with fail
            refine (H1.out _ _ _ R3'.out).mono ?_
            rintro e w7 ⟨rfl, kk⟩
            have R4' := Lib.hid (R4.out.kp kk)
            have K7 := Lib.hid (K6.out.trans kk)
            clear kk R3' R4 H1
            go_wp2_with fail
            refine (H2.out _ _ _ R4'.out).mono ?_
            rintro e w8 ⟨rfl, kk⟩
            have K0 := Lib.hid (K7.out.trans kk)
            clear kk R4' H2
            go_wp2
            go_ret
            exact ⟨rfl, K0.out⟩
        · have r0q : decide (lo ≤ hi') = false := decide_eq_false r0
          rw [r0q] at H2
          simp only [Bool.true_and, Bool.false_and, Bool.and_true, Bool.and_false] at H1 H2
          go_enter Tryd.func6, Tryd.ntmps6
          go_wp2_with fail
          refine (A.out).mono ?_
          rintro e w0 ⟨rfl, kk⟩
          have K0 := Lib.hid kk
          clear kk A
          go_wp2_with fail
          refine (F.out _ K0.out).mono ?_
          rintro e w1 ⟨rfl, kk⟩
          have K1 := Lib.hid (K0.out.trans kk)
          clear kk F
          go_wp2_with fail
          refine (G.out _ K1.out).mono ?_
          rintro e w2 ⟨rfl, kk⟩
          have K2 := Lib.hid (K1.out.trans kk)
          clear kk G
          go_wp2_with fail
          refine (P1.out _ K2.out).mono ?_
          rintro e w3 ⟨v3, rfl, own, kk⟩
          obtain ⟨a3, c3, rfl⟩ := own_slice own
          have R3 := Lib.hid (runsAt_own own)
          have K3 := Lib.hid (K2.out.trans kk)
          clear kk own P1
          go_wp2_with fail
          refine (P2.out _ K3.out).mono ?_
          rintro e w4 ⟨v4, rfl, own, kk⟩
          obtain ⟨a4, c4, rfl⟩ := own_slice own
          have R3' := Lib.hid (R3.out.kp kk)
          have R4 := Lib.hid (runsAt_own own)
          have K4 := Lib.hid (K3.out.trans kk)
          clear kk own P2 R3
          go_wp2_with fail
          refine (Y1.out _ _ R3'.out).mono ?_
          rintro e w5 ⟨rfl, kk⟩
          have R3 := Lib.hid (R3'.out.kp kk)
          have R4' := Lib.hid (R4.out.kp kk)
          have K5 := Lib.hid (K4.out.trans kk)
          clear kk R3' R4 Y1
          go_wp2_with fail
          refine (Y2.out _ _ R4'.out).mono ?_
          rintro e w6 ⟨rfl, kk⟩
          have R3' := Lib.hid (R3.out.kp kk)
          have R4 := Lib.hid (R4'.out.kp kk)
          have K6 := Lib.hid (K5.out.trans kk)
          clear kk R3 R4' Y2
          go_wp2_with fail
          refine (H1.out _ _ _ R3'.out).mono ?_
          rintro e w7 ⟨rfl, kk⟩
          have R4' := Lib.hid (R4.out.kp kk)
          have K7 := Lib.hid (K6.out.trans kk)
          clear kk R3' R4 H1
          go_wp2_with fail
          refine (H2.out _ _ _ R4'.out).mono ?_
          rintro e w8 ⟨rfl, kk⟩
          have K0 := Lib.hid (K7.out.trans kk)
          clear kk R4' H2
          go_wp2
          go_ret
          exact ⟨rfl, K0.out⟩
      · have p1q : decide (y ≤ hi') = false := decide_eq_false p1
        rw [p1q] at H1
        by_cases r0 : lo ≤ hi'
        · have r0q : decide (lo ≤ hi') = true := decide_eq_true r0
          rw [r0q] at H2
          by_cases r1 : x ≤ hi'
          · have r1q : decide (x ≤ hi') = true := decide_eq_true r1
            rw [r1q] at H2
            by_cases r2 : lo ≤ y
            · have r2q : decide (lo ≤ y) = true := decide_eq_true r2
              rw [r2q] at H2
              simp only [Bool.true_and, Bool.false_and, Bool.and_true, Bool.and_false] at H1 H2
              go_enter Tryd.func6, Tryd.ntmps6
              go_wp2_with fail
              refine (A.out).mono ?_
              rintro e w0 ⟨rfl, kk⟩
              have K0 := Lib.hid kk
              clear kk A
              go_wp2_with fail
              refine (F.out _ K0.out).mono ?_
              rintro e w1 ⟨rfl, kk⟩
              have K1 := Lib.hid (K0.out.trans kk)
              clear kk F
              go_wp2_with fail
              refine (G.out _ K1.out).mono ?_
              rintro e w2 ⟨rfl, kk⟩
              have K2 := Lib.hid (K1.out.trans kk)
              clear kk G
              go_wp2_with fail
              refine (P1.out _ K2.out).mono ?_
              rintro e w3 ⟨v3, rfl, own, kk⟩
              obtain ⟨a3, c3, rfl⟩ := own_slice own
              have R3 := Lib.hid (runsAt_own own)
              have K3 := Lib.hid (K2.out.trans kk)
              clear kk own P1
              go_wp2_with fail
              refine (P2.out _ K3.out).mono ?_
              rintro e w4 ⟨v4, rfl, own, kk⟩
              obtain ⟨a4, c4, rfl⟩ := own_slice own
              have R3' := Lib.hid (R3.out.kp kk)
              have R4 := Lib.hid (runsAt_own own)
              have K4 := Lib.hid (K3.out.trans kk)
              clear kk own P2 R3
              go_wp2_with fail
              refine (Y1.out _ _ R3'.out).mono ?_
              rintro e w5 ⟨rfl, kk⟩
              have R3 := Lib.hid (R3'.out.kp kk)
              have R4' := Lib.hid (R4.out.kp kk)
              have K5 := Lib.hid (K4.out.trans kk)
              clear kk R3' R4 Y1
              go_wp2_with fail
              refine (Y2.out _ _ R4'.out).mono ?_
              rintro e w6 ⟨rfl, kk⟩
              have R3' := Lib.hid (R3.out.kp kk)
              have R4 := Lib.hid (R4'.out.kp kk)
              have K6 := Lib.hid (K5.out.trans kk)
              clear kk R3 R4' Y2
              go_wp2_with fail
              refine (H1.out _ _ _ R3'.out).mono ?_
              rintro e w7 ⟨rfl, kk⟩
              have R4' := Lib.hid (R4.out.kp kk)
              have K7 := Lib.hid (K6.out.trans kk)
              clear kk R3' R4 H1
              go_wp2_with fail
              refine (H2.out _ _ _ R4'.out).mono ?_
              rintro e w8 ⟨rfl, kk⟩
              have K0 := Lib.hid (K7.out.trans kk)
              clear kk R4' H2
              go_wp2
              go_ret
              exact ⟨rfl, K0.out⟩
            · have r2q : decide (lo ≤ y) = false := decide_eq_false r2
              rw [r2q] at H2
              simp only [Bool.true_and, Bool.false_and, Bool.and_true, Bool.and_false] at H1 H2
              go_enter Tryd.func6, Tryd.ntmps6
              go_wp2_with fail
              refine (A.out).mono ?_
              rintro e w0 ⟨rfl, kk⟩
              have K0 := Lib.hid kk
              clear kk A
              go_wp2_with fail
              refine (F.out _ K0.out).mono ?_
              rintro e w1 ⟨rfl, kk⟩
              have K1 := Lib.hid (K0.out.trans kk)
              clear kk F
              go_wp2_with fail
              refine (G.out _ K1.out).mono ?_
              rintro e w2 ⟨rfl, kk⟩
              have K2 := Lib.hid (K1.out.trans kk)
              clear kk G
              go_wp2_with fail
              refine (P1.out _ K2.out).mono ?_
              rintro e w3 ⟨v3, rfl, own, kk⟩
              obtain ⟨a3, c3, rfl⟩ := own_slice own
              have R3 := Lib.hid (runsAt_own own)
              have K3 := Lib.hid (K2.out.trans kk)
              clear kk own P1
              go_wp2_with fail
              refine (P2.out _ K3.out).mono ?_
              rintro e w4 ⟨v4, rfl, own, kk⟩
              obtain ⟨a4, c4, rfl⟩ := own_slice own
              have R3' := Lib.hid (R3.out.kp kk)
              have R4 := Lib.hid (runsAt_own own)
              have K4 := Lib.hid (K3.out.trans kk)
              clear kk own P2 R3
              go_wp2_with fail
              refine (Y1.out _ _ R3'.out).mono ?_
              rintro e w5 ⟨rfl, kk⟩
              have R3 := Lib.hid (R3'.out.kp kk)
              have R4' := Lib.hid (R4.out.kp kk)
              have K5 := Lib.hid (K4.out.trans kk)
              clear kk R3' R4 Y1
              go_wp2_with fail
              refine (Y2.out _ _ R4'.out).mono ?_
              rintro e w6 ⟨rfl, kk⟩
              have R3' := Lib.hid (R3.out.kp kk)
              have R4 := Lib.hid (R4'.out.kp kk)
              have K6 := Lib.hid (K5.out.trans kk)
              clear kk R3 R4' Y2
              go_wp2_with fail
              refine (H1.out _ _ _ R3'.out).mono ?_
              rintro e w7 ⟨rfl, kk⟩
              have R4' := Lib.hid (R4.out.kp kk)
              have K7 := Lib.hid (K6.out.trans kk)
              clear kk R3' R4 H1
              go_wp2_with fail
              refine (H2.out _ _ _ R4'.out).mono ?_
              rintro e w8 ⟨rfl, kk⟩
              have K0 := Lib.hid (K7.out.trans kk)
              clear kk R4' H2
              go_wp2
              go_ret
              exact ⟨rfl, K0.out⟩
          · have r1q : decide (x ≤ hi') = false := decide_eq_false r1
            rw [r1q] at H2
            simp only [Bool.true_and, Bool.false_and, Bool.and_true, Bool.and_false] at H1 H2
            go_enter Tryd.func6, Tryd.ntmps6
            go_wp2_with fail
            refine (A.out).mono ?_
            rintro e w0 ⟨rfl, kk⟩
            have K0 := Lib.hid kk
            clear kk A
            go_wp2_with fail
            refine (F.out _ K0.out).mono ?_
            rintro e w1 ⟨rfl, kk⟩
            have K1 := Lib.hid (K0.out.trans kk)
            clear kk F
            go_wp2_with fail
            refine (G.out _ K1.out).mono ?_
            rintro e w2 ⟨rfl, kk⟩
            have K2 := Lib.hid (K1.out.trans kk)
            clear kk G
            go_wp2_with fail
            refine (P1.out _ K2.out).mono ?_
            rintro e w3 ⟨v3, rfl, own, kk⟩
            obtain ⟨a3, c3, rfl⟩ := own_slice own
            have R3 := Lib.hid (runsAt_own own)
            have K3 := Lib.hid (K2.out.trans kk)
            clear kk own P1
            go_wp2_with fail
            refine (P2.out _ K3.out).mono ?_
            rintro e w4 ⟨v4, rfl, own, kk⟩
            obtain ⟨a4, c4, rfl⟩ := own_slice own
            have R3' := Lib.hid (R3.out.kp kk)
            have R4 := Lib.hid (runsAt_own own)
            have K4 := Lib.hid (K3.out.trans kk)
            clear kk own P2 R3
            go_wp2_with fail
            refine (Y1.out _ _ R3'.out).mono ?_
            rintro e w5 ⟨rfl, kk⟩
            have R3 := Lib.hid (R3'.out.kp kk)
            have R4' := Lib.hid (R4.out.kp kk)
            have K5 := Lib.hid (K4.out.trans kk)
            clear kk R3' R4 Y1
            go_wp2_with fail
            refine (Y2.out _ _ R4'.out).mono ?_
            rintro e w6 ⟨rfl, kk⟩
            have R3' := Lib.hid (R3.out.kp kk)
            have R4 := Lib.hid (R4'.out.kp kk)
            have K6 := Lib.hid (K5.out.trans kk)
            clear kk R3 R4' Y2
            go_wp2_with fail
            refine (H1.out _ _ _ R3'.out).mono ?_
            rintro e w7 ⟨rfl, kk⟩
            have R4' := Lib.hid (R4.out.kp kk)
            have K7 := Lib.hid (K6.out.trans kk)
            clear kk R3' R4 H1
            go_wp2_with fail
            refine (H2.out _ _ _ R4'.out).mono ?_
            rintro e w8 ⟨rfl, kk⟩
            have K0 := Lib.hid (K7.out.trans kk)
            clear kk R4' H2
            go_wp2
            go_ret
            exact ⟨rfl, K0.out⟩
        · have r0q : decide (lo ≤ hi') = false := decide_eq_false r0
          rw [r0q] at H2
          simp only [Bool.true_and, Bool.false_and, Bool.and_true, Bool.and_false] at H1 H2
          go_enter Tryd.func6, Tryd.ntmps6
          go_wp2_with fail
          refine (A.out).mono ?_
          rintro e w0 ⟨rfl, kk⟩
          have K0 := Lib.hid kk
          clear kk A
          go_wp2_with fail
          refine (F.out _ K0.out).mono ?_
          rintro e w1 ⟨rfl, kk⟩
          have K1 := Lib.hid (K0.out.trans kk)
          clear kk F
          go_wp2_with fail
          refine (G.out _ K1.out).mono ?_
          rintro e w2 ⟨rfl, kk⟩
          have K2 := Lib.hid (K1.out.trans kk)
          clear kk G
          go_wp2_with fail
          refine (P1.out _ K2.out).mono ?_
          rintro e w3 ⟨v3, rfl, own, kk⟩
          obtain ⟨a3, c3, rfl⟩ := own_slice own
          have R3 := Lib.hid (runsAt_own own)
          have K3 := Lib.hid (K2.out.trans kk)
          clear kk own P1
          go_wp2_with fail
          refine (P2.out _ K3.out).mono ?_
          rintro e w4 ⟨v4, rfl, own, kk⟩
          obtain ⟨a4, c4, rfl⟩ := own_slice own
          have R3' := Lib.hid (R3.out.kp kk)
          have R4 := Lib.hid (runsAt_own own)
          have K4 := Lib.hid (K3.out.trans kk)
          clear kk own P2 R3
          go_wp2_with fail
          refine (Y1.out _ _ R3'.out).mono ?_
          rintro e w5 ⟨rfl, kk⟩
          have R3 := Lib.hid (R3'.out.kp kk)
          have R4' := Lib.hid (R4.out.kp kk)
          have K5 := Lib.hid (K4.out.trans kk)
          clear kk R3' R4 Y1
          go_wp2_with fail
          refine (Y2.out _ _ R4'.out).mono ?_
          rintro e w6 ⟨rfl, kk⟩
          have R3' := Lib.hid (R3.out.kp kk)
          have R4 := Lib.hid (R4'.out.kp kk)
          have K6 := Lib.hid (K5.out.trans kk)
          clear kk R3 R4' Y2
          go_wp2_with fail
          refine (H1.out _ _ _ R3'.out).mono ?_
          rintro e w7 ⟨rfl, kk⟩
          have R4' := Lib.hid (R4.out.kp kk)
          have K7 := Lib.hid (K6.out.trans kk)
          clear kk R3' R4 H1
          go_wp2_with fail
          refine (H2.out _ _ _ R4'.out).mono ?_
          rintro e w8 ⟨rfl, kk⟩
          have K0 := Lib.hid (K7.out.trans kk)
          clear kk R4' H2
          go_wp2
          go_ret
          exact ⟨rfl, K0.out⟩
    · have p0q : decide (lo ≤ x) = false := decide_eq_false p0
      rw [p0q] at H1
      by_cases r0 : lo ≤ hi'
      · have r0q : decide (lo ≤ hi') = true := decide_eq_true r0
        rw [r0q] at H2
        by_cases r1 : x ≤ hi'
        · have r1q : decide (x ≤ hi') = true := decide_eq_true r1
          rw [r1q] at H2
          by_cases r2 : lo ≤ y
          · have r2q : decide (lo ≤ y) = true := decide_eq_true r2
            rw [r2q] at H2
            simp only [Bool.true_and, Bool.false_and, Bool.and_true, Bool.and_false] at H1 H2
            go_enter Tryd.func6, Tryd.ntmps6
            go_wp2_with fail
            refine (A.out).mono ?_
            rintro e w0 ⟨rfl, kk⟩
            have K0 := Lib.hid kk
            clear kk A
            go_wp2_with fail
            refine (F.out _ K0.out).mono ?_
            rintro e w1 ⟨rfl, kk⟩
            have K1 := Lib.hid (K0.out.trans kk)
            clear kk F
            go_wp2_with fail
            refine (G.out _ K1.out).mono ?_
            rintro e w2 ⟨rfl, kk⟩
            have K2 := Lib.hid (K1.out.trans kk)
            clear kk G
            go_wp2_with fail
            refine (P1.out _ K2.out).mono ?_
            rintro e w3 ⟨v3, rfl, own, kk⟩
            obtain ⟨a3, c3, rfl⟩ := own_slice own
            have R3 := Lib.hid (runsAt_own own)
            have K3 := Lib.hid (K2.out.trans kk)
            clear kk own P1
            go_wp2_with fail
            refine (P2.out _ K3.out).mono ?_
            rintro e w4 ⟨v4, rfl, own, kk⟩
            obtain ⟨a4, c4, rfl⟩ := own_slice own
            have R3' := Lib.hid (R3.out.kp kk)
            have R4 := Lib.hid (runsAt_own own)
            have K4 := Lib.hid (K3.out.trans kk)
            clear kk own P2 R3
            go_wp2_with fail
            refine (Y1.out _ _ R3'.out).mono ?_
            rintro e w5 ⟨rfl, kk⟩
            have R3 := Lib.hid (R3'.out.kp kk)
            have R4' := Lib.hid (R4.out.kp kk)
            have K5 := Lib.hid (K4.out.trans kk)
            clear kk R3' R4 Y1
            go_wp2_with fail
            refine (Y2.out _ _ R4'.out).mono ?_
            rintro e w6 ⟨rfl, kk⟩
            have R3' := Lib.hid (R3.out.kp kk)
            have R4 := Lib.hid (R4'.out.kp kk)
            have K6 := Lib.hid (K5.out.trans kk)
            clear kk R3 R4' Y2
            go_wp2_with fail
            refine (H1.out _ _ _ R3'.out).mono ?_
            rintro e w7 ⟨rfl, kk⟩
            have R4' := Lib.hid (R4.out.kp kk)
            have K7 := Lib.hid (K6.out.trans kk)
            clear kk R3' R4 H1
            go_wp2_with fail
            refine (H2.out _ _ _ R4'.out).mono ?_
            rintro e w8 ⟨rfl, kk⟩
            have K0 := Lib.hid (K7.out.trans kk)
            clear kk R4' H2
            go_wp2
            go_ret
            exact ⟨rfl, K0.out⟩
          · have r2q : decide (lo ≤ y) = false := decide_eq_false r2
            rw [r2q] at H2
            simp only [Bool.true_and, Bool.false_and, Bool.and_true, Bool.and_false] at H1 H2
            go_enter Tryd.func6, Tryd.ntmps6
            go_wp2_with fail
            refine (A.out).mono ?_
            rintro e w0 ⟨rfl, kk⟩
            have K0 := Lib.hid kk
            clear kk A
            go_wp2_with fail
            refine (F.out _ K0.out).mono ?_
            rintro e w1 ⟨rfl, kk⟩
            have K1 := Lib.hid (K0.out.trans kk)
            clear kk F
            go_wp2_with fail
            refine (G.out _ K1.out).mono ?_
            rintro e w2 ⟨rfl, kk⟩
            have K2 := Lib.hid (K1.out.trans kk)
            clear kk G
            go_wp2_with fail
            refine (P1.out _ K2.out).mono ?_
            rintro e w3 ⟨v3, rfl, own, kk⟩
            obtain ⟨a3, c3, rfl⟩ := own_slice own
            have R3 := Lib.hid (runsAt_own own)
            have K3 := Lib.hid (K2.out.trans kk)
            clear kk own P1
            go_wp2_with fail
            refine (P2.out _ K3.out).mono ?_
            rintro e w4 ⟨v4, rfl, own, kk⟩
            obtain ⟨a4, c4, rfl⟩ := own_slice own
            have R3' := Lib.hid (R3.out.kp kk)
            have R4 := Lib.hid (runsAt_own own)
            have K4 := Lib.hid (K3.out.trans kk)
            clear kk own P2 R3
            go_wp2_with fail
            refine (Y1.out _ _ R3'.out).mono ?_
            rintro e w5 ⟨rfl, kk⟩
            have R3 := Lib.hid (R3'.out.kp kk)
            have R4' := Lib.hid (R4.out.kp kk)
            have K5 := Lib.hid (K4.out.trans kk)
            clear kk R3' R4 Y1
            go_wp2_with fail
            refine (Y2.out _ _ R4'.out).mono ?_
            rintro e w6 ⟨rfl, kk⟩
            have R3' := Lib.hid (R3.out.kp kk)
            have R4 := Lib.hid (R4'.out.kp kk)
            have K6 := Lib.hid (K5.out.trans kk)
            clear kk R3 R4' Y2
            go_wp2_with fail
            refine (H1.out _ _ _ R3'.out).mono ?_
            rintro e w7 ⟨rfl, kk⟩
            have R4' := Lib.hid (R4.out.kp kk)
            have K7 := Lib.hid (K6.out.trans kk)
            clear kk R3' R4 H1
            go_wp2_with fail
            refine (H2.out _ _ _ R4'.out).mono ?_
            rintro e w8 ⟨rfl, kk⟩
            have K0 := Lib.hid (K7.out.trans kk)
            clear kk R4' H2
            go_wp2
            go_ret
            exact ⟨rfl, K0.out⟩
        · have r1q : decide (x ≤ hi') = false := decide_eq_false r1
          rw [r1q] at H2
          simp only [Bool.true_and, Bool.false_and, Bool.and_true, Bool.and_false] at H1 H2
          go_enter Tryd.func6, Tryd.ntmps6
          go_wp2_with fail
          refine (A.out).mono ?_
          rintro e w0 ⟨rfl, kk⟩
          have K0 := Lib.hid kk
          clear kk A
          go_wp2_with fail
          refine (F.out _ K0.out).mono ?_
          rintro e w1 ⟨rfl, kk⟩
          have K1 := Lib.hid (K0.out.trans kk)
          clear kk F
          go_wp2_with fail
          refine (G.out _ K1.out).mono ?_
          rintro e w2 ⟨rfl, kk⟩
          have K2 := Lib.hid (K1.out.trans kk)
          clear kk G
          go_wp2_with fail
          refine (P1.out _ K2.out).mono ?_
          rintro e w3 ⟨v3, rfl, own, kk⟩
          obtain ⟨a3, c3, rfl⟩ := own_slice own
          have R3 := Lib.hid (runsAt_own own)
          have K3 := Lib.hid (K2.out.trans kk)
          clear kk own P1
          go_wp2_with fail
          refine (P2.out _ K3.out).mono ?_
          rintro e w4 ⟨v4, rfl, own, kk⟩
          obtain ⟨a4, c4, rfl⟩ := own_slice own
          have R3' := Lib.hid (R3.out.kp kk)
          have R4 := Lib.hid (runsAt_own own)
          have K4 := Lib.hid (K3.out.trans kk)
          clear kk own P2 R3
          go_wp2_with fail
          refine (Y1.out _ _ R3'.out).mono ?_
          rintro e w5 ⟨rfl, kk⟩
          have R3 := Lib.hid (R3'.out.kp kk)
          have R4' := Lib.hid (R4.out.kp kk)
          have K5 := Lib.hid (K4.out.trans kk)
          clear kk R3' R4 Y1
          go_wp2_with fail
          refine (Y2.out _ _ R4'.out).mono ?_
          rintro e w6 ⟨rfl, kk⟩
          have R3' := Lib.hid (R3.out.kp kk)
          have R4 := Lib.hid (R4'.out.kp kk)
          have K6 := Lib.hid (K5.out.trans kk)
          clear kk R3 R4' Y2
          go_wp2_with fail
          refine (H1.out _ _ _ R3'.out).mono ?_
          rintro e w7 ⟨rfl, kk⟩
          have R4' := Lib.hid (R4.out.kp kk)
          have K7 := Lib.hid (K6.out.trans kk)
          clear kk R3' R4 H1
          go_wp2_with fail
          refine (H2.out _ _ _ R4'.out).mono ?_
          rintro e w8 ⟨rfl, kk⟩
          have K0 := Lib.hid (K7.out.trans kk)
          clear kk R4' H2
          go_wp2
          go_ret
          exact ⟨rfl, K0.out⟩
      · have r0q : decide (lo ≤ hi') = false := decide_eq_false r0
        rw [r0q] at H2
        simp only [Bool.true_and, Bool.false_and, Bool.and_true, Bool.and_false] at H1 H2
        go_enter Tryd.func6, Tryd.ntmps6
        go_wp2_with fail
        refine (A.out).mono ?_
        rintro e w0 ⟨rfl, kk⟩
        have K0 := Lib.hid kk
        clear kk A
        go_wp2_with fail
        refine (F.out _ K0.out).mono ?_
        rintro e w1 ⟨rfl, kk⟩
        have K1 := Lib.hid (K0.out.trans kk)
        clear kk F
        go_wp2_with fail
        refine (G.out _ K1.out).mono ?_
        rintro e w2 ⟨rfl, kk⟩
        have K2 := Lib.hid (K1.out.trans kk)
        clear kk G
        go_wp2_with fail
        refine (P1.out _ K2.out).mono ?_
        rintro e w3 ⟨v3, rfl, own, kk⟩
        obtain ⟨a3, c3, rfl⟩ := own_slice own
        have R3 := Lib.hid (runsAt_own own)
        have K3 := Lib.hid (K2.out.trans kk)
        clear kk own P1
        go_wp2_with fail
        refine (P2.out _ K3.out).mono ?_
        rintro e w4 ⟨v4, rfl, own, kk⟩
        obtain ⟨a4, c4, rfl⟩ := own_slice own
        have R3' := Lib.hid (R3.out.kp kk)
        have R4 := Lib.hid (runsAt_own own)
        have K4 := Lib.hid (K3.out.trans kk)
        clear kk own P2 R3
        go_wp2_with fail
        refine (Y1.out _ _ R3'.out).mono ?_
        rintro e w5 ⟨rfl, kk⟩
        have R3 := Lib.hid (R3'.out.kp kk)
        have R4' := Lib.hid (R4.out.kp kk)
        have K5 := Lib.hid (K4.out.trans kk)
        clear kk R3' R4 Y1
        go_wp2_with fail
        refine (Y2.out _ _ R4'.out).mono ?_
        rintro e w6 ⟨rfl, kk⟩
        have R3' := Lib.hid (R3.out.kp kk)
        have R4 := Lib.hid (R4'.out.kp kk)
        have K6 := Lib.hid (K5.out.trans kk)
        clear kk R3 R4' Y2
        go_wp2_with fail
        refine (H1.out _ _ _ R3'.out).mono ?_
        rintro e w7 ⟨rfl, kk⟩
        have R4' := Lib.hid (R4.out.kp kk)
        have K7 := Lib.hid (K6.out.trans kk)
        clear kk R3' R4 H1
        go_wp2_with fail
        refine (H2.out _ _ _ R4'.out).mono ?_
        rintro e w8 ⟨rfl, kk⟩
        have K0 := Lib.hid (K7.out.trans kk)
        clear kk R4' H2
        go_wp2
        go_ret
        exact ⟨rfl, K0.out⟩
end Go.Proofs.YtehpngppdcnohaaDoor
