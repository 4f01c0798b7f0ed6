/-
  Layer 7: the walk of ImageIs.
-/
import Derived.Test.YtehpngppdcnohaaDoorGImgC
namespace Go.Proofs.YtehpngppdcnohaaDoor
open Go.RowKit
set_option linter.unusedVariables false
set_option linter.unusedSimpArgs false
set_option maxHeartbeats 8000000 in
set_option maxRecDepth 100000 in
theorem imageIs_walk (k : Int) (va : Value) (a : List R) (lo hi' : Int) (w : World) (ha : RunsAt w va a) (ia : I64R a) (T : Tabs w) (k1 : -9223372036854775808 ≤ lo) (k2 : lo ≤ 9223372036854775807) (n1 : -9223372036854775808 ≤ hi') (n2 : hi' ≤ 9223372036854775807) :
    Calls Tryd.prog 3 #[.int .i64 k, va, .int .i64 lo, .int .i64 hi'] w fun e w' => e = .returned (.bool true) ∧ Kp w w' := by
  obtain ⟨ad, ca, rfl⟩ := ha.slice
  have A := Lib.hid (awake07 w T)
  by_cases h1 : a.length ≤ 40
  · have g1 : decide ((40 : Int) < a.length) = false := decide_eq_false (by omega)
    have L1 : (edgR (firV k) k a).length ≤ 1000000 := by have := edgR_len (firV k) k a; omega
    have L2 : (edgR (lasV k) k a).length ≤ 1000000 := by have := edgR_len (lasV k) k a; omega
    have L3 : (coverR k a).length ≤ 1000000 := by have := nf_len ((unitsR k a).map (cvF k)); have := cover_len (k := k) h1; unfold coverR; omega
    have L4 : (insR k lo hi').length ≤ 1000000 := by unfold insR; split; · have := nf_len [insP k lo hi']; simp at this; omega
                                                     · simp
    have L5 : (touR k lo hi').length ≤ 1000000 := by unfold touR; split <;> simp
    have P1 := Lib.hid (fun w1 (kk : Kp w w1) => starts_any k _ a w1 (ha.kp kk) ia (by omega) (T.kp kk))
    have Q1 := Lib.hid (fun w1 (kk : Kp w w1) => rstarts_any k _ a w1 (ha.kp kk) ia (by omega))
    have P2 := Lib.hid (fun w1 (kk : Kp w w1) => ends_any k _ a w1 (ha.kp kk) ia (by omega) (T.kp kk))
    have Q2 := Lib.hid (fun w1 (kk : Kp w w1) => rends_any k _ a w1 (ha.kp kk) ia (by omega))
    have P3 := Lib.hid (fun w1 (kk : Kp w w1) => cover_any k _ a w1 (ha.kp kk) ia (by omega) (T.kp kk))
    have Q3 := Lib.hid (fun w1 (kk : Kp w w1) => rcover_any k _ a w1 (ha.kp kk) ia (by omega))
    have P4 := Lib.hid (fun w1 (kk : Kp w w1) => inside_any k lo hi' w1 (T.kp kk) k1 n2)
    have Q4 := Lib.hid (fun w1 (kk : Kp w w1) => rinside_any k lo hi' w1 k1 k2 n1 n2)
    have P5 := Lib.hid (fun w1 (kk : Kp w w1) => touch_any k lo hi' w1 (T.kp kk))
    have Q5 := Lib.hid (fun w1 (kk : Kp w w1) => rtouch_any k lo hi' w1 k1 k2 n1 n2)
    clear ha ia k1 k2 n1 n2 T
    generalize edgR (firV k) k a = X1 at *
    generalize edgR (lasV k) k a = X2 at *
    generalize coverR k a = X3 at *
    generalize insR k lo hi' = X4 at *
    generalize touR k lo hi' = X5 at *
    generalize edgB k a = b at *
    have QQ : (b != b) = false := by simp
    go_enter Tryd.func3, Tryd.ntmps3
    go_wp2_with fail
    refine (A.out).mono ?_
    rintro e w0 ⟨rfl, kk⟩
    have K0 := Lib.hid kk
    clear kk A
    go_wp2_with fail
    refine (P1.out _ K0.out).mono ?_
    rintro e w1 ⟨v1, rfl, own, kk⟩
    obtain ⟨ap1, cp1, rfl⟩ := own_slice own
    have RP1 := Lib.hid (runsAt_own own)
    have K1 := Lib.hid (K0.out.trans kk)
    clear own kk P1
    go_wp2_with fail
    refine (Q1.out _ K1.out).mono ?_
    rintro e w2 ⟨v2, rfl, R, kk⟩
    obtain ⟨aq1, cq1, rfl⟩ := R.slice
    have RQ1 := Lib.hid R
    have RP1' := Lib.hid (RP1.out.kp kk)
    have K2 := Lib.hid (K1.out.trans kk)
    clear R kk Q1 RP1
    go_wp2_with fail
    refine (P2.out _ K2.out).mono ?_
    rintro e w3 ⟨v3, rfl, own, kk⟩
    obtain ⟨ap2, cp2, rfl⟩ := own_slice own
    have RP2 := Lib.hid (runsAt_own own)
    have RP1 := Lib.hid (RP1'.out.kp kk)
    have RQ1' := Lib.hid (RQ1.out.kp kk)
    have K3 := Lib.hid (K2.out.trans kk)
    clear own kk P2 RP1' RQ1
    go_wp2_with fail
    refine (Q2.out _ K3.out).mono ?_
    rintro e w4 ⟨v4, rfl, R, kk⟩
    obtain ⟨aq2, cq2, rfl⟩ := R.slice
    have S2 := Lib.hid (fun wx (kx : Kp w4 wx) => same_any _ _ X2 wx ((RP2.out.kp kk).kp kx) (R.kp kx) L2)
    have S1 := Lib.hid (same_any _ _ X1 w4 (RP1.out.kp kk) (RQ1'.out.kp kk) L1)
    have K4 := Lib.hid (K3.out.trans kk)
    clear R kk Q2 RP1 RQ1' RP2
    go_wp2_with fail
    refine (S1.out).mono ?_
    rintro e w5 ⟨rfl, kk⟩
    have S2' := Lib.hid (S2.out _ kk)
    have K5 := Lib.hid (K4.out.trans kk)
    clear kk S1 S2
    go_wp2_with fail
    refine (S2'.out).mono ?_
    rintro e w6 ⟨rfl, kk⟩
    have K0 := Lib.hid (K5.out.trans kk)
    clear kk S2' K1 K2 K3 K4 K5
    go_wp2_with fail
    refine (P3.out _ K0.out).mono ?_
    rintro e w1 ⟨v1, rfl, own, kk⟩
    have R1 := Lib.hid (runsAt_own own)
    have K1 := Lib.hid (K0.out.trans kk)
    clear own kk K0 P3
    go_wp2_with fail
    refine (Q3.out _ K1.out).mono ?_
    rintro e w2 ⟨v2, rfl, R2, kk⟩
    have S := Lib.hid (same_any v1 v2 X3 w2 (R1.out.kp kk) R2 L3)
    have K2 := Lib.hid (K1.out.trans kk)
    clear R1 R2 kk K1 Q3
    go_wp2_with fail
    refine (S.out).mono ?_
    rintro e w3 ⟨rfl, kk⟩
    have K0 := Lib.hid (K2.out.trans kk)
    clear kk K2 S
    go_wp2_with fail
    refine (P4.out _ K0.out).mono ?_
    rintro e w1 ⟨v1, rfl, own, kk⟩
    have R1 := Lib.hid (runsAt_own own)
    have K1 := Lib.hid (K0.out.trans kk)
    clear own kk K0 P4
    go_wp2_with fail
    refine (Q4.out _ K1.out).mono ?_
    rintro e w2 ⟨v2, rfl, R2, kk⟩
    have S := Lib.hid (same_any v1 v2 X4 w2 (R1.out.kp kk) R2 L4)
    have K2 := Lib.hid (K1.out.trans kk)
    clear R1 R2 kk K1 Q4
    go_wp2_with fail
    refine (S.out).mono ?_
    rintro e w3 ⟨rfl, kk⟩
    have K0 := Lib.hid (K2.out.trans kk)
    clear kk K2 S
    go_wp2_with fail
    refine (P5.out _ K0.out).mono ?_
    rintro e w1 ⟨v1, rfl, own, kk⟩
    have R1 := Lib.hid (runsAt_own own)
    have K1 := Lib.hid (K0.out.trans kk)
    clear own kk K0 P5
    go_wp2_with fail
    refine (Q5.out _ K1.out).mono ?_
    rintro e w2 ⟨v2, rfl, R2, kk⟩
    have S := Lib.hid (same_any v1 v2 X5 w2 (R1.out.kp kk) R2 L5)
    have K2 := Lib.hid (K1.out.trans kk)
    clear R1 R2 kk K1 Q5
    go_wp2_with fail
    refine (S.out).mono ?_
    rintro e w3 ⟨rfl, kk⟩
    have K0 := Lib.hid (K2.out.trans kk)
    clear kk K2 S
    go_wp2
    go_ret
    exact ⟨rfl, K0.out⟩
  · have g1 : decide ((40 : Int) < a.length) = true := decide_eq_true (by omega)
    clear ha ia T
    go_enter Tryd.func3, Tryd.ntmps3
    go_wp2_with fail
    refine (A.out).mono ?_
    rintro e w0 ⟨rfl, kk⟩
    have K0 := Lib.hid kk
    clear kk
    go_wp2
    go_ret
    exact ⟨rfl, K0.out⟩
end Go.Proofs.YtehpngppdcnohaaDoor
