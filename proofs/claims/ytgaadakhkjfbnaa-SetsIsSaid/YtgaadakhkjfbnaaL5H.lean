/-
  Layer 5: the walk of SetsIs.
-/
import Derived.Test.Ytgaadakhkjfbnaa5U
namespace Go.Proofs.Ytgaadakhkjfbnaa
open Go.RowKit
set_option linter.unusedVariables false
set_option linter.unusedSimpArgs false
set_option maxHeartbeats 8000000 in
set_option maxRecDepth 100000 in
theorem setsIs_walk (va vb : Value) (a b : List R) (k n : Int) (w : World) (ha : RunsAt w va a) (hb : RunsAt w vb b) (ia : I64R a) (ib : I64R b) (k1 : -9223372036854775808 ≤ k) (k2 : k ≤ 9223372036854775807) (n1 : -9223372036854775808 ≤ n) (n2 : n ≤ 9223372036854775807) :
    Calls Try.prog 8 #[va, vb, .int .i64 k, .int .i64 n] w fun e w' => e = .returned (.bool true) ∧ Kp w w' := by
  obtain ⟨ad, ca, rfl⟩ := ha.slice
  obtain ⟨bd, cb, rfl⟩ := hb.slice
  by_cases h1 : a.length ≤ 40
  · have g1 : decide ((40 : Int) < a.length) = false := decide_eq_false (by omega)
    by_cases h2 : b.length ≤ 40
    · have g2 : decide ((40 : Int) < b.length) = false := decide_eq_false (by omega)
      have ik : I64R [(k, n)] := i64_one k1 k2 n1 n2
      have L1 : (nf (a ++ b)).length ≤ 1000000 := by have := nf_len (a ++ b); rw [List.length_append] at this; omega
      have L2 : (interR a b).length ≤ 1000000 := by have := interR_bd h1 h2; omega
      have L3 : (diffR a b).length ≤ 1000000 := by have := diffR_bd h1 h2; omega
      have L4 : (nf (shR k k (nf a))).length ≤ 1000000 := by have := nf_len (shR k k (nf a)); rw [shR_len] at this; have := nf_len a; omega
      have L5 : (nf (shR (-(grK k)) (grK k) (nf a))).length ≤ 1000000 := by have := nf_len (shR (-(grK k)) (grK k) (nf a)); rw [shR_len] at this; have := nf_len a; omega
      have L6 : (interR a [(k, n)]).length ≤ 1000000 := by have := interR_bd h1 (show [(k, n)].length ≤ 1 by simp); omega
      have P1 := Lib.hid (fun w1 (kk : Kp w w1) => union_any _ _ a b w1 (ha.kp kk) (hb.kp kk) ia ib (by omega))
      have Q1 := Lib.hid (fun w1 (kk : Kp w w1) => runion_any _ _ a b w1 (ha.kp kk) (hb.kp kk) ia ib (by omega))
      have P2 := Lib.hid (fun w1 (kk : Kp w w1) => meet_any _ _ a b w1 (ha.kp kk) (hb.kp kk) ia ib (by omega) (by omega))
      have Q2 := Lib.hid (fun w1 (kk : Kp w w1) => rmeet_any _ _ a b w1 (ha.kp kk) (hb.kp kk) ia ib (by omega) (by omega))
      have P3 := Lib.hid (fun w1 (kk : Kp w w1) => minus_any _ _ a b w1 (ha.kp kk) (hb.kp kk) ia ib (by omega) (by omega))
      have Q3 := Lib.hid (fun w1 (kk : Kp w w1) => rminus_any _ _ a b w1 (ha.kp kk) (hb.kp kk) ia ib (by omega) (by omega))
      have P4 := Lib.hid (fun w1 (kk : Kp w w1) => shift_any _ a k w1 (ha.kp kk) ia (by omega))
      have Q4 := Lib.hid (fun w1 (kk : Kp w w1) => rshift_any _ a k w1 (ha.kp kk) ia (by omega))
      have P5 := Lib.hid (fun w1 (kk : Kp w w1) => grow_any _ a k w1 (ha.kp kk) ia (by omega))
      have Q5 := Lib.hid (fun w1 (kk : Kp w w1) => rgrow_any _ a k w1 (ha.kp kk) ia (by omega))
      have P6 := Lib.hid (fun w1 (kk : Kp w w1) => clip_any _ a k n w1 (ha.kp kk) ia (by omega) ik)
      have Q6 := Lib.hid (fun w1 (kk : Kp w w1) => rclip_any _ a k n w1 (ha.kp kk) ia (by omega) ik)
      have P7 := Lib.hid (fun w1 (kk : Kp w w1) => wide_any _ a w1 (ha.kp kk) ia (by omega))
      have Q7 := Lib.hid (fun w1 (kk : Kp w w1) => rwide_any _ a w1 (ha.kp kk) ia (by omega))
      clear ha hb ia ib ik k1 k2 n1 n2
      generalize nf (a ++ b) = X1 at *
      generalize interR a b = X2 at *
      generalize diffR a b = X3 at *
      generalize nf (shR k k (nf a)) = X4 at *
      generalize nf (shR (-(grK k)) (grK k) (nf a)) = X5 at *
      generalize interR a [(k, n)] = X6 at *
      generalize decide (400 < (nf a).length) = X7 at *
      go_enter Try.func8, Try.ntmps8
      go_wp2_with fail
      refine (awake05 _).mono ?_
      rintro e w0 ⟨rfl, kk⟩
      have K0 := Lib.hid kk
      clear kk
      go_wp2_with fail
      refine (P1.out _ K0.out).mono ?_
      rintro e w1 ⟨v1, rfl, own, kk⟩
      have R1 := Lib.hid (runsAt_own own)
      have K1 := Lib.hid (K0.out.trans kk)
      clear own kk K0 P1
      go_wp2_with fail
      refine (Q1.out _ K1.out).mono ?_
      rintro e w2 ⟨v2, rfl, R2, kk⟩
      have S := Lib.hid (same_any v1 v2 X1 w2 (R1.out.kp kk) R2 L1)
      have K2 := Lib.hid (K1.out.trans kk)
      clear R1 R2 kk K1 Q1
      go_wp2_with fail
      refine (S.out).mono ?_
      rintro e w3 ⟨rfl, kk⟩
      have K0 := Lib.hid (K2.out.trans kk)
      clear kk K2 S
      go_wp2_with fail
      refine (P2.out _ K0.out).mono ?_
      rintro e w1 ⟨v1, rfl, own, kk⟩
      have R1 := Lib.hid (runsAt_own own)
      have K1 := Lib.hid (K0.out.trans kk)
      clear own kk K0 P2
      go_wp2_with fail
      refine (Q2.out _ K1.out).mono ?_
      rintro e w2 ⟨v2, rfl, R2, kk⟩
      have S := Lib.hid (same_any v1 v2 X2 w2 (R1.out.kp kk) R2 L2)
      have K2 := Lib.hid (K1.out.trans kk)
      clear R1 R2 kk K1 Q2
      go_wp2_with fail
      refine (S.out).mono ?_
      rintro e w3 ⟨rfl, kk⟩
      have K0 := Lib.hid (K2.out.trans kk)
      clear kk K2 S
      go_wp2_with fail
      refine (P3.out _ K0.out).mono ?_
      rintro e w1 ⟨v1, rfl, own, kk⟩
      have R1 := Lib.hid (runsAt_own own)
      have K1 := Lib.hid (K0.out.trans kk)
      clear own kk K0 P3
      go_wp2_with fail
      refine (Q3.out _ K1.out).mono ?_
      rintro e w2 ⟨v2, rfl, R2, kk⟩
      have S := Lib.hid (same_any v1 v2 X3 w2 (R1.out.kp kk) R2 L3)
      have K2 := Lib.hid (K1.out.trans kk)
      clear R1 R2 kk K1 Q3
      go_wp2_with fail
      refine (S.out).mono ?_
      rintro e w3 ⟨rfl, kk⟩
      have K0 := Lib.hid (K2.out.trans kk)
      clear kk K2 S
      go_wp2_with fail
      refine (P4.out _ K0.out).mono ?_
      rintro e w1 ⟨v1, rfl, own, kk⟩
      have R1 := Lib.hid (runsAt_own own)
      have K1 := Lib.hid (K0.out.trans kk)
      clear own kk K0 P4
      go_wp2_with fail
      refine (Q4.out _ K1.out).mono ?_
      rintro e w2 ⟨v2, rfl, R2, kk⟩
      have S := Lib.hid (same_any v1 v2 X4 w2 (R1.out.kp kk) R2 L4)
      have K2 := Lib.hid (K1.out.trans kk)
      clear R1 R2 kk K1 Q4
      go_wp2_with fail
      refine (S.out).mono ?_
      rintro e w3 ⟨rfl, kk⟩
      have K0 := Lib.hid (K2.out.trans kk)
      clear kk K2 S
      go_wp2_with fail
      refine (P5.out _ K0.out).mono ?_
      rintro e w1 ⟨v1, rfl, own, kk⟩
      have R1 := Lib.hid (runsAt_own own)
      have K1 := Lib.hid (K0.out.trans kk)
      clear own kk K0 P5
      go_wp2_with fail
      refine (Q5.out _ K1.out).mono ?_
      rintro e w2 ⟨v2, rfl, R2, kk⟩
      have S := Lib.hid (same_any v1 v2 X5 w2 (R1.out.kp kk) R2 L5)
      have K2 := Lib.hid (K1.out.trans kk)
      clear R1 R2 kk K1 Q5
      go_wp2_with fail
      refine (S.out).mono ?_
      rintro e w3 ⟨rfl, kk⟩
      have K0 := Lib.hid (K2.out.trans kk)
      clear kk K2 S
      go_wp2_with fail
      refine (P6.out _ K0.out).mono ?_
      rintro e w1 ⟨v1, rfl, own, kk⟩
      have R1 := Lib.hid (runsAt_own own)
      have K1 := Lib.hid (K0.out.trans kk)
      clear own kk K0 P6
      go_wp2_with fail
      refine (Q6.out _ K1.out).mono ?_
      rintro e w2 ⟨v2, rfl, R2, kk⟩
      have S := Lib.hid (same_any v1 v2 X6 w2 (R1.out.kp kk) R2 L6)
      have K2 := Lib.hid (K1.out.trans kk)
      clear R1 R2 kk K1 Q6
      go_wp2_with fail
      refine (S.out).mono ?_
      rintro e w3 ⟨rfl, kk⟩
      have K0 := Lib.hid (K2.out.trans kk)
      clear kk K2 S
      go_wp2_with fail
      refine (P7.out _ K0.out).mono ?_
      rintro e w1 ⟨rfl, kk⟩
      have K1 := Lib.hid (K0.out.trans kk)
      clear kk K0 P7
      go_wp2_with fail
      refine (Q7.out _ K1.out).mono ?_
      rintro e w2 ⟨rfl, kk⟩
      have K2 := Lib.hid (K1.out.trans kk)
      clear kk K1 Q7
      go_wp2
      go_ret
      exact ⟨by simp, K2.out⟩
    · have g2 : decide ((40 : Int) < b.length) = true := decide_eq_true (by omega)
      clear ha hb
      go_enter Try.func8, Try.ntmps8
      go_wp2_with fail; refine (awake05 _).mono ?_; rintro e w1 ⟨rfl, kk⟩; have K1 := Lib.hid kk; clear kk; go_wp2; go_ret; exact ⟨rfl, K1.out⟩
  · have g1 : decide ((40 : Int) < a.length) = true := decide_eq_true (by omega)
    clear ha hb
    go_enter Try.func8, Try.ntmps8
    go_wp2_with fail; refine (awake05 _).mono ?_; rintro e w1 ⟨rfl, kk⟩; have K1 := Lib.hid kk; clear kk; go_wp2; go_ret; exact ⟨rfl, K1.out⟩
end Go.Proofs.Ytgaadakhkjfbnaa
