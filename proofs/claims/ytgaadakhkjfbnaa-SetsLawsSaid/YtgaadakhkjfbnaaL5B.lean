/-
  Layer 5: the walk of SetsLaws.
-/
import Derived.Test.YtgaadakhkjfbnaaSetsD
namespace Go.Proofs.Ytgaadakhkjfbnaa
open Go.RowKit
set_option linter.unusedVariables false
set_option linter.unusedSimpArgs false
set_option maxHeartbeats 8000000 in
set_option maxRecDepth 100000 in
theorem setsLaws_walk (va vb vc : Value) (a b c : List R) (w : World) (ha : RunsAt w va a) (hb : RunsAt w vb b) (hc : RunsAt w vc c) (ia : I64R a) (ib : I64R b) (ic : I64R c) :
    Calls Try.prog 15 #[va, vb, vc] w fun e w' => e = .returned (.bool true) ∧ Kp w w' := by
  obtain ⟨ad, ca, rfl⟩ := ha.slice
  obtain ⟨bd, cb, rfl⟩ := hb.slice
  obtain ⟨cd, cc, rfl⟩ := hc.slice
  by_cases h1 : a.length ≤ 30
  · have g1 : decide ((30 : Int) < a.length) = false := decide_eq_false (by omega)
    by_cases h2 : b.length ≤ 30
    · have g2 : decide ((30 : Int) < b.length) = false := decide_eq_false (by omega)
      by_cases h3 : c.length ≤ 30
      · have g3 : decide ((30 : Int) < c.length) = false := decide_eq_false (by omega)
        have HA := Lib.hid (fun w1 (k : Kp w w1) => ha.kp k)
        have HB := Lib.hid (fun w1 (k : Kp w w1) => hb.kp k)
        have HC := Lib.hid (fun w1 (k : Kp w w1) => hc.kp k)
        have IU := Lib.hid (sane_i64 (nf_sane (b ++ c)))
        have LU : (nf (b ++ c)).length ≤ 60 := by have := nf_len (b ++ c); rw [List.length_append] at this; omega
        have IMB := Lib.hid (sane_i64 (interR_sane a b))
        have IMC := Lib.hid (sane_i64 (interR_sane a c))
        have LMB : (interR a b).length ≤ 900 := interR_bd h1 h2
        have LMC : (interR a c).length ≤ 900 := interR_bd h1 h3
        have IDB := Lib.hid (sane_i64 (diffR_sane a b))
        have LDB : (diffR a b).length ≤ 930 := diffR_bd h1 h2
        have LM1 : (interR a (nf (b ++ c))).length ≤ 1800 := interR_bd h1 LU
        have LD1 : (diffR a (nf (b ++ c))).length ≤ 1830 := diffR_bd h1 LU
        have IAB := Lib.hid (sane_i64 (nf_sane (a ++ b)))
        have LAB : (nf (a ++ b)).length ≤ 60 := by have := nf_len (a ++ b); rw [List.length_append] at this; omega
        have LAU : (nf (a ++ nf (b ++ c))).length ≤ 90 := by have := nf_len (a ++ nf (b ++ c)); rw [List.length_append] at this; omega
        have E1 := Lib.hid (show nf (interR a b ++ interR a c) = interR a (nf (b ++ c)) from sane_ext (nf_sane _) (interR_sane _ _) (fun n => by
          rw [nf_mem, memR_append, interR_mem, interR_mem, interR_mem, nf_mem, memR_append, and_or_left]))
        have E2 := Lib.hid (show diffR (diffR a b) c = diffR a (nf (b ++ c)) from sane_ext (diffR_sane _ _) (diffR_sane _ _) (fun n => by
          rw [diffR_mem, diffR_mem, diffR_mem, nf_mem, memR_append, not_or, and_assoc]))
        have E3 := Lib.hid (show nf (nf (a ++ b) ++ c) = nf (a ++ nf (b ++ c)) from nf_congr (fun n => by
          rw [memR_append, memR_append, nf_mem, nf_mem, memR_append, memR_append, or_assoc]))
        have F1 := Lib.hid (fun (w1 : World) (x y : Value) (h1 : RunsAt w1 x (interR a b)) (h2 : RunsAt w1 y (interR a c)) => by
          have h := union_any x y _ _ w1 h1 h2 IMB.out IMC.out (by omega)
          rw [E1.out] at h
          exact h)
        have F2 := Lib.hid (fun (w1 : World) (x : Value) (k : Kp w w1) (h1 : RunsAt w1 x (diffR a b)) => by
          have h := minus_any x _ _ c w1 h1 (hc.kp k) IDB.out ic (by omega) (by omega)
          rw [E2.out] at h
          exact h)
        have F3 := Lib.hid (fun (w1 : World) (x : Value) (k : Kp w w1) (h1 : RunsAt w1 x (nf (a ++ b))) => by
          have h := union_any x _ _ c w1 h1 (hc.kp k) IAB.out ic (by omega)
          rw [E3.out] at h
          exact h)
        have G1 := Lib.hid (fun w1 (k : Kp w w1) => union_any _ _ b c w1 (hb.kp k) (hc.kp k) ib ic (by omega))
        have G2 := Lib.hid (fun w1 (x : Value) (k : Kp w w1) (h1 : RunsAt w1 x (nf (b ++ c))) => meet_any _ _ a (nf (b ++ c)) w1 (ha.kp k) h1 ia IU.out (by omega) (by omega))
        have G3 := Lib.hid (fun w1 (k : Kp w w1) => meet_any _ _ a b w1 (ha.kp k) (hb.kp k) ia ib (by omega) (by omega))
        have G4 := Lib.hid (fun w1 (k : Kp w w1) => meet_any _ _ a c w1 (ha.kp k) (hc.kp k) ia ic (by omega) (by omega))
        have G6 := Lib.hid (fun w1 (x : Value) (k : Kp w w1) (h1 : RunsAt w1 x (nf (b ++ c))) => minus_any _ _ a (nf (b ++ c)) w1 (ha.kp k) h1 ia IU.out (by omega) (by omega))
        have G7 := Lib.hid (fun w1 (k : Kp w w1) => minus_any _ _ a b w1 (ha.kp k) (hb.kp k) ia ib (by omega) (by omega))
        have G9 := Lib.hid (fun w1 (x : Value) (k : Kp w w1) (h1 : RunsAt w1 x (nf (b ++ c))) => union_any _ _ a (nf (b ++ c)) w1 (ha.kp k) h1 ia IU.out (by omega))
        have G10 := Lib.hid (fun w1 (k : Kp w w1) => union_any _ _ a b w1 (ha.kp k) (hb.kp k) ia ib (by omega))
        clear ha hb hc E1 E2 E3 HA HB HC IU IMB IMC IDB IAB ia ib ic
        generalize nf (a ++ nf (b ++ c)) = X3 at *
        generalize diffR a (nf (b ++ c)) = X2 at *
        generalize interR a (nf (b ++ c)) = X1 at *
        generalize nf (b ++ c) = X0 at *
        generalize interR a b = X4 at *
        generalize interR a c = X5 at *
        generalize diffR a b = X6 at *
        generalize nf (a ++ b) = X7 at *
        go_enter Try.func15, Try.ntmps15
        go_wp2_with fail
        refine (awake05 _).mono ?_
        rintro e w1 ⟨rfl, kk⟩
        have K1 := Lib.hid kk
        clear kk
        go_wp2_with fail; refine (G1.out _ K1.out).mono ?_; rintro e w2 ⟨v5, rfl, own5, kk⟩; have R1 := Lib.hid (runsAt_own own5); obtain ⟨adR1, cR1, rfl⟩ := (R1).out.slice; have k := Lib.hid kk; clear own5 kk
        have K2 := Lib.hid (K1.out.trans k.out)
        clear k
        go_wp2_with fail; refine (G2.out _ _ K2.out R1.out).mono ?_; rintro e w3 ⟨v5, rfl, own5, kk⟩; have R2 := Lib.hid (runsAt_own own5); obtain ⟨adR2, cR2, rfl⟩ := (R2).out.slice; have k := Lib.hid kk; clear own5 kk
        have K3 := Lib.hid (K2.out.trans k.out)
        have Z3 := Lib.hid k.out
        clear k
        go_wp2_with fail; refine (G3.out _ K3.out).mono ?_; rintro e w4 ⟨v5, rfl, own5, kk⟩; have R3 := Lib.hid (runsAt_own own5); obtain ⟨adR3, cR3, rfl⟩ := (R3).out.slice; have k := Lib.hid kk; clear own5 kk
        have K4 := Lib.hid (K3.out.trans k.out)
        have Z4 := Lib.hid (Z3.out.trans k.out)
        have R2' := Lib.hid (R2.out.kp k.out)
        clear k R2
        go_wp2_with fail; refine (G4.out _ K4.out).mono ?_; rintro e w5 ⟨v5, rfl, own5, kk⟩; have R4 := Lib.hid (runsAt_own own5); obtain ⟨adR4, cR4, rfl⟩ := (R4).out.slice; have k := Lib.hid kk; clear own5 kk
        have K5 := Lib.hid (K4.out.trans k.out)
        have Z5 := Lib.hid (Z4.out.trans k.out)
        have R2 := Lib.hid (R2'.out.kp k.out)
        have R3' := Lib.hid (R3.out.kp k.out)
        clear k R2' R3
        go_wp2_with fail; refine (F1.out _ _ _ R3'.out R4.out).mono ?_; rintro e w6 ⟨v5, rfl, own5, kk⟩; have R5 := Lib.hid (runsAt_own own5); obtain ⟨adR5, cR5, rfl⟩ := (R5).out.slice; have k := Lib.hid kk; clear own5 kk
        have K6 := Lib.hid (K5.out.trans k.out)
        have Z6 := Lib.hid (Z5.out.trans k.out)
        have R2' := Lib.hid (R2.out.kp k.out)
        clear k R2 R3' R4
        go_wp2_with fail; refine (same_any _ _ X1 _ R2'.out R5.out (by omega)).mono ?_; rintro e w7 ⟨rfl, kk⟩; have k := Lib.hid kk; clear kk
        have K7 := Lib.hid (K6.out.trans k.out)
        have Z7 := Lib.hid (Z6.out.trans k.out)
        clear k R2' R5
        go_wp2_with fail; refine (G6.out _ _ K7.out (R1.out.kp Z7.out)).mono ?_; rintro e w8 ⟨v5, rfl, own5, kk⟩; have R6 := Lib.hid (runsAt_own own5); obtain ⟨adR6, cR6, rfl⟩ := (R6).out.slice; have k := Lib.hid kk; clear own5 kk
        have K8 := Lib.hid (K7.out.trans k.out)
        have Z8 := Lib.hid (Z7.out.trans k.out)
        clear k
        go_wp2_with fail; refine (G7.out _ K8.out).mono ?_; rintro e w9 ⟨v5, rfl, own5, kk⟩; have R7 := Lib.hid (runsAt_own own5); obtain ⟨adR7, cR7, rfl⟩ := (R7).out.slice; have k := Lib.hid kk; clear own5 kk
        have K9 := Lib.hid (K8.out.trans k.out)
        have Z9 := Lib.hid (Z8.out.trans k.out)
        have R6' := Lib.hid (R6.out.kp k.out)
        clear k R6
        go_wp2_with fail; refine (F2.out _ _ K9.out R7.out).mono ?_; rintro e w10 ⟨v5, rfl, own5, kk⟩; have R8 := Lib.hid (runsAt_own own5); obtain ⟨adR8, cR8, rfl⟩ := (R8).out.slice; have k := Lib.hid kk; clear own5 kk
        have K10 := Lib.hid (K9.out.trans k.out)
        have Z10 := Lib.hid (Z9.out.trans k.out)
        have R6 := Lib.hid (R6'.out.kp k.out)
        clear k R6' R7
        go_wp2_with fail; refine (same_any _ _ X2 _ R6.out R8.out (by omega)).mono ?_; rintro e w11 ⟨rfl, kk⟩; have k := Lib.hid kk; clear kk
        have K11 := Lib.hid (K10.out.trans k.out)
        have Z11 := Lib.hid (Z10.out.trans k.out)
        clear k R6 R8
        go_wp2_with fail; refine (G9.out _ _ K11.out (R1.out.kp Z11.out)).mono ?_; rintro e w12 ⟨v5, rfl, own5, kk⟩; have R9 := Lib.hid (runsAt_own own5); obtain ⟨adR9, cR9, rfl⟩ := (R9).out.slice; have k := Lib.hid kk; clear own5 kk
        have K12 := Lib.hid (K11.out.trans k.out)
        clear k
        go_wp2_with fail; refine (G10.out _ K12.out).mono ?_; rintro e w13 ⟨v5, rfl, own5, kk⟩; have R10 := Lib.hid (runsAt_own own5); obtain ⟨adR10, cR10, rfl⟩ := (R10).out.slice; have k := Lib.hid kk; clear own5 kk
        have K13 := Lib.hid (K12.out.trans k.out)
        have R9' := Lib.hid (R9.out.kp k.out)
        clear k R9
        go_wp2_with fail; refine (F3.out _ _ K13.out R10.out).mono ?_; rintro e w14 ⟨v5, rfl, own5, kk⟩; have R11 := Lib.hid (runsAt_own own5); obtain ⟨adR11, cR11, rfl⟩ := (R11).out.slice; have k := Lib.hid kk; clear own5 kk
        have K14 := Lib.hid (K13.out.trans k.out)
        have R9 := Lib.hid (R9'.out.kp k.out)
        clear k R9' R10
        go_wp2_with fail; refine (same_any _ _ X3 _ R9.out R11.out (by omega)).mono ?_; rintro e w15 ⟨rfl, kk⟩; have k := Lib.hid kk; clear kk
        have K15 := Lib.hid (K14.out.trans k.out)
        clear k
        go_wp2
        go_ret
        exact ⟨rfl, K15.out⟩
      · have g3 : decide ((30 : Int) < c.length) = true := decide_eq_true (by omega)
        clear ha hb hc
        go_enter Try.func15, Try.ntmps15
        go_wp2_with fail; refine (awake05 _).mono ?_; rintro e w1 ⟨rfl, kk⟩; have K1 := Lib.hid kk; clear kk; go_wp2; go_ret; exact ⟨rfl, K1.out⟩
    · have g2 : decide ((30 : Int) < b.length) = true := decide_eq_true (by omega)
      clear ha hb hc
      go_enter Try.func15, Try.ntmps15
      go_wp2_with fail; refine (awake05 _).mono ?_; rintro e w1 ⟨rfl, kk⟩; have K1 := Lib.hid kk; clear kk; go_wp2; go_ret; exact ⟨rfl, K1.out⟩
  · have g1 : decide ((30 : Int) < a.length) = true := decide_eq_true (by omega)
    clear ha hb hc
    go_enter Try.func15, Try.ntmps15
    go_wp2_with fail; refine (awake05 _).mono ?_; rintro e w1 ⟨rfl, kk⟩; have K1 := Lib.hid kk; clear kk; go_wp2; go_ret; exact ⟨rfl, K1.out⟩
end Go.Proofs.Ytgaadakhkjfbnaa
