/-
  Layer 7: the walk of ImageMore.
-/
import Derived.Test.YtehpngppdcnohaaDoorGImgC
namespace Go.Proofs.YtehpngppdcnohaaDoor
open Go.RowKit
set_option linter.unusedVariables false
set_option linter.unusedSimpArgs false
set_option maxHeartbeats 8000000 in
set_option maxRecDepth 100000 in
theorem imageMore_walk (k : Int) (va vb : Value) (a b : List R) (w : World) (ha : RunsAt w va a) (hb : RunsAt w vb b) (ia : I64R a) (ib : I64R b) (T : Tabs w) :
    Calls Tryd.prog 7 #[.int .i64 k, va, vb] w fun e w' => e = .returned (.bool true) ∧ Kp w w' := by
  obtain ⟨ad, ca, rfl⟩ := ha.slice
  obtain ⟨bd, cb, rfl⟩ := hb.slice
  have A := Lib.hid (awake07 w T)
  by_cases h1 : a.length ≤ 20
  · have g1 : decide ((20 : Int) < a.length) = false := decide_eq_false (by omega)
    by_cases h2 : b.length ≤ 20
    · have g2 : decide ((20 : Int) < b.length) = false := decide_eq_false (by omega)
      have lu : (nf (a ++ b)).length ≤ 1000 := by have := nf_len (a ++ b); rw [List.length_append] at this; omega
      have lm : (interR a b).length ≤ 1000 := by have := interR_bd h1 h2; omega
      have ln : (nf a).length ≤ 1000 := by have := nf_len a; omega
      have lc : ∀ s : List R, s.length ≤ 1000 → (coverR k s).length ≤ 1000 := fun s h => by have := nf_len ((unitsR k s).map (cvF k)); have := cover_len (k := k) h; unfold coverR; omega
      have lx := lc a (by omega)
      have ly := lc b (by omega)
      have iU := sane_i64 (nf_sane (a ++ b))
      have iM := sane_i64 (interR_sane a b)
      have iN := sane_i64 (nf_sane a)
      have iX := sane_i64 (coverR_sane k a)
      have iY := sane_i64 (coverR_sane k b)
      have lZ := lc _ lu
      have lW := lc _ lm
      have CX := Lib.hid (fun w1 (kk : Kp w w1) => cover_any k _ a w1 (ha.kp kk) ia (by omega) (T.kp kk))
      have CY := Lib.hid (fun w1 (kk : Kp w w1) => cover_any k _ b w1 (hb.kp kk) ib (by omega) (T.kp kk))
      have PU := Lib.hid (fun w1 (kk : Kp w w1) => union_any _ _ a b w1 (ha.kp kk) (hb.kp kk) ia ib (by omega))
      have PM := Lib.hid (fun w1 (kk : Kp w w1) => meet_any _ _ a b w1 (ha.kp kk) (hb.kp kk) ia ib (by omega) (by omega))
      have PN := Lib.hid (fun w1 (kk : Kp w w1) => make_any _ a w1 (ha.kp kk) ia (by omega))
      have CU := Lib.hid (fun w1 (kk : Kp w w1) v (h : RunsAt w1 v (nf (a ++ b))) => cover_any k v _ w1 h iU (by omega) (T.kp kk))
      have CM := Lib.hid (fun w1 (kk : Kp w w1) v (h : RunsAt w1 v (interR a b)) => cover_any k v _ w1 h iM (by omega) (T.kp kk))
      have CN := Lib.hid (fun w1 (kk : Kp w w1) v (h : RunsAt w1 v (nf a)) => cover_any k v _ w1 h iN (by omega) (T.kp kk))
      have QU := Lib.hid (fun w1 v u (h : RunsAt w1 v (coverR k a)) (g : RunsAt w1 u (coverR k b)) => union_any v u _ _ w1 h g iX iY (by omega))
      have QM := Lib.hid (fun w1 v u (h : RunsAt w1 v (coverR k a)) (g : RunsAt w1 u (coverR k b)) => meet_any v u _ _ w1 h g iX iY (by omega) (by omega))
      rw [coverR_union] at CU lZ
      rw [coverR_meet] at CM lW
      rw [coverR_make] at CN
      have S1 := Lib.hid (fun w1 v u (h : RunsAt w1 v (nf (coverR k a ++ coverR k b))) (g : RunsAt w1 u (nf (coverR k a ++ coverR k b))) => same_any v u _ w1 h g (by omega))
      have S2 := Lib.hid (fun w1 v u (h : RunsAt w1 v (interR (coverR k a) (coverR k b))) (g : RunsAt w1 u (interR (coverR k a) (coverR k b))) => same_any v u _ w1 h g (by omega))
      have S3 := Lib.hid (fun w1 v u (h : RunsAt w1 v (coverR k a)) (g : RunsAt w1 u (coverR k a)) => same_any v u _ w1 h g (by omega))
      clear ha hb ia ib T lu lm ln lc lx ly iU iM iN iX iY lZ lW
      generalize nf (coverR k a ++ coverR k b) = Z1 at *
      generalize interR (coverR k a) (coverR k b) = Z2 at *
      generalize nf (a ++ b) = U at *
      generalize interR a b = M at *
      generalize coverR k a = X at *
      generalize coverR k b = Y at *
      generalize nf a = NA at *
      go_enter Tryd.func7, Tryd.ntmps7
      go_wp2_with fail
      refine (A.out).mono ?_
      rintro e w0 ⟨rfl, kk⟩
      have K0 := Lib.hid kk
      clear kk A
      go_wp2_with fail
      refine (CX.out _ K0.out).mono ?_
      rintro e w1 ⟨v1, rfl, own, kk⟩
      obtain ⟨sa1, sc1, rfl⟩ := own_slice own
      have RX_1 := Lib.hid (runsAt_own own)
      have KK1 := Lib.hid (K0.out.trans kk)
      clear kk own K0 CX
      go_wp2_with fail
      refine (CY.out _ KK1.out).mono ?_
      rintro e w2 ⟨v2, rfl, own, kk⟩
      obtain ⟨sa2, sc2, rfl⟩ := own_slice own
      have RX_2 := Lib.hid (RX_1.out.kp kk)
      have RY_2 := Lib.hid (runsAt_own own)
      have KK2 := Lib.hid (KK1.out.trans kk)
      clear kk own KK1 RX_1 CY
      go_wp2_with fail
      refine (PU.out _ KK2.out).mono ?_
      rintro e w3 ⟨v3, rfl, own, kk⟩
      obtain ⟨sa3, sc3, rfl⟩ := own_slice own
      have RX_3 := Lib.hid (RX_2.out.kp kk)
      have RY_3 := Lib.hid (RY_2.out.kp kk)
      have RU_3 := Lib.hid (runsAt_own own)
      have KK3 := Lib.hid (KK2.out.trans kk)
      clear kk own KK2 RX_2 RY_2 PU
      go_wp2_with fail
      refine (CU.out _ KK3.out _ RU_3.out).mono ?_
      rintro e w4 ⟨v4, rfl, own, kk⟩
      obtain ⟨sa4, sc4, rfl⟩ := own_slice own
      have RX_4 := Lib.hid (RX_3.out.kp kk)
      have RY_4 := Lib.hid (RY_3.out.kp kk)
      have RU_4 := Lib.hid (RU_3.out.kp kk)
      have RZ_4 := Lib.hid (runsAt_own own)
      have KK4 := Lib.hid (KK3.out.trans kk)
      clear kk own KK3 RX_3 RY_3 RU_3 CU
      go_wp2_with fail
      refine (QU.out _ _ _ RX_4.out RY_4.out).mono ?_
      rintro e w5 ⟨v5, rfl, own, kk⟩
      obtain ⟨sa5, sc5, rfl⟩ := own_slice own
      have RX_5 := Lib.hid (RX_4.out.kp kk)
      have RY_5 := Lib.hid (RY_4.out.kp kk)
      have RZ_5 := Lib.hid (RZ_4.out.kp kk)
      have RW_5 := Lib.hid (runsAt_own own)
      have KK5 := Lib.hid (KK4.out.trans kk)
      clear kk own KK4 RX_4 RY_4 RZ_4 QU
      go_wp2_with fail
      refine (S1.out _ _ _ RZ_5.out RW_5.out).mono ?_
      rintro e w6 ⟨rfl, kk⟩
      have RX_6 := Lib.hid (RX_5.out.kp kk)
      have RY_6 := Lib.hid (RY_5.out.kp kk)
      have RZ_6 := Lib.hid (RZ_5.out.kp kk)
      have RW_6 := Lib.hid (RW_5.out.kp kk)
      have KK6 := Lib.hid (KK5.out.trans kk)
      clear kk KK5 RX_5 RY_5 RZ_5 RW_5 S1
      go_wp2_with fail
      refine (PM.out _ KK6.out).mono ?_
      rintro e w7 ⟨v7, rfl, own, kk⟩
      obtain ⟨sa7, sc7, rfl⟩ := own_slice own
      have RX_7 := Lib.hid (RX_6.out.kp kk)
      have RY_7 := Lib.hid (RY_6.out.kp kk)
      have RM_7 := Lib.hid (runsAt_own own)
      have KK7 := Lib.hid (KK6.out.trans kk)
      clear kk own KK6 RX_6 RY_6 PM
      go_wp2_with fail
      refine (CM.out _ KK7.out _ RM_7.out).mono ?_
      rintro e w8 ⟨v8, rfl, own, kk⟩
      obtain ⟨sa8, sc8, rfl⟩ := own_slice own
      have RX_8 := Lib.hid (RX_7.out.kp kk)
      have RY_8 := Lib.hid (RY_7.out.kp kk)
      have RM_8 := Lib.hid (RM_7.out.kp kk)
      have RZ_8 := Lib.hid (runsAt_own own)
      have KK8 := Lib.hid (KK7.out.trans kk)
      clear kk own KK7 RX_7 RY_7 RM_7 CM
      go_wp2_with fail
      refine (QM.out _ _ _ RX_8.out RY_8.out).mono ?_
      rintro e w9 ⟨v9, rfl, own, kk⟩
      obtain ⟨sa9, sc9, rfl⟩ := own_slice own
      have RX_9 := Lib.hid (RX_8.out.kp kk)
      have RY_9 := Lib.hid (RY_8.out.kp kk)
      have RZ_9 := Lib.hid (RZ_8.out.kp kk)
      have RW_9 := Lib.hid (runsAt_own own)
      have KK9 := Lib.hid (KK8.out.trans kk)
      clear kk own KK8 RX_8 RY_8 RZ_8 QM
      go_wp2_with fail
      refine (S2.out _ _ _ RZ_9.out RW_9.out).mono ?_
      rintro e w10 ⟨rfl, kk⟩
      have RX_10 := Lib.hid (RX_9.out.kp kk)
      have RZ_10 := Lib.hid (RZ_9.out.kp kk)
      have RW_10 := Lib.hid (RW_9.out.kp kk)
      have KK10 := Lib.hid (KK9.out.trans kk)
      clear kk KK9 RX_9 RZ_9 RW_9 S2
      go_wp2_with fail
      refine (PN.out _ KK10.out).mono ?_
      rintro e w11 ⟨v11, rfl, own, kk⟩
      obtain ⟨sa11, sc11, rfl⟩ := own_slice own
      have RX_11 := Lib.hid (RX_10.out.kp kk)
      have RN_11 := Lib.hid (runsAt_own own)
      have KK11 := Lib.hid (KK10.out.trans kk)
      clear kk own KK10 RX_10 PN
      go_wp2_with fail
      refine (CN.out _ KK11.out _ RN_11.out).mono ?_
      rintro e w12 ⟨v12, rfl, own, kk⟩
      obtain ⟨sa12, sc12, rfl⟩ := own_slice own
      have RX_12 := Lib.hid (RX_11.out.kp kk)
      have RN_12 := Lib.hid (RN_11.out.kp kk)
      have RZ_12 := Lib.hid (runsAt_own own)
      have KK12 := Lib.hid (KK11.out.trans kk)
      clear kk own KK11 RX_11 RN_11 CN
      go_wp2_with fail
      refine (S3.out _ _ _ RZ_12.out RX_12.out).mono ?_
      rintro e w13 ⟨rfl, kk⟩
      have RX_13 := Lib.hid (RX_12.out.kp kk)
      have RZ_13 := Lib.hid (RZ_12.out.kp kk)
      have KK13 := Lib.hid (KK12.out.trans kk)
      clear kk KK12 RX_12 RZ_12 S3
      go_wp2
      go_ret
      exact ⟨rfl, KK13.out⟩
    · have g2 : decide ((20 : Int) < b.length) = true := decide_eq_true (by omega)
      clear ha hb ia ib T
      go_enter Tryd.func7, Tryd.ntmps7
      go_wp2_with fail
      refine (A.out).mono ?_
      rintro e w0 ⟨rfl, kk⟩
      have K0 := Lib.hid kk
      clear kk
      go_wp2
      go_ret
      exact ⟨rfl, K0.out⟩
  · have g1 : decide ((20 : Int) < a.length) = true := decide_eq_true (by omega)
    clear ha hb ia ib T
    go_enter Tryd.func7, Tryd.ntmps7
    go_wp2_with fail
    refine (A.out).mono ?_
    rintro e w0 ⟨rfl, kk⟩
    have K0 := Lib.hid kk
    clear kk
    go_wp2
    go_ret
    exact ⟨rfl, K0.out⟩
end Go.Proofs.YtehpngppdcnohaaDoor
