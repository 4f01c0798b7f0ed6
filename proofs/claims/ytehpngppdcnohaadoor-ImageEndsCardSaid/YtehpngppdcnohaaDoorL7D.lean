/-
  Layer 7: the walk of ImageEnds.
-/
import Derived.Test.YtehpngppdcnohaaDoorGImgC
namespace Go.Proofs.YtehpngppdcnohaaDoor
open Go.RowKit
set_option linter.unusedVariables false
set_option linter.unusedSimpArgs false
set_option maxHeartbeats 8000000 in
set_option maxRecDepth 100000 in
theorem imageEnds_walk (k : Int) (va : Value) (a : List R) (d : Int) (w : World) (ha : RunsAt w va a) (ia : I64R a) (T : Tabs w) (k1 : -9223372036854775808 ≤ d) (k2 : d ≤ 9223372036854775807) :
    Calls Tryd.prog 5 #[.int .i64 k, va, .int .i64 d] w fun e w' => e = .returned (.bool true) ∧ Kp w w' := by
  obtain ⟨ad, ca, rfl⟩ := ha.slice
  have A := Lib.hid (awake07 w T)
  by_cases h1 : a.length ≤ 40
  · have g1 : decide ((40 : Int) < a.length) = false := decide_eq_false (by omega)
    have cb := cnt_bd k
    have xb := ofV_bd k d
    have P1 := Lib.hid (fun w1 (kk : Kp w w1) => starts_any k _ a w1 (ha.kp kk) ia (by omega) (T.kp kk))
    have P2 := Lib.hid (fun w1 (kk : Kp w w1) => ends_any k _ a w1 (ha.kp kk) ia (by omega) (T.kp kk))
    have PC := Lib.hid (fun w1 (kk : Kp w w1) => (count_any k w1 (T.kp kk).2).mono (R' := fun e w' => e = .returned (.int .i64 (cnt k)) ∧ Kp w1 w') (fun e w' h => ⟨h.1, by rw [← h.2]; exact Kp.refl _⟩))
    have PL := Lib.hid (fun w1 (kk : Kp w w1) => clip_any _ a 0 (cnt k - 1) w1 (ha.kp kk) ia (by omega) (i64_one (by omega) (by omega) (by omega) (by omega)))
    have EU : interR a [(0, cnt k - 1)] = unitsR k a := rfl
    rw [EU] at PL
    have us := unitsR_sane k a
    have PN := Lib.hid (fun w1 v (h : RunsAt w1 v (unitsR k a)) => scount_any v _ w1 h (sane_i64 us) (by have := unitsR_len (k := k) h1; omega))
    rw [nf_of_sane us] at PN
    have PO := Lib.hid (fun w1 (kk : Kp w w1) => of_any k d w1 (T.kp kk).1 (T.kp kk).2)
    have PF := Lib.hid (fun w1 (kk : Kp w w1) => first_any k (ofV k d) w1 (T.kp kk).1 (T.kp kk).2)
    have PE := Lib.hid (fun w1 (kk : Kp w w1) => last_any k (ofV k d) w1 (T.kp kk).1 (T.kp kk).2)
    have PH := Lib.hid (fun w1 (kk : Kp w w1) => has_any ad ca a (ofV k d) w1 (ha.kp kk) ia (by omega) (by omega) (by omega))
    have s1 := edgR_fsane k a
    have s2 := edgR_lsane k a
    have l1 := edgR_len (firV k) k a
    have l2 := edgR_len (lasV k) k a
    have Y1 := Lib.hid (fun w1 v (h : RunsAt w1 v (edgR (firV k) k a)) => sane_yes v _ w1 h s1)
    have Y2 := Lib.hid (fun w1 v (h : RunsAt w1 v (edgR (lasV k) k a)) => sane_yes v _ w1 h s2)
    have H1 := Lib.hid (fun w1 ad1 c1 (h : RunsAt w1 (.slice ad1 (edgR (firV k) k a).length c1) (edgR (firV k) k a)) => has_any ad1 c1 _ d w1 h (sane_i64 s1) (by omega) k1 k2)
    have H2 := Lib.hid (fun w1 ad1 c1 (h : RunsAt w1 (.slice ad1 (edgR (lasV k) k a).length c1) (edgR (lasV k) k a)) => has_any ad1 c1 _ d w1 h (sane_i64 s2) (by omega) k1 k2)
    have N1 := Lib.hid (fun w1 v (h : RunsAt w1 v (edgR (firV k) k a)) => scount_any v _ w1 h (sane_i64 s1) (by omega))
    have N2 := Lib.hid (fun w1 v (h : RunsAt w1 v (edgR (lasV k) k a)) => scount_any v _ w1 h (sane_i64 s2) (by omega))
    rw [nf_of_sane s1] at N1
    rw [nf_of_sane s2] at N2
    have BK : k ≠ 0 → edgB k a = decide (sumR (unitsR k a) ≤ 400) := fun h => edgB_sum h
    have B0 : k = 0 → edgB k a = true := fun h => by subst h; exact edgB_day (by omega)
    by_cases hb : edgB k a = true
    · have E1 : hasB (nf (edgR (firV k) k a)) d = (okO k d && (hasB (nf a) (ofV k d) && (firV k (ofV k d) == d))) := bool_iff (by
        rw [hasB_nf, edgR_fmem hb, Bool.and_eq_true, Bool.and_eq_true, hasB_nf, beq_iff_eq]
        constructor
        · rintro ⟨o, h, g⟩; obtain ⟨u1, u2, _⟩ := unum_ok o; unfold ofV; rw [if_pos o, firV_in u1 u2]; exact ⟨o, h, g⟩
        · rintro ⟨o, h, g⟩; obtain ⟨u1, u2, _⟩ := unum_ok o; unfold ofV at h g; rw [if_pos o] at h g; rw [firV_in u1 u2] at g; exact ⟨o, h, g⟩)
      have E2 : hasB (nf (edgR (lasV k) k a)) d = (okO k d && (hasB (nf a) (ofV k d) && (lasV k (ofV k d) == d))) := bool_iff (by
        rw [hasB_nf, edgR_lmem hb, Bool.and_eq_true, Bool.and_eq_true, hasB_nf, beq_iff_eq]
        constructor
        · rintro ⟨o, h, g⟩; obtain ⟨u1, u2, _⟩ := unum_ok o; unfold ofV; rw [if_pos o, lasV_in u1 u2]; exact ⟨o, h, g⟩
        · rintro ⟨o, h, g⟩; obtain ⟨u1, u2, _⟩ := unum_ok o; unfold ofV at h g; rw [if_pos o] at h g; rw [lasV_in u1 u2] at g; exact ⟨o, h, g⟩)
      rw [E1] at H1
      rw [E2] at H2
      rw [edgR_fsum hb] at N1
      rw [edgR_lsum hb] at N2
      rw [hb] at P1 P2 BK
      clear E1 E2 s1 s2 l1 l2 EU us ha ia T k1 k2 B0 hb
      generalize edgR (firV k) k a = X1 at *
      generalize edgR (lasV k) k a = X2 at *
      generalize hasB (nf a) (ofV k d) = p at *
      generalize firV k (ofV k d) = fx at *
      generalize lasV k (ofV k d) = ly at *
      generalize okU k (ofV k d) = oo at *
      generalize ofV k d = x at *
      generalize okO k d = o at *
      generalize unitsR k a = L at *
      generalize sumR L = u at *
      generalize cnt k = m at *
      by_cases kz : k = 0
      · subst kz
        clear BK
        cases o with
        | false =>
          simp only [Bool.false_and] at H1 H2
          go_enter Tryd.func5, Tryd.ntmps5
          go_wp2_with fail
          refine (A.out).mono ?_
          rintro e w0 ⟨rfl, kk⟩
          have K0 := Lib.hid kk
          clear kk A
          go_wp2_with fail
          refine (P1.out _ K0.out).mono ?_
          rintro e w1 ⟨v1, rfl, own, kk⟩
          obtain ⟨sa1, sc1, rfl⟩ := own_slice own
          have RA_1 := Lib.hid (runsAt_own own)
          have KK1 := Lib.hid (K0.out.trans kk)
          clear kk own K0 P1
          go_wp2_with fail
          refine (P2.out _ KK1.out).mono ?_
          rintro e w2 ⟨v2, rfl, own, kk⟩
          obtain ⟨sa2, sc2, rfl⟩ := own_slice own
          have RA_2 := Lib.hid (RA_1.out.kp kk)
          have RB_2 := Lib.hid (runsAt_own own)
          have KK2 := Lib.hid (KK1.out.trans kk)
          clear kk own KK1 RA_1 P2
          go_wp2_with fail
          refine (PC.out _ KK2.out).mono ?_
          rintro e w3 ⟨rfl, kk⟩
          have RA_3 := Lib.hid (RA_2.out.kp kk)
          have RB_3 := Lib.hid (RB_2.out.kp kk)
          have KK3 := Lib.hid (KK2.out.trans kk)
          clear kk KK2 RA_2 RB_2 PC
          go_wp2_with fail
          refine (PL.out _ KK3.out).mono ?_
          rintro e w4 ⟨v4, rfl, own, kk⟩
          obtain ⟨sa4, sc4, rfl⟩ := own_slice own
          have RA_4 := Lib.hid (RA_3.out.kp kk)
          have RB_4 := Lib.hid (RB_3.out.kp kk)
          have RL_4 := Lib.hid (runsAt_own own)
          have KK4 := Lib.hid (KK3.out.trans kk)
          clear kk own KK3 RA_3 RB_3 PL
          go_wp2_with fail
          refine (PN.out _ _ RL_4.out).mono ?_
          rintro e w5 ⟨rfl, kk⟩
          have RA_5 := Lib.hid (RA_4.out.kp kk)
          have RB_5 := Lib.hid (RB_4.out.kp kk)
          have RL_5 := Lib.hid (RL_4.out.kp kk)
          have KK5 := Lib.hid (KK4.out.trans kk)
          clear kk KK4 RA_4 RB_4 RL_4 PN
          go_wp2_with fail
          refine (PO.out _ KK5.out).mono ?_
          rintro e w6 ⟨rfl, kk⟩
          have RA_6 := Lib.hid (RA_5.out.kp kk)
          have RB_6 := Lib.hid (RB_5.out.kp kk)
          have KK6 := Lib.hid (KK5.out.trans kk)
          clear kk KK5 RA_5 RB_5 PO
          go_wp2_with fail
          refine (PF.out _ KK6.out).mono ?_
          rintro e w7 ⟨rfl, kk⟩
          have RA_7 := Lib.hid (RA_6.out.kp kk)
          have RB_7 := Lib.hid (RB_6.out.kp kk)
          have KK7 := Lib.hid (KK6.out.trans kk)
          clear kk KK6 RA_6 RB_6 PF
          go_wp2_with fail
          refine (PE.out _ KK7.out).mono ?_
          rintro e w8 ⟨rfl, kk⟩
          have RA_8 := Lib.hid (RA_7.out.kp kk)
          have RB_8 := Lib.hid (RB_7.out.kp kk)
          have KK8 := Lib.hid (KK7.out.trans kk)
          clear kk KK7 RA_7 RB_7 PE
          go_wp2_with fail
          refine (Y1.out _ _ RA_8.out).mono ?_
          rintro e w9 ⟨rfl, kk⟩
          have RA_9 := Lib.hid (RA_8.out.kp kk)
          have RB_9 := Lib.hid (RB_8.out.kp kk)
          have KK9 := Lib.hid (KK8.out.trans kk)
          clear kk KK8 RA_8 RB_8 Y1
          go_wp2_with fail
          refine (Y2.out _ _ RB_9.out).mono ?_
          rintro e w10 ⟨rfl, kk⟩
          have RA_10 := Lib.hid (RA_9.out.kp kk)
          have RB_10 := Lib.hid (RB_9.out.kp kk)
          have KK10 := Lib.hid (KK9.out.trans kk)
          clear kk KK9 RA_9 RB_9 Y2
          go_wp2_with fail
          refine (H1.out _ _ _ RA_10.out).mono ?_
          rintro e w11 ⟨rfl, kk⟩
          have RA_11 := Lib.hid (RA_10.out.kp kk)
          have RB_11 := Lib.hid (RB_10.out.kp kk)
          have KK11 := Lib.hid (KK10.out.trans kk)
          clear kk KK10 RA_10 RB_10 H1
          go_wp2_with fail
          refine (H2.out _ _ _ RB_11.out).mono ?_
          rintro e w12 ⟨rfl, kk⟩
          have RA_12 := Lib.hid (RA_11.out.kp kk)
          have RB_12 := Lib.hid (RB_11.out.kp kk)
          have KK12 := Lib.hid (KK11.out.trans kk)
          clear kk KK11 RA_11 RB_11 H2
          go_wp2_with fail
          refine (N1.out _ _ RA_12.out).mono ?_
          rintro e w13 ⟨rfl, kk⟩
          have RA_13 := Lib.hid (RA_12.out.kp kk)
          have RB_13 := Lib.hid (RB_12.out.kp kk)
          have KK13 := Lib.hid (KK12.out.trans kk)
          clear kk KK12 RA_12 RB_12 N1
          go_wp2_with fail
          refine (N2.out _ _ RB_13.out).mono ?_
          rintro e w14 ⟨rfl, kk⟩
          have RB_14 := Lib.hid (RB_13.out.kp kk)
          have KK14 := Lib.hid (KK13.out.trans kk)
          clear kk KK13 RB_13 N2
          go_wp2
          go_ret
          exact ⟨rfl, KK14.out⟩
        | true =>
          cases p with
          | false =>
            simp only [Bool.false_and, Bool.and_false, Bool.true_and] at H1 H2
            go_enter Tryd.func5, Tryd.ntmps5
            go_wp2_with fail
            refine (A.out).mono ?_
            rintro e w0 ⟨rfl, kk⟩
            have K0 := Lib.hid kk
            clear kk A
            go_wp2_with fail
            refine (P1.out _ K0.out).mono ?_
            rintro e w1 ⟨v1, rfl, own, kk⟩
            obtain ⟨sa1, sc1, rfl⟩ := own_slice own
            have RA_1 := Lib.hid (runsAt_own own)
            have KK1 := Lib.hid (K0.out.trans kk)
            clear kk own K0 P1
            go_wp2_with fail
            refine (P2.out _ KK1.out).mono ?_
            rintro e w2 ⟨v2, rfl, own, kk⟩
            obtain ⟨sa2, sc2, rfl⟩ := own_slice own
            have RA_2 := Lib.hid (RA_1.out.kp kk)
            have RB_2 := Lib.hid (runsAt_own own)
            have KK2 := Lib.hid (KK1.out.trans kk)
            clear kk own KK1 RA_1 P2
            go_wp2_with fail
            refine (PC.out _ KK2.out).mono ?_
            rintro e w3 ⟨rfl, kk⟩
            have RA_3 := Lib.hid (RA_2.out.kp kk)
            have RB_3 := Lib.hid (RB_2.out.kp kk)
            have KK3 := Lib.hid (KK2.out.trans kk)
            clear kk KK2 RA_2 RB_2 PC
            go_wp2_with fail
            refine (PL.out _ KK3.out).mono ?_
            rintro e w4 ⟨v4, rfl, own, kk⟩
            obtain ⟨sa4, sc4, rfl⟩ := own_slice own
            have RA_4 := Lib.hid (RA_3.out.kp kk)
            have RB_4 := Lib.hid (RB_3.out.kp kk)
            have RL_4 := Lib.hid (runsAt_own own)
            have KK4 := Lib.hid (KK3.out.trans kk)
            clear kk own KK3 RA_3 RB_3 PL
            go_wp2_with fail
            refine (PN.out _ _ RL_4.out).mono ?_
            rintro e w5 ⟨rfl, kk⟩
            have RA_5 := Lib.hid (RA_4.out.kp kk)
            have RB_5 := Lib.hid (RB_4.out.kp kk)
            have RL_5 := Lib.hid (RL_4.out.kp kk)
            have KK5 := Lib.hid (KK4.out.trans kk)
            clear kk KK4 RA_4 RB_4 RL_4 PN
            go_wp2_with fail
            refine (PO.out _ KK5.out).mono ?_
            rintro e w6 ⟨rfl, kk⟩
            have RA_6 := Lib.hid (RA_5.out.kp kk)
            have RB_6 := Lib.hid (RB_5.out.kp kk)
            have KK6 := Lib.hid (KK5.out.trans kk)
            clear kk KK5 RA_5 RB_5 PO
            go_wp2_with fail
            refine (PF.out _ KK6.out).mono ?_
            rintro e w7 ⟨rfl, kk⟩
            have RA_7 := Lib.hid (RA_6.out.kp kk)
            have RB_7 := Lib.hid (RB_6.out.kp kk)
            have KK7 := Lib.hid (KK6.out.trans kk)
            clear kk KK6 RA_6 RB_6 PF
            go_wp2_with fail
            refine (PE.out _ KK7.out).mono ?_
            rintro e w8 ⟨rfl, kk⟩
            have RA_8 := Lib.hid (RA_7.out.kp kk)
            have RB_8 := Lib.hid (RB_7.out.kp kk)
            have KK8 := Lib.hid (KK7.out.trans kk)
            clear kk KK7 RA_7 RB_7 PE
            go_wp2_with fail
            refine (PH.out _ KK8.out).mono ?_
            rintro e w9 ⟨rfl, kk⟩
            have RA_9 := Lib.hid (RA_8.out.kp kk)
            have RB_9 := Lib.hid (RB_8.out.kp kk)
            have KK9 := Lib.hid (KK8.out.trans kk)
            clear kk KK8 RA_8 RB_8 PH
            go_wp2_with fail
            refine (Y1.out _ _ RA_9.out).mono ?_
            rintro e w10 ⟨rfl, kk⟩
            have RA_10 := Lib.hid (RA_9.out.kp kk)
            have RB_10 := Lib.hid (RB_9.out.kp kk)
            have KK10 := Lib.hid (KK9.out.trans kk)
            clear kk KK9 RA_9 RB_9 Y1
            go_wp2_with fail
            refine (Y2.out _ _ RB_10.out).mono ?_
            rintro e w11 ⟨rfl, kk⟩
            have RA_11 := Lib.hid (RA_10.out.kp kk)
            have RB_11 := Lib.hid (RB_10.out.kp kk)
            have KK11 := Lib.hid (KK10.out.trans kk)
            clear kk KK10 RA_10 RB_10 Y2
            go_wp2_with fail
            refine (H1.out _ _ _ RA_11.out).mono ?_
            rintro e w12 ⟨rfl, kk⟩
            have RA_12 := Lib.hid (RA_11.out.kp kk)
            have RB_12 := Lib.hid (RB_11.out.kp kk)
            have KK12 := Lib.hid (KK11.out.trans kk)
            clear kk KK11 RA_11 RB_11 H1
            go_wp2_with fail
            refine (H2.out _ _ _ RB_12.out).mono ?_
            rintro e w13 ⟨rfl, kk⟩
            have RA_13 := Lib.hid (RA_12.out.kp kk)
            have RB_13 := Lib.hid (RB_12.out.kp kk)
            have KK13 := Lib.hid (KK12.out.trans kk)
            clear kk KK12 RA_12 RB_12 H2
            go_wp2_with fail
            refine (N1.out _ _ RA_13.out).mono ?_
            rintro e w14 ⟨rfl, kk⟩
            have RA_14 := Lib.hid (RA_13.out.kp kk)
            have RB_14 := Lib.hid (RB_13.out.kp kk)
            have KK14 := Lib.hid (KK13.out.trans kk)
            clear kk KK13 RA_13 RB_13 N1
            go_wp2_with fail
            refine (N2.out _ _ RB_14.out).mono ?_
            rintro e w15 ⟨rfl, kk⟩
            have RB_15 := Lib.hid (RB_14.out.kp kk)
            have KK15 := Lib.hid (KK14.out.trans kk)
            clear kk KK14 RB_14 N2
            go_wp2
            go_ret
            exact ⟨rfl, KK15.out⟩
          | true =>
            simp only [Bool.true_and] at H1 H2
            obtain ⟨e1, q1⟩ : ∃ e, (fx == d) = e := ⟨_, rfl⟩
            obtain ⟨e2, q2⟩ : ∃ e, (ly == d) = e := ⟨_, rfl⟩
            rw [q1] at H1
            rw [q2] at H2
            cases e1 <;> cases e2
            all_goals
              go_enter Tryd.func5, Tryd.ntmps5
              go_wp2_with fail
              refine (A.out).mono ?_
              rintro e w0 ⟨rfl, kk⟩
              have K0 := Lib.hid kk
              clear kk A
              go_wp2_with fail
              refine (P1.out _ K0.out).mono ?_
              rintro e w1 ⟨v1, rfl, own, kk⟩
              obtain ⟨sa1, sc1, rfl⟩ := own_slice own
              have RA_1 := Lib.hid (runsAt_own own)
              have KK1 := Lib.hid (K0.out.trans kk)
              clear kk own K0 P1
              go_wp2_with fail
              refine (P2.out _ KK1.out).mono ?_
              rintro e w2 ⟨v2, rfl, own, kk⟩
              obtain ⟨sa2, sc2, rfl⟩ := own_slice own
              have RA_2 := Lib.hid (RA_1.out.kp kk)
              have RB_2 := Lib.hid (runsAt_own own)
              have KK2 := Lib.hid (KK1.out.trans kk)
              clear kk own KK1 RA_1 P2
              go_wp2_with fail
              refine (PC.out _ KK2.out).mono ?_
              rintro e w3 ⟨rfl, kk⟩
              have RA_3 := Lib.hid (RA_2.out.kp kk)
              have RB_3 := Lib.hid (RB_2.out.kp kk)
              have KK3 := Lib.hid (KK2.out.trans kk)
              clear kk KK2 RA_2 RB_2 PC
              go_wp2_with fail
              refine (PL.out _ KK3.out).mono ?_
              rintro e w4 ⟨v4, rfl, own, kk⟩
              obtain ⟨sa4, sc4, rfl⟩ := own_slice own
              have RA_4 := Lib.hid (RA_3.out.kp kk)
              have RB_4 := Lib.hid (RB_3.out.kp kk)
              have RL_4 := Lib.hid (runsAt_own own)
              have KK4 := Lib.hid (KK3.out.trans kk)
              clear kk own KK3 RA_3 RB_3 PL
              go_wp2_with fail
              refine (PN.out _ _ RL_4.out).mono ?_
              rintro e w5 ⟨rfl, kk⟩
              have RA_5 := Lib.hid (RA_4.out.kp kk)
              have RB_5 := Lib.hid (RB_4.out.kp kk)
              have RL_5 := Lib.hid (RL_4.out.kp kk)
              have KK5 := Lib.hid (KK4.out.trans kk)
              clear kk KK4 RA_4 RB_4 RL_4 PN
              go_wp2_with fail
              refine (PO.out _ KK5.out).mono ?_
              rintro e w6 ⟨rfl, kk⟩
              have RA_6 := Lib.hid (RA_5.out.kp kk)
              have RB_6 := Lib.hid (RB_5.out.kp kk)
              have KK6 := Lib.hid (KK5.out.trans kk)
              clear kk KK5 RA_5 RB_5 PO
              go_wp2_with fail
              refine (PF.out _ KK6.out).mono ?_
              rintro e w7 ⟨rfl, kk⟩
              have RA_7 := Lib.hid (RA_6.out.kp kk)
              have RB_7 := Lib.hid (RB_6.out.kp kk)
              have KK7 := Lib.hid (KK6.out.trans kk)
              clear kk KK6 RA_6 RB_6 PF
              go_wp2_with fail
              refine (PE.out _ KK7.out).mono ?_
              rintro e w8 ⟨rfl, kk⟩
              have RA_8 := Lib.hid (RA_7.out.kp kk)
              have RB_8 := Lib.hid (RB_7.out.kp kk)
              have KK8 := Lib.hid (KK7.out.trans kk)
              clear kk KK7 RA_7 RB_7 PE
              go_wp2_with fail
              refine (PH.out _ KK8.out).mono ?_
              rintro e w9 ⟨rfl, kk⟩
              have RA_9 := Lib.hid (RA_8.out.kp kk)
              have RB_9 := Lib.hid (RB_8.out.kp kk)
              have KK9 := Lib.hid (KK8.out.trans kk)
              clear kk KK8 RA_8 RB_8 PH
              go_wp2_with fail
              refine (Y1.out _ _ RA_9.out).mono ?_
              rintro e w10 ⟨rfl, kk⟩
              have RA_10 := Lib.hid (RA_9.out.kp kk)
              have RB_10 := Lib.hid (RB_9.out.kp kk)
              have KK10 := Lib.hid (KK9.out.trans kk)
              clear kk KK9 RA_9 RB_9 Y1
              go_wp2_with fail
              refine (Y2.out _ _ RB_10.out).mono ?_
              rintro e w11 ⟨rfl, kk⟩
              have RA_11 := Lib.hid (RA_10.out.kp kk)
              have RB_11 := Lib.hid (RB_10.out.kp kk)
              have KK11 := Lib.hid (KK10.out.trans kk)
              clear kk KK10 RA_10 RB_10 Y2
              go_wp2_with fail
              refine (H1.out _ _ _ RA_11.out).mono ?_
              rintro e w12 ⟨rfl, kk⟩
              have RA_12 := Lib.hid (RA_11.out.kp kk)
              have RB_12 := Lib.hid (RB_11.out.kp kk)
              have KK12 := Lib.hid (KK11.out.trans kk)
              clear kk KK11 RA_11 RB_11 H1
              go_wp2_with fail
              refine (H2.out _ _ _ RB_12.out).mono ?_
              rintro e w13 ⟨rfl, kk⟩
              have RA_13 := Lib.hid (RA_12.out.kp kk)
              have RB_13 := Lib.hid (RB_12.out.kp kk)
              have KK13 := Lib.hid (KK12.out.trans kk)
              clear kk KK12 RA_12 RB_12 H2
              go_wp2_with fail
              refine (N1.out _ _ RA_13.out).mono ?_
              rintro e w14 ⟨rfl, kk⟩
              have RA_14 := Lib.hid (RA_13.out.kp kk)
              have RB_14 := Lib.hid (RB_13.out.kp kk)
              have KK14 := Lib.hid (KK13.out.trans kk)
              clear kk KK13 RA_13 RB_13 N1
              go_wp2_with fail
              refine (N2.out _ _ RB_14.out).mono ?_
              rintro e w15 ⟨rfl, kk⟩
              have RB_15 := Lib.hid (RB_14.out.kp kk)
              have KK15 := Lib.hid (KK14.out.trans kk)
              clear kk KK14 RB_14 N2
              go_wp2
              go_ret
              exact ⟨rfl, KK15.out⟩
      · have kq : (k == 0) = false := by simp [kz]
        have ub : u ≤ 400 := of_decide_eq_true (BK kz).symm
        have uq : decide (u ≤ 400) = true := decide_eq_true ub
        clear BK
        cases o with
        | false =>
          simp only [Bool.false_and] at H1 H2
          go_enter Tryd.func5, Tryd.ntmps5
          go_wp2_with fail
          refine (A.out).mono ?_
          rintro e w0 ⟨rfl, kk⟩
          have K0 := Lib.hid kk
          clear kk A
          go_wp2_with fail
          refine (P1.out _ K0.out).mono ?_
          rintro e w1 ⟨v1, rfl, own, kk⟩
          obtain ⟨sa1, sc1, rfl⟩ := own_slice own
          have RA_1 := Lib.hid (runsAt_own own)
          have KK1 := Lib.hid (K0.out.trans kk)
          clear kk own K0 P1
          go_wp2_with fail
          refine (P2.out _ KK1.out).mono ?_
          rintro e w2 ⟨v2, rfl, own, kk⟩
          obtain ⟨sa2, sc2, rfl⟩ := own_slice own
          have RA_2 := Lib.hid (RA_1.out.kp kk)
          have RB_2 := Lib.hid (runsAt_own own)
          have KK2 := Lib.hid (KK1.out.trans kk)
          clear kk own KK1 RA_1 P2
          go_wp2_with fail
          refine (PC.out _ KK2.out).mono ?_
          rintro e w3 ⟨rfl, kk⟩
          have RA_3 := Lib.hid (RA_2.out.kp kk)
          have RB_3 := Lib.hid (RB_2.out.kp kk)
          have KK3 := Lib.hid (KK2.out.trans kk)
          clear kk KK2 RA_2 RB_2 PC
          go_wp2_with fail
          refine (PL.out _ KK3.out).mono ?_
          rintro e w4 ⟨v4, rfl, own, kk⟩
          obtain ⟨sa4, sc4, rfl⟩ := own_slice own
          have RA_4 := Lib.hid (RA_3.out.kp kk)
          have RB_4 := Lib.hid (RB_3.out.kp kk)
          have RL_4 := Lib.hid (runsAt_own own)
          have KK4 := Lib.hid (KK3.out.trans kk)
          clear kk own KK3 RA_3 RB_3 PL
          go_wp2_with fail
          refine (PN.out _ _ RL_4.out).mono ?_
          rintro e w5 ⟨rfl, kk⟩
          have RA_5 := Lib.hid (RA_4.out.kp kk)
          have RB_5 := Lib.hid (RB_4.out.kp kk)
          have RL_5 := Lib.hid (RL_4.out.kp kk)
          have KK5 := Lib.hid (KK4.out.trans kk)
          clear kk KK4 RA_4 RB_4 RL_4 PN
          go_wp2_with fail
          refine (PO.out _ KK5.out).mono ?_
          rintro e w6 ⟨rfl, kk⟩
          have RA_6 := Lib.hid (RA_5.out.kp kk)
          have RB_6 := Lib.hid (RB_5.out.kp kk)
          have KK6 := Lib.hid (KK5.out.trans kk)
          clear kk KK5 RA_5 RB_5 PO
          go_wp2_with fail
          refine (PF.out _ KK6.out).mono ?_
          rintro e w7 ⟨rfl, kk⟩
          have RA_7 := Lib.hid (RA_6.out.kp kk)
          have RB_7 := Lib.hid (RB_6.out.kp kk)
          have KK7 := Lib.hid (KK6.out.trans kk)
          clear kk KK6 RA_6 RB_6 PF
          go_wp2_with fail
          refine (PE.out _ KK7.out).mono ?_
          rintro e w8 ⟨rfl, kk⟩
          have RA_8 := Lib.hid (RA_7.out.kp kk)
          have RB_8 := Lib.hid (RB_7.out.kp kk)
          have KK8 := Lib.hid (KK7.out.trans kk)
          clear kk KK7 RA_7 RB_7 PE
          go_wp2_with fail
          refine (Y1.out _ _ RA_8.out).mono ?_
          rintro e w9 ⟨rfl, kk⟩
          have RA_9 := Lib.hid (RA_8.out.kp kk)
          have RB_9 := Lib.hid (RB_8.out.kp kk)
          have KK9 := Lib.hid (KK8.out.trans kk)
          clear kk KK8 RA_8 RB_8 Y1
          go_wp2_with fail
          refine (Y2.out _ _ RB_9.out).mono ?_
          rintro e w10 ⟨rfl, kk⟩
          have RA_10 := Lib.hid (RA_9.out.kp kk)
          have RB_10 := Lib.hid (RB_9.out.kp kk)
          have KK10 := Lib.hid (KK9.out.trans kk)
          clear kk KK9 RA_9 RB_9 Y2
          go_wp2_with fail
          refine (H1.out _ _ _ RA_10.out).mono ?_
          rintro e w11 ⟨rfl, kk⟩
          have RA_11 := Lib.hid (RA_10.out.kp kk)
          have RB_11 := Lib.hid (RB_10.out.kp kk)
          have KK11 := Lib.hid (KK10.out.trans kk)
          clear kk KK10 RA_10 RB_10 H1
          go_wp2_with fail
          refine (H2.out _ _ _ RB_11.out).mono ?_
          rintro e w12 ⟨rfl, kk⟩
          have RA_12 := Lib.hid (RA_11.out.kp kk)
          have RB_12 := Lib.hid (RB_11.out.kp kk)
          have KK12 := Lib.hid (KK11.out.trans kk)
          clear kk KK11 RA_11 RB_11 H2
          go_wp2_with fail
          refine (N1.out _ _ RA_12.out).mono ?_
          rintro e w13 ⟨rfl, kk⟩
          have RA_13 := Lib.hid (RA_12.out.kp kk)
          have RB_13 := Lib.hid (RB_12.out.kp kk)
          have KK13 := Lib.hid (KK12.out.trans kk)
          clear kk KK12 RA_12 RB_12 N1
          go_wp2_with fail
          refine (N2.out _ _ RB_13.out).mono ?_
          rintro e w14 ⟨rfl, kk⟩
          have RB_14 := Lib.hid (RB_13.out.kp kk)
          have KK14 := Lib.hid (KK13.out.trans kk)
          clear kk KK13 RB_13 N2
          go_wp2
          go_ret
          exact ⟨rfl, KK14.out⟩
        | true =>
          cases p with
          | false =>
            simp only [Bool.false_and, Bool.and_false, Bool.true_and] at H1 H2
            go_enter Tryd.func5, Tryd.ntmps5
            go_wp2_with fail
            refine (A.out).mono ?_
            rintro e w0 ⟨rfl, kk⟩
            have K0 := Lib.hid kk
            clear kk A
            go_wp2_with fail
            refine (P1.out _ K0.out).mono ?_
            rintro e w1 ⟨v1, rfl, own, kk⟩
            obtain ⟨sa1, sc1, rfl⟩ := own_slice own
            have RA_1 := Lib.hid (runsAt_own own)
            have KK1 := Lib.hid (K0.out.trans kk)
            clear kk own K0 P1
            go_wp2_with fail
            refine (P2.out _ KK1.out).mono ?_
            rintro e w2 ⟨v2, rfl, own, kk⟩
            obtain ⟨sa2, sc2, rfl⟩ := own_slice own
            have RA_2 := Lib.hid (RA_1.out.kp kk)
            have RB_2 := Lib.hid (runsAt_own own)
            have KK2 := Lib.hid (KK1.out.trans kk)
            clear kk own KK1 RA_1 P2
            go_wp2_with fail
            refine (PC.out _ KK2.out).mono ?_
            rintro e w3 ⟨rfl, kk⟩
            have RA_3 := Lib.hid (RA_2.out.kp kk)
            have RB_3 := Lib.hid (RB_2.out.kp kk)
            have KK3 := Lib.hid (KK2.out.trans kk)
            clear kk KK2 RA_2 RB_2 PC
            go_wp2_with fail
            refine (PL.out _ KK3.out).mono ?_
            rintro e w4 ⟨v4, rfl, own, kk⟩
            obtain ⟨sa4, sc4, rfl⟩ := own_slice own
            have RA_4 := Lib.hid (RA_3.out.kp kk)
            have RB_4 := Lib.hid (RB_3.out.kp kk)
            have RL_4 := Lib.hid (runsAt_own own)
            have KK4 := Lib.hid (KK3.out.trans kk)
            clear kk own KK3 RA_3 RB_3 PL
            go_wp2_with fail
            refine (PN.out _ _ RL_4.out).mono ?_
            rintro e w5 ⟨rfl, kk⟩
            have RA_5 := Lib.hid (RA_4.out.kp kk)
            have RB_5 := Lib.hid (RB_4.out.kp kk)
            have RL_5 := Lib.hid (RL_4.out.kp kk)
            have KK5 := Lib.hid (KK4.out.trans kk)
            clear kk KK4 RA_4 RB_4 RL_4 PN
            go_wp2_with fail
            refine (PO.out _ KK5.out).mono ?_
            rintro e w6 ⟨rfl, kk⟩
            have RA_6 := Lib.hid (RA_5.out.kp kk)
            have RB_6 := Lib.hid (RB_5.out.kp kk)
            have KK6 := Lib.hid (KK5.out.trans kk)
            clear kk KK5 RA_5 RB_5 PO
            go_wp2_with fail
            refine (PF.out _ KK6.out).mono ?_
            rintro e w7 ⟨rfl, kk⟩
            have RA_7 := Lib.hid (RA_6.out.kp kk)
            have RB_7 := Lib.hid (RB_6.out.kp kk)
            have KK7 := Lib.hid (KK6.out.trans kk)
            clear kk KK6 RA_6 RB_6 PF
            go_wp2_with fail
            refine (PE.out _ KK7.out).mono ?_
            rintro e w8 ⟨rfl, kk⟩
            have RA_8 := Lib.hid (RA_7.out.kp kk)
            have RB_8 := Lib.hid (RB_7.out.kp kk)
            have KK8 := Lib.hid (KK7.out.trans kk)
            clear kk KK7 RA_7 RB_7 PE
            go_wp2_with fail
            refine (PH.out _ KK8.out).mono ?_
            rintro e w9 ⟨rfl, kk⟩
            have RA_9 := Lib.hid (RA_8.out.kp kk)
            have RB_9 := Lib.hid (RB_8.out.kp kk)
            have KK9 := Lib.hid (KK8.out.trans kk)
            clear kk KK8 RA_8 RB_8 PH
            go_wp2_with fail
            refine (Y1.out _ _ RA_9.out).mono ?_
            rintro e w10 ⟨rfl, kk⟩
            have RA_10 := Lib.hid (RA_9.out.kp kk)
            have RB_10 := Lib.hid (RB_9.out.kp kk)
            have KK10 := Lib.hid (KK9.out.trans kk)
            clear kk KK9 RA_9 RB_9 Y1
            go_wp2_with fail
            refine (Y2.out _ _ RB_10.out).mono ?_
            rintro e w11 ⟨rfl, kk⟩
            have RA_11 := Lib.hid (RA_10.out.kp kk)
            have RB_11 := Lib.hid (RB_10.out.kp kk)
            have KK11 := Lib.hid (KK10.out.trans kk)
            clear kk KK10 RA_10 RB_10 Y2
            go_wp2_with fail
            refine (H1.out _ _ _ RA_11.out).mono ?_
            rintro e w12 ⟨rfl, kk⟩
            have RA_12 := Lib.hid (RA_11.out.kp kk)
            have RB_12 := Lib.hid (RB_11.out.kp kk)
            have KK12 := Lib.hid (KK11.out.trans kk)
            clear kk KK11 RA_11 RB_11 H1
            go_wp2_with fail
            refine (H2.out _ _ _ RB_12.out).mono ?_
            rintro e w13 ⟨rfl, kk⟩
            have RA_13 := Lib.hid (RA_12.out.kp kk)
            have RB_13 := Lib.hid (RB_12.out.kp kk)
            have KK13 := Lib.hid (KK12.out.trans kk)
            clear kk KK12 RA_12 RB_12 H2
            go_wp2_with fail
            refine (N1.out _ _ RA_13.out).mono ?_
            rintro e w14 ⟨rfl, kk⟩
            have RA_14 := Lib.hid (RA_13.out.kp kk)
            have RB_14 := Lib.hid (RB_13.out.kp kk)
            have KK14 := Lib.hid (KK13.out.trans kk)
            clear kk KK13 RA_13 RB_13 N1
            go_wp2_with fail
            refine (N2.out _ _ RB_14.out).mono ?_
            rintro e w15 ⟨rfl, kk⟩
            have RB_15 := Lib.hid (RB_14.out.kp kk)
            have KK15 := Lib.hid (KK14.out.trans kk)
            clear kk KK14 RB_14 N2
            go_wp2
            go_ret
            exact ⟨rfl, KK15.out⟩
          | true =>
            simp only [Bool.true_and] at H1 H2
            obtain ⟨e1, q1⟩ : ∃ e, (fx == d) = e := ⟨_, rfl⟩
            obtain ⟨e2, q2⟩ : ∃ e, (ly == d) = e := ⟨_, rfl⟩
            rw [q1] at H1
            rw [q2] at H2
            cases e1 <;> cases e2
            all_goals
              go_enter Tryd.func5, Tryd.ntmps5
              go_wp2_with fail
              refine (A.out).mono ?_
              rintro e w0 ⟨rfl, kk⟩
              have K0 := Lib.hid kk
              clear kk A
              go_wp2_with fail
              refine (P1.out _ K0.out).mono ?_
              rintro e w1 ⟨v1, rfl, own, kk⟩
              obtain ⟨sa1, sc1, rfl⟩ := own_slice own
              have RA_1 := Lib.hid (runsAt_own own)
              have KK1 := Lib.hid (K0.out.trans kk)
              clear kk own K0 P1
              go_wp2_with fail
              refine (P2.out _ KK1.out).mono ?_
              rintro e w2 ⟨v2, rfl, own, kk⟩
              obtain ⟨sa2, sc2, rfl⟩ := own_slice own
              have RA_2 := Lib.hid (RA_1.out.kp kk)
              have RB_2 := Lib.hid (runsAt_own own)
              have KK2 := Lib.hid (KK1.out.trans kk)
              clear kk own KK1 RA_1 P2
              go_wp2_with fail
              refine (PC.out _ KK2.out).mono ?_
              rintro e w3 ⟨rfl, kk⟩
              have RA_3 := Lib.hid (RA_2.out.kp kk)
              have RB_3 := Lib.hid (RB_2.out.kp kk)
              have KK3 := Lib.hid (KK2.out.trans kk)
              clear kk KK2 RA_2 RB_2 PC
              go_wp2_with fail
              refine (PL.out _ KK3.out).mono ?_
              rintro e w4 ⟨v4, rfl, own, kk⟩
              obtain ⟨sa4, sc4, rfl⟩ := own_slice own
              have RA_4 := Lib.hid (RA_3.out.kp kk)
              have RB_4 := Lib.hid (RB_3.out.kp kk)
              have RL_4 := Lib.hid (runsAt_own own)
              have KK4 := Lib.hid (KK3.out.trans kk)
              clear kk own KK3 RA_3 RB_3 PL
              go_wp2_with fail
              refine (PN.out _ _ RL_4.out).mono ?_
              rintro e w5 ⟨rfl, kk⟩
              have RA_5 := Lib.hid (RA_4.out.kp kk)
              have RB_5 := Lib.hid (RB_4.out.kp kk)
              have RL_5 := Lib.hid (RL_4.out.kp kk)
              have KK5 := Lib.hid (KK4.out.trans kk)
              clear kk KK4 RA_4 RB_4 RL_4 PN
              go_wp2_with fail
              refine (PO.out _ KK5.out).mono ?_
              rintro e w6 ⟨rfl, kk⟩
              have RA_6 := Lib.hid (RA_5.out.kp kk)
              have RB_6 := Lib.hid (RB_5.out.kp kk)
              have KK6 := Lib.hid (KK5.out.trans kk)
              clear kk KK5 RA_5 RB_5 PO
              go_wp2_with fail
              refine (PF.out _ KK6.out).mono ?_
              rintro e w7 ⟨rfl, kk⟩
              have RA_7 := Lib.hid (RA_6.out.kp kk)
              have RB_7 := Lib.hid (RB_6.out.kp kk)
              have KK7 := Lib.hid (KK6.out.trans kk)
              clear kk KK6 RA_6 RB_6 PF
              go_wp2_with fail
              refine (PE.out _ KK7.out).mono ?_
              rintro e w8 ⟨rfl, kk⟩
              have RA_8 := Lib.hid (RA_7.out.kp kk)
              have RB_8 := Lib.hid (RB_7.out.kp kk)
              have KK8 := Lib.hid (KK7.out.trans kk)
              clear kk KK7 RA_7 RB_7 PE
              go_wp2_with fail
              refine (PH.out _ KK8.out).mono ?_
              rintro e w9 ⟨rfl, kk⟩
              have RA_9 := Lib.hid (RA_8.out.kp kk)
              have RB_9 := Lib.hid (RB_8.out.kp kk)
              have KK9 := Lib.hid (KK8.out.trans kk)
              clear kk KK8 RA_8 RB_8 PH
              go_wp2_with fail
              refine (Y1.out _ _ RA_9.out).mono ?_
              rintro e w10 ⟨rfl, kk⟩
              have RA_10 := Lib.hid (RA_9.out.kp kk)
              have RB_10 := Lib.hid (RB_9.out.kp kk)
              have KK10 := Lib.hid (KK9.out.trans kk)
              clear kk KK9 RA_9 RB_9 Y1
              go_wp2_with fail
              refine (Y2.out _ _ RB_10.out).mono ?_
              rintro e w11 ⟨rfl, kk⟩
              have RA_11 := Lib.hid (RA_10.out.kp kk)
              have RB_11 := Lib.hid (RB_10.out.kp kk)
              have KK11 := Lib.hid (KK10.out.trans kk)
              clear kk KK10 RA_10 RB_10 Y2
              go_wp2_with fail
              refine (H1.out _ _ _ RA_11.out).mono ?_
              rintro e w12 ⟨rfl, kk⟩
              have RA_12 := Lib.hid (RA_11.out.kp kk)
              have RB_12 := Lib.hid (RB_11.out.kp kk)
              have KK12 := Lib.hid (KK11.out.trans kk)
              clear kk KK11 RA_11 RB_11 H1
              go_wp2_with fail
              refine (H2.out _ _ _ RB_12.out).mono ?_
              rintro e w13 ⟨rfl, kk⟩
              have RA_13 := Lib.hid (RA_12.out.kp kk)
              have RB_13 := Lib.hid (RB_12.out.kp kk)
              have KK13 := Lib.hid (KK12.out.trans kk)
              clear kk KK12 RA_12 RB_12 H2
              go_wp2_with fail
              refine (N1.out _ _ RA_13.out).mono ?_
              rintro e w14 ⟨rfl, kk⟩
              have RA_14 := Lib.hid (RA_13.out.kp kk)
              have RB_14 := Lib.hid (RB_13.out.kp kk)
              have KK14 := Lib.hid (KK13.out.trans kk)
              clear kk KK13 RA_13 RB_13 N1
              go_wp2_with fail
              refine (N2.out _ _ RB_14.out).mono ?_
              rintro e w15 ⟨rfl, kk⟩
              have RB_15 := Lib.hid (RB_14.out.kp kk)
              have KK15 := Lib.hid (KK14.out.trans kk)
              clear kk KK14 RB_14 N2
              go_wp2
              go_ret
              exact ⟨rfl, KK15.out⟩
    · have hf : edgB k a = false := by simpa using hb
      have kz : k ≠ 0 := fun h => hb (B0 h)
      have BF := BK kz
      have X1 : edgR (firV k) k a = [] := by unfold edgR; rw [hf]; rfl
      have X2 : edgR (lasV k) k a = [] := by unfold edgR; rw [hf]; rfl
      rw [X1] at P1
      rw [X2] at P2
      rw [hf] at P1 P2 BF
      clear X1 X2 s1 s2 l1 l2 EU us ha ia T k1 k2 B0 BK hb hf Y1 Y2 H1 H2 N1 N2 PO PF PE PH xb
      generalize unitsR k a = L at *
      generalize sumR L = u at *
      generalize cnt k = m at *
      have kq : (k == 0) = false := by simp [kz]
      have ub : 400 < u := by have := of_decide_eq_false BF.symm; omega
      have uq : decide (u ≤ 400) = false := BF.symm
      clear BF
      go_enter Tryd.func5, Tryd.ntmps5
      go_wp2_with fail
      refine (A.out).mono ?_
      rintro e w0 ⟨rfl, kk⟩
      have K0 := Lib.hid kk
      clear kk A
      go_wp2_with fail
      refine (P1.out _ K0.out).mono ?_
      rintro e w1 ⟨v1, rfl, own, kk⟩
      obtain ⟨sa1, sc1, rfl⟩ := own_slice own
      have RA_1 := Lib.hid (runsAt_own own)
      have KK1 := Lib.hid (K0.out.trans kk)
      clear kk own K0 P1
      go_wp2_with fail
      refine (P2.out _ KK1.out).mono ?_
      rintro e w2 ⟨v2, rfl, own, kk⟩
      obtain ⟨sa2, sc2, rfl⟩ := own_slice own
      have RA_2 := Lib.hid (RA_1.out.kp kk)
      have RB_2 := Lib.hid (runsAt_own own)
      have KK2 := Lib.hid (KK1.out.trans kk)
      clear kk own KK1 RA_1 P2
      go_wp2_with fail
      refine (PC.out _ KK2.out).mono ?_
      rintro e w3 ⟨rfl, kk⟩
      have RA_3 := Lib.hid (RA_2.out.kp kk)
      have RB_3 := Lib.hid (RB_2.out.kp kk)
      have KK3 := Lib.hid (KK2.out.trans kk)
      clear kk KK2 RA_2 RB_2 PC
      go_wp2_with fail
      refine (PL.out _ KK3.out).mono ?_
      rintro e w4 ⟨v4, rfl, own, kk⟩
      obtain ⟨sa4, sc4, rfl⟩ := own_slice own
      have RA_4 := Lib.hid (RA_3.out.kp kk)
      have RB_4 := Lib.hid (RB_3.out.kp kk)
      have RL_4 := Lib.hid (runsAt_own own)
      have KK4 := Lib.hid (KK3.out.trans kk)
      clear kk own KK3 RA_3 RB_3 PL
      go_wp2_with fail
      refine (PN.out _ _ RL_4.out).mono ?_
      rintro e w5 ⟨rfl, kk⟩
      have RA_5 := Lib.hid (RA_4.out.kp kk)
      have RB_5 := Lib.hid (RB_4.out.kp kk)
      have RL_5 := Lib.hid (RL_4.out.kp kk)
      have KK5 := Lib.hid (KK4.out.trans kk)
      clear kk KK4 RA_4 RB_4 RL_4 PN
      go_wp2
      go_ret
      exact ⟨rfl, KK5.out⟩
  · have g1 : decide ((40 : Int) < a.length) = true := decide_eq_true (by omega)
    clear ha ia T
    go_enter Tryd.func5, Tryd.ntmps5
    go_wp2_with fail
    refine (A.out).mono ?_
    rintro e w0 ⟨rfl, kk⟩
    have K0 := Lib.hid kk
    clear kk
    go_wp2
    go_ret
    exact ⟨rfl, K0.out⟩
end Go.Proofs.YtehpngppdcnohaaDoor
