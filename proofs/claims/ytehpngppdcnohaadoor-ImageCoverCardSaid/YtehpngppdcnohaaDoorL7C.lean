/-
  Layer 7: the walk of ImageCover.
-/
import Derived.Test.YtehpngppdcnohaaDoorGImgC
namespace Go.Proofs.YtehpngppdcnohaaDoor
open Go.RowKit
set_option linter.unusedVariables false
set_option linter.unusedSimpArgs false
set_option maxHeartbeats 8000000 in
set_option maxRecDepth 100000 in
theorem imageCover_walk (k : Int) (va : Value) (a : List R) (d : Int) (w : World) (ha : RunsAt w va a) (ia : I64R a) (T : Tabs w) (k1 : -9223372036854775808 ≤ d) (k2 : d ≤ 9223372036854775807) :
    Calls Tryd.prog 4 #[.int .i64 k, va, .int .i64 d] w fun e w' => e = .returned (.bool true) ∧ Kp w w' := by
  obtain ⟨ad, ca, rfl⟩ := ha.slice
  have A := Lib.hid (awake07 w T)
  by_cases h1 : a.length ≤ 40
  · have g1 : decide ((40 : Int) < a.length) = false := decide_eq_false (by omega)
    have L3 : (coverR k a).length ≤ 1000000 := by have := nf_len ((unitsR k a).map (cvF k)); have := cover_len (k := k) h1; unfold coverR; omega
    have P := Lib.hid (fun w1 (kk : Kp w w1) => cover_any k _ a w1 (ha.kp kk) ia (by omega) (T.kp kk))
    have O := Lib.hid (fun w1 (kk : Kp w w1) => of_any k d w1 (T.kp kk).1 (T.kp kk).2)
    have xb := ofV_bd k d
    have H2 := Lib.hid (fun w1 (kk : Kp w w1) => has_any ad ca a (ofV k d) w1 (ha.kp kk) ia (by omega) (by omega) (by omega))
    have SX := coverR_sane k a
    have HC : hasB (nf (coverR k a)) d = (okO k d && hasB (nf a) (ofV k d)) := bool_iff (by
      rw [hasB_nf, coverR_mem, Bool.and_eq_true, hasB_nf]
      constructor
      · rintro ⟨o, h⟩; exact ⟨o, by unfold ofV; rw [if_pos o]; exact h⟩
      · rintro ⟨o, h⟩; unfold ofV at h; rw [if_pos o] at h; exact ⟨o, h⟩)
    have H1 := Lib.hid (fun w1 ad1 c1 (h : RunsAt w1 (.slice ad1 (coverR k a).length c1) (coverR k a)) => has_any ad1 c1 (coverR k a) d w1 h (sane_i64 SX) L3 k1 k2)
    have SY := Lib.hid (fun w1 v (h : RunsAt w1 v (coverR k a)) => sane_yes v _ w1 h SX)
    rw [HC] at H1
    clear HC SX ha ia T k1 k2
    generalize coverR k a = X at *
    generalize hasB (nf a) (ofV k d) = p at *
    generalize ofV k d = x at *
    generalize okO k d = o at *
    cases o <;> cases p
    all_goals simp only [Bool.and_true, Bool.and_false, Bool.true_and, Bool.false_and] at H1
    · go_enter Tryd.func4, Tryd.ntmps4
      go_wp2_with fail
      refine (A.out).mono ?_
      rintro e w0 ⟨rfl, kk⟩
      have K0 := Lib.hid kk
      clear kk A
      go_wp2_with fail
      refine (P.out _ K0.out).mono ?_
      rintro e w1 ⟨v1, rfl, own, kk⟩
      obtain ⟨a1, c1, rfl⟩ := own_slice own
      have R1 := Lib.hid (runsAt_own own)
      have K1 := Lib.hid (K0.out.trans kk)
      clear own kk K0 P
      go_wp2_with fail
      refine (O.out _ K1.out).mono ?_
      rintro e w2 ⟨rfl, kk⟩
      have R2 := Lib.hid (R1.out.kp kk)
      have K2 := Lib.hid (K1.out.trans kk)
      clear kk K1 O R1
      go_wp2_with fail
      refine (SY.out _ _ R2.out).mono ?_
      rintro e w3 ⟨rfl, kk⟩
      have R3 := Lib.hid (R2.out.kp kk)
      have K3 := Lib.hid (K2.out.trans kk)
      clear kk K2 R2 SY
      go_wp2_with fail
      refine (H1.out _ _ _ R3.out).mono ?_
      rintro e w4 ⟨rfl, kk⟩
      have K0 := Lib.hid (K3.out.trans kk)
      clear kk K3 R3 H1
      go_wp2
      go_ret
      exact ⟨rfl, K0.out⟩
    · go_enter Tryd.func4, Tryd.ntmps4
      go_wp2_with fail
      refine (A.out).mono ?_
      rintro e w0 ⟨rfl, kk⟩
      have K0 := Lib.hid kk
      clear kk A
      go_wp2_with fail
      refine (P.out _ K0.out).mono ?_
      rintro e w1 ⟨v1, rfl, own, kk⟩
      obtain ⟨a1, c1, rfl⟩ := own_slice own
      have R1 := Lib.hid (runsAt_own own)
      have K1 := Lib.hid (K0.out.trans kk)
      clear own kk K0 P
      go_wp2_with fail
      refine (O.out _ K1.out).mono ?_
      rintro e w2 ⟨rfl, kk⟩
      have R2 := Lib.hid (R1.out.kp kk)
      have K2 := Lib.hid (K1.out.trans kk)
      clear kk K1 O R1
      go_wp2_with fail
      refine (SY.out _ _ R2.out).mono ?_
      rintro e w3 ⟨rfl, kk⟩
      have R3 := Lib.hid (R2.out.kp kk)
      have K3 := Lib.hid (K2.out.trans kk)
      clear kk K2 R2 SY
      go_wp2_with fail
      refine (H1.out _ _ _ R3.out).mono ?_
      rintro e w4 ⟨rfl, kk⟩
      have K0 := Lib.hid (K3.out.trans kk)
      clear kk K3 R3 H1
      go_wp2
      go_ret
      exact ⟨rfl, K0.out⟩
    · go_enter Tryd.func4, Tryd.ntmps4
      go_wp2_with fail
      refine (A.out).mono ?_
      rintro e w0 ⟨rfl, kk⟩
      have K0 := Lib.hid kk
      clear kk A
      go_wp2_with fail
      refine (P.out _ K0.out).mono ?_
      rintro e w1 ⟨v1, rfl, own, kk⟩
      obtain ⟨a1, c1, rfl⟩ := own_slice own
      have R1 := Lib.hid (runsAt_own own)
      have K1 := Lib.hid (K0.out.trans kk)
      clear own kk K0 P
      go_wp2_with fail
      refine (O.out _ K1.out).mono ?_
      rintro e w2 ⟨rfl, kk⟩
      have R2 := Lib.hid (R1.out.kp kk)
      have K2 := Lib.hid (K1.out.trans kk)
      clear kk K1 O R1
      go_wp2_with fail
      refine (SY.out _ _ R2.out).mono ?_
      rintro e w3 ⟨rfl, kk⟩
      have R3 := Lib.hid (R2.out.kp kk)
      have K3 := Lib.hid (K2.out.trans kk)
      clear kk K2 R2 SY
      go_wp2_with fail
      refine (H1.out _ _ _ R3.out).mono ?_
      rintro e w4 ⟨rfl, kk⟩
      have K0 := Lib.hid (K3.out.trans kk)
      clear kk K3 R3 H1
      go_wp2_with fail
      refine (H2.out _ K0.out).mono ?_
      rintro e w5 ⟨rfl, kk⟩
      have K0 := Lib.hid (K0.out.trans kk)
      clear kk H2
      go_wp2
      go_ret
      exact ⟨rfl, K0.out⟩
    · go_enter Tryd.func4, Tryd.ntmps4
      go_wp2_with fail
      refine (A.out).mono ?_
      rintro e w0 ⟨rfl, kk⟩
      have K0 := Lib.hid kk
      clear kk A
      go_wp2_with fail
      refine (P.out _ K0.out).mono ?_
      rintro e w1 ⟨v1, rfl, own, kk⟩
      obtain ⟨a1, c1, rfl⟩ := own_slice own
      have R1 := Lib.hid (runsAt_own own)
      have K1 := Lib.hid (K0.out.trans kk)
      clear own kk K0 P
      go_wp2_with fail
      refine (O.out _ K1.out).mono ?_
      rintro e w2 ⟨rfl, kk⟩
      have R2 := Lib.hid (R1.out.kp kk)
      have K2 := Lib.hid (K1.out.trans kk)
      clear kk K1 O R1
      go_wp2_with fail
      refine (SY.out _ _ R2.out).mono ?_
      rintro e w3 ⟨rfl, kk⟩
      have R3 := Lib.hid (R2.out.kp kk)
      have K3 := Lib.hid (K2.out.trans kk)
      clear kk K2 R2 SY
      go_wp2_with fail
      refine (H1.out _ _ _ R3.out).mono ?_
      rintro e w4 ⟨rfl, kk⟩
      have K0 := Lib.hid (K3.out.trans kk)
      clear kk K3 R3 H1
      go_wp2_with fail
      refine (H2.out _ K0.out).mono ?_
      rintro e w5 ⟨rfl, kk⟩
      have K0 := Lib.hid (K0.out.trans kk)
      clear kk H2
      go_wp2
      go_ret
      exact ⟨rfl, K0.out⟩
  · have g1 : decide ((40 : Int) < a.length) = true := decide_eq_true (by omega)
    clear ha ia T
    go_enter Tryd.func4, Tryd.ntmps4
    go_wp2_with fail
    refine (A.out).mono ?_
    rintro e w0 ⟨rfl, kk⟩
    have K0 := Lib.hid kk
    clear kk
    go_wp2
    go_ret
    exact ⟨rfl, K0.out⟩
end Go.Proofs.YtehpngppdcnohaaDoor
