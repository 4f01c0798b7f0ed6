/-
  Layer 5: the walks of SetsHas and SetsLaws.
-/
import Derived.Test.YtgaadakhkjfbnaaSetsD
namespace Go.Proofs.Ytgaadakhkjfbnaa
open Go.RowKit
set_option linter.unusedVariables false
set_option linter.unusedSimpArgs false
set_option maxHeartbeats 8000000 in
set_option maxRecDepth 100000 in
theorem setsHas_walk (v u : Value) (l m : List R) (n : Int) (w : World) (hv : RunsAt w v l) (hu : RunsAt w u m) (hl : I64R l) (hm : I64R m) (b1 : -9223372036854775808 ≤ n) (b2 : n ≤ 9223372036854775807) :
    Calls Try.prog 9 #[v, u, .int .i64 n] w fun e w' => e = .returned (.bool true) ∧ Kp w w' := by
  obtain ⟨ad, c, rfl⟩ := hv.slice
  obtain ⟨ad', c', rfl⟩ := hu.slice
  by_cases h40 : l.length ≤ 40
  · have g40 : decide ((40 : Int) < l.length) = false := decide_eq_false (by omega)
    by_cases h41 : m.length ≤ 40
    · have g41 : decide ((40 : Int) < m.length) = false := decide_eq_false (by omega)
      have AX := Lib.hid (fun w1 (k : Kp w w1) => has_any ad c l n w1 (hv.kp k) hl (by omega) b1 b2)
      have AY := Lib.hid (fun w1 (k : Kp w w1) => has_any ad' c' m n w1 (hu.kp k) hm (by omega) b1 b2)
      have CU := Lib.hid (fun w1 (k : Kp w w1) => union_any _ _ l m w1 (hv.kp k) (hu.kp k) hl hm (by omega))
      have CM := Lib.hid (fun w1 (k : Kp w w1) => meet_any _ _ l m w1 (hv.kp k) (hu.kp k) hl hm (by omega) (by omega))
      have CD := Lib.hid (fun w1 (k : Kp w w1) => minus_any _ _ l m w1 (hv.kp k) (hu.kp k) hl hm (by omega) (by omega))
      obtain ⟨p, hp⟩ : ∃ p, hasB (nf l) n = p := ⟨_, rfl⟩
      obtain ⟨q, hq⟩ : ∃ q, hasB (nf m) n = q := ⟨_, rfl⟩
      have P : memR l n ↔ p = true := by rw [← hp, hasB_nf]
      have Q : memR m n ↔ q = true := by rw [← hq, hasB_nf]
      have HU : hasB (nf (nf (l ++ m))) n = (p || q) := bool_iff (by rw [hasB_nf, nf_mem, memR_append, P, Q]; simp)
      have HM : hasB (nf (interR l m)) n = (p && q) := bool_iff (by rw [hasB_nf, interR_mem, P, Q]; simp)
      have HD : hasB (nf (diffR l m)) n = (p && !q) := bool_iff (by rw [hasB_nf, diffR_mem, P, Q]; simp)
      have SU := Lib.hid (nf_sane (l ++ m))
      have SM := Lib.hid (interR_sane l m)
      have SD := Lib.hid (diffR_sane l m)
      have LU : (nf (l ++ m)).length ≤ 1000000 := by have := nf_len (l ++ m); rw [List.length_append] at this; omega
      have LM : (interR l m).length ≤ 1000000 := by have := interR_bd h40 h41; omega
      have LD : (diffR l m).length ≤ 1000000 := by have := diffR_bd h40 h41; omega
      rw [hp] at AX
      rw [hq] at AY
      generalize nf (l ++ m) = U at *
      generalize interR l m = M at *
      generalize diffR l m = D at *
      clear P Q hp hq hv hu hl hm
      cases p <;> cases q
      all_goals
        simp only [Bool.or_true, Bool.or_false, Bool.and_true, Bool.and_false, Bool.not_true, Bool.not_false] at HU HM HD
        have HUU := Lib.hid HU
        have HMM := Lib.hid HM
        have HDD := Lib.hid HD
        clear HU HM HD
        go_enter Try.func9, Try.ntmps9
        go_wp2_with fail
        refine (awake05 _).mono ?_
        rintro e w1 ⟨rfl, kk⟩
        have K1 := Lib.hid kk
        clear kk
        go_wp2_with fail; refine (AX.out _ K1.out).mono ?_; rintro e w2 ⟨rfl, kk⟩; have K2 := Lib.hid (K1.out.trans kk); clear kk
        go_wp2_with fail; refine (AY.out _ K2.out).mono ?_; rintro e w3 ⟨rfl, kk⟩; have K3 := Lib.hid (K2.out.trans kk); clear kk
        go_wp2_with fail; refine (CU.out _ K3.out).mono ?_; rintro e w4 ⟨v5, rfl, own5, kk⟩; have RU := Lib.hid (runsAt_own own5); obtain ⟨adRU, cRU, rfl⟩ := (RU).out.slice; have K4 := Lib.hid (K3.out.trans kk); clear own5 kk
        go_wp2_with fail
        refine (CM.out _ K4.out).mono ?_
        rintro e w5 ⟨v5, rfl, own5, kk⟩
        have RM := Lib.hid (runsAt_own own5)
        obtain ⟨adM, cM, rfl⟩ := RM.out.slice
        have K5 := Lib.hid kk
        clear own5 kk
        go_wp2_with fail
        refine (CD.out _ (K4.out.trans K5.out)).mono ?_
        rintro e w6 ⟨v5, rfl, own5, kk⟩
        have RD := Lib.hid (runsAt_own own5)
        obtain ⟨adD, cD, rfl⟩ := RD.out.slice
        have RM' := Lib.hid (RM.out.kp kk)
        have RU' := Lib.hid (RU.out.kp (K5.out.trans kk))
        have K6 := Lib.hid (K4.out.trans (K5.out.trans kk))
        clear own5 kk RM RU
        have Z0 := Lib.hid (Kp.refl w6)
        go_wp2_with fail
        refine (sane_yes _ U _ (RU'.out.kp Z0.out) SU.out).mono ?_
        rintro e w7 ⟨rfl, kk⟩
        have Z1 := Lib.hid (Z0.out.trans kk)
        clear kk
        go_wp2_with fail
        refine (sane_yes _ M _ (RM'.out.kp Z1.out) SM.out).mono ?_
        rintro e w8 ⟨rfl, kk⟩
        have Z2 := Lib.hid (Z1.out.trans kk)
        clear kk
        go_wp2_with fail
        refine (sane_yes _ D _ (RD.out.kp Z2.out) SD.out).mono ?_
        rintro e w9 ⟨rfl, kk⟩
        have Z3 := Lib.hid (Z2.out.trans kk)
        clear kk
        go_wp2_with fail
        refine (has_any _ _ U n _ (RU'.out.kp Z3.out) (sane_i64 SU.out) LU b1 b2).mono ?_
        rw [HUU.out]
        rintro e w10 ⟨rfl, kk⟩
        have Z4 := Lib.hid (Z3.out.trans kk)
        clear kk
        go_wp2_with fail
        refine (has_any _ _ M n _ (RM'.out.kp Z4.out) (sane_i64 SM.out) LM b1 b2).mono ?_
        rw [HMM.out]
        rintro e w11 ⟨rfl, kk⟩
        have Z5 := Lib.hid (Z4.out.trans kk)
        clear kk
        go_wp2_with fail
        refine (has_any _ _ D n _ (RD.out.kp Z5.out) (sane_i64 SD.out) LD b1 b2).mono ?_
        rw [HDD.out]
        rintro e w12 ⟨rfl, kk⟩
        have Z6 := Lib.hid (Z5.out.trans kk)
        clear kk
        go_wp2
        go_ret
        exact ⟨rfl, K6.out.trans Z6.out⟩
    · have g41 : decide ((40 : Int) < m.length) = true := decide_eq_true (by omega)
      clear hv hu
      go_enter Try.func9, Try.ntmps9
      go_wp2_with fail
      refine (awake05 _).mono ?_
      rintro e w1 ⟨rfl, kk⟩
      have K1 := Lib.hid kk
      clear kk
      go_wp2
      go_ret
      exact ⟨rfl, K1.out⟩
  · have g40 : decide ((40 : Int) < l.length) = true := decide_eq_true (by omega)
    clear hv hu
    go_enter Try.func9, Try.ntmps9
    go_wp2_with fail
    refine (awake05 _).mono ?_
    rintro e w1 ⟨rfl, kk⟩
    have K1 := Lib.hid kk
    clear kk
    go_wp2
    go_ret
    exact ⟨rfl, K1.out⟩
end Go.Proofs.Ytgaadakhkjfbnaa
