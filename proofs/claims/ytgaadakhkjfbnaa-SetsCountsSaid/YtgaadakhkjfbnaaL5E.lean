/-
  Layer 5: the walk of SetsCounts.
-/
import Derived.Test.YtgaadakhkjfbnaaSetsD
namespace Go.Proofs.Ytgaadakhkjfbnaa
open Go.RowKit
set_option linter.unusedVariables false
set_option linter.unusedSimpArgs false
theorem sumR_ok {l : List R} (h : sane l) : 0 ≤ sumR l ∧ sumR l ≤ 2199023255553 := by
  have := sumR_bd l (-1099511627776) h (fun r t e => by subst e; exact (sane_head h).2.1) (by decide)
  omega
theorem nf_sane_eq {l : List R} (h : sane l) : nf l = l := nf_of_sane h
theorem sum_diff (a b : List R) : sumR (diffR a b) + sumR (interR a b) = sumR (nf a) := by
  have h := sumR_add (a := diffR a b) (b := interR a b) (u := nf a) (m := []) (diffR_sane _ _) (interR_sane _ _) (nf_sane _) trivial
    (fun n => by rw [nf_mem, diffR_mem, interR_mem]; by_cases g : memR b n <;> simp [g])
    (fun n => by rw [diffR_mem, interR_mem]; exact ⟨fun g => absurd g (memR_nil n), fun ⟨⟨_, g⟩, _, g2⟩ => absurd g2 g⟩)
  have z : sumR [] = 0 := rfl
  omega
theorem inter_comm (a b : List R) : interR b a = interR a b := sane_ext (interR_sane _ _) (interR_sane _ _) (fun n => by rw [interR_mem, interR_mem, and_comm])
theorem sum_union (a b : List R) : sumR (nf (a ++ b)) = sumR (diffR a b) + sumR (diffR b a) + sumR (interR a b) := by
  have h := sumR_add (a := nf a) (b := nf b) (u := nf (a ++ b)) (m := interR a b) (nf_sane _) (nf_sane _) (nf_sane _) (interR_sane _ _)
    (fun n => by rw [nf_mem, nf_mem, nf_mem, memR_append]) (fun n => by rw [interR_mem, nf_mem, nf_mem])
  have h1 := sum_diff a b
  have h2 := sum_diff b a
  rw [inter_comm a b] at h2
  omega
set_option maxHeartbeats 8000000 in
set_option maxRecDepth 100000 in
theorem setsCounts_walk (va vb : Value) (a b : List R) (w : World) (ha : RunsAt w va a) (hb : RunsAt w vb b) (ia : I64R a) (ib : I64R b) :
    Calls Try.prog 10 #[va, vb] w fun e w' => e = .returned (.bool true) ∧ Kp w w' := by
  obtain ⟨ad, ca, rfl⟩ := ha.slice
  obtain ⟨bd, cb, rfl⟩ := hb.slice
  by_cases h1 : a.length ≤ 40
  · have g1 : decide ((40 : Int) < a.length) = false := decide_eq_false (by omega)
    by_cases h2 : b.length ≤ 40
    · have g2 : decide ((40 : Int) < b.length) = false := decide_eq_false (by omega)
      have LU : (nf (a ++ b)).length ≤ 80 := by have := nf_len (a ++ b); rw [List.length_append] at this; omega
      have LM : (interR a b).length ≤ 1600 := interR_bd h1 h2
      have LX : (diffR a b).length ≤ 1640 := diffR_bd h1 h2
      have LY : (diffR b a).length ≤ 1640 := diffR_bd h2 h1
      have LA : (nf a).length ≤ 40 := nf_bd h1
      have IM := Lib.hid (sane_i64 (interR_sane a b))
      have IX := Lib.hid (sane_i64 (diffR_sane a b))
      have IY := Lib.hid (sane_i64 (diffR_sane b a))
      have IU := Lib.hid (sane_i64 (nf_sane (a ++ b)))
      have E0 := sum_union a b
      have B1 := sumR_ok (diffR_sane a b)
      have B2 := sumR_ok (diffR_sane b a)
      have B3 := sumR_ok (interR_sane a b)
      have B4 := sumR_ok (nf_sane (a ++ b))
      have NU : nf (nf (a ++ b)) = nf (a ++ b) := nf_of_sane (nf_sane _)
      have NM : nf (interR a b) = interR a b := nf_of_sane (interR_sane _ _)
      have NX : nf (diffR a b) = diffR a b := nf_of_sane (diffR_sane _ _)
      have NY : nf (diffR b a) = diffR b a := nf_of_sane (diffR_sane _ _)
      have E1 : nf (diffR a b ++ interR a b) = nf a := nf_congr (fun n => by rw [memR_append, diffR_mem, interR_mem]; by_cases g : memR b n <;> simp [g])
      have E2 : interR (diffR a b) b = [] := sane_ext (interR_sane _ _) trivial (fun n => by rw [interR_mem, diffR_mem]; exact ⟨fun ⟨⟨_, g⟩, g2⟩ => absurd g2 g, fun g => absurd g (memR_nil n)⟩)
      have E3 : nf (b ++ a) = nf (a ++ b) := nf_congr (fun n => by rw [memR_append, memR_append, or_comm])
      have GM := Lib.hid (fun w1 (k : Kp w w1) => meet_any _ _ a b w1 (ha.kp k) (hb.kp k) ia ib (by omega) (by omega))
      have GX := Lib.hid (fun w1 (k : Kp w w1) => minus_any _ _ a b w1 (ha.kp k) (hb.kp k) ia ib (by omega) (by omega))
      have GY := Lib.hid (fun w1 (k : Kp w w1) => minus_any _ _ b a w1 (hb.kp k) (ha.kp k) ib ia (by omega) (by omega))
      have GU := Lib.hid (fun w1 (k : Kp w w1) => union_any _ _ a b w1 (ha.kp k) (hb.kp k) ia ib (by omega))
      have GV := Lib.hid (fun w1 (k : Kp w w1) => by
        have h := union_any _ _ b a w1 (hb.kp k) (ha.kp k) ib ia (by omega)
        rw [E3] at h
        exact h)
      have GN := Lib.hid (fun w1 (k : Kp w w1) => by
        have h := meet_any _ _ b a w1 (hb.kp k) (ha.kp k) ib ia (by omega) (by omega)
        rw [inter_comm] at h
        exact h)
      have GA := Lib.hid (fun w1 (k : Kp w w1) => make_any _ a w1 (ha.kp k) ia (by omega))
      have F1 := Lib.hid (fun (w1 : World) (x y : Value) (h1 : RunsAt w1 x (diffR a b)) (h2 : RunsAt w1 y (interR a b)) => by
        have h := union_any x y _ _ w1 h1 h2 IX.out IM.out (by omega)
        rw [E1] at h
        exact h)
      have F2 := Lib.hid (fun (w1 : World) (x : Value) (k : Kp w w1) (h1 : RunsAt w1 x (diffR a b)) => by
        have h := meet_any x _ _ b w1 h1 (hb.kp k) IX.out ib (by omega) (by omega)
        rw [E2] at h
        exact h)
      have CU := Lib.hid (fun (w1 : World) (x : Value) (h1 : RunsAt w1 x (nf (a ++ b))) => by
        have h := count_any x _ w1 h1 IU.out (by omega)
        rw [NU] at h
        exact h)
      have CX := Lib.hid (fun (w1 : World) (x : Value) (h1 : RunsAt w1 x (diffR a b)) => by
        have h := count_any x _ w1 h1 IX.out (by omega)
        rw [NX] at h
        exact h)
      have CY := Lib.hid (fun (w1 : World) (x : Value) (h1 : RunsAt w1 x (diffR b a)) => by
        have h := count_any x _ w1 h1 IY.out (by omega)
        rw [NY] at h
        exact h)
      have CM := Lib.hid (fun (w1 : World) (x : Value) (h1 : RunsAt w1 x (interR a b)) => by
        have h := count_any x _ w1 h1 IM.out (by omega)
        rw [NM] at h
        exact h)
      clear ha hb E1 E2 E3 NU NM NX NY IM IX IY IU ia ib
      generalize nf (a ++ b) = U at *
      generalize interR a b = M at *
      generalize diffR a b = X at *
      generalize diffR b a = Y at *
      generalize nf a = N at *
      generalize sumR U = sU at *
      generalize sumR M = sM at *
      generalize sumR X = sX at *
      generalize sumR Y = sY at *
      subst E0
      go_enter Try.func10, Try.ntmps10
      go_wp2_with fail
      refine (awake05 _).mono ?_
      rintro e w1 ⟨rfl, kk⟩
      have K1 := Lib.hid kk
      clear kk
      go_wp2_with fail; refine (GM.out _ K1.out).mono ?_; rintro e w2 ⟨v5, rfl, own5, kk⟩; have RM := Lib.hid (runsAt_own own5); obtain ⟨adRM, cRM, rfl⟩ := (RM).out.slice; have k := Lib.hid kk; clear own5 kk
      have K2 := Lib.hid (K1.out.trans k.out)
      clear k
      go_wp2_with fail; refine (GX.out _ K2.out).mono ?_; rintro e w3 ⟨v5, rfl, own5, kk⟩; have RX := Lib.hid (runsAt_own own5); obtain ⟨adRX, cRX, rfl⟩ := (RX).out.slice; have k := Lib.hid kk; clear own5 kk
      have K3 := Lib.hid (K2.out.trans k.out)
      have RM' := Lib.hid (RM.out.kp k.out)
      clear k RM
      go_wp2_with fail; refine (GY.out _ K3.out).mono ?_; rintro e w4 ⟨v5, rfl, own5, kk⟩; have RY := Lib.hid (runsAt_own own5); obtain ⟨adRY, cRY, rfl⟩ := (RY).out.slice; have k := Lib.hid kk; clear own5 kk
      have K4 := Lib.hid (K3.out.trans k.out)
      have RM := Lib.hid (RM'.out.kp k.out)
      have RX' := Lib.hid (RX.out.kp k.out)
      clear k RM' RX
      go_wp2_with fail; refine (GU.out _ K4.out).mono ?_; rintro e w5 ⟨v5, rfl, own5, kk⟩; have RU := Lib.hid (runsAt_own own5); obtain ⟨adRU, cRU, rfl⟩ := (RU).out.slice; have k := Lib.hid kk; clear own5 kk
      have Z5 := Lib.hid k.out
      clear k
      go_wp2_with fail; refine (CU.out _ _ RU.out).mono ?_; rintro e w6 ⟨rfl, kk⟩; have k := Lib.hid kk; clear kk
      have Z6 := Lib.hid (Z5.out.trans k.out)
      clear k RU
      go_wp2_with fail; refine (CX.out _ _ (RX'.out.kp Z6.out)).mono ?_; rintro e w7 ⟨rfl, kk⟩; have k := Lib.hid kk; clear kk
      have Z7 := Lib.hid (Z6.out.trans k.out)
      clear k
      go_wp2_with fail; refine (CY.out _ _ (RY.out.kp Z7.out)).mono ?_; rintro e w8 ⟨rfl, kk⟩; have k := Lib.hid kk; clear kk
      have Z8 := Lib.hid (Z7.out.trans k.out)
      clear k
      go_wp2_with fail; refine (CM.out _ _ (RM.out.kp Z8.out)).mono ?_; rintro e w9 ⟨rfl, kk⟩; have k := Lib.hid kk; clear kk
      have Z9 := Lib.hid (Z8.out.trans k.out)
      clear k
      go_wp2_with fail; refine (F1.out _ _ _ (RX'.out.kp Z9.out) (RM.out.kp Z9.out)).mono ?_; rintro e w10 ⟨v5, rfl, own5, kk⟩; have R1 := Lib.hid (runsAt_own own5); obtain ⟨adR1, cR1, rfl⟩ := (R1).out.slice; have k := Lib.hid kk; clear own5 kk
      have Z10 := Lib.hid (Z9.out.trans k.out)
      clear k
      go_wp2_with fail; refine (GA.out _ (K4.out.trans Z10.out)).mono ?_; rintro e w11 ⟨v5, rfl, own5, kk⟩; have R2 := Lib.hid (runsAt_own own5); obtain ⟨adR2, cR2, rfl⟩ := (R2).out.slice; have k := Lib.hid kk; clear own5 kk
      have Z11 := Lib.hid (Z10.out.trans k.out)
      have R1' := Lib.hid (R1.out.kp k.out)
      clear k R1
      go_wp2_with fail; refine (same_any _ _ N _ R1'.out R2.out (by omega)).mono ?_; rintro e w12 ⟨rfl, kk⟩; have k := Lib.hid kk; clear kk
      have Z12 := Lib.hid (Z11.out.trans k.out)
      clear k R1' R2
      go_wp2_with fail; refine (F2.out _ _ (K4.out.trans Z12.out) (RX'.out.kp Z12.out)).mono ?_; rintro e w13 ⟨v5, rfl, own5, kk⟩; have R3 := Lib.hid (runsAt_own own5); obtain ⟨adR3, cR3, rfl⟩ := (R3).out.slice; have k := Lib.hid kk; clear own5 kk
      have Z13 := Lib.hid (Z12.out.trans k.out)
      clear k
      go_wp2_with fail; refine (GN.out _ (K4.out.trans Z13.out)).mono ?_; rintro e w14 ⟨v5, rfl, own5, kk⟩; have R4 := Lib.hid (runsAt_own own5); obtain ⟨adR4, cR4, rfl⟩ := (R4).out.slice; have k := Lib.hid kk; clear own5 kk
      have Z14 := Lib.hid (Z13.out.trans k.out)
      clear k
      go_wp2_with fail; refine (same_any _ _ M _ R4.out (RM.out.kp Z14.out) (by omega)).mono ?_; rintro e w15 ⟨rfl, kk⟩; have k := Lib.hid kk; clear kk
      have Z15 := Lib.hid (Z14.out.trans k.out)
      clear k R4
      go_wp2_with fail; refine (GV.out _ (K4.out.trans Z15.out)).mono ?_; rintro e w16 ⟨v5, rfl, own5, kk⟩; have R5 := Lib.hid (runsAt_own own5); obtain ⟨adR5, cR5, rfl⟩ := (R5).out.slice; have k := Lib.hid kk; clear own5 kk
      have Z16 := Lib.hid (Z15.out.trans k.out)
      clear k
      go_wp2_with fail; refine (GU.out _ (K4.out.trans Z16.out)).mono ?_; rintro e w17 ⟨v5, rfl, own5, kk⟩; have R6 := Lib.hid (runsAt_own own5); obtain ⟨adR6, cR6, rfl⟩ := (R6).out.slice; have k := Lib.hid kk; clear own5 kk
      have Z17 := Lib.hid (Z16.out.trans k.out)
      have R5' := Lib.hid (R5.out.kp k.out)
      clear k R5
      go_wp2_with fail; refine (same_any _ _ U _ R5'.out R6.out (by omega)).mono ?_; rintro e w18 ⟨rfl, kk⟩; have k := Lib.hid kk; clear kk
      have Z18 := Lib.hid (Z17.out.trans k.out)
      clear k
      go_wp2
      go_ret
      exact ⟨rfl, K4.out.trans Z18.out⟩
    · have g2 : decide ((40 : Int) < b.length) = true := decide_eq_true (by omega)
      clear ha hb
      go_enter Try.func10, Try.ntmps10
      go_wp2_with fail; refine (awake05 _).mono ?_; rintro e w1 ⟨rfl, kk⟩; have K1 := Lib.hid kk; clear kk; go_wp2; go_ret; exact ⟨rfl, K1.out⟩
  · have g1 : decide ((40 : Int) < a.length) = true := decide_eq_true (by omega)
    clear ha hb
    go_enter Try.func10, Try.ntmps10
    go_wp2_with fail; refine (awake05 _).mono ?_; rintro e w1 ⟨rfl, kk⟩; have K1 := Lib.hid kk; clear kk; go_wp2; go_ret; exact ⟨rfl, K1.out⟩
end Go.Proofs.Ytgaadakhkjfbnaa
