/-
  Walk of MaskSet: a number is in the set just if it matches.
-/
import Derived.Test.YtgjdaaopebkokaaMaskV
import Derived.Test.YtgjdaaopebkokaaMaskAw
namespace Go.Proofs.Ytgjdaaopebkokaa
open Go.RowKit
set_option linter.unusedVariables false
set_option maxHeartbeats 2000000 in
set_option maxRecDepth 100000 in
theorem maskSet_walk (s : ByteArray) (n : Int) (w : World) (nl : -9223372036854775808 ≤ n) (nh : n ≤ 9223372036854775807) :
    Calls Try.prog 4 #[.string s, .int .i64 n] w fun e w' => e = .returned (.bool true) ∧ Below w.heap.size w w' := by
  have A0 := Lib.hid (fun w => awake06 w)
  have A1 := Lib.hid (fun w => mset_any s w)
  have SA := setM_sane s
  have A2 := Lib.hid (fun v w h => sane_any v (setM s) w h (setM_i64 s))
  have A3 := Lib.hid (fun ad ln cp w h => has_of ad ln cp (setM s) n w (asS_sane _ _ w h (setM_i64 s) SA) SA (Nat.le_trans (setM_len s) (by omega)) nl nh)
  have A4 := Lib.hid (fun w => mmatch_any s n w nl nh)
  have A5 := Lib.hid (fun v w h => count_of v (setM s) w (asS_sane _ _ w h (setM_i64 s) SA) SA)
  have A6 := Lib.hid (fun w => mcount_any s w)
  have A7 := Lib.hid (fun w => msane_any s w)
  have CP := countM_pos s
  rw [saneB_yes SA] at A2
  rw [setM_sum] at A5
  rw [← CP] at A7
  have HS := setM_has s n
  rw [HS] at A3
  generalize matchM s n = m at *
  generalize countM s = c at *
  clear CP HS SA
  cases m <;> rcases Bool.eq_false_or_eq_true (decide (0 < c)) with hd | hd <;> rw [hd] at A7
  · go_enter Try.func4, Try.ntmps4
    go_wp2_with fail; refine (A0.out _).mono ?_; rintro e w1 ⟨rfl, k1⟩; have K1 := Lib.hid (id k1); clear k1
    go_wp2_with fail
    refine (A1.out _).mono ?_
    rintro e w2 ⟨v, rfl, own, k1⟩
    have K2 := Lib.hid (K1.out.trans k1)
    have ra := runsAt_own own
    obtain ⟨ad, cp, rfl⟩ := ra.slice
    have RA := Lib.hid ra
    clear own k1 ra
    go_wp2_with fail
    refine (A2.out _ _ RA.out).mono ?_
    rintro e w3 ⟨rfl, k1⟩
    have R3 := Lib.hid (RA.out.kp k1)
    have K3 := Lib.hid (K2.out.trans k1)
    clear k1
    go_wp2_with fail
    refine (A3.out _ _ _ _ R3.out).mono ?_
    rintro e w4 ⟨rfl, k1⟩
    have R4 := Lib.hid (R3.out.kp k1)
    have K4 := Lib.hid (K3.out.trans k1)
    clear k1
    go_wp2_with fail; refine (A4.out _).mono ?_; rintro e w5 ⟨rfl, k1⟩; have K5 := Lib.hid (K4.out.trans k1); have KX := Lib.hid k1; clear k1
    go_wp2_with fail
    refine (A5.out _ _ (R4.out.kp (KX.out))).mono ?_
    rintro e w6 ⟨rfl, k1⟩
    have K6 := Lib.hid (K5.out.trans k1)
    clear k1
    go_wp2_with fail; refine (A6.out _).mono ?_; rintro e w7 ⟨rfl, k1⟩; have K7 := Lib.hid (K6.out.trans k1); clear k1
    go_wp2_with fail; refine (A6.out _).mono ?_; rintro e w8 ⟨rfl, k1⟩; have K8 := Lib.hid (K7.out.trans k1); clear k1
    go_wp2_with fail; refine (A7.out _).mono ?_; rintro e w9 ⟨rfl, k1⟩; have K9 := Lib.hid (K8.out.trans k1); clear k1
    go_wp2
    go_ret
    exact ⟨rfl, K9.out⟩
  · go_enter Try.func4, Try.ntmps4
    go_wp2_with fail; refine (A0.out _).mono ?_; rintro e w1 ⟨rfl, k1⟩; have K1 := Lib.hid (id k1); clear k1
    go_wp2_with fail
    refine (A1.out _).mono ?_
    rintro e w2 ⟨v, rfl, own, k1⟩
    have K2 := Lib.hid (K1.out.trans k1)
    have ra := runsAt_own own
    obtain ⟨ad, cp, rfl⟩ := ra.slice
    have RA := Lib.hid ra
    clear own k1 ra
    go_wp2_with fail
    refine (A2.out _ _ RA.out).mono ?_
    rintro e w3 ⟨rfl, k1⟩
    have R3 := Lib.hid (RA.out.kp k1)
    have K3 := Lib.hid (K2.out.trans k1)
    clear k1
    go_wp2_with fail
    refine (A3.out _ _ _ _ R3.out).mono ?_
    rintro e w4 ⟨rfl, k1⟩
    have R4 := Lib.hid (R3.out.kp k1)
    have K4 := Lib.hid (K3.out.trans k1)
    clear k1
    go_wp2_with fail; refine (A4.out _).mono ?_; rintro e w5 ⟨rfl, k1⟩; have K5 := Lib.hid (K4.out.trans k1); have KX := Lib.hid k1; clear k1
    go_wp2_with fail
    refine (A5.out _ _ (R4.out.kp (KX.out))).mono ?_
    rintro e w6 ⟨rfl, k1⟩
    have K6 := Lib.hid (K5.out.trans k1)
    clear k1
    go_wp2_with fail; refine (A6.out _).mono ?_; rintro e w7 ⟨rfl, k1⟩; have K7 := Lib.hid (K6.out.trans k1); clear k1
    go_wp2_with fail; refine (A6.out _).mono ?_; rintro e w8 ⟨rfl, k1⟩; have K8 := Lib.hid (K7.out.trans k1); clear k1
    go_wp2_with fail; refine (A7.out _).mono ?_; rintro e w9 ⟨rfl, k1⟩; have K9 := Lib.hid (K8.out.trans k1); clear k1
    go_wp2
    go_ret
    exact ⟨rfl, K9.out⟩
  · go_enter Try.func4, Try.ntmps4
    go_wp2_with fail; refine (A0.out _).mono ?_; rintro e w1 ⟨rfl, k1⟩; have K1 := Lib.hid (id k1); clear k1
    go_wp2_with fail
    refine (A1.out _).mono ?_
    rintro e w2 ⟨v, rfl, own, k1⟩
    have K2 := Lib.hid (K1.out.trans k1)
    have ra := runsAt_own own
    obtain ⟨ad, cp, rfl⟩ := ra.slice
    have RA := Lib.hid ra
    clear own k1 ra
    go_wp2_with fail
    refine (A2.out _ _ RA.out).mono ?_
    rintro e w3 ⟨rfl, k1⟩
    have R3 := Lib.hid (RA.out.kp k1)
    have K3 := Lib.hid (K2.out.trans k1)
    clear k1
    go_wp2_with fail
    refine (A3.out _ _ _ _ R3.out).mono ?_
    rintro e w4 ⟨rfl, k1⟩
    have R4 := Lib.hid (R3.out.kp k1)
    have K4 := Lib.hid (K3.out.trans k1)
    clear k1
    go_wp2_with fail; refine (A4.out _).mono ?_; rintro e w5 ⟨rfl, k1⟩; have K5 := Lib.hid (K4.out.trans k1); have KX := Lib.hid k1; clear k1
    go_wp2_with fail
    refine (A5.out _ _ (R4.out.kp (KX.out))).mono ?_
    rintro e w6 ⟨rfl, k1⟩
    have K6 := Lib.hid (K5.out.trans k1)
    clear k1
    go_wp2_with fail; refine (A6.out _).mono ?_; rintro e w7 ⟨rfl, k1⟩; have K7 := Lib.hid (K6.out.trans k1); clear k1
    go_wp2_with fail; refine (A6.out _).mono ?_; rintro e w8 ⟨rfl, k1⟩; have K8 := Lib.hid (K7.out.trans k1); clear k1
    go_wp2_with fail; refine (A7.out _).mono ?_; rintro e w9 ⟨rfl, k1⟩; have K9 := Lib.hid (K8.out.trans k1); clear k1
    go_wp2
    go_ret
    exact ⟨rfl, K9.out⟩
  · go_enter Try.func4, Try.ntmps4
    go_wp2_with fail; refine (A0.out _).mono ?_; rintro e w1 ⟨rfl, k1⟩; have K1 := Lib.hid (id k1); clear k1
    go_wp2_with fail
    refine (A1.out _).mono ?_
    rintro e w2 ⟨v, rfl, own, k1⟩
    have K2 := Lib.hid (K1.out.trans k1)
    have ra := runsAt_own own
    obtain ⟨ad, cp, rfl⟩ := ra.slice
    have RA := Lib.hid ra
    clear own k1 ra
    go_wp2_with fail
    refine (A2.out _ _ RA.out).mono ?_
    rintro e w3 ⟨rfl, k1⟩
    have R3 := Lib.hid (RA.out.kp k1)
    have K3 := Lib.hid (K2.out.trans k1)
    clear k1
    go_wp2_with fail
    refine (A3.out _ _ _ _ R3.out).mono ?_
    rintro e w4 ⟨rfl, k1⟩
    have R4 := Lib.hid (R3.out.kp k1)
    have K4 := Lib.hid (K3.out.trans k1)
    clear k1
    go_wp2_with fail; refine (A4.out _).mono ?_; rintro e w5 ⟨rfl, k1⟩; have K5 := Lib.hid (K4.out.trans k1); have KX := Lib.hid k1; clear k1
    go_wp2_with fail
    refine (A5.out _ _ (R4.out.kp (KX.out))).mono ?_
    rintro e w6 ⟨rfl, k1⟩
    have K6 := Lib.hid (K5.out.trans k1)
    clear k1
    go_wp2_with fail; refine (A6.out _).mono ?_; rintro e w7 ⟨rfl, k1⟩; have K7 := Lib.hid (K6.out.trans k1); clear k1
    go_wp2_with fail; refine (A6.out _).mono ?_; rintro e w8 ⟨rfl, k1⟩; have K8 := Lib.hid (K7.out.trans k1); clear k1
    go_wp2_with fail; refine (A7.out _).mono ?_; rintro e w9 ⟨rfl, k1⟩; have K9 := Lib.hid (K8.out.trans k1); clear k1
    go_wp2
    go_ret
    exact ⟨rfl, K9.out⟩
end Go.Proofs.Ytgjdaaopebkokaa
