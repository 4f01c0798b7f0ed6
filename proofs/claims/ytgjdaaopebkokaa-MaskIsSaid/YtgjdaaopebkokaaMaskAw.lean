/-
  Walks of the statements of layer 6: the document's examples; the mask of both.
-/
import Derived.Test.YtgjdaaopebkokaaMaskP
import Derived.Test.YtgjdaaopebkokaaMaskB
namespace Go.Proofs.Ytgjdaaopebkokaa
open Go.RowKit
set_option linter.unusedVariables false
def s1X : ByteArray := ⟨#[49, 88]⟩
def sX2 : ByteArray := ⟨#[88, 50]⟩
def s12 : ByteArray := ⟨#[49, 50]⟩
def s19 : ByteArray := ⟨#[49, 57, 88, 52]⟩
def sX : ByteArray := ⟨#[88]⟩
theorem ex1 : meetS s1X sX2 = s12 := by rfl
theorem ex2 : meetB s1X sX2 = true := by decide +kernel
theorem ex3 : onlyV s12 = 12 := by decide +kernel
theorem ex4 : onlyB s12 = true := by decide +kernel
theorem ex5 : matchM s19 1984 = true := by decide +kernel
theorem ex6 : matchM s19 1985 = false := by decide +kernel
theorem ex7 : (setM s19).length = 10 := by decide +kernel
theorem ex8 : countM s19 = 10 := by decide +kernel
theorem ex9 : saneM sX = true := by decide +kernel
set_option maxHeartbeats 1000000 in
set_option maxRecDepth 100000 in
theorem awake06 (w : World) : Calls Try.prog 13 #[] w fun e w' => e = .returned (.bool true) ∧ Kp w w' := by
  have A1 := Lib.hid (fun w => mmeet_any s1X sX2 w (by decide) (by decide))
  have A2 := Lib.hid (fun w => monly_any s12 w)
  have A3 := Lib.hid (fun w => mmatch_any s19 1984 w (by decide) (by decide))
  have A4 := Lib.hid (fun w => mmatch_any s19 1985 w (by decide) (by decide))
  have A5 := Lib.hid (fun w => mset_any s19 w)
  have A6 := Lib.hid (fun w => mcount_any s19 w)
  have A7 := Lib.hid (fun w => msane_any sX w)
  rw [ex1, ex2] at A1
  rw [ex3, ex4] at A2
  rw [ex5] at A3
  rw [ex6] at A4
  rw [ex7] at A5
  rw [ex8] at A6
  rw [ex9] at A7
  unfold s1X sX2 s12 at A1
  unfold s12 at A2
  unfold s19 at A3 A4 A5 A6
  unfold sX at A7
  go_enter Try.func13, Try.ntmps13
  go_wp2_with fail; refine (A1.out _).mono ?_; rintro e w1 ⟨rfl, k1⟩; have K1 := Lib.hid (id k1); clear k1
  go_wp2_with fail; refine (A2.out _).mono ?_; rintro e w2 ⟨rfl, k1⟩; have K2 := Lib.hid (K1.out.trans k1); clear k1
  go_wp2_with fail; refine (A3.out _).mono ?_; rintro e w3 ⟨rfl, k1⟩; have K3 := Lib.hid (K2.out.trans k1); clear k1
  go_wp2_with fail; refine (A4.out _).mono ?_; rintro e w4 ⟨rfl, k1⟩; have K4 := Lib.hid (K3.out.trans k1); clear k1
  go_wp2_with fail
  refine (A5.out _).mono ?_
  rintro e w5 ⟨v, rfl, own, k1⟩
  have K5 := Lib.hid (K4.out.trans k1)
  obtain ⟨g, cap, rfl, _, _⟩ := own.form (by decide)
  clear own k1
  go_wp2_with fail; refine (A6.out _).mono ?_; rintro e w6 ⟨rfl, k1⟩; have K6 := Lib.hid (K5.out.trans k1); clear k1
  go_wp2_with fail; refine (A7.out _).mono ?_; rintro e w7 ⟨rfl, k1⟩; have K7 := Lib.hid (K6.out.trans k1); clear k1
  go_wp2
  go_ret
  exact ⟨rfl, K7.out⟩
set_option maxHeartbeats 2000000 in
set_option maxRecDepth 100000 in
theorem maskMeet_walk (a b : ByteArray) (n : Int) (w : World) (la : a.size ≤ maxLen) (lb : b.size ≤ maxLen) (nl : -9223372036854775808 ≤ n) (nh : n ≤ 9223372036854775807) :
    Calls Try.prog 6 #[.string a, .string b, .int .i64 n] w fun e w' => e = .returned (.bool true) ∧ Below w.heap.size w w' := by
  have A0 := Lib.hid (fun w => awake06 w)
  have A1 := Lib.hid (fun w => mmeet_any a b w la lb)
  have A2 := Lib.hid (fun w => mmeet_any b a w lb la)
  have A3 := Lib.hid (fun w => msane_any a w)
  have A4 := Lib.hid (fun w => msane_any b w)
  have A5 := Lib.hid (fun w => mmatch_any a n w nl nh)
  have A6 := Lib.hid (fun w => mmatch_any b n w nl nh)
  rw [meetB_comm b a, meetS_comm b a] at A2
  unfold maxLen at la lb
  rcases Bool.eq_false_or_eq_true (meetB a b) with h | h
  · have m := meets_of h
    have A7 := Lib.hid (fun w => msane_any (meetS a b) w)
    have A8 := Lib.hid (fun w => mmatch_any (meetS a b) n w nl nh)
    rw [meet_sane h] at A7
    rw [meet_match h] at A8
    rw [h] at A1 A2
    rw [m.sa] at A3
    rw [m.sb] at A4
    have z1 : ((a.size : Int) != (b.size : Int)) = false := by rw [m.sz]; simp
    have z2 := meet_size h
    have ls : (meetS a b).size ≤ 9223372036854775807 := by rw [z2]; omega
    have z3 : (((meetS a b).size : Int) == (a.size : Int)) = true := by rw [z2]; simp
    generalize meetS a b = s at *
    generalize matchM a n = ma at *
    generalize matchM b n = mb at *
    clear h m z2
    cases ma
    · go_enter Try.func6, Try.ntmps6
      go_wp2_with fail; refine (A0.out _).mono ?_; rintro e w1 ⟨rfl, k1⟩; have K1 := Lib.hid (id k1); clear k1
      go_wp2_with fail; refine (A1.out _).mono ?_; rintro e w2 ⟨rfl, k1⟩; have K2 := Lib.hid (K1.out.trans k1); clear k1
      go_wp2_with fail; refine (A2.out _).mono ?_; rintro e w3 ⟨rfl, k1⟩; have K3 := Lib.hid (K2.out.trans k1); clear k1
      go_wp2_with fail; refine (A3.out _).mono ?_; rintro e w4 ⟨rfl, k1⟩; have K4 := Lib.hid (K3.out.trans k1); clear k1
      go_wp2_with fail; refine (A4.out _).mono ?_; rintro e w5 ⟨rfl, k1⟩; have K5 := Lib.hid (K4.out.trans k1); clear k1
      go_wp2_with fail; refine (A7.out _).mono ?_; rintro e w6 ⟨rfl, k1⟩; have K6 := Lib.hid (K5.out.trans k1); clear k1
      go_wp2_with fail; refine (A8.out _).mono ?_; rintro e w7 ⟨rfl, k1⟩; have K7 := Lib.hid (K6.out.trans k1); clear k1
      go_wp2_with fail; refine (A5.out _).mono ?_; rintro e w8 ⟨rfl, k1⟩; have K8 := Lib.hid (K7.out.trans k1); clear k1
      go_wp2
      go_ret
      exact ⟨rfl, K8.out⟩
    · go_enter Try.func6, Try.ntmps6
      go_wp2_with fail; refine (A0.out _).mono ?_; rintro e w1 ⟨rfl, k1⟩; have K1 := Lib.hid (id k1); clear k1
      go_wp2_with fail; refine (A1.out _).mono ?_; rintro e w2 ⟨rfl, k1⟩; have K2 := Lib.hid (K1.out.trans k1); clear k1
      go_wp2_with fail; refine (A2.out _).mono ?_; rintro e w3 ⟨rfl, k1⟩; have K3 := Lib.hid (K2.out.trans k1); clear k1
      go_wp2_with fail; refine (A3.out _).mono ?_; rintro e w4 ⟨rfl, k1⟩; have K4 := Lib.hid (K3.out.trans k1); clear k1
      go_wp2_with fail; refine (A4.out _).mono ?_; rintro e w5 ⟨rfl, k1⟩; have K5 := Lib.hid (K4.out.trans k1); clear k1
      go_wp2_with fail; refine (A7.out _).mono ?_; rintro e w6 ⟨rfl, k1⟩; have K6 := Lib.hid (K5.out.trans k1); clear k1
      go_wp2_with fail; refine (A8.out _).mono ?_; rintro e w7 ⟨rfl, k1⟩; have K7 := Lib.hid (K6.out.trans k1); clear k1
      go_wp2_with fail; refine (A5.out _).mono ?_; rintro e w8 ⟨rfl, k1⟩; have K8 := Lib.hid (K7.out.trans k1); clear k1
      go_wp2_with fail; refine (A6.out _).mono ?_; rintro e w9 ⟨rfl, k1⟩; have K9 := Lib.hid (K8.out.trans k1); clear k1
      go_wp2
      go_ret
      exact ⟨by simp, K9.out⟩
  · have NS : meetS a b = ByteArray.empty := by unfold meetS; rw [h]; rfl
    rw [h, NS] at A1 A2
    by_cases hs : a.size = b.size
    · have z1 : ((a.size : Int) != (b.size : Int)) = false := by rw [hs]; simp
      rcases Bool.eq_false_or_eq_true (saneM a) with ha | ha
      · rw [ha] at A3
        rcases Bool.eq_false_or_eq_true (saneM b) with hb | hb
        · rw [hb] at A4
          have nn := meet_none ha hb hs h n
          generalize matchM a n = ma at *
          generalize matchM b n = mb at *
          clear h NS hs ha hb
          cases ma
          · go_enter Try.func6, Try.ntmps6
            go_wp2_with fail; refine (A0.out _).mono ?_; rintro e w1 ⟨rfl, k1⟩; have K1 := Lib.hid (id k1); clear k1
            go_wp2_with fail; refine (A1.out _).mono ?_; rintro e w2 ⟨rfl, k1⟩; have K2 := Lib.hid (K1.out.trans k1); clear k1
            go_wp2_with fail; refine (A2.out _).mono ?_; rintro e w3 ⟨rfl, k1⟩; have K3 := Lib.hid (K2.out.trans k1); clear k1
            go_wp2_with fail; refine (A3.out _).mono ?_; rintro e w4 ⟨rfl, k1⟩; have K4 := Lib.hid (K3.out.trans k1); clear k1
            go_wp2_with fail; refine (A4.out _).mono ?_; rintro e w5 ⟨rfl, k1⟩; have K5 := Lib.hid (K4.out.trans k1); clear k1
            go_wp2_with fail; refine (A5.out _).mono ?_; rintro e w8 ⟨rfl, k1⟩; have K8 := Lib.hid (K5.out.trans k1); clear k1
            go_wp2
            go_ret
            exact ⟨rfl, K8.out⟩
          · have e : mb = false := by simpa using nn
            subst e
            go_enter Try.func6, Try.ntmps6
            go_wp2_with fail; refine (A0.out _).mono ?_; rintro e w1 ⟨rfl, k1⟩; have K1 := Lib.hid (id k1); clear k1
            go_wp2_with fail; refine (A1.out _).mono ?_; rintro e w2 ⟨rfl, k1⟩; have K2 := Lib.hid (K1.out.trans k1); clear k1
            go_wp2_with fail; refine (A2.out _).mono ?_; rintro e w3 ⟨rfl, k1⟩; have K3 := Lib.hid (K2.out.trans k1); clear k1
            go_wp2_with fail; refine (A3.out _).mono ?_; rintro e w4 ⟨rfl, k1⟩; have K4 := Lib.hid (K3.out.trans k1); clear k1
            go_wp2_with fail; refine (A4.out _).mono ?_; rintro e w5 ⟨rfl, k1⟩; have K5 := Lib.hid (K4.out.trans k1); clear k1
            go_wp2_with fail; refine (A5.out _).mono ?_; rintro e w8 ⟨rfl, k1⟩; have K8 := Lib.hid (K5.out.trans k1); clear k1
            go_wp2_with fail; refine (A6.out _).mono ?_; rintro e w9 ⟨rfl, k1⟩; have K9 := Lib.hid (K8.out.trans k1); clear k1
            go_wp2
            go_ret
            exact ⟨rfl, K9.out⟩
        · rw [hb] at A4
          clear h NS hs ha hb
          go_enter Try.func6, Try.ntmps6
          go_wp2_with fail; refine (A0.out _).mono ?_; rintro e w1 ⟨rfl, k1⟩; have K1 := Lib.hid (id k1); clear k1
          go_wp2_with fail; refine (A1.out _).mono ?_; rintro e w2 ⟨rfl, k1⟩; have K2 := Lib.hid (K1.out.trans k1); clear k1
          go_wp2_with fail; refine (A2.out _).mono ?_; rintro e w3 ⟨rfl, k1⟩; have K3 := Lib.hid (K2.out.trans k1); clear k1
          go_wp2_with fail; refine (A3.out _).mono ?_; rintro e w4 ⟨rfl, k1⟩; have K4 := Lib.hid (K3.out.trans k1); clear k1
          go_wp2_with fail; refine (A4.out _).mono ?_; rintro e w5 ⟨rfl, k1⟩; have K5 := Lib.hid (K4.out.trans k1); clear k1
          go_wp2
          go_ret
          exact ⟨rfl, K5.out⟩
      · rw [ha] at A3
        clear h NS hs ha
        go_enter Try.func6, Try.ntmps6
        go_wp2_with fail; refine (A0.out _).mono ?_; rintro e w1 ⟨rfl, k1⟩; have K1 := Lib.hid (id k1); clear k1
        go_wp2_with fail; refine (A1.out _).mono ?_; rintro e w2 ⟨rfl, k1⟩; have K2 := Lib.hid (K1.out.trans k1); clear k1
        go_wp2_with fail; refine (A2.out _).mono ?_; rintro e w3 ⟨rfl, k1⟩; have K3 := Lib.hid (K2.out.trans k1); clear k1
        go_wp2_with fail; refine (A3.out _).mono ?_; rintro e w4 ⟨rfl, k1⟩; have K4 := Lib.hid (K3.out.trans k1); clear k1
        go_wp2
        go_ret
        exact ⟨rfl, K4.out⟩
    · have z1 : ((a.size : Int) != (b.size : Int)) = true := by simp; omega
      clear h NS hs
      go_enter Try.func6, Try.ntmps6
      go_wp2_with fail; refine (A0.out _).mono ?_; rintro e w1 ⟨rfl, k1⟩; have K1 := Lib.hid (id k1); clear k1
      go_wp2_with fail; refine (A1.out _).mono ?_; rintro e w2 ⟨rfl, k1⟩; have K2 := Lib.hid (K1.out.trans k1); clear k1
      go_wp2_with fail; refine (A2.out _).mono ?_; rintro e w3 ⟨rfl, k1⟩; have K3 := Lib.hid (K2.out.trans k1); clear k1
      go_wp2
      go_ret
      exact ⟨rfl, K3.out⟩
end Go.Proofs.Ytgjdaaopebkokaa
