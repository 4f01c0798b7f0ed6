/-
  Walk of MaskDigits: a number matches its own digits.
-/
import Derived.Test.YtgjdaaopebkokaaMaskQ
import Derived.Test.YtgjdaaopebkokaaMaskAw
import Derived.Test.YtgjdaaopebkokaaMask
import Derived.Laws.Concat
namespace Go.Proofs.Ytgjdaaopebkokaa
open Go.RowKit
set_option linter.unusedVariables false
theorem strOf_append (l m : List Int) : strOfNums l ++ strOfNums m = strOfNums (l ++ m) := by
  apply ByteArray.ext
  rw [ByteArray.data_append]
  unfold strOfNums
  simp
theorem and3 (n : Int) : bits .and .i64 n 3 = n % 4 := by
  rw [and_aux n _ 2 (by decide), IntKind.wrap_i64]; omega
def dgs (x : Nat) (k : Nat) : List Int := [(dg x 1000 : Int), dg x 100, dg x 10, dg x 1].take k
def Dk (k : Nat) : Int := [1000, 100, 10, 1, 0].getD k 0
theorem dgs_all (x : Nat) : strOfNums (dgs x 4) = wri x := rfl
theorem dgs_len (x k : Nat) (h : k ≤ 4) : (strOfNums (dgs x k)).size = k := by
  rw [strOfNums_size]; unfold dgs; simp; omega
theorem dgs_0 (x : Nat) : dgs x 0 ++ [48 + (x : Int) / 1000 % 10] = dgs x (0 + 1) := by unfold dgs dg; simp
theorem dgs_1 (x : Nat) : dgs x 1 ++ [48 + (x : Int) / 100 % 10] = dgs x (1 + 1) := by unfold dgs dg; simp
theorem dgs_2 (x : Nat) : dgs x 2 ++ [48 + (x : Int) / 10 % 10] = dgs x (2 + 1) := by unfold dgs dg; simp
theorem dgs_3 (x : Nat) : dgs x 3 ++ [48 + (x : Int) % 10] = dgs x (3 + 1) := by unfold dgs dg; simp
theorem hs0 (x : Nat) : (⟨#[88]⟩ : ByteArray) ++ (wri x).extract 1 4 = hidI x 0 := by
  rw [wri_eq, hid0]; apply ByteArray.ext; simp [ByteArray.data_append, ByteArray.data_extract]
theorem hs1 (x : Nat) : (wri x).extract 0 1 ++ (⟨#[88]⟩ : ByteArray) ++ (wri x).extract 2 4 = hidI x 1 := by
  rw [wri_eq, hid1]; apply ByteArray.ext; simp [ByteArray.data_append, ByteArray.data_extract]
theorem hs2 (x : Nat) : (wri x).extract 0 2 ++ (⟨#[88]⟩ : ByteArray) ++ (wri x).extract 3 4 = hidI x 2 := by
  rw [wri_eq, hid2]; apply ByteArray.ext; simp [ByteArray.data_append, ByteArray.data_extract]
theorem hs3 (x : Nat) : (wri x).extract 0 3 ++ (⟨#[88]⟩ : ByteArray) = hidI x 3 := by
  rw [wri_eq, hid3]; apply ByteArray.ext; simp [ByteArray.data_append, ByteArray.data_extract]
def bx (w : World) (v : Int) (t : TypeId) : World := w.alloc (.cells #[.int .u8 v] t)
set_option maxHeartbeats 4000000 in
set_option maxRecDepth 100000 in
theorem digits_round (x : Nat) (hx : x < 10000) (i m : Int) (w : World) (nl : -9223372036854775808 ≤ m) (nh : m ≤ 9223372036854775807) (n k : Int) (e16 : bits .and .i64 n 65535 = i) (i0 : 0 ≤ i) (ih : i < 65536) (ex : i % 10000 = (x : Int))
    (j : Nat) (hj : j = 0 ∨ j = 1 ∨ j = 2 ∨ j = 3) (e3 : bits .and .i64 k 3 = (j : Int)) :
    Calls Try.prog 5 #[.int .i64 n, .int .i64 m, .int .i64 k] w fun e w' => e = .returned (.bool true) ∧ Below w.heap.size w w' := by
  have A0 := Lib.hid (fun w => awake06 w)
  have hxl : (x : Int) < 10000 := by omega
  have hx0 : (0 : Int) ≤ (x : Int) := by omega
  have D4 := Lib.hid (dgs_all x)
  have TT := Lib.hid hj
  clear hj
  go_enter Try.func5, Try.ntmps5
  go_wp2_with fail; refine (A0.out _).mono ?_; rintro e w1 ⟨rfl, k1⟩; have K1 := Lib.hid (id k1); clear k1
  go_wp2
  go_loopw [10, 11] (fun s d wr => ∃ k : Nat, k ≤ 4 ∧ d = .int .i64 (Dk k) ∧ s = .string (strOfNums (dgs x k)) ∧ Kp w wr) (fun _ d _ => (intOf d).toNat)
  case atStart => exact ⟨0, by omega, rfl, rfl, K1.out⟩
  case round =>
    obtain ⟨q, hq, rfl, rfl, k2⟩ := hrel
    have K2 := Lib.hid k2
    clear k2
    by_cases hlt : q < 4
    · have ls := dgs_len x q hq
      have hv : q = 0 ∨ q = 1 ∨ q = 2 ∨ q = 3 := by omega
      rcases hv with rfl | rfl | rfl | rfl
      · have lu := strOfNums_size [48 + (x : Int) / 1000 % 10]; have hcv := run_convert_bytes_arg (P := Try.prog) (wr.alloc (.cells #[.int .u8 (48 + (x : Int) / 1000 % 10)] 5)) 37 5 Try.underlying37 Try.underlying5 wr.heap.size 0 1 1 [48 + (x : Int) / 1000 % 10] rfl (by intro i hi; obtain rfl : i = 0 := (by omega); simp) 9 Try.underlying9; have AP := Lib.hid (show strOfNums (dgs x 0) ++ strOfNums [48 + (x : Int) / 1000 % 10] = strOfNums (dgs x (0 + 1)) from (strOf_append _ _).trans (congrArg strOfNums (dgs_0 x))); generalize strOfNums [48 + (x : Int) / 1000 % 10] = u at *; generalize strOfNums (dgs x 0) = t at *; have d0 : Dk 0 = 1000 := rfl; simp only [List.length_singleton] at lu; go_wp2
        exact ⟨⟨1, by omega, rfl, congrArg Value.string AP.out, K2.out.trans (Kp.alloc _ _)⟩, by decide⟩
      · have lu := strOfNums_size [48 + (x : Int) / 100 % 10]; have hcv := run_convert_bytes_arg (P := Try.prog) (wr.alloc (.cells #[.int .u8 (48 + (x : Int) / 100 % 10)] 5)) 37 5 Try.underlying37 Try.underlying5 wr.heap.size 0 1 1 [48 + (x : Int) / 100 % 10] rfl (by intro i hi; obtain rfl : i = 0 := (by omega); simp) 9 Try.underlying9; have AP := Lib.hid (show strOfNums (dgs x 1) ++ strOfNums [48 + (x : Int) / 100 % 10] = strOfNums (dgs x (1 + 1)) from (strOf_append _ _).trans (congrArg strOfNums (dgs_1 x))); generalize strOfNums [48 + (x : Int) / 100 % 10] = u at *; generalize strOfNums (dgs x 1) = t at *; have d0 : Dk 1 = 100 := rfl; simp only [List.length_singleton] at lu; go_wp2
        exact ⟨⟨2, by omega, rfl, congrArg Value.string AP.out, K2.out.trans (Kp.alloc _ _)⟩, by decide⟩
      · have lu := strOfNums_size [48 + (x : Int) / 10 % 10]; have hcv := run_convert_bytes_arg (P := Try.prog) (wr.alloc (.cells #[.int .u8 (48 + (x : Int) / 10 % 10)] 5)) 37 5 Try.underlying37 Try.underlying5 wr.heap.size 0 1 1 [48 + (x : Int) / 10 % 10] rfl (by intro i hi; obtain rfl : i = 0 := (by omega); simp) 9 Try.underlying9; have AP := Lib.hid (show strOfNums (dgs x 2) ++ strOfNums [48 + (x : Int) / 10 % 10] = strOfNums (dgs x (2 + 1)) from (strOf_append _ _).trans (congrArg strOfNums (dgs_2 x))); generalize strOfNums [48 + (x : Int) / 10 % 10] = u at *; generalize strOfNums (dgs x 2) = t at *; have d0 : Dk 2 = 10 := rfl; simp only [List.length_singleton] at lu; go_wp2
        exact ⟨⟨3, by omega, rfl, congrArg Value.string AP.out, K2.out.trans (Kp.alloc _ _)⟩, by decide⟩
      · have lu := strOfNums_size [48 + (x : Int) % 10]; have hcv := run_convert_bytes_arg (P := Try.prog) (wr.alloc (.cells #[.int .u8 (48 + (x : Int) % 10)] 5)) 37 5 Try.underlying37 Try.underlying5 wr.heap.size 0 1 1 [48 + (x : Int) % 10] rfl (by intro i hi; obtain rfl : i = 0 := (by omega); simp) 9 Try.underlying9; have AP := Lib.hid (show strOfNums (dgs x 3) ++ strOfNums [48 + (x : Int) % 10] = strOfNums (dgs x (3 + 1)) from (strOf_append _ _).trans (congrArg strOfNums (dgs_3 x))); generalize strOfNums [48 + (x : Int) % 10] = u at *; generalize strOfNums (dgs x 3) = t at *; have d0 : Dk 3 = 1 := rfl; simp only [List.length_singleton] at lu; go_wp2
        exact ⟨⟨4, by omega, rfl, congrArg Value.string AP.out, K2.out.trans (Kp.alloc _ _)⟩, by decide⟩
    · obtain rfl : q = 4 := by omega
      rw [D4.out]
      have d0 : Dk 4 = 0 := rfl
      have A1 := Lib.hid (fun w => monly_any (wri x) w)
      have A2 := Lib.hid (fun w => monly_any (hidI x j) w)
      have A3 := Lib.hid (fun w => msane_any (wri x) w)
      have A4 := Lib.hid (fun w => mmatch_any (wri x) m w nl nh)
      have A5 := Lib.hid (fun w => mcount_any (hidI x j) w)
      have A6 := Lib.hid (fun w => mmatch_any (hidI x j) x w (by omega) (by omega))
      rw [wri_only, wri_val x hx] at A1
      rw [hid_only, show onlyV (hidI x j) = 0 by unfold onlyV; rw [hid_only]; rfl] at A2
      rw [wri_sane] at A3
      rw [wri_match x hx] at A4
      rw [hid_count] at A5
      rw [hid_match x j hx] at A6
      have H0 := Lib.hid (hs0 x)
      have H1 := Lib.hid (hs1 x)
      have H2 := Lib.hid (hs2 x)
      have H3 := Lib.hid (hs3 x)
      have ls : (wri x).size = 4 := four_size _ _ _ _
      generalize wri x = s at *
      have l3 : (s.extract 0 3).size = 3 := by rw [ByteArray.size_extract]; omega
      have A7 := Lib.hid (fun w => mmatch_any (s.extract 0 3) ((x : Int) + 1000) w (by omega) (by omega))
      rw [three_no _ l3 _ (by omega)] at A7
      clear l3
      rcases Bool.eq_false_or_eq_true (m == (x : Int)) with g | g
      · rw [g] at A4
        rcases TT.out with rfl | rfl | rfl | rfl
        · go_wp2_with fail; go_quiet (fail); rw [H0.out]; generalize hidI x 0 = hh at *; go_wp2_with fail; refine (A1.out _).mono ?_; rintro e w2 ⟨rfl, k1⟩; have K3 := Lib.hid ((K2.out.trans (Kp.drewN _ _)).trans k1); clear k1; go_wp2_with fail; refine (A2.out _).mono ?_; rintro e w3 ⟨rfl, k1⟩; have K4 := Lib.hid (K3.out.trans k1); clear k1; go_wp2_with fail; refine (A3.out _).mono ?_; rintro e w4 ⟨rfl, k1⟩; have K5 := Lib.hid (K4.out.trans k1); clear k1; go_wp2_with fail; refine (A4.out _).mono ?_; rintro e w5 ⟨rfl, k1⟩; have K6 := Lib.hid (K5.out.trans k1); clear k1; go_wp2_with fail; refine (A5.out _).mono ?_; rintro e w6 ⟨rfl, k1⟩; have K7 := Lib.hid (K6.out.trans k1); clear k1; go_wp2_with fail; refine (A6.out _).mono ?_; rintro e w7 ⟨rfl, k1⟩; have K8 := Lib.hid (K7.out.trans k1); clear k1; go_wp2_with fail; refine (A7.out _).mono ?_; rintro e w8 ⟨rfl, k1⟩; have K9 := Lib.hid (K8.out.trans k1); clear k1; go_wp2; go_ret; exact ⟨rfl, K9.out⟩
        · go_wp2_with fail; go_quiet (fail); rw [H1.out]; generalize hidI x 1 = hh at *; go_wp2_with fail; refine (A1.out _).mono ?_; rintro e w2 ⟨rfl, k1⟩; have K3 := Lib.hid ((K2.out.trans (Kp.drewN _ _)).trans k1); clear k1; go_wp2_with fail; refine (A2.out _).mono ?_; rintro e w3 ⟨rfl, k1⟩; have K4 := Lib.hid (K3.out.trans k1); clear k1; go_wp2_with fail; refine (A3.out _).mono ?_; rintro e w4 ⟨rfl, k1⟩; have K5 := Lib.hid (K4.out.trans k1); clear k1; go_wp2_with fail; refine (A4.out _).mono ?_; rintro e w5 ⟨rfl, k1⟩; have K6 := Lib.hid (K5.out.trans k1); clear k1; go_wp2_with fail; refine (A5.out _).mono ?_; rintro e w6 ⟨rfl, k1⟩; have K7 := Lib.hid (K6.out.trans k1); clear k1; go_wp2_with fail; refine (A6.out _).mono ?_; rintro e w7 ⟨rfl, k1⟩; have K8 := Lib.hid (K7.out.trans k1); clear k1; go_wp2_with fail; refine (A7.out _).mono ?_; rintro e w8 ⟨rfl, k1⟩; have K9 := Lib.hid (K8.out.trans k1); clear k1; go_wp2; go_ret; exact ⟨rfl, K9.out⟩
        · go_wp2_with fail; go_quiet (fail); rw [H2.out]; generalize hidI x 2 = hh at *; go_wp2_with fail; refine (A1.out _).mono ?_; rintro e w2 ⟨rfl, k1⟩; have K3 := Lib.hid ((K2.out.trans (Kp.drewN _ _)).trans k1); clear k1; go_wp2_with fail; refine (A2.out _).mono ?_; rintro e w3 ⟨rfl, k1⟩; have K4 := Lib.hid (K3.out.trans k1); clear k1; go_wp2_with fail; refine (A3.out _).mono ?_; rintro e w4 ⟨rfl, k1⟩; have K5 := Lib.hid (K4.out.trans k1); clear k1; go_wp2_with fail; refine (A4.out _).mono ?_; rintro e w5 ⟨rfl, k1⟩; have K6 := Lib.hid (K5.out.trans k1); clear k1; go_wp2_with fail; refine (A5.out _).mono ?_; rintro e w6 ⟨rfl, k1⟩; have K7 := Lib.hid (K6.out.trans k1); clear k1; go_wp2_with fail; refine (A6.out _).mono ?_; rintro e w7 ⟨rfl, k1⟩; have K8 := Lib.hid (K7.out.trans k1); clear k1; go_wp2_with fail; refine (A7.out _).mono ?_; rintro e w8 ⟨rfl, k1⟩; have K9 := Lib.hid (K8.out.trans k1); clear k1; go_wp2; go_ret; exact ⟨rfl, K9.out⟩
        · go_wp2_with fail; go_quiet (fail); rw [H3.out]; generalize hidI x 3 = hh at *; go_wp2_with fail; refine (A1.out _).mono ?_; rintro e w2 ⟨rfl, k1⟩; have K3 := Lib.hid ((K2.out.trans (Kp.drewN _ _)).trans k1); clear k1; go_wp2_with fail; refine (A2.out _).mono ?_; rintro e w3 ⟨rfl, k1⟩; have K4 := Lib.hid (K3.out.trans k1); clear k1; go_wp2_with fail; refine (A3.out _).mono ?_; rintro e w4 ⟨rfl, k1⟩; have K5 := Lib.hid (K4.out.trans k1); clear k1; go_wp2_with fail; refine (A4.out _).mono ?_; rintro e w5 ⟨rfl, k1⟩; have K6 := Lib.hid (K5.out.trans k1); clear k1; go_wp2_with fail; refine (A5.out _).mono ?_; rintro e w6 ⟨rfl, k1⟩; have K7 := Lib.hid (K6.out.trans k1); clear k1; go_wp2_with fail; refine (A6.out _).mono ?_; rintro e w7 ⟨rfl, k1⟩; have K8 := Lib.hid (K7.out.trans k1); clear k1; go_wp2_with fail; refine (A7.out _).mono ?_; rintro e w8 ⟨rfl, k1⟩; have K9 := Lib.hid (K8.out.trans k1); clear k1; go_wp2; go_ret; exact ⟨rfl, K9.out⟩
      · rw [g] at A4
        rcases TT.out with rfl | rfl | rfl | rfl
        · go_wp2_with fail; go_quiet (fail); rw [H0.out]; generalize hidI x 0 = hh at *; go_wp2_with fail; refine (A1.out _).mono ?_; rintro e w2 ⟨rfl, k1⟩; have K3 := Lib.hid ((K2.out.trans (Kp.drewN _ _)).trans k1); clear k1; go_wp2_with fail; refine (A2.out _).mono ?_; rintro e w3 ⟨rfl, k1⟩; have K4 := Lib.hid (K3.out.trans k1); clear k1; go_wp2_with fail; refine (A3.out _).mono ?_; rintro e w4 ⟨rfl, k1⟩; have K5 := Lib.hid (K4.out.trans k1); clear k1; go_wp2_with fail; refine (A4.out _).mono ?_; rintro e w5 ⟨rfl, k1⟩; have K6 := Lib.hid (K5.out.trans k1); clear k1; go_wp2_with fail; refine (A5.out _).mono ?_; rintro e w6 ⟨rfl, k1⟩; have K7 := Lib.hid (K6.out.trans k1); clear k1; go_wp2_with fail; refine (A6.out _).mono ?_; rintro e w7 ⟨rfl, k1⟩; have K8 := Lib.hid (K7.out.trans k1); clear k1; go_wp2_with fail; refine (A7.out _).mono ?_; rintro e w8 ⟨rfl, k1⟩; have K9 := Lib.hid (K8.out.trans k1); clear k1; go_wp2; go_ret; exact ⟨rfl, K9.out⟩
        · go_wp2_with fail; go_quiet (fail); rw [H1.out]; generalize hidI x 1 = hh at *; go_wp2_with fail; refine (A1.out _).mono ?_; rintro e w2 ⟨rfl, k1⟩; have K3 := Lib.hid ((K2.out.trans (Kp.drewN _ _)).trans k1); clear k1; go_wp2_with fail; refine (A2.out _).mono ?_; rintro e w3 ⟨rfl, k1⟩; have K4 := Lib.hid (K3.out.trans k1); clear k1; go_wp2_with fail; refine (A3.out _).mono ?_; rintro e w4 ⟨rfl, k1⟩; have K5 := Lib.hid (K4.out.trans k1); clear k1; go_wp2_with fail; refine (A4.out _).mono ?_; rintro e w5 ⟨rfl, k1⟩; have K6 := Lib.hid (K5.out.trans k1); clear k1; go_wp2_with fail; refine (A5.out _).mono ?_; rintro e w6 ⟨rfl, k1⟩; have K7 := Lib.hid (K6.out.trans k1); clear k1; go_wp2_with fail; refine (A6.out _).mono ?_; rintro e w7 ⟨rfl, k1⟩; have K8 := Lib.hid (K7.out.trans k1); clear k1; go_wp2_with fail; refine (A7.out _).mono ?_; rintro e w8 ⟨rfl, k1⟩; have K9 := Lib.hid (K8.out.trans k1); clear k1; go_wp2; go_ret; exact ⟨rfl, K9.out⟩
        · go_wp2_with fail; go_quiet (fail); rw [H2.out]; generalize hidI x 2 = hh at *; go_wp2_with fail; refine (A1.out _).mono ?_; rintro e w2 ⟨rfl, k1⟩; have K3 := Lib.hid ((K2.out.trans (Kp.drewN _ _)).trans k1); clear k1; go_wp2_with fail; refine (A2.out _).mono ?_; rintro e w3 ⟨rfl, k1⟩; have K4 := Lib.hid (K3.out.trans k1); clear k1; go_wp2_with fail; refine (A3.out _).mono ?_; rintro e w4 ⟨rfl, k1⟩; have K5 := Lib.hid (K4.out.trans k1); clear k1; go_wp2_with fail; refine (A4.out _).mono ?_; rintro e w5 ⟨rfl, k1⟩; have K6 := Lib.hid (K5.out.trans k1); clear k1; go_wp2_with fail; refine (A5.out _).mono ?_; rintro e w6 ⟨rfl, k1⟩; have K7 := Lib.hid (K6.out.trans k1); clear k1; go_wp2_with fail; refine (A6.out _).mono ?_; rintro e w7 ⟨rfl, k1⟩; have K8 := Lib.hid (K7.out.trans k1); clear k1; go_wp2_with fail; refine (A7.out _).mono ?_; rintro e w8 ⟨rfl, k1⟩; have K9 := Lib.hid (K8.out.trans k1); clear k1; go_wp2; go_ret; exact ⟨rfl, K9.out⟩
        · go_wp2_with fail; go_quiet (fail); rw [H3.out]; generalize hidI x 3 = hh at *; go_wp2_with fail; refine (A1.out _).mono ?_; rintro e w2 ⟨rfl, k1⟩; have K3 := Lib.hid ((K2.out.trans (Kp.drewN _ _)).trans k1); clear k1; go_wp2_with fail; refine (A2.out _).mono ?_; rintro e w3 ⟨rfl, k1⟩; have K4 := Lib.hid (K3.out.trans k1); clear k1; go_wp2_with fail; refine (A3.out _).mono ?_; rintro e w4 ⟨rfl, k1⟩; have K5 := Lib.hid (K4.out.trans k1); clear k1; go_wp2_with fail; refine (A4.out _).mono ?_; rintro e w5 ⟨rfl, k1⟩; have K6 := Lib.hid (K5.out.trans k1); clear k1; go_wp2_with fail; refine (A5.out _).mono ?_; rintro e w6 ⟨rfl, k1⟩; have K7 := Lib.hid (K6.out.trans k1); clear k1; go_wp2_with fail; refine (A6.out _).mono ?_; rintro e w7 ⟨rfl, k1⟩; have K8 := Lib.hid (K7.out.trans k1); clear k1; go_wp2_with fail; refine (A7.out _).mono ?_; rintro e w8 ⟨rfl, k1⟩; have K9 := Lib.hid (K8.out.trans k1); clear k1; go_wp2; go_ret; exact ⟨rfl, K9.out⟩
theorem maskDigits_walk (n m k : Int) (w : World) (nl : -9223372036854775808 ≤ m) (nh : m ≤ 9223372036854775807) :
    Calls Try.prog 5 #[.int .i64 n, .int .i64 m, .int .i64 k] w fun e w' => e = .returned (.bool true) ∧ Below w.heap.size w w' :=
  digits_round (n % 65536 % 10000).toNat (by omega) (n % 65536) m w nl nh n k (and16 n) (by omega) (by omega) (by omega) (k % 4).toNat (by omega) (by rw [and3]; omega)
end Go.Proofs.Ytgjdaaopebkokaa
