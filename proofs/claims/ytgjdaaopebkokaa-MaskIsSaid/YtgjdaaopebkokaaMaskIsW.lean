/-
  Walk of MaskIs: what is a mask, what matches, and all the rest, is what the document says.
-/
import Derived.Test.YtgjdaaopebkokaaMaskRM
namespace Go.Proofs.Ytgjdaaopebkokaa
open Go.RowKit
set_option linter.unusedVariables false
theorem cell_hd (w : World) (v : Value) (t : TypeId) : (w.alloc (.cells #[v] t)).cell? ⟨w.heap.size, 0, none⟩ = some v := by simp
set_option maxHeartbeats 4000000 in
set_option maxRecDepth 100000 in
theorem rmeet_yes (a b : ByteArray) (w : World) (ha : saneM a = true) (hb : saneM b = true) (hl : a.size = b.size) (la : a.size ≤ maxLen) (lb : b.size ≤ maxLen) :
    Calls Try.prog 15 #[.string a, .string b] w fun e w' => e = .returned (.tuple #[.string (meetS a b), .bool (meetB a b)]) ∧ Kp w w' := by
  have C1 := Lib.hid (fun w => rsane_any a w la)
  have C2 := Lib.hid (fun w => rsane_any b w lb)
  rw [ha] at C1
  rw [hb] at C2
  have M := mk_of ha
  have M' := mk_of hb
  obtain ⟨m1, m2, m3⟩ := M
  have MA := Lib.hid m3
  have MB := Lib.hid M'.ok
  have MB2 := Lib.hid (show meetB a b = noCl a b a.size by unfold meetB; rw [ha, hb, hl]; simp)
  have HL := Lib.hid hl
  have d0 : ((a.size : Int) != (b.size : Int)) = false := by rw [hl]; simp
  have E0 := Lib.hid (show strOfNums (meL a b 0) = ⟨#[]⟩ from rfl)
  clear m3 M' ha hb hl la lb
  go_enter Try.func15, Try.ntmps15
  go_wp2_with fail; refine ((C1.out _)).mono ?_; rintro e w' ⟨rfl, rfl⟩
  go_wp2_with fail; refine ((C2.out _)).mono ?_; rintro e w' ⟨rfl, rfl⟩
  go_wp2
  go_loopw [6, 7] (fun v i wr => ∃ k : Nat, k ≤ a.size ∧ i = .int .i64 k ∧ v = .string (strOfNums (meL a b k)) ∧ noCl a b k = true ∧ Kp w wr) (fun _ i _ => a.size - (intOf i).toNat)
  case atStart => exact ⟨0, by omega, rfl, by rw [E0.out], rfl, Kp.refl _⟩
  case round =>
    obtain ⟨k, hk, rfl, rfl, hnc, k2⟩ := hrel
    have K2 := Lib.hid k2
    have NC := Lib.hid hnc
    clear k2 hnc
    by_cases hlt : k < a.size
    · have hlt2 : k < b.size := by rw [← HL.out]; exact hlt
      have m4 := MA.out k hlt
      have m5 := MB.out k hlt2
      have hbx := bt_at a k hlt
      have hby := bt_at b k hlt2
      have SL := Lib.hid (show strOfNums (meL a b k) ++ strOfNums [(meC a b k : Int)] = strOfNums (meL a b (k + 1)) from strOf_append _ _)
      have SC := Lib.hid (show noCl a b (k + 1) = (noCl a b k && !clB a b k) from rfl)
      have SN := Lib.hid (fun h => noCl_no (a := a) (b := b) hlt h)
      have CD : clB a b k = ((bt a k != 88) && (bt b k != 88) && (bt a k != bt b k)) := rfl
      have MD : meC a b k = if bt a k = 88 then bt b k else bt a k := rfl
      obtain ⟨x, ex⟩ : ∃ x, bt a k = x := ⟨_, rfl⟩
      obtain ⟨y, ey⟩ : ∃ y, bt b k = y := ⟨_, rfl⟩
      rw [ex] at m4 hbx
      rw [ey] at m5 hby
      rw [ex, ey] at CD MD
      have ls : (strOfNums (meL a b k)).size = k := by rw [strOfNums_size, meL_len]
      have z1 : (0 : Int) ≤ (k : Int) := by omega
      have z2 : (k : Int) < a.size := by omega
      have z3 : (k : Int) < b.size := by omega
      clear ex ey
      by_cases hx : x = 88
      · have gx : ((x : Int) == 88) = true := by simp; omega
        have gx2 : ((x : Int) != 88) = false := by simp; omega
        have MC : meC a b k = y := by rw [MD, if_pos hx]
        have CC : Hid (clB a b k = false) := by unfold Hid; rw [CD]; simp [hx]
        rw [MC] at SL
        clear MD CD hx MC
        rcases Bool.eq_false_or_eq_true ((x : Int) != (y : Int)) with gz | gz
        · go_wp2_with fail
          go_quiet (fail)
          have lu := strOfNums_size [(y : Int)]; have hcv := run_convert_bytes_arg (P := Try.prog) ((wr.drewN nq).alloc (.cells #[.int .u8 (y : Int)] 5)) 37 5 Try.underlying37 Try.underlying5 wr.heap.size 0 1 1 [(y : Int)] rfl (by intro i hi; obtain rfl : i = 0 := (by omega); exact cell_hd (wr.drewN nq) _ _) 9 Try.underlying9; simp only [List.length_singleton] at lu; generalize strOfNums (meL a b k) = t at *; generalize strOfNums [(y : Int)] = u at *; go_wp2; exact ⟨⟨k + 1, by omega, by go_num, congrArg Value.string SL.out, by rw [SC.out, NC.out, CC.out]; rfl, K2.out.trans ((Kp.drewN _ _).trans (Kp.alloc _ _))⟩, by simp [intOf]; omega⟩
        · go_wp2_with fail
          go_quiet (fail)
          have lu := strOfNums_size [(y : Int)]; have hcv := run_convert_bytes_arg (P := Try.prog) ((wr.drewN nq).alloc (.cells #[.int .u8 (y : Int)] 5)) 37 5 Try.underlying37 Try.underlying5 wr.heap.size 0 1 1 [(y : Int)] rfl (by intro i hi; obtain rfl : i = 0 := (by omega); exact cell_hd (wr.drewN nq) _ _) 9 Try.underlying9; simp only [List.length_singleton] at lu; generalize strOfNums (meL a b k) = t at *; generalize strOfNums [(y : Int)] = u at *; go_wp2; exact ⟨⟨k + 1, by omega, by go_num, congrArg Value.string SL.out, by rw [SC.out, NC.out, CC.out]; rfl, K2.out.trans ((Kp.drewN _ _).trans (Kp.alloc _ _))⟩, by simp [intOf]; omega⟩
      · have gx : ((x : Int) == 88) = false := by simp; omega
        have gx2 : ((x : Int) != 88) = true := by simp; omega
        have MC : meC a b k = x := by rw [MD, if_neg hx]
        rw [MC] at SL
        by_cases hxy : x = y
        · have gz : ((x : Int) != (y : Int)) = false := by simp; omega
          have CC : Hid (clB a b k = false) := by unfold Hid; rw [CD]; simp [hxy]
          clear MD CD hx MC hxy
          go_wp2_with fail
          go_quiet (fail)
          have lu := strOfNums_size [(x : Int)]; have hcv := run_convert_bytes_arg (P := Try.prog) ((wr.drewN nq).alloc (.cells #[.int .u8 (x : Int)] 5)) 37 5 Try.underlying37 Try.underlying5 wr.heap.size 0 1 1 [(x : Int)] rfl (by intro i hi; obtain rfl : i = 0 := (by omega); exact cell_hd (wr.drewN nq) _ _) 9 Try.underlying9; simp only [List.length_singleton] at lu; generalize strOfNums (meL a b k) = t at *; generalize strOfNums [(x : Int)] = u at *; go_wp2; exact ⟨⟨k + 1, by omega, by go_num, congrArg Value.string SL.out, by rw [SC.out, NC.out, CC.out]; rfl, K2.out.trans ((Kp.drewN _ _).trans (Kp.alloc _ _))⟩, by simp [intOf]; omega⟩
        · have gz : ((x : Int) != (y : Int)) = true := by simp; omega
          by_cases hy : y = 88
          · have gy : ((y : Int) != 88) = false := by simp; omega
            have CC : Hid (clB a b k = false) := by unfold Hid; rw [CD]; simp [hy]
            clear MD CD hx MC hxy hy
            go_wp2_with fail
            go_quiet (fail)
            have lu := strOfNums_size [(x : Int)]; have hcv := run_convert_bytes_arg (P := Try.prog) ((wr.drewN nq).alloc (.cells #[.int .u8 (x : Int)] 5)) 37 5 Try.underlying37 Try.underlying5 wr.heap.size 0 1 1 [(x : Int)] rfl (by intro i hi; obtain rfl : i = 0 := (by omega); exact cell_hd (wr.drewN nq) _ _) 9 Try.underlying9; simp only [List.length_singleton] at lu; generalize strOfNums (meL a b k) = t at *; generalize strOfNums [(x : Int)] = u at *; go_wp2; exact ⟨⟨k + 1, by omega, by go_num, congrArg Value.string SL.out, by rw [SC.out, NC.out, CC.out]; rfl, K2.out.trans ((Kp.drewN _ _).trans (Kp.alloc _ _))⟩, by simp [intOf]; omega⟩
          · have gy : ((y : Int) != 88) = true := by simp; omega
            have CC : clB a b k = true := by rw [CD]; simp [hx, hy]; omega
            have NO := Lib.hid (show meetB a b = false by rw [MB2.out]; exact SN.out CC)
            have NS := Lib.hid (show meetS a b = ByteArray.empty by unfold meetS; rw [NO.out]; rfl)
            clear MD CD hx hy hxy CC SN SC MC
            go_wp2_with fail
            go_quiet (fail)
            go_wp2
            go_ret2
            refine ⟨?_, K2.out.trans (Kp.drewN _ _)⟩
            rw [NO.out, NS.out]
            rfl
    · obtain rfl : k = a.size := by omega
      have YES := Lib.hid (show meetB a b = true by rw [MB2.out, NC.out])
      have YS := Lib.hid (show meetS a b = strOfNums (meL a b a.size) by unfold meetS; rw [YES.out]; rfl)
      go_wp2
      go_ret2
      refine ⟨?_, K2.out⟩
      rw [YES.out, YS.out]
      rfl
theorem rmeet_any (a b : ByteArray) (w : World) (la : a.size ≤ maxLen) (lb : b.size ≤ maxLen) :
    Calls Try.prog 15 #[.string a, .string b] w fun e w' => e = .returned (.tuple #[.string (meetS a b), .bool (meetB a b)]) ∧ Kp w w' := by
  have C1 := Lib.hid (fun w => rsane_any a w la)
  have C2 := Lib.hid (fun w => rsane_any b w lb)
  rcases Bool.eq_false_or_eq_true (saneM a) with ha | ha
  · rcases Bool.eq_false_or_eq_true (saneM b) with hb | hb
    · by_cases hl : a.size = b.size
      · exact rmeet_yes a b w ha hb hl la lb
      · have NO : meetB a b = false := by unfold meetB; rw [show (a.size == b.size) = false by simpa using hl]; simp
        have NS : meetS a b = ByteArray.empty := by unfold meetS; rw [NO]; rfl
        rw [NO, NS]
        rw [ha] at C1
        rw [hb] at C2
        have d0 : ((a.size : Int) != (b.size : Int)) = true := by simp; omega
        unfold maxLen at la lb
        clear ha hb hl NO NS
        go_enter Try.func15, Try.ntmps15
        go_wp2_with fail; refine ((C1.out _)).mono ?_; rintro e w' ⟨rfl, rfl⟩
        go_wp2_with fail; refine ((C2.out _)).mono ?_; rintro e w' ⟨rfl, rfl⟩
        go_wp2
        go_ret2
        exact ⟨rfl, Kp.refl _⟩
    · have NO : meetB a b = false := by unfold meetB; rw [hb]; simp
      have NS : meetS a b = ByteArray.empty := by unfold meetS; rw [NO]; rfl
      rw [NO, NS]
      rw [ha] at C1
      rw [hb] at C2
      clear ha hb NO NS
      go_enter Try.func15, Try.ntmps15
      go_wp2_with fail; refine ((C1.out _)).mono ?_; rintro e w' ⟨rfl, rfl⟩
      go_wp2_with fail; refine ((C2.out _)).mono ?_; rintro e w' ⟨rfl, rfl⟩
      go_wp2
      go_ret2
      exact ⟨rfl, Kp.refl _⟩
  · have NO : meetB a b = false := by unfold meetB; rw [ha]; simp
    have NS : meetS a b = ByteArray.empty := by unfold meetS; rw [NO]; rfl
    rw [NO, NS]
    rw [ha] at C1
    clear ha NO NS
    go_enter Try.func15, Try.ntmps15
    go_wp2_with fail; refine ((C1.out _)).mono ?_; rintro e w' ⟨rfl, rfl⟩
    go_wp2
    go_ret2
    exact ⟨rfl, Kp.refl _⟩
set_option maxHeartbeats 4000000 in
set_option maxRecDepth 100000 in
theorem maskIs_walk (a b : ByteArray) (n : Int) (w : World) (la : a.size ≤ maxLen) (lb : b.size ≤ maxLen) (nl : -9223372036854775808 ≤ n) (nh : n ≤ 9223372036854775807) :
    Calls Try.prog 3 #[.string a, .string b, .int .i64 n] w fun e w' => e = .returned (.bool true) ∧ Below w.heap.size w w' := by
  have A0 := Lib.hid (fun w => awake06 w)
  have A1 := Lib.hid (fun w => mmeet_any a b w la lb)
  have A2 := Lib.hid (fun w => rmeet_any a b w la lb)
  have A3 := Lib.hid (fun w => monly_any a w)
  have A4 := Lib.hid (fun w => ronly_any a w la)
  have A5 := Lib.hid (fun w => msane_any a w)
  have A6 := Lib.hid (fun w => rsane_any a w la)
  have A7 := Lib.hid (fun w => mmatch_any a n w nl nh)
  have A8 := Lib.hid (fun w => rmatch_any a n w la nl nh)
  have A9 := Lib.hid (fun w => mset_any a w)
  have A10 := Lib.hid (fun w => rset_any a w la)
  have A11 := Lib.hid (fun v u w h g => same_yes v u (setM a) w h g)
  have A12 := Lib.hid (fun w => mcount_any a w)
  have A13 := Lib.hid (fun w => rcount_any a w la)
  generalize meetS a b = r at *
  generalize meetB a b = rb at *
  generalize onlyV a = o at *
  generalize onlyB a = ob at *
  generalize saneM a = sm at *
  generalize matchM a n = mm at *
  generalize countM a = c at *
  unfold maxLen at la lb
  have d1 : (rb != rb) = false := by simp
  have d2 : (ob != ob) = false := by simp
  have d3 : (sm == sm) = true := by simp
  have d4 : (mm == mm) = true := by simp
  go_enter Try.func3, Try.ntmps3
  go_wp2_with fail; refine (A0.out _).mono ?_; rintro e w1 ⟨rfl, k1⟩; have K1 := Lib.hid (id k1); clear k1
  go_wp2_with fail; refine (A1.out _).mono ?_; rintro e w2 ⟨rfl, k1⟩; have K2 := Lib.hid (K1.out.trans k1); clear k1
  go_wp2_with fail; refine (A2.out _).mono ?_; rintro e w3 ⟨rfl, k1⟩; have K3 := Lib.hid (K2.out.trans k1); clear k1
  go_wp2_with fail; refine (A3.out _).mono ?_; rintro e w4 ⟨rfl, k1⟩; have K4 := Lib.hid (K3.out.trans k1); clear k1
  go_wp2_with fail; refine (A4.out _).mono ?_; rintro e w5 ⟨rfl, k1⟩; have K5 := Lib.hid (K4.out.trans k1); clear k1
  go_wp2_with fail; refine (A5.out _).mono ?_; rintro e w6 ⟨rfl, k1⟩; have K6 := Lib.hid (K5.out.trans k1); clear k1
  go_wp2_with fail; refine ((A6.out _)).mono ?_; rintro e w' ⟨rfl, rfl⟩
  go_wp2_with fail; refine (A7.out _).mono ?_; rintro e w7 ⟨rfl, k1⟩; have K7 := Lib.hid (K6.out.trans k1); clear k1
  go_wp2_with fail; refine ((A8.out _)).mono ?_; rintro e w' ⟨rfl, rfl⟩
  go_wp2_with fail
  refine (A9.out _).mono ?_
  rintro e w8 ⟨v, rfl, own, k1⟩
  have R8 := Lib.hid (runsAt_own own)
  have K8 := Lib.hid (K7.out.trans k1)
  clear own k1
  go_wp2_with fail
  refine (A10.out _).mono ?_
  rintro e w9 ⟨u, rfl, own, k1⟩
  have R9 := Lib.hid (runsAt_own own)
  have R8' := Lib.hid (R8.out.kp k1)
  have K9 := Lib.hid (K8.out.trans k1)
  clear own k1
  go_wp2_with fail; refine (A11.out _ _ _ R8'.out R9.out).mono ?_; rintro e w10 ⟨rfl, k1⟩; have K10 := Lib.hid (K9.out.trans k1); clear k1
  go_wp2_with fail; refine (A12.out _).mono ?_; rintro e w11 ⟨rfl, k1⟩; have K11 := Lib.hid (K10.out.trans k1); clear k1
  go_wp2_with fail; refine ((A13.out _)).mono ?_; rintro e w' ⟨rfl, rfl⟩
  go_wp2
  go_ret
  exact ⟨rfl, K11.out⟩
end Go.Proofs.Ytgjdaaopebkokaa
