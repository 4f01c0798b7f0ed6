/-
  Walk of ComposeMet: what follows is met.
-/
import Derived.Test.YteneoimkfddhpaaDoorComposeW3
namespace Go.Proofs.YteneoimkfddhpaaDoor
open Go.RowKit
set_option linter.unusedVariables false
theorem w64 (n : Int) : wrap64 n = IntKind.i64.wrap n := by rw [IntKind.wrap_i64, wrap64]
set_option maxHeartbeats 4000000 in
set_option maxRecDepth 100000 in
theorem composeMet_yes (r s : Int) (w : World) (hT : TabNM w) (hr : invB r = true) (hs : invB s = true) :
    Calls Tryd.prog 10 #[.int .i64 r, .int .i64 s] w fun e w' => e = .returned (.bool true) ∧ Below w.heap.size w w' := by
  have A0 := Lib.hid (awake19 w hT)
  have HT := Lib.hid (fun w' (k : Kp w w') => hT.kp k)
  have A1 := Lib.hid (fun w h => ccomp_any r s w h)
  rw [← met_all r s hr hs] at A1
  have b1 : 0 ≤ r ∧ r ≤ 12 := by unfold invB at hr; simpa using hr
  have b2 : 0 ≤ s ∧ s ≤ 12 := by unfold invB at hs; simpa using hs
  obtain ⟨r1, r2⟩ := b1
  obtain ⟨s1, s2⟩ := b2
  have M := Lib.hid (fun n => met_lt r s n)
  clear hT hr hs
  go_enter Tryd.func10, Tryd.ntmps10
  go_wp2_with fail; refine (A0.out).mono ?_; rintro e w1 ⟨rfl, k1⟩; have K1 := Lib.hid (id k1); clear k1
  go_wp2_with fail; refine (A1.out _ (HT.out _ K1.out)).mono ?_; rintro e w2 ⟨rfl, k1⟩; have K2 := Lib.hid (K1.out.trans k1); clear k1
  go_wp2
  go_loopw [7, 8] (fun m i wr => ∃ k : Nat, k ≤ 3375 ∧ i = .int .i64 k ∧ m = .int .i64 (metK r s k : Nat) ∧ Kp w wr) (fun _ i _ => 3375 - (intOf i).toNat)
  case atStart => exact ⟨0, by omega, rfl, rfl, K2.out⟩
  case round =>
    obtain ⟨k, hk, rfl, rfl, kr⟩ := hrel
    have KR := Lib.hid kr
    clear kr
    by_cases hlt : k < 3375
    · have C1 := Lib.hid (fun w => one_any (k % 15) w (by omega))
      have C2 := Lib.hid (fun w => one_any (k / 15 % 15) w (by omega))
      have C3 := Lib.hid (fun w => one_any (k / 225) w (by omega))
      rw [show ((k % 15 : Nat) : Int) = (k : Int) % 15 by omega] at C1
      rw [show ((k / 15 % 15 : Nat) : Int) = (k : Int) / 15 % 15 by omega] at C2
      rw [show ((k / 225 : Nat) : Int) = (k : Int) / 225 by omega] at C3
      have S := Lib.hid (show metK r s (k + 1) = if ((rel (iv (k % 15)).1 (iv (k % 15)).2 (iv (k / 15 % 15)).1 (iv (k / 15 % 15)).2 == r) && (rel (iv (k / 15 % 15)).1 (iv (k / 15 % 15)).2 (iv (k / 225)).1 (iv (k / 225)).2 == s)) = true then metK r s k ||| 2 ^ relN (iv (k % 15)) (iv (k / 225)) else metK r s k from rfl)
      have eN := relN_eq (iv (k % 15)) (iv (k / 225))
      have bN := relN_bd (iv (k % 15)) (iv (k / 225))
      have p1 := iv_bd (k % 15)
      have p2 := iv_bd (k / 15 % 15)
      have p3 := iv_bd (k / 225)
      have ml := met_lt r s k
      generalize iv (k % 15) = P at *
      generalize iv (k / 15 % 15) = Q at *
      generalize iv (k / 225) = Z at *
      have C4 := Lib.hid (fun w => of_any P.1 P.2 Q.1 Q.2 w (by omega) (by omega) (by omega) (by omega) (by omega) (by omega) (by omega) (by omega))
      have C5 := Lib.hid (fun w => of_any Q.1 Q.2 Z.1 Z.2 w (by omega) (by omega) (by omega) (by omega) (by omega) (by omega) (by omega) (by omega))
      have C6 := Lib.hid (fun w => of_any P.1 P.2 Z.1 Z.2 w (by omega) (by omega) (by omega) (by omega) (by omega) (by omega) (by omega) (by omega))
      rw [show relV P.1 P.2 Q.1 Q.2 = rel P.1 P.2 Q.1 Q.2 by unfold relV ivB; simp [p1.2.1, p2.2.1], show ivB P.1 P.2 Q.1 Q.2 = true by unfold ivB; simp [p1.2.1, p2.2.1]] at C4
      rw [show relV Q.1 Q.2 Z.1 Z.2 = rel Q.1 Q.2 Z.1 Z.2 by unfold relV ivB; simp [p2.2.1, p3.2.1], show ivB Q.1 Q.2 Z.1 Z.2 = true by unfold ivB; simp [p2.2.1, p3.2.1]] at C5
      rw [show relV P.1 P.2 Z.1 Z.2 = rel P.1 P.2 Z.1 Z.2 by unfold relV ivB; simp [p1.2.1, p3.2.1], show ivB P.1 P.2 Z.1 Z.2 = true by unfold ivB; simp [p1.2.1, p3.2.1], ← eN] at C6
      generalize rel P.1 P.2 Q.1 Q.2 = ra at *
      generalize rel Q.1 Q.2 Z.1 Z.2 = rb at *
      generalize relN P Z = x at *
      generalize P.1 = a1 at *
      generalize P.2 = a2 at *
      generalize Q.1 = a3 at *
      generalize Q.2 = a4 at *
      generalize Z.1 = a5 at *
      generalize Z.2 = a6 at *
      generalize metK r s k = m at ml S ⊢
      clear p1 p2 p3 eN
      have hk0 : (0 : Int) ≤ k := by omega
      rcases Bool.eq_false_or_eq_true (ra == r) with g1 | g1
      · rcases Bool.eq_false_or_eq_true (rb == s) with g2 | g2
        · rw [g1, g2] at S
          have S2 := Lib.hid (show metK r s (k + 1) = m ||| 2 ^ x from S.out)
          have O := Lib.hid (show bits .or .i64 (m : Int) (wrap64 (2 ^ x)) = ((m ||| 2 ^ x : Nat) : Int) by rw [w64]; exact or_bit ml bN)
          clear S ml
          go_wp2_with fail; refine (C1.out _).mono ?_; rintro e w3 ⟨rfl, k3⟩; have K3 := Lib.hid (KR.out.trans k3); clear k3; have B1 := Lib.hid (Box.new w3 a1 a2 23); go_wp2_with fail; refine (C2.out _).mono ?_; rintro e w4 ⟨rfl, k4⟩; have K4 := Lib.hid ((K3.out.trans (Kp.alloc _ _)).trans k4); have D1 := Lib.hid (B1.out.kp k4); clear k4 B1; have B2 := Lib.hid (Box.new w4 a3 a4 23); go_wp2_with fail; refine (C3.out _).mono ?_; rintro e w5 ⟨rfl, k5⟩; have K5 := Lib.hid ((K4.out.trans (Kp.alloc _ _)).trans k5); have E1 := Lib.hid ((D1.out.kp (Kp.alloc _ _)).kp k5); have E2 := Lib.hid (B2.out.kp k5); clear k5 D1 B2; have B3 := Lib.hid (Box.new w5 a5 a6 23); obtain ⟨y0, y1, y2⟩ := E1.out; obtain ⟨y3, y4, y5⟩ := E2.out; go_wp2_with fail; refine (C4.out _).mono ?_; rintro e w6 ⟨rfl, k6⟩; have K6 := Lib.hid ((K5.out.trans (Kp.alloc _ _)).trans k6); clear y0 y1 y2 y3 y4 y5; have F1 := Lib.hid ((E1.out.kp (Kp.alloc _ _)).kp k6); have F2 := Lib.hid ((E2.out.kp (Kp.alloc _ _)).kp k6); have F3 := Lib.hid (B3.out.kp k6); clear k6 E1 E2 B3; obtain ⟨y3, y4, y5⟩ := F2.out; obtain ⟨y6, y7, y8⟩ := F3.out; go_wp2_with fail; refine (C5.out _).mono ?_; rintro e w7 ⟨rfl, k7⟩; have K7 := Lib.hid (K6.out.trans k7); clear y3 y4 y5 y6 y7 y8; obtain ⟨y0, y1, y2⟩ := F1.out.kp k7; obtain ⟨y6, y7, y8⟩ := F3.out.kp k7; clear k7 F1 F2 F3
          go_wp2_with fail
          refine (C6.out _).mono ?_
          rintro e w8 ⟨rfl, k8⟩
          have K8 := Lib.hid (K7.out.trans k8)
          clear k8 y0 y1 y2 y6 y7 y8
          go_wp2
          go_roundw
          case rel => exact ⟨k + 1, by omega, by go_num, by rw [S2.out]; exact congrArg (Value.int .i64) O.out, K8.out⟩
          case measure => simp [intOf]; omega
        · rw [g1, g2] at S
          have S2 := Lib.hid (show metK r s (k + 1) = m from S.out)
          clear S ml
          go_wp2_with fail; refine (C1.out _).mono ?_; rintro e w3 ⟨rfl, k3⟩; have K3 := Lib.hid (KR.out.trans k3); clear k3; have B1 := Lib.hid (Box.new w3 a1 a2 23); go_wp2_with fail; refine (C2.out _).mono ?_; rintro e w4 ⟨rfl, k4⟩; have K4 := Lib.hid ((K3.out.trans (Kp.alloc _ _)).trans k4); have D1 := Lib.hid (B1.out.kp k4); clear k4 B1; have B2 := Lib.hid (Box.new w4 a3 a4 23); go_wp2_with fail; refine (C3.out _).mono ?_; rintro e w5 ⟨rfl, k5⟩; have K5 := Lib.hid ((K4.out.trans (Kp.alloc _ _)).trans k5); have E1 := Lib.hid ((D1.out.kp (Kp.alloc _ _)).kp k5); have E2 := Lib.hid (B2.out.kp k5); clear k5 D1 B2; have B3 := Lib.hid (Box.new w5 a5 a6 23); obtain ⟨y0, y1, y2⟩ := E1.out; obtain ⟨y3, y4, y5⟩ := E2.out; go_wp2_with fail; refine (C4.out _).mono ?_; rintro e w6 ⟨rfl, k6⟩; have K6 := Lib.hid ((K5.out.trans (Kp.alloc _ _)).trans k6); clear y0 y1 y2 y3 y4 y5; have F1 := Lib.hid ((E1.out.kp (Kp.alloc _ _)).kp k6); have F2 := Lib.hid ((E2.out.kp (Kp.alloc _ _)).kp k6); have F3 := Lib.hid (B3.out.kp k6); clear k6 E1 E2 B3; obtain ⟨y3, y4, y5⟩ := F2.out; obtain ⟨y6, y7, y8⟩ := F3.out; go_wp2_with fail; refine (C5.out _).mono ?_; rintro e w7 ⟨rfl, k7⟩; have K7 := Lib.hid (K6.out.trans k7); clear y3 y4 y5 y6 y7 y8; obtain ⟨y0, y1, y2⟩ := F1.out.kp k7; obtain ⟨y6, y7, y8⟩ := F3.out.kp k7; clear k7 F1 F2 F3
          go_wp2
          go_roundw
          case rel => exact ⟨k + 1, by omega, by go_num, by rw [S2.out], K7.out⟩
          case measure => simp [intOf]; omega
      · rw [g1] at S
        have S2 := Lib.hid (show metK r s (k + 1) = m from S.out)
        clear S ml bN
        go_wp2_with fail; refine (C1.out _).mono ?_; rintro e w3 ⟨rfl, k3⟩; have K3 := Lib.hid (KR.out.trans k3); clear k3; have B1 := Lib.hid (Box.new w3 a1 a2 23); go_wp2_with fail; refine (C2.out _).mono ?_; rintro e w4 ⟨rfl, k4⟩; have K4 := Lib.hid ((K3.out.trans (Kp.alloc _ _)).trans k4); have D1 := Lib.hid (B1.out.kp k4); clear k4 B1; have B2 := Lib.hid (Box.new w4 a3 a4 23); go_wp2_with fail; refine (C3.out _).mono ?_; rintro e w5 ⟨rfl, k5⟩; have K5 := Lib.hid ((K4.out.trans (Kp.alloc _ _)).trans k5); have E1 := Lib.hid ((D1.out.kp (Kp.alloc _ _)).kp k5); have E2 := Lib.hid (B2.out.kp k5); clear k5 D1 B2; have B3 := Lib.hid (Box.new w5 a5 a6 23); obtain ⟨y0, y1, y2⟩ := E1.out; obtain ⟨y3, y4, y5⟩ := E2.out; go_wp2_with fail; refine (C4.out _).mono ?_; rintro e w6 ⟨rfl, k6⟩; have K6 := Lib.hid ((K5.out.trans (Kp.alloc _ _)).trans k6); clear y0 y1 y2 y3 y4 y5; have F1 := Lib.hid ((E1.out.kp (Kp.alloc _ _)).kp k6); have F2 := Lib.hid ((E2.out.kp (Kp.alloc _ _)).kp k6); have F3 := Lib.hid (B3.out.kp k6); clear k6 E1 E2 B3; obtain ⟨y3, y4, y5⟩ := F2.out; obtain ⟨y6, y7, y8⟩ := F3.out; go_wp2_with fail; refine (C5.out _).mono ?_; rintro e w7 ⟨rfl, k7⟩; have K7 := Lib.hid (K6.out.trans k7); clear y3 y4 y5 y6 y7 y8; obtain ⟨y0, y1, y2⟩ := F1.out.kp k7; obtain ⟨y6, y7, y8⟩ := F3.out.kp k7; clear k7 F1 F2 F3
        go_wp2
        go_roundw
        case rel => exact ⟨k + 1, by omega, by go_num, by rw [S2.out], K7.out⟩
        case measure => simp [intOf]; omega
    · obtain rfl : k = 3375 := by omega
      go_wp2
      go_ret
      exact ⟨rfl, KR.out⟩
set_option maxHeartbeats 1000000 in
theorem composeMet_no (r s : Int) (w : World) (hT : TabNM w) (h : r < 0 ∨ (0 ≤ r ∧ 12 < r) ∨ (0 ≤ r ∧ r ≤ 12 ∧ s < 0) ∨ (0 ≤ r ∧ r ≤ 12 ∧ 0 ≤ s ∧ 12 < s)) :
    Calls Tryd.prog 10 #[.int .i64 r, .int .i64 s] w fun e w' => e = .returned (.bool true) ∧ Below w.heap.size w w' := by
  have A0 := Lib.hid (awake19 w hT)
  have HT := Lib.hid (fun w' (k : Kp w w') => hT.kp k)
  have A1 := Lib.hid (fun w h => ccomp_any r s w h)
  have e : compN r s = 0 := by
    unfold compN
    rw [if_neg]
    unfold invB
    simp
    omega
  rw [e] at A1
  clear hT e
  rcases h with h | ⟨h1, h2⟩ | ⟨h1, h2, h3⟩ | ⟨h1, h2, h3, h4⟩
  · go_enter Tryd.func10, Tryd.ntmps10
    go_wp2_with fail; refine (A0.out).mono ?_; rintro e w1 ⟨rfl, k1⟩; have K1 := Lib.hid (id k1); clear k1
    go_wp2_with fail; refine (A1.out _ (HT.out _ K1.out)).mono ?_; rintro e w2 ⟨rfl, k1⟩; have K2 := Lib.hid (K1.out.trans k1); clear k1
    go_wp2
    go_ret
    exact ⟨rfl, K2.out⟩
  · go_enter Tryd.func10, Tryd.ntmps10
    go_wp2_with fail; refine (A0.out).mono ?_; rintro e w1 ⟨rfl, k1⟩; have K1 := Lib.hid (id k1); clear k1
    go_wp2_with fail; refine (A1.out _ (HT.out _ K1.out)).mono ?_; rintro e w2 ⟨rfl, k1⟩; have K2 := Lib.hid (K1.out.trans k1); clear k1
    go_wp2
    go_ret
    exact ⟨rfl, K2.out⟩
  · go_enter Tryd.func10, Tryd.ntmps10
    go_wp2_with fail; refine (A0.out).mono ?_; rintro e w1 ⟨rfl, k1⟩; have K1 := Lib.hid (id k1); clear k1
    go_wp2_with fail; refine (A1.out _ (HT.out _ K1.out)).mono ?_; rintro e w2 ⟨rfl, k1⟩; have K2 := Lib.hid (K1.out.trans k1); clear k1
    go_wp2
    go_ret
    exact ⟨rfl, K2.out⟩
  · go_enter Tryd.func10, Tryd.ntmps10
    go_wp2_with fail; refine (A0.out).mono ?_; rintro e w1 ⟨rfl, k1⟩; have K1 := Lib.hid (id k1); clear k1
    go_wp2_with fail; refine (A1.out _ (HT.out _ K1.out)).mono ?_; rintro e w2 ⟨rfl, k1⟩; have K2 := Lib.hid (K1.out.trans k1); clear k1
    go_wp2
    go_ret
    exact ⟨rfl, K2.out⟩
theorem composeMet_walk (r s : Int) (w : World) (hT : TabNM w) :
    Calls Tryd.prog 10 #[.int .i64 r, .int .i64 s] w fun e w' => e = .returned (.bool true) ∧ Below w.heap.size w w' := by
  by_cases h : (0 ≤ r ∧ r ≤ 12) ∧ 0 ≤ s ∧ s ≤ 12
  · exact composeMet_yes r s w hT (by unfold invB; simp; omega) (by unfold invB; simp; omega)
  · exact composeMet_no r s w hT (by omega)
end Go.Proofs.YteneoimkfddhpaaDoor
