/-
  Layer 4: the walk of RunsIs.
-/
import Derived.Test.YtgaadakhkjfbnaaL4B
namespace Go.Proofs.Ytgaadakhkjfbnaa
open Go.RowKit
set_option linter.unusedVariables false
set_option linter.unusedSimpArgs false
set_option maxHeartbeats 4000000 in
set_option maxRecDepth 100000 in
theorem runsIs_walk (v : Value) (l : List R) (u : Value) (m : List Int) (n : Int) (w : World) (hv : RunsAt w v l) (hl : I64R l) (hu : IntsAt w u m) (hm : I64 m) (b1 : -9223372036854775808 ≤ n) (b2 : n ≤ 9223372036854775807) :
    Calls Try.prog 3 #[v, u, .int .i64 n] w fun e w' => e = .returned (.bool true) ∧ Kp w w' := by
  obtain ⟨ad, c, rfl⟩ := hv.slice
  obtain ⟨ad2, c2, rfl⟩ := hu.slice
  have A0 := Lib.hid awake04
  by_cases h40 : l.length ≤ 40
  · have g40 : decide ((40 : Int) < l.length) = false := decide_eq_false (by omega)
    have g40' : ¬ (40 : Int) < l.length := by omega
    by_cases h41 : m.length ≤ 40
    · have g41 : decide ((40 : Int) < m.length) = false := decide_eq_false (by omega)
      have g41' : ¬ (40 : Int) < m.length := by omega
      have S2 := nf_sane l
      have nl := nf_len l
      have nm : (nf (sing m)).length ≤ m.length := Nat.le_trans (nf_len _) (by rw [sing_len]; omega)
      have A1 := fun w1 (k : Kp w w1) => asS_any (.slice ad l.length c) l w1 (hv.kp k) hl (by omega)
      have A2 := fun w1 (k : Kp w w1) => asR_any (.slice ad l.length c) l w1 (hv.kp k) hl (by omega)
      have C1 := Lib.hid (fun w1 (k : Kp w w1) => next_of ad l.length c (nf l) n w1 (A1 w1 k) S2 (by omega) b1 b2)
      have C2 := Lib.hid (fun w1 (k : Kp w w1) => rnext_of (.slice ad l.length c) (nf l) n w1 (A2 w1 k) (by omega))
      have C3 := Lib.hid (fun w1 (k : Kp w w1) => prev_of ad l.length c (nf l) n w1 (A1 w1 k) S2 (by omega) b1 b2)
      have C4 := Lib.hid (fun w1 (k : Kp w w1) => rprev_of (.slice ad l.length c) (nf l) n w1 (A2 w1 k) (by omega))
      have C5 := Lib.hid (fun w1 (k : Kp w w1) => sane_any (.slice ad l.length c) l w1 (hv.kp k) hl)
      have C6 := Lib.hid (fun w1 (k : Kp w w1) => rsane_any (.slice ad l.length c) l w1 (hv.kp k) hl)
      have C7 := Lib.hid (fun w1 (k : Kp w w1) => make_any (.slice ad l.length c) l w1 (hv.kp k) hl (by omega))
      have C8 := Lib.hid (fun w1 (k : Kp w w1) => rmake_any (.slice ad l.length c) l w1 (hv.kp k) hl (by omega))
      have C9 := Lib.hid (fun (x y : Value) w1 (hx : RunsAt w1 x (nf l)) (hy : RunsAt w1 y (nf l)) => rsame_any x y (nf l) (nf l) w1 hx hy (by omega) (by omega))
      rw [decide_eq_true rfl] at C9
      have D1 := Lib.hid (fun w1 (k : Kp w w1) => of_any (.slice ad2 m.length c2) m w1 (hu.kp k) hm (by omega))
      have D2 := Lib.hid (fun w1 (k : Kp w w1) => rof_any (.slice ad2 m.length c2) m w1 (hu.kp k) hm (by omega))
      have D3 := Lib.hid (fun (x y : Value) w1 (hx : RunsAt w1 x (nf (sing m))) (hy : RunsAt w1 y (nf (sing m))) => rsame_any x y (nf (sing m)) (nf (sing m)) w1 hx hy (by omega) (by omega))
      rw [decide_eq_true rfl] at D3
      have D4 := Lib.hid (fun w1 (k : Kp w w1) => has_of ad l.length c (nf l) n w1 (A1 w1 k) S2 (by omega) b1 b2)
      have D5 := Lib.hid (fun w1 (k : Kp w w1) => rhas_of (.slice ad l.length c) (nf l) n w1 (A2 w1 k) S2 (by omega))
      have D6 := Lib.hid (fun w1 (k : Kp w w1) => count_of (.slice ad l.length c) (nf l) w1 (A1 w1 k) S2)
      have D7 := Lib.hid (fun w1 (k : Kp w w1) => rcount_of (.slice ad l.length c) (nf l) w1 (A2 w1 k) S2 (by omega))
      clear A1 A2 S2 nl nm hv hu hl hm
      generalize hasB (nf l) n = q1 at *
      generalize saneB l = q2 at *
      generalize sumR (nf l) = q3 at *
      generalize nxt (nf l) n = q4 at *
      generalize prv (nf l) n = q5 at *
      obtain ⟨x1, y1⟩ := q4
      obtain ⟨x2, y2⟩ := q5
      simp only at C1 C2 C3 C4
      go_enter Try.func3, Try.ntmps3
      go_wp2_with fail
      refine (A0.out _).mono ?_
      rintro e w1 ⟨rfl, kk⟩
      have K1 := Lib.hid kk
      clear kk
      go_wp2_with fail; refine (C1.out _ K1.out).mono ?_; rintro e w2 ⟨rfl, kk⟩; have K2 := Lib.hid (K1.out.trans kk); clear kk
      go_wp2_with fail; refine (C2.out _ K2.out).mono ?_; rintro e w3 ⟨rfl, kk⟩; have K3 := Lib.hid (K2.out.trans kk); clear kk
      go_wp2_with fail; refine (C3.out _ K3.out).mono ?_; rintro e w4 ⟨rfl, kk⟩; have K4 := Lib.hid (K3.out.trans kk); clear kk
      go_wp2_with fail; refine (C4.out _ K4.out).mono ?_; rintro e w5 ⟨rfl, kk⟩; have K5 := Lib.hid (K4.out.trans kk); clear kk
      go_wp2_with fail; refine (C5.out _ K5.out).mono ?_; rintro e w6 ⟨rfl, kk⟩; have K6 := Lib.hid (K5.out.trans kk); clear kk
      go_wp2_with fail; refine (C6.out _ K6.out).mono ?_; rintro e w7 ⟨rfl, kk⟩; have K7 := Lib.hid (K6.out.trans kk); clear kk
      go_wp2_with fail; refine (C7.out _ K7.out).mono ?_; rintro e w8 ⟨v8, rfl, hh, kk⟩; have K8 := Lib.hid (K7.out.trans kk); clear kk
      have H8 := Lib.hid (runsAt_own hh)
      clear hh
      go_wp2_with fail
      refine (C8.out _ K8.out).mono ?_
      rintro e w9 ⟨v9, rfl, hh, kk⟩
      have C10 := Lib.hid (C9.out _ _ _ (H8.out.kp kk) hh)
      have K9 := Lib.hid (K8.out.trans kk)
      clear kk hh H8 C9
      go_wp2_with fail; refine (C10.out).mono ?_; rintro e w10 ⟨rfl, kk⟩; have K10 := Lib.hid (K9.out.trans kk); clear kk
      go_wp2_with fail; refine (D1.out _ K10.out).mono ?_; rintro e w11 ⟨v11, rfl, hh, kk⟩; have K11 := Lib.hid (K10.out.trans kk); clear kk
      have H11 := Lib.hid (runsAt_own hh)
      clear hh
      go_wp2_with fail
      refine (D2.out _ K11.out).mono ?_
      rintro e w12 ⟨v12, rfl, hh, kk⟩
      have C12 := Lib.hid (D3.out _ _ _ (H11.out.kp kk) hh)
      have K12 := Lib.hid (K11.out.trans kk)
      clear kk hh H11 D3
      go_wp2_with fail; refine (C12.out).mono ?_; rintro e w13 ⟨rfl, kk⟩; have K13 := Lib.hid (K12.out.trans kk); clear kk
      go_wp2_with fail; refine (D4.out _ K13.out).mono ?_; rintro e w14 ⟨rfl, kk⟩; have K14 := Lib.hid (K13.out.trans kk); clear kk
      go_wp2_with fail; refine (D5.out _ K14.out).mono ?_; rintro e w15 ⟨rfl, kk⟩; have K15 := Lib.hid (K14.out.trans kk); clear kk
      go_wp2_with fail; refine (D6.out _ K15.out).mono ?_; rintro e w16 ⟨rfl, kk⟩; have K16 := Lib.hid (K15.out.trans kk); clear kk
      go_wp2_with fail; refine (D7.out _ K16.out).mono ?_; rintro e w17 ⟨rfl, kk⟩; have K17 := Lib.hid (K16.out.trans kk); clear kk
      go_wp2
      go_ret
      exact ⟨rfl, K17.out⟩
    · have g41 : decide ((40 : Int) < m.length) = true := decide_eq_true (by omega)
      have g41' : (40 : Int) < m.length := by omega
      clear hv hu
      go_enter Try.func3, Try.ntmps3
      go_wp2_with fail
      refine (A0.out _).mono ?_
      rintro e w1 ⟨rfl, kk⟩
      have K1 := Lib.hid kk
      clear kk
      go_wp2
      go_ret
      exact ⟨rfl, K1.out⟩
  · have g40 : decide ((40 : Int) < l.length) = true := decide_eq_true (by omega)
    have g40' : (40 : Int) < l.length := by omega
    clear hv hu
    go_enter Try.func3, Try.ntmps3
    go_wp2_with fail
    refine (A0.out _).mono ?_
    rintro e w1 ⟨rfl, kk⟩
    have K1 := Lib.hid kk
    clear kk
    go_wp2
    go_ret
    exact ⟨rfl, K1.out⟩
end Go.Proofs.Ytgaadakhkjfbnaa
