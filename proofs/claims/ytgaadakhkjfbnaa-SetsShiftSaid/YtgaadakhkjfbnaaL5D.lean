/-
  Layer 5: the walk of SetsShift.
-/
import Derived.Test.YtgaadakhkjfbnaaSetsD
namespace Go.Proofs.Ytgaadakhkjfbnaa
open Go.RowKit
set_option linter.unusedVariables false
set_option linter.unusedSimpArgs false
theorem shift_mem (l : List R) (k n : Int) : memR (nf (shR k k (nf l))) n ↔ memR l (n - k) ∧ -1099511627776 ≤ n ∧ n ≤ 1099511627776 := by
  rw [nf_mem, ← nf_mem l]
  unfold memR shR
  constructor
  · rintro ⟨r, hr, g1, g2, g3, g4⟩
    simp only [List.mem_map] at hr
    obtain ⟨q, hq, rfl⟩ := hr
    obtain ⟨o1, o2, o3⟩ := sane_ok (nf_sane l) q hq
    simp only at g1 g2
    exact ⟨⟨q, hq, by omega, by omega, by omega, by omega⟩, g3, g4⟩
  · rintro ⟨⟨q, hq, g1, g2, _⟩, g3, g4⟩
    exact ⟨(q.1 + k, q.2 + k), List.mem_map.2 ⟨q, hq, rfl⟩, by simp only; omega, by simp only; omega, g3, g4⟩
theorem memR_in {l : List R} {n : Int} (h : memR l n) : -1099511627776 ≤ n ∧ n ≤ 1099511627776 := by
  obtain ⟨r, _, _, _, g3, g4⟩ := h
  exact ⟨g3, g4⟩
theorem sh_bd (l : List R) (k : Int) {p : Nat} (h : l.length ≤ p) : (nf (shR k k (nf l))).length ≤ p :=
  Nat.le_trans (nf_len _) (by rw [shR_len]; exact nf_bd h)
set_option maxHeartbeats 8000000 in
set_option maxRecDepth 100000 in
theorem setsShift_walk (v : Value) (l : List R) (k n : Int) (w : World) (hv : RunsAt w v l) (hl : I64R l) (k1 : -9223372036854775808 ≤ k) (k2 : k ≤ 9223372036854775807) (n1 : -9223372036854775808 ≤ n) (n2 : n ≤ 9223372036854775807) :
    Calls Try.prog 11 #[v, .int .i64 k, .int .i64 n] w fun e w' => e = .returned (.bool true) ∧ Kp w w' := by
  obtain ⟨ad, c, rfl⟩ := hv.slice
  by_cases h40 : l.length ≤ 40
  · have g40 : decide ((40 : Int) < l.length) = false := decide_eq_false (by omega)
    by_cases h1 : k < -1000000
    · have e1 : decide (k < -1000000) = true := decide_eq_true h1
      clear hv
      go_enter Try.func11, Try.ntmps11
      go_wp2_with fail; refine (awake05 _).mono ?_; rintro e w1 ⟨rfl, kk⟩; have K1 := Lib.hid kk; clear kk; go_wp2; go_ret; exact ⟨rfl, K1.out⟩
    have e1 : decide (k < -1000000) = false := decide_eq_false h1
    by_cases h2 : 1000000 < k
    · have e2 : decide (1000000 < k) = true := decide_eq_true h2
      clear hv
      go_enter Try.func11, Try.ntmps11
      go_wp2_with fail; refine (awake05 _).mono ?_; rintro e w1 ⟨rfl, kk⟩; have K1 := Lib.hid kk; clear kk; go_wp2; go_ret; exact ⟨rfl, K1.out⟩
    have e2 : decide (1000000 < k) = false := decide_eq_false h2
    by_cases h3 : n < -1000000
    · have e3 : decide (n < -1000000) = true := decide_eq_true h3
      clear hv
      go_enter Try.func11, Try.ntmps11
      go_wp2_with fail; refine (awake05 _).mono ?_; rintro e w1 ⟨rfl, kk⟩; have K1 := Lib.hid kk; clear kk; go_wp2; go_ret; exact ⟨rfl, K1.out⟩
    have e3 : decide (n < -1000000) = false := decide_eq_false h3
    by_cases h4 : 1000000 < n
    · have e4 : decide (1000000 < n) = true := decide_eq_true h4
      clear hv
      go_enter Try.func11, Try.ntmps11
      go_wp2_with fail; refine (awake05 _).mono ?_; rintro e w1 ⟨rfl, kk⟩; have K1 := Lib.hid kk; clear kk; go_wp2; go_ret; exact ⟨rfl, K1.out⟩
    have e4 : decide (1000000 < n) = false := decide_eq_false h4
    obtain ⟨y, hy⟩ : ∃ y, hasB (nf l) (n - k) = y := ⟨_, rfl⟩
    obtain ⟨lo, hlo⟩ : ∃ x, max (-1099511627776) (-1099511627776 - k) = x := ⟨_, rfl⟩
    obtain ⟨hi', hhi⟩ : ∃ x, min 1099511627776 (1099511627776 - k) = x := ⟨_, rfl⟩
    have SX := nf_sane (shR k k (nf l))
    have LX : (nf (shR k k (nf l))).length ≤ 40 := sh_bd l k h40
    have LZ : (nf (shR (-k) (-k) (nf (nf (shR k k (nf l)))))).length ≤ 40 := sh_bd _ (-k) LX
    have LN : (nf l).length ≤ 40 := nf_bd h40
    have EH : hasB (nf (nf (shR k k (nf l)))) n = y := by rw [← hy]; exact bool_iff (by rw [hasB_nf, hasB_nf, shift_mem]; exact ⟨fun g => g.1, fun g => ⟨g, by omega, by omega⟩⟩)
    have EB : interR l [(lo, hi')] = nf (shR (-k) (-k) (nf (nf (shR k k (nf l))))) := sane_ext (interR_sane _ _) (nf_sane _) (fun m => by
      rw [interR_mem, shift_mem, shift_mem, show m - -k - k = m by omega]
      constructor
      · rintro ⟨g, r, hr, g1, g2, g3, g4⟩
        rw [List.mem_singleton] at hr
        subst hr
        simp only at g1 g2
        exact ⟨⟨g, by omega, by omega⟩, g3, g4⟩
      · rintro ⟨⟨g, g1, g2⟩, g3, g4⟩
        exact ⟨g, (lo, hi'), List.mem_singleton.2 rfl, by simp only; omega, by simp only; omega, g3, g4⟩)
    have E0 : nf (shR 0 0 (nf l)) = nf l := sane_ext (nf_sane _) (nf_sane _) (fun m => by
      rw [shift_mem, nf_mem, show m - 0 = m by omega]
      exact ⟨fun g => g.1, fun g => ⟨g, memR_in g⟩⟩)
    have GS := Lib.hid (fun w1 (q : Kp w w1) => shift_any _ l k w1 (hv.kp q) hl (by omega))
    have GZ := Lib.hid (fun w1 (q : Kp w w1) => by
      have h := shift_any _ l 0 w1 (hv.kp q) hl (by omega)
      rw [E0] at h
      exact h)
    have GA := Lib.hid (fun w1 (q : Kp w w1) => make_any _ l w1 (hv.kp q) hl (by omega))
    have GC := Lib.hid (fun w1 (q : Kp w w1) => by
      have h := clip_any _ l lo hi' w1 (hv.kp q) hl (by omega) (i64_one (by omega) (by omega) (by omega) (by omega))
      rw [EB] at h
      exact h)
    have HL := Lib.hid (fun w1 (q : Kp w w1) => by
      have h := has_any ad c l (n - k) w1 (hv.kp q) hl (by omega) (by omega) (by omega)
      rw [hy] at h
      exact h)
    have HX := Lib.hid (fun w1 ad1 c1 (h1 : RunsAt w1 (.slice ad1 (nf (shR k k (nf l))).length c1) (nf (shR k k (nf l)))) => by
      have h := has_any ad1 c1 _ n w1 h1 (sane_i64 SX) (by omega) n1 n2
      rw [EH] at h
      exact h)
    have GB := Lib.hid (fun w1 x (h1 : RunsAt w1 x (nf (shR k k (nf l)))) => shift_any x _ (-k) w1 h1 (sane_i64 SX) (by omega))
    have SXX := Lib.hid SX
    clear hv hl EH EB E0 SX hy
    generalize nf (shR (-k) (-k) (nf (nf (shR k k (nf l))))) = Z at *
    generalize nf (shR k k (nf l)) = X at *
    generalize nf l = N at *
    cases y
    all_goals
      go_enter Try.func11, Try.ntmps11
      go_wp2_with fail
      refine (awake05 _).mono ?_
      rintro e w1 ⟨rfl, kk⟩
      have K1 := Lib.hid kk
      clear kk
      go_wp2_with fail; refine (GS.out _ K1.out).mono ?_; rintro e w2 ⟨v5, rfl, own5, kk⟩; have R1 := Lib.hid (runsAt_own own5); obtain ⟨adR1, cR1, rfl⟩ := (R1).out.slice; have q := Lib.hid kk; clear own5 kk
      have K2 := Lib.hid (K1.out.trans q.out)
      clear q
      go_wp2_with fail; refine (HX.out _ _ _ R1.out).mono ?_; rintro e w3 ⟨rfl, kk⟩; have q := Lib.hid kk; clear kk
      have Z3 := Lib.hid q.out
      clear q
      go_wp2_with fail; refine (HL.out _ (K2.out.trans Z3.out)).mono ?_; rintro e w4 ⟨rfl, kk⟩; have q := Lib.hid kk; clear kk
      have Z4 := Lib.hid (Z3.out.trans q.out)
      clear q
      go_wp2_with fail; refine (sane_yes _ X _ (R1.out.kp Z4.out) SXX.out).mono ?_; rintro e w5 ⟨rfl, kk⟩; have q := Lib.hid kk; clear kk
      have Z5 := Lib.hid (Z4.out.trans q.out)
      clear q
      go_wp2_with fail; refine (GB.out _ _ (R1.out.kp Z5.out)).mono ?_; rintro e w6 ⟨v5, rfl, own5, kk⟩; have R2 := Lib.hid (runsAt_own own5); obtain ⟨adR2, cR2, rfl⟩ := (R2).out.slice; have q := Lib.hid kk; clear own5 kk
      have Z6 := Lib.hid (Z5.out.trans q.out)
      clear q
      go_wp2_with fail; refine (GC.out _ (K2.out.trans Z6.out)).mono ?_; rintro e w7 ⟨v5, rfl, own5, kk⟩; have R3 := Lib.hid (runsAt_own own5); obtain ⟨adR3, cR3, rfl⟩ := (R3).out.slice; have q := Lib.hid kk; clear own5 kk
      have Z7 := Lib.hid (Z6.out.trans q.out)
      have R2' := Lib.hid (R2.out.kp q.out)
      clear q R2
      go_wp2_with fail; refine (same_any _ _ Z _ R2'.out R3.out (by omega)).mono ?_; rintro e w8 ⟨rfl, kk⟩; have q := Lib.hid kk; clear kk
      have Z8 := Lib.hid (Z7.out.trans q.out)
      clear q
      go_wp2_with fail; refine (GZ.out _ (K2.out.trans Z8.out)).mono ?_; rintro e w9 ⟨v5, rfl, own5, kk⟩; have R4 := Lib.hid (runsAt_own own5); obtain ⟨adR4, cR4, rfl⟩ := (R4).out.slice; have q := Lib.hid kk; clear own5 kk
      have Z9 := Lib.hid (Z8.out.trans q.out)
      clear q
      go_wp2_with fail; refine (GA.out _ (K2.out.trans Z9.out)).mono ?_; rintro e w10 ⟨v5, rfl, own5, kk⟩; have R5 := Lib.hid (runsAt_own own5); obtain ⟨adR5, cR5, rfl⟩ := (R5).out.slice; have q := Lib.hid kk; clear own5 kk
      have Z10 := Lib.hid (Z9.out.trans q.out)
      have R4' := Lib.hid (R4.out.kp q.out)
      clear q R4
      go_wp2_with fail; refine (same_any _ _ N _ R4'.out R5.out (by omega)).mono ?_; rintro e w11 ⟨rfl, kk⟩; have q := Lib.hid kk; clear kk
      have Z11 := Lib.hid (Z10.out.trans q.out)
      clear q
      go_wp2
      go_ret
      exact ⟨rfl, K2.out.trans Z11.out⟩
  · have g40 : decide ((40 : Int) < l.length) = true := decide_eq_true (by omega)
    clear hv
    go_enter Try.func11, Try.ntmps11
    go_wp2_with fail; refine (awake05 _).mono ?_; rintro e w1 ⟨rfl, kk⟩; have K1 := Lib.hid kk; clear kk; go_wp2; go_ret; exact ⟨rfl, K1.out⟩
end Go.Proofs.Ytgaadakhkjfbnaa
