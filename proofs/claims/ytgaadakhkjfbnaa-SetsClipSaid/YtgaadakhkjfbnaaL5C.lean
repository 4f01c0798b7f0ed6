/-
  Layer 5: the walk of SetsClip.
-/
import Derived.Test.YtgaadakhkjfbnaaSetsD
namespace Go.Proofs.Ytgaadakhkjfbnaa
open Go.RowKit
set_option linter.unusedVariables false
set_option linter.unusedSimpArgs false
theorem i64_of {lo hi' : Int} (h : I64R [(lo, hi')]) : -9223372036854775808 ≤ lo ∧ lo ≤ 9223372036854775807 ∧ -9223372036854775808 ≤ hi' ∧ hi' ≤ 9223372036854775807 := h (lo, hi') (List.mem_singleton.2 rfl)
set_option maxHeartbeats 8000000 in
set_option maxRecDepth 100000 in
theorem setsClip_walk (v : Value) (l : List R) (lo hi' n : Int) (w : World) (hv : RunsAt w v l) (hl : I64R l) (a1 : -9223372036854775808 ≤ lo) (a2 : lo ≤ 9223372036854775807) (b1 : -9223372036854775808 ≤ hi') (b2 : hi' ≤ 9223372036854775807) (n1 : -9223372036854775808 ≤ n) (n2 : n ≤ 9223372036854775807) :
    Calls Try.prog 13 #[v, .int .i64 lo, .int .i64 hi', .int .i64 n] w fun e w' => e = .returned (.bool true) ∧ Kp w w' := by
  obtain ⟨ad, c, rfl⟩ := hv.slice
  by_cases h40 : l.length ≤ 40
  · have g40 : decide ((40 : Int) < l.length) = false := decide_eq_false (by omega)
    have CC := Lib.hid (fun w1 (k : Kp w w1) => clip_any _ l lo hi' w1 (hv.kp k) hl (by omega) (i64_one a1 a2 b1 b2))
    have CM := Lib.hid (fun w1 (k : Kp w w1) t => meet_any _ (.slice (some ⟨w1.heap.size, 0, none⟩) 1 1) l [(lo, hi')] (w1.alloc (.cells #[.int .i64 lo, .int .i64 hi'] t)) ((hv.kp k).kp (Kp.alloc _ _)) (lit_at w1 [(lo, hi')] _ _ rfl (by simp [maxLen])) hl (i64_one a1 a2 b1 b2) (by omega) (by simp))
    have AX := Lib.hid (fun w1 (k : Kp w w1) => has_any ad c l n w1 (hv.kp k) hl (by omega) n1 n2)
    obtain ⟨p, hp⟩ : ∃ p, hasB (nf l) n = p := ⟨_, rfl⟩
    have P : memR l n ↔ p = true := by rw [← hp, hasB_nf]
    have HC : hasB (nf (interR l [(lo, hi')])) n = (p && (decide (lo ≤ n) && decide (n ≤ hi'))) := bool_iff (by
      rw [hasB_nf, interR_mem, Bool.and_eq_true, Bool.and_eq_true, decide_eq_true_iff, decide_eq_true_iff, ← P]
      constructor
      · rintro ⟨g, r, hr, g1, g2, _⟩
        rw [List.mem_singleton] at hr
        subst hr
        exact ⟨g, g1, g2⟩
      · rintro ⟨g, g1, g2⟩
        obtain ⟨r, hr, g3, g4, g5⟩ := g
        exact ⟨⟨r, hr, g3, g4, g5⟩, (lo, hi'), List.mem_singleton.2 rfl, g1, g2, g5⟩)
    have SX := Lib.hid (interR_sane l [(lo, hi')])
    have LX : (interR l [(lo, hi')]).length ≤ 40 := by have h := interR_bd (b := [(lo, hi')]) (q := 1) h40 (by simp); omega
    have EX : hi' < lo → interR l [(lo, hi')] = [] := fun g => sane_ext (interR_sane _ _) trivial (fun m => by
      rw [interR_mem]
      refine ⟨?_, fun h => absurd h (memR_nil m)⟩
      rintro ⟨_, r, hr, g1, g2, _⟩
      rw [List.mem_singleton] at hr
      subst hr
      simp only at g1 g2
      omega)
    rw [hp] at AX
    generalize interR l [(lo, hi')] = X at *
    obtain ⟨y, hy⟩ : ∃ y, hasB (nf X) n = y := ⟨_, rfl⟩
    rw [hy] at HC
    have HX := Lib.hid (fun w1 ad1 c1 (h : RunsAt w1 (.slice ad1 X.length c1) X) => show Calls Try.prog 33 #[.slice ad1 X.length c1, .int .i64 n] w1 (fun e w' => e = .returned (.bool y) ∧ Kp w1 w') by
      have g := has_any ad1 c1 X n w1 h (sane_i64 SX.out) (by omega) n1 n2
      rw [hy] at g
      exact g)
    obtain ⟨q1, e1⟩ : ∃ q, decide (lo ≤ n) = q := ⟨_, rfl⟩
    obtain ⟨q2, e2⟩ : ∃ q, decide (n ≤ hi') = q := ⟨_, rfl⟩
    rw [e1, e2] at HC
    subst HC
    clear hv hl hp P hy
    by_cases h3 : lo ≤ hi'
    · have e3 : decide (lo ≤ hi') = true := decide_eq_true h3
      clear EX
      cases p <;> cases q1 <;> cases q2
      all_goals
        go_enter Try.func13, Try.ntmps13
        go_wp2_with fail
        refine (awake05 _).mono ?_
        rintro e w1 ⟨rfl, kk⟩
        have K1 := Lib.hid kk
        clear kk
        go_wp2_with fail
        refine (CC.out _ K1.out).mono ?_
        rintro e w2 ⟨v5, rfl, own5, kk⟩
        have R1 := Lib.hid (runsAt_own own5)
        obtain ⟨adR, cR, rfl⟩ := R1.out.slice
        have K2 := Lib.hid (K1.out.trans kk)
        have Z2 := Lib.hid (Kp.refl w2)
        clear own5 kk
        go_wp2_with fail
        refine (sane_yes _ X _ (R1.out.kp Z2.out) SX.out).mono ?_
        rintro e w3 ⟨rfl, kk⟩
        have Z3 := Lib.hid (Z2.out.trans kk)
        clear kk
        go_wp2_with fail
        refine (HX.out _ _ _ (R1.out.kp Z3.out)).mono ?_
        rintro e w4 ⟨rfl, kk⟩
        have Z4 := Lib.hid (Z3.out.trans kk)
        clear kk
        go_wp2_with fail
        refine (AX.out _ (K2.out.trans Z4.out)).mono ?_
        rintro e w5 ⟨rfl, kk⟩
        have Z5 := Lib.hid (Z4.out.trans kk)
        clear kk
        go_wp2_with fail
        refine (CM.out _ (K2.out.trans Z5.out) _).mono ?_
        rintro e w6 ⟨v5, rfl, own5, kk⟩
        have R2 := Lib.hid (runsAt_own own5)
        obtain ⟨adS, cS, rfl⟩ := R2.out.slice
        have Z6 := Lib.hid (Z5.out.trans ((Kp.alloc _ _).trans kk))
        clear own5 kk
        go_wp2_with fail
        refine (same_any _ _ X _ (R1.out.kp Z6.out) R2.out (by omega)).mono ?_
        rintro e w7 ⟨rfl, kk⟩
        have Z7 := Lib.hid (Z6.out.trans kk)
        clear kk
        go_wp2
        go_ret
        exact ⟨rfl, K2.out.trans Z7.out⟩
    · have e3 : decide (lo ≤ hi') = false := decide_eq_false h3
      obtain rfl : X = [] := EX (by omega)
      clear EX
      cases p <;> cases q1 <;> cases q2
      all_goals
        go_enter Try.func13, Try.ntmps13
        go_wp2_with fail
        refine (awake05 _).mono ?_
        rintro e w1 ⟨rfl, kk⟩
        have K1 := Lib.hid kk
        clear kk
        go_wp2_with fail
        refine (CC.out _ K1.out).mono ?_
        rintro e w2 ⟨v5, rfl, own5, kk⟩
        have R1 := Lib.hid (runsAt_own own5)
        obtain ⟨adR, cR, rfl⟩ := R1.out.slice
        have K2 := Lib.hid (K1.out.trans kk)
        have Z2 := Lib.hid (Kp.refl w2)
        clear own5 kk
        go_wp2_with fail
        refine (sane_yes _ [] _ (R1.out.kp Z2.out) SX.out).mono ?_
        rintro e w3 ⟨rfl, kk⟩
        have Z3 := Lib.hid (Z2.out.trans kk)
        clear kk
        go_wp2_with fail
        refine (HX.out _ _ _ (R1.out.kp Z3.out)).mono ?_
        rintro e w4 ⟨rfl, kk⟩
        have Z4 := Lib.hid (Z3.out.trans kk)
        clear kk
        go_wp2_with fail
        refine (AX.out _ (K2.out.trans Z4.out)).mono ?_
        rintro e w5 ⟨rfl, kk⟩
        have Z5 := Lib.hid (Z4.out.trans kk)
        clear kk
        go_wp2_with fail
        refine (CM.out _ (K2.out.trans Z5.out) _).mono ?_
        rintro e w6 ⟨v5, rfl, own5, kk⟩
        have R2 := Lib.hid (runsAt_own own5)
        obtain ⟨adS, cS, rfl⟩ := R2.out.slice
        have Z6 := Lib.hid (Z5.out.trans ((Kp.alloc _ _).trans kk))
        clear own5 kk
        go_wp2_with fail
        refine (same_any _ _ [] _ (R1.out.kp Z6.out) R2.out (by simp)).mono ?_
        rintro e w7 ⟨rfl, kk⟩
        have Z7 := Lib.hid (Z6.out.trans kk)
        clear kk
        go_wp2
        go_ret
        exact ⟨rfl, K2.out.trans Z7.out⟩
  · have g40 : decide ((40 : Int) < l.length) = true := decide_eq_true (by omega)
    clear hv
    go_enter Try.func13, Try.ntmps13
    go_wp2_with fail
    refine (awake05 _).mono ?_
    rintro e w1 ⟨rfl, kk⟩
    have K1 := Lib.hid kk
    clear kk
    go_wp2
    go_ret
    exact ⟨rfl, K1.out⟩
end Go.Proofs.Ytgaadakhkjfbnaa
