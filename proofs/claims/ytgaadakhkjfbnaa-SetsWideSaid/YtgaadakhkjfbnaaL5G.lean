/-
  Layer 5: the walk of SetsWide.
-/
import Derived.Test.Ytgaadakhkjfbnaa5P
import Derived.Test.YtgaadakhkjfbnaaMask
namespace Go.Proofs.Ytgaadakhkjfbnaa
open Go.RowKit
set_option linter.unusedVariables false
set_option linter.unusedSimpArgs false
theorem and511 (n : Int) : bits .and .i64 n 511 = n % 512 := by
  rw [and_aux n _ 9 (by decide), IntKind.wrap_i64]; omega
theorem and7' (n : Int) : bits .and .i64 n 7 = n % 8 := by
  rw [and_aux n _ 3 (by decide), IntKind.wrap_i64]; omega
set_option maxHeartbeats 4000000 in
set_option maxRecDepth 100000 in
theorem setsWide_walk (n gap : Int) (w : World) (n1 : -9223372036854775808 ≤ n) (n2 : n ≤ 9223372036854775807) (g1 : -9223372036854775808 ≤ gap) (g2 : gap ≤ 9223372036854775807) :
    Calls Try.prog 14 #[.int .i64 n, .int .i64 gap] w fun e w' => e = .returned (.bool true) ∧ Kp w w' := by
  obtain ⟨i0, hi, hz0, hz1, hz2⟩ := info_parts infoR
  have a1 := and511 n
  have a2 := and7' gap
  obtain ⟨k, hk, k1⟩ : ∃ k : Nat, n % 512 = (k : Int) ∧ k ≤ 511 := ⟨(n % 512).toNat, by omega, by omega⟩
  obtain ⟨d, hd, d1, d2⟩ : ∃ d : Int, gap % 8 = d - 1 ∧ 1 ≤ d ∧ d ≤ 8 := ⟨gap % 8 + 1, by omega, by omega, by omega⟩
  rw [hk] at a1
  rw [hd] at a2
  have ws : IntKind.i64.wrap (d - 1 + 1) = d := by rw [IntKind.wrap_i64]; omega
  have WD := Lib.hid (spd_wide d1 d2 (show k ≤ 512 by omega))
  have SI := Lib.hid (ok_i64 (spd_bd d1 d2 (show k ≤ 512 by omega)))
  have BD := Lib.hid (fun j (hj : j < k) => (show (0 : Int) ≤ (j : Int) * d ∧ (j : Int) * d ≤ 4096 from by
    have x1 : (0 : Int) ≤ (j : Int) * d := Int.mul_nonneg (by omega) (by omega)
    have x2 : (j : Int) * d ≤ 512 * 8 := Int.mul_le_mul (by omega) d2 (by omega) (by omega)
    exact ⟨x1, by omega⟩))
  clear hk hd
  go_enter Try.func14, Try.ntmps14
  go_wp2_with fail
  refine (awake05 _).mono ?_
  rintro e w1 ⟨rfl, kk⟩
  have K1 := Lib.hid kk
  clear kk
  go_wp2
  go_loopw [8, 9] (fun u8 u9 wr => ∃ j : Nat, j ≤ k ∧ u9 = .int .i64 j ∧ Hid (wr.ownsRow w1.heap.size 35 2 u8 (spd d j).length (cellsR (spd d j))) ∧ Hid (Kp w1 wr)) (fun _ u9 _ => k - (intOf u9).toNat)
  case atStart => exact ⟨0, Nat.zero_le _, rfl, Lib.hid (World.ownsRow_nil _ _ _ _), Lib.hid (Kp.refl _)⟩
  case round =>
    obtain ⟨j, hj, rfl, O, K2⟩ := hrel
    clear a1 a2 ws
    by_cases hlt : j < k
    · obtain ⟨b1, b2⟩ := BD.out j hlt
      have NX := Lib.hid (spd_next d j)
      have tl : (spd d j).length ≤ 512 := by rw [spd_len]; omega
      generalize spd d j = M at *
      have wm : IntKind.i64.wrap ((j : Int) * d) = (j : Int) * d := by rw [IntKind.wrap_i64]; omega
      have wm2 : wrap64 ((j : Int) * d) = (j : Int) * d := by first | exact wm | (unfold wrap64; omega)
      have hsz := K2.out.size
      have q : decide ((j : Int) < k) = true := decide_eq_true (by omega)
      go_wp2_with (at_builtin; refine wpList_app rfl (.tmp 21) (.tmp 29) 22 rfl w1.heap.size 35 i0 (.agg #[.int .i64 0, .int .i64 0]) 2 16 Try.underlying22 hi hz0 hz1 hz2 rfl (by decide) _ _ _ rfl (O.out.alloc _) _ _ _ rfl (one_src _ _ _ _) rfl (by intro u hu; simp at hu; rcases hu with rfl | rfl <;> rfl) (by unfold maxLen; omega) (by omega) (by simp; omega) ?_; intro v4 w4 hown4 hgrow4 hat4)
      go_roundw
      case rel => exact ⟨j + 1, by omega, by go_num, Lib.hid (by rw [NX.out]; exact own_snoc hown4), Lib.hid (Kp.grown (K2.out.trans (Kp.alloc _ _)) hgrow4 (fun j hj => (O.out.lt j hj).1))⟩
      case measure => simp [intOf]; omega
    · obtain rfl : j = k := by omega
      have q : decide ((j : Int) < j) = false := by simp
      have C := Lib.hid (wide_any u8 (spd d j) wr (runsAt_own O.out) SI.out (by rw [spd_len]; omega))
      by_cases c1 : 400 < j
      · have q1 : decide ((400 : Int) < j) = true := decide_eq_true (by omega)
        by_cases c2 : 1 < d
        · have q2 : decide (1 < d) = true := decide_eq_true c2
          rw [WD.out, decide_eq_true (by omega)] at C
          go_wp2_with fail
          refine (C.out).mono ?_
          rintro e w2 ⟨rfl, kk⟩
          have K3 := Lib.hid (K1.out.trans (K2.out.trans kk))
          clear kk
          go_wp2
          go_ret
          exact ⟨rfl, K3.out⟩
        · have q2 : decide (1 < d) = false := decide_eq_false c2
          rw [WD.out, decide_eq_false (by omega)] at C
          go_wp2_with fail
          refine (C.out).mono ?_
          rintro e w2 ⟨rfl, kk⟩
          have K3 := Lib.hid (K1.out.trans (K2.out.trans kk))
          clear kk
          go_wp2
          go_ret
          exact ⟨rfl, K3.out⟩
      · have q1 : decide ((400 : Int) < j) = false := decide_eq_false (by omega)
        rw [WD.out, decide_eq_false (by omega)] at C
        go_wp2_with fail
        refine (C.out).mono ?_
        rintro e w2 ⟨rfl, kk⟩
        have K3 := Lib.hid (K1.out.trans (K2.out.trans kk))
        clear kk
        go_wp2
        go_ret
        exact ⟨rfl, K3.out⟩
end Go.Proofs.Ytgaadakhkjfbnaa
