/-
  Layer 21: the walk of OrderCompare.
-/
import Derived.Test.YtjjpnglilalnmaaDoorGOrdB
namespace Go.Proofs.YtjjpnglilalnmaaDoor
open Go.RowKit
set_option linter.unusedVariables false
set_option linter.unusedSimpArgs false
theorem eqKeyIn (d : Nat) (x y S E : Int) (w : World) : (Op.equalIn (d + 2) 26 (.agg #[.int .i64 x, .int .i64 y]) (.agg #[.int .i64 S, .int .i64 E])).run Tryd.prog w = .ok ((x == S) && (y == E)) w := by
  simp [Op.equalIn, run_underlying Tryd.underlying26, run_underlying Tryd.underlying3, go_sem]
  by_cases h : x = S
  · by_cases g : y = E
    · simp [h, g]
    · simp [h, g]
  · simp [h]
theorem eqKey (x y S E : Int) (w : World) : (binOp .eql 26 (.agg #[.int .i64 x, .int .i64 y]) (.agg #[.int .i64 S, .int .i64 E])).run Tryd.prog w = .ok (.bool ((x == S) && (y == E))) w := by
  simp [binOp, Op.equal, Op.maxDepth, eqKeyIn 9998, go_sem]
theorem cmpK_three (a b c d e f : Int) : cmpK c d a b = - cmpK a b c d ∧ ((a == c) && (b == d)) = decide (cmpK a b c d = 0) ∧
    (cmpK a b c d = 0 → cmpK a b e f = cmpK c d e f) ∧ (cmpK a b c d = -1 → cmpK c d e f ≤ 0 → cmpK a b e f = -1) := by
  have h1 := cmpK_cases a b c d
  have h2 := cmpK_cases c d a b
  have h3 := cmpK_cases c d e f
  have h4 := cmpK_cases a b e f
  refine ⟨by omega, ?_, fun h => by omega, fun h g => by omega⟩
  rw [Bool.eq_iff_iff]
  simp only [Bool.and_eq_true, beq_iff_eq, decide_eq_true_eq]
  omega
set_option maxHeartbeats 16000000 in
set_option maxRecDepth 100000 in
theorem orderCompare_walk (pS pE : Int) (qS qE : Int) (zS zE : Int) (w : World) (hp1 : -9223372036854775808 ≤ pS) (hp2 : pS ≤ 9223372036854775807) (hp3 : -9223372036854775808 ≤ pE) (hp4 : pE ≤ 9223372036854775807) (hq1 : -9223372036854775808 ≤ qS) (hq2 : qS ≤ 9223372036854775807) (hq3 : -9223372036854775808 ≤ qE) (hq4 : qE ≤ 9223372036854775807) (hz1 : -9223372036854775808 ≤ zS) (hz2 : zS ≤ 9223372036854775807) (hz3 : -9223372036854775808 ≤ zE) (hz4 : zE ≤ 9223372036854775807) (T : Tabs w) :
    Calls Tryd.prog 4 #[.agg #[.int .i64 pS, .int .i64 pE], .agg #[.int .i64 qS, .int .i64 qE], .agg #[.int .i64 zS, .int .i64 zE]] w fun e w' => e = .returned (.bool true) ∧ Kp w w' := by
  have AW0 := Lib.hid (fun w1 (kk : Kp w w1) => awake21 w1 (T.kp kk))
  have C1 := Lib.hid (fun w1 => kcmp_any pS pE qS qE w1)
  have C2 := Lib.hid (fun w1 => kcmp_any qS qE zS zE w1)
  have C3 := Lib.hid (fun w1 => kcmp_any qS qE pS pE w1)
  have C4 := Lib.hid (fun w1 => kcmp_any pS pE zS zE w1)
  have eqk := fun w1 => eqKey pS pE qS qE w1
  obtain ⟨q1, q2, q3, q4⟩ := cmpK_three pS pE qS qE zS zE
  have hx := cmpK_cases pS pE qS qE
  have hy := cmpK_cases qS qE zS zE
  have hx' : cmpK pS pE qS qE = -1 ∨ cmpK pS pE qS qE = 0 ∨ cmpK pS pE qS qE = 1 := by omega
  have hy' : cmpK qS qE zS zE = -1 ∨ cmpK qS qE zS zE = 0 ∨ cmpK qS qE zS zE = 1 := by omega
  rw [q1] at C3
  rw [q2] at eqk
  clear q1 q2 hx hy
  generalize cmpK pS pE qS qE = x at *
  generalize cmpK qS qE zS zE = y at *
  generalize cmpK pS pE zS zE = u at *

  obtain ⟨W0, hW⟩ : ∃ W0, W0 = ((w.alloc (.cells #[.int .i64 pS, .int .i64 pE] 36)).alloc (.cells #[.int .i64 qS, .int .i64 qE] 36)).alloc (.cells #[.int .i64 zS, .int .i64 zE] 36) := ⟨_, rfl⟩
  have K00 := Lib.hid (show Kp w W0 by rw [hW]; exact ((Kp.alloc _ _).trans (Kp.alloc _ _)).trans (Kp.alloc _ _))
  have HB := Lib.hid (fun w1 (k : Kp W0 w1) => show w1.cell? ⟨w.heap.size, 0, none⟩ = some (.int .i64 pS) ∧ w1.cell? ⟨w.heap.size, 1, none⟩ = some (.int .i64 pE) ∧ w1.cell? ⟨w.heap.size + 1, 0, none⟩ = some (.int .i64 qS) ∧ w1.cell? ⟨w.heap.size + 1, 1, none⟩ = some (.int .i64 qE) ∧ w1.cell? ⟨w.heap.size + 1 + 1, 0, none⟩ = some (.int .i64 zS) ∧ w1.cell? ⟨w.heap.size + 1 + 1, 1, none⟩ = some (.int .i64 zE) from ⟨cell_up k (show W0.cell? ⟨w.heap.size, 0, none⟩ = some (.int .i64 pS) by rw [hW]; go_simp), cell_up k (show W0.cell? ⟨w.heap.size, 1, none⟩ = some (.int .i64 pE) by rw [hW]; go_simp), cell_up k (show W0.cell? ⟨w.heap.size + 1, 0, none⟩ = some (.int .i64 qS) by rw [hW]; go_simp), cell_up k (show W0.cell? ⟨w.heap.size + 1, 1, none⟩ = some (.int .i64 qE) by rw [hW]; go_simp), cell_up k (show W0.cell? ⟨w.heap.size + 1 + 1, 0, none⟩ = some (.int .i64 zS) by rw [hW]; go_simp), cell_up k (show W0.cell? ⟨w.heap.size + 1 + 1, 1, none⟩ = some (.int .i64 zE) by rw [hW]; go_simp)⟩)
  obtain ⟨c0, c1, c2, c3, c4, c5⟩ := HB.out W0 (Kp.refl _)
  have K0 := Lib.hid (Kp.refl W0)
  have HW := Lib.hid hW
  clear hW
  have HSZ := Lib.hid (show W0.heap.size = w.heap.size + 1 + 1 + 1 by rw [HW.out]; simp)
  have AW := Lib.hid (fun w1 (kk : Kp W0 w1) => AW0.out w1 (K00.out.trans kk))
  clear T AW0
  rcases hx' with rfl | hx'
  · have eqk2 : ∀ w1, (binOp .eql 26 (.agg #[.int .i64 pS, .int .i64 pE]) (.agg #[.int .i64 qS, .int .i64 qE])).run Tryd.prog w1 = .ok (.bool false) w1 := fun w1 => by rw [eqk w1]; rfl
    clear eqk
    rw [show -(-1 : Int) = 1 by decide] at C3
    rcases hy' with rfl | rfl | rfl
    · obtain rfl := q4 rfl (by decide)
      clear q3 q4
      go_enter Tryd.func4, Tryd.ntmps4
      go_wp2_with fail
      rw [← HW.out]
      refine (AW.out _ (by first | with_reducible exact K0.out | with_reducible exact K0.out.trans (Kp.alloc _ _) | with_reducible exact (K0.out.trans (Kp.alloc _ _)).trans (Kp.alloc _ _) | with_reducible exact ((K0.out.trans (Kp.alloc _ _)).trans (Kp.alloc _ _)).trans (Kp.alloc _ _) | with_reducible exact K0.out.trans (Kp.drew _) | with_reducible exact K0.out.trans (Kp.drewN _ _))).mono ?_
      rintro e w1 ⟨rfl, kk⟩
      have K1 := Lib.hid ((show Kp W0 _ from (by first | with_reducible exact K0.out | with_reducible exact K0.out.trans (Kp.alloc _ _) | with_reducible exact (K0.out.trans (Kp.alloc _ _)).trans (Kp.alloc _ _) | with_reducible exact ((K0.out.trans (Kp.alloc _ _)).trans (Kp.alloc _ _)).trans (Kp.alloc _ _) | with_reducible exact K0.out.trans (Kp.drew _) | with_reducible exact K0.out.trans (Kp.drewN _ _))).trans kk)
      clear kk
      clear c0 c1 c2 c3 c4 c5
      obtain ⟨c0, c1, c2, c3, c4, c5⟩ := HB.out w1 K1.out
      have hs1 := K1.out.size
      have hs2 := HSZ.out
      have la0 : w.heap.size < w1.heap.size := by omega
      have lb0 : ¬ w.heap.size = w1.heap.size := by omega
      have lc0 : w.heap.size < w1.heap.size + 1 := by omega
      have ld0 : ¬ w.heap.size = w1.heap.size + 1 := by omega
      have la1 : w.heap.size + 1 < w1.heap.size := by omega
      have lb1 : ¬ w.heap.size + 1 = w1.heap.size := by omega
      have lc1 : w.heap.size + 1 < w1.heap.size + 1 := by omega
      have ld1 : ¬ w.heap.size + 1 = w1.heap.size + 1 := by omega
      have la2 : w.heap.size + 1 + 1 < w1.heap.size := by omega
      have lb2 : ¬ w.heap.size + 1 + 1 = w1.heap.size := by omega
      have lc2 : w.heap.size + 1 + 1 < w1.heap.size + 1 := by omega
      have ld2 : ¬ w.heap.size + 1 + 1 = w1.heap.size + 1 := by omega
      clear hs1 hs2
      go_wp2_with fail
      obtain ⟨V, hV⟩ : ∃ x, x = ((w1.alloc (.cells #[.int .i64 pS, .int .i64 pE] 26)).alloc (.cells #[.int .i64 qS, .int .i64 qE] 26)).alloc (.cells #[.int .i64 zS, .int .i64 zE] 26) := ⟨_, rfl⟩
      rw [← hV]
      have kv : Kp w1 V := by rw [hV]; exact ((Kp.alloc _ _).trans (Kp.alloc _ _)).trans (Kp.alloc _ _)
      have HC := Lib.hid (fun w' (k : Kp V w') => show w'.cell? ⟨w1.heap.size, 0, none⟩ = some (.int .i64 pS) ∧ w'.cell? ⟨w1.heap.size, 1, none⟩ = some (.int .i64 pE) ∧ w'.cell? ⟨w1.heap.size + 1, 0, none⟩ = some (.int .i64 qS) ∧ w'.cell? ⟨w1.heap.size + 1, 1, none⟩ = some (.int .i64 qE) ∧ w'.cell? ⟨w1.heap.size + 1 + 1, 0, none⟩ = some (.int .i64 zS) ∧ w'.cell? ⟨w1.heap.size + 1 + 1, 1, none⟩ = some (.int .i64 zE) from ⟨cell_up k (show V.cell? ⟨w1.heap.size, 0, none⟩ = some (.int .i64 pS) by rw [hV]; go_simp), cell_up k (show V.cell? ⟨w1.heap.size, 1, none⟩ = some (.int .i64 pE) by rw [hV]; go_simp), cell_up k (show V.cell? ⟨w1.heap.size + 1, 0, none⟩ = some (.int .i64 qS) by rw [hV]; go_simp), cell_up k (show V.cell? ⟨w1.heap.size + 1, 1, none⟩ = some (.int .i64 qE) by rw [hV]; go_simp), cell_up k (show V.cell? ⟨w1.heap.size + 1 + 1, 0, none⟩ = some (.int .i64 zS) by rw [hV]; go_simp), cell_up k (show V.cell? ⟨w1.heap.size + 1 + 1, 1, none⟩ = some (.int .i64 zE) by rw [hV]; go_simp)⟩)
      have KV := Lib.hid (K00.out.trans (K1.out.trans kv))
      have J1 := Lib.hid (Kp.refl V)
      clear hV kv la0 la1 la2 lb0 lb1 lb2 lc0 lc1 lc2 ld0 ld1 ld2 c0 c1 c2 c3 c4 c5
      obtain ⟨d0, d1, d2, d3, d4, d5⟩ := HC.out V (Kp.refl V)
      refine (C1.out _).mono ?_
      rintro e w2 ⟨rfl, kk⟩
      have J2 := Lib.hid ((show Kp V _ from (by first | with_reducible exact J1.out | with_reducible exact J1.out.trans (Kp.alloc _ _) | with_reducible exact (J1.out.trans (Kp.alloc _ _)).trans (Kp.alloc _ _) | with_reducible exact ((J1.out.trans (Kp.alloc _ _)).trans (Kp.alloc _ _)).trans (Kp.alloc _ _) | with_reducible exact J1.out.trans (Kp.drew _) | with_reducible exact J1.out.trans (Kp.drewN _ _))).trans kk)
      clear kk d0 d1 d2 d3 d4 d5
      obtain ⟨d0, d1, d2, d3, d4, d5⟩ := HC.out w2 J2.out
      go_wp2_with fail
      refine (C2.out _).mono ?_
      rintro e w3 ⟨rfl, kk⟩
      have J3 := Lib.hid ((show Kp V _ from (by first | with_reducible exact J2.out | with_reducible exact J2.out.trans (Kp.alloc _ _) | with_reducible exact (J2.out.trans (Kp.alloc _ _)).trans (Kp.alloc _ _) | with_reducible exact ((J2.out.trans (Kp.alloc _ _)).trans (Kp.alloc _ _)).trans (Kp.alloc _ _) | with_reducible exact J2.out.trans (Kp.drew _) | with_reducible exact J2.out.trans (Kp.drewN _ _))).trans kk)
      clear kk d0 d1 d2 d3 d4 d5
      obtain ⟨d0, d1, d2, d3, d4, d5⟩ := HC.out w3 J3.out
      go_wp2_with fail
      refine (C3.out _).mono ?_
      rintro e w4 ⟨rfl, kk⟩
      have J4 := Lib.hid ((show Kp V _ from (by first | with_reducible exact J3.out | with_reducible exact J3.out.trans (Kp.alloc _ _) | with_reducible exact (J3.out.trans (Kp.alloc _ _)).trans (Kp.alloc _ _) | with_reducible exact ((J3.out.trans (Kp.alloc _ _)).trans (Kp.alloc _ _)).trans (Kp.alloc _ _) | with_reducible exact J3.out.trans (Kp.drew _) | with_reducible exact J3.out.trans (Kp.drewN _ _))).trans kk)
      clear kk d0 d1 d2 d3 d4 d5
      obtain ⟨d0, d1, d2, d3, d4, d5⟩ := HC.out w4 J4.out
      go_wp2_with fail
      refine (C4.out _).mono ?_
      rintro e w5 ⟨rfl, kk⟩
      have J5 := Lib.hid ((show Kp V _ from (by first | with_reducible exact J4.out | with_reducible exact J4.out.trans (Kp.alloc _ _) | with_reducible exact (J4.out.trans (Kp.alloc _ _)).trans (Kp.alloc _ _) | with_reducible exact ((J4.out.trans (Kp.alloc _ _)).trans (Kp.alloc _ _)).trans (Kp.alloc _ _) | with_reducible exact J4.out.trans (Kp.drew _) | with_reducible exact J4.out.trans (Kp.drewN _ _))).trans kk)
      clear kk d0 d1 d2 d3 d4 d5
      obtain ⟨d0, d1, d2, d3, d4, d5⟩ := HC.out w5 J5.out
      go_wp2_with fail
      refine (C4.out _).mono ?_
      rintro e w6 ⟨rfl, kk⟩
      have J6 := Lib.hid ((show Kp V _ from (by first | with_reducible exact J5.out | with_reducible exact J5.out.trans (Kp.alloc _ _) | with_reducible exact (J5.out.trans (Kp.alloc _ _)).trans (Kp.alloc _ _) | with_reducible exact ((J5.out.trans (Kp.alloc _ _)).trans (Kp.alloc _ _)).trans (Kp.alloc _ _) | with_reducible exact J5.out.trans (Kp.drew _) | with_reducible exact J5.out.trans (Kp.drewN _ _))).trans kk)
      clear kk d0 d1 d2 d3 d4 d5
      obtain ⟨d0, d1, d2, d3, d4, d5⟩ := HC.out w6 J6.out
      go_wp2
      go_ret
      exact ⟨rfl, KV.out.trans J6.out⟩
    · obtain rfl := q4 rfl (by decide)
      clear q3 q4
      go_enter Tryd.func4, Tryd.ntmps4
      go_wp2_with fail
      rw [← HW.out]
      refine (AW.out _ (by first | with_reducible exact K0.out | with_reducible exact K0.out.trans (Kp.alloc _ _) | with_reducible exact (K0.out.trans (Kp.alloc _ _)).trans (Kp.alloc _ _) | with_reducible exact ((K0.out.trans (Kp.alloc _ _)).trans (Kp.alloc _ _)).trans (Kp.alloc _ _) | with_reducible exact K0.out.trans (Kp.drew _) | with_reducible exact K0.out.trans (Kp.drewN _ _))).mono ?_
      rintro e w1 ⟨rfl, kk⟩
      have K1 := Lib.hid ((show Kp W0 _ from (by first | with_reducible exact K0.out | with_reducible exact K0.out.trans (Kp.alloc _ _) | with_reducible exact (K0.out.trans (Kp.alloc _ _)).trans (Kp.alloc _ _) | with_reducible exact ((K0.out.trans (Kp.alloc _ _)).trans (Kp.alloc _ _)).trans (Kp.alloc _ _) | with_reducible exact K0.out.trans (Kp.drew _) | with_reducible exact K0.out.trans (Kp.drewN _ _))).trans kk)
      clear kk
      clear c0 c1 c2 c3 c4 c5
      obtain ⟨c0, c1, c2, c3, c4, c5⟩ := HB.out w1 K1.out
      have hs1 := K1.out.size
      have hs2 := HSZ.out
      have la0 : w.heap.size < w1.heap.size := by omega
      have lb0 : ¬ w.heap.size = w1.heap.size := by omega
      have lc0 : w.heap.size < w1.heap.size + 1 := by omega
      have ld0 : ¬ w.heap.size = w1.heap.size + 1 := by omega
      have la1 : w.heap.size + 1 < w1.heap.size := by omega
      have lb1 : ¬ w.heap.size + 1 = w1.heap.size := by omega
      have lc1 : w.heap.size + 1 < w1.heap.size + 1 := by omega
      have ld1 : ¬ w.heap.size + 1 = w1.heap.size + 1 := by omega
      have la2 : w.heap.size + 1 + 1 < w1.heap.size := by omega
      have lb2 : ¬ w.heap.size + 1 + 1 = w1.heap.size := by omega
      have lc2 : w.heap.size + 1 + 1 < w1.heap.size + 1 := by omega
      have ld2 : ¬ w.heap.size + 1 + 1 = w1.heap.size + 1 := by omega
      clear hs1 hs2
      go_wp2_with fail
      obtain ⟨V, hV⟩ : ∃ x, x = ((w1.alloc (.cells #[.int .i64 pS, .int .i64 pE] 26)).alloc (.cells #[.int .i64 qS, .int .i64 qE] 26)).alloc (.cells #[.int .i64 zS, .int .i64 zE] 26) := ⟨_, rfl⟩
      rw [← hV]
      have kv : Kp w1 V := by rw [hV]; exact ((Kp.alloc _ _).trans (Kp.alloc _ _)).trans (Kp.alloc _ _)
      have HC := Lib.hid (fun w' (k : Kp V w') => show w'.cell? ⟨w1.heap.size, 0, none⟩ = some (.int .i64 pS) ∧ w'.cell? ⟨w1.heap.size, 1, none⟩ = some (.int .i64 pE) ∧ w'.cell? ⟨w1.heap.size + 1, 0, none⟩ = some (.int .i64 qS) ∧ w'.cell? ⟨w1.heap.size + 1, 1, none⟩ = some (.int .i64 qE) ∧ w'.cell? ⟨w1.heap.size + 1 + 1, 0, none⟩ = some (.int .i64 zS) ∧ w'.cell? ⟨w1.heap.size + 1 + 1, 1, none⟩ = some (.int .i64 zE) from ⟨cell_up k (show V.cell? ⟨w1.heap.size, 0, none⟩ = some (.int .i64 pS) by rw [hV]; go_simp), cell_up k (show V.cell? ⟨w1.heap.size, 1, none⟩ = some (.int .i64 pE) by rw [hV]; go_simp), cell_up k (show V.cell? ⟨w1.heap.size + 1, 0, none⟩ = some (.int .i64 qS) by rw [hV]; go_simp), cell_up k (show V.cell? ⟨w1.heap.size + 1, 1, none⟩ = some (.int .i64 qE) by rw [hV]; go_simp), cell_up k (show V.cell? ⟨w1.heap.size + 1 + 1, 0, none⟩ = some (.int .i64 zS) by rw [hV]; go_simp), cell_up k (show V.cell? ⟨w1.heap.size + 1 + 1, 1, none⟩ = some (.int .i64 zE) by rw [hV]; go_simp)⟩)
      have KV := Lib.hid (K00.out.trans (K1.out.trans kv))
      have J1 := Lib.hid (Kp.refl V)
      clear hV kv la0 la1 la2 lb0 lb1 lb2 lc0 lc1 lc2 ld0 ld1 ld2 c0 c1 c2 c3 c4 c5
      obtain ⟨d0, d1, d2, d3, d4, d5⟩ := HC.out V (Kp.refl V)
      refine (C1.out _).mono ?_
      rintro e w2 ⟨rfl, kk⟩
      have J2 := Lib.hid ((show Kp V _ from (by first | with_reducible exact J1.out | with_reducible exact J1.out.trans (Kp.alloc _ _) | with_reducible exact (J1.out.trans (Kp.alloc _ _)).trans (Kp.alloc _ _) | with_reducible exact ((J1.out.trans (Kp.alloc _ _)).trans (Kp.alloc _ _)).trans (Kp.alloc _ _) | with_reducible exact J1.out.trans (Kp.drew _) | with_reducible exact J1.out.trans (Kp.drewN _ _))).trans kk)
      clear kk d0 d1 d2 d3 d4 d5
      obtain ⟨d0, d1, d2, d3, d4, d5⟩ := HC.out w2 J2.out
      go_wp2_with fail
      refine (C2.out _).mono ?_
      rintro e w3 ⟨rfl, kk⟩
      have J3 := Lib.hid ((show Kp V _ from (by first | with_reducible exact J2.out | with_reducible exact J2.out.trans (Kp.alloc _ _) | with_reducible exact (J2.out.trans (Kp.alloc _ _)).trans (Kp.alloc _ _) | with_reducible exact ((J2.out.trans (Kp.alloc _ _)).trans (Kp.alloc _ _)).trans (Kp.alloc _ _) | with_reducible exact J2.out.trans (Kp.drew _) | with_reducible exact J2.out.trans (Kp.drewN _ _))).trans kk)
      clear kk d0 d1 d2 d3 d4 d5
      obtain ⟨d0, d1, d2, d3, d4, d5⟩ := HC.out w3 J3.out
      go_wp2_with fail
      refine (C3.out _).mono ?_
      rintro e w4 ⟨rfl, kk⟩
      have J4 := Lib.hid ((show Kp V _ from (by first | with_reducible exact J3.out | with_reducible exact J3.out.trans (Kp.alloc _ _) | with_reducible exact (J3.out.trans (Kp.alloc _ _)).trans (Kp.alloc _ _) | with_reducible exact ((J3.out.trans (Kp.alloc _ _)).trans (Kp.alloc _ _)).trans (Kp.alloc _ _) | with_reducible exact J3.out.trans (Kp.drew _) | with_reducible exact J3.out.trans (Kp.drewN _ _))).trans kk)
      clear kk d0 d1 d2 d3 d4 d5
      obtain ⟨d0, d1, d2, d3, d4, d5⟩ := HC.out w4 J4.out
      go_wp2_with fail
      refine (C4.out _).mono ?_
      rintro e w5 ⟨rfl, kk⟩
      have J5 := Lib.hid ((show Kp V _ from (by first | with_reducible exact J4.out | with_reducible exact J4.out.trans (Kp.alloc _ _) | with_reducible exact (J4.out.trans (Kp.alloc _ _)).trans (Kp.alloc _ _) | with_reducible exact ((J4.out.trans (Kp.alloc _ _)).trans (Kp.alloc _ _)).trans (Kp.alloc _ _) | with_reducible exact J4.out.trans (Kp.drew _) | with_reducible exact J4.out.trans (Kp.drewN _ _))).trans kk)
      clear kk d0 d1 d2 d3 d4 d5
      obtain ⟨d0, d1, d2, d3, d4, d5⟩ := HC.out w5 J5.out
      go_wp2_with fail
      refine (C4.out _).mono ?_
      rintro e w6 ⟨rfl, kk⟩
      have J6 := Lib.hid ((show Kp V _ from (by first | with_reducible exact J5.out | with_reducible exact J5.out.trans (Kp.alloc _ _) | with_reducible exact (J5.out.trans (Kp.alloc _ _)).trans (Kp.alloc _ _) | with_reducible exact ((J5.out.trans (Kp.alloc _ _)).trans (Kp.alloc _ _)).trans (Kp.alloc _ _) | with_reducible exact J5.out.trans (Kp.drew _) | with_reducible exact J5.out.trans (Kp.drewN _ _))).trans kk)
      clear kk d0 d1 d2 d3 d4 d5
      obtain ⟨d0, d1, d2, d3, d4, d5⟩ := HC.out w6 J6.out
      go_wp2
      go_ret
      exact ⟨rfl, KV.out.trans J6.out⟩
    · clear q3 q4
      go_enter Tryd.func4, Tryd.ntmps4
      go_wp2_with fail
      rw [← HW.out]
      refine (AW.out _ (by first | with_reducible exact K0.out | with_reducible exact K0.out.trans (Kp.alloc _ _) | with_reducible exact (K0.out.trans (Kp.alloc _ _)).trans (Kp.alloc _ _) | with_reducible exact ((K0.out.trans (Kp.alloc _ _)).trans (Kp.alloc _ _)).trans (Kp.alloc _ _) | with_reducible exact K0.out.trans (Kp.drew _) | with_reducible exact K0.out.trans (Kp.drewN _ _))).mono ?_
      rintro e w1 ⟨rfl, kk⟩
      have K1 := Lib.hid ((show Kp W0 _ from (by first | with_reducible exact K0.out | with_reducible exact K0.out.trans (Kp.alloc _ _) | with_reducible exact (K0.out.trans (Kp.alloc _ _)).trans (Kp.alloc _ _) | with_reducible exact ((K0.out.trans (Kp.alloc _ _)).trans (Kp.alloc _ _)).trans (Kp.alloc _ _) | with_reducible exact K0.out.trans (Kp.drew _) | with_reducible exact K0.out.trans (Kp.drewN _ _))).trans kk)
      clear kk
      clear c0 c1 c2 c3 c4 c5
      obtain ⟨c0, c1, c2, c3, c4, c5⟩ := HB.out w1 K1.out
      have hs1 := K1.out.size
      have hs2 := HSZ.out
      have la0 : w.heap.size < w1.heap.size := by omega
      have lb0 : ¬ w.heap.size = w1.heap.size := by omega
      have lc0 : w.heap.size < w1.heap.size + 1 := by omega
      have ld0 : ¬ w.heap.size = w1.heap.size + 1 := by omega
      have la1 : w.heap.size + 1 < w1.heap.size := by omega
      have lb1 : ¬ w.heap.size + 1 = w1.heap.size := by omega
      have lc1 : w.heap.size + 1 < w1.heap.size + 1 := by omega
      have ld1 : ¬ w.heap.size + 1 = w1.heap.size + 1 := by omega
      have la2 : w.heap.size + 1 + 1 < w1.heap.size := by omega
      have lb2 : ¬ w.heap.size + 1 + 1 = w1.heap.size := by omega
      have lc2 : w.heap.size + 1 + 1 < w1.heap.size + 1 := by omega
      have ld2 : ¬ w.heap.size + 1 + 1 = w1.heap.size + 1 := by omega
      clear hs1 hs2
      go_wp2_with fail
      obtain ⟨V, hV⟩ : ∃ x, x = ((w1.alloc (.cells #[.int .i64 pS, .int .i64 pE] 26)).alloc (.cells #[.int .i64 qS, .int .i64 qE] 26)).alloc (.cells #[.int .i64 zS, .int .i64 zE] 26) := ⟨_, rfl⟩
      rw [← hV]
      have kv : Kp w1 V := by rw [hV]; exact ((Kp.alloc _ _).trans (Kp.alloc _ _)).trans (Kp.alloc _ _)
      have HC := Lib.hid (fun w' (k : Kp V w') => show w'.cell? ⟨w1.heap.size, 0, none⟩ = some (.int .i64 pS) ∧ w'.cell? ⟨w1.heap.size, 1, none⟩ = some (.int .i64 pE) ∧ w'.cell? ⟨w1.heap.size + 1, 0, none⟩ = some (.int .i64 qS) ∧ w'.cell? ⟨w1.heap.size + 1, 1, none⟩ = some (.int .i64 qE) ∧ w'.cell? ⟨w1.heap.size + 1 + 1, 0, none⟩ = some (.int .i64 zS) ∧ w'.cell? ⟨w1.heap.size + 1 + 1, 1, none⟩ = some (.int .i64 zE) from ⟨cell_up k (show V.cell? ⟨w1.heap.size, 0, none⟩ = some (.int .i64 pS) by rw [hV]; go_simp), cell_up k (show V.cell? ⟨w1.heap.size, 1, none⟩ = some (.int .i64 pE) by rw [hV]; go_simp), cell_up k (show V.cell? ⟨w1.heap.size + 1, 0, none⟩ = some (.int .i64 qS) by rw [hV]; go_simp), cell_up k (show V.cell? ⟨w1.heap.size + 1, 1, none⟩ = some (.int .i64 qE) by rw [hV]; go_simp), cell_up k (show V.cell? ⟨w1.heap.size + 1 + 1, 0, none⟩ = some (.int .i64 zS) by rw [hV]; go_simp), cell_up k (show V.cell? ⟨w1.heap.size + 1 + 1, 1, none⟩ = some (.int .i64 zE) by rw [hV]; go_simp)⟩)
      have KV := Lib.hid (K00.out.trans (K1.out.trans kv))
      have J1 := Lib.hid (Kp.refl V)
      clear hV kv la0 la1 la2 lb0 lb1 lb2 lc0 lc1 lc2 ld0 ld1 ld2 c0 c1 c2 c3 c4 c5
      obtain ⟨d0, d1, d2, d3, d4, d5⟩ := HC.out V (Kp.refl V)
      refine (C1.out _).mono ?_
      rintro e w2 ⟨rfl, kk⟩
      have J2 := Lib.hid ((show Kp V _ from (by first | with_reducible exact J1.out | with_reducible exact J1.out.trans (Kp.alloc _ _) | with_reducible exact (J1.out.trans (Kp.alloc _ _)).trans (Kp.alloc _ _) | with_reducible exact ((J1.out.trans (Kp.alloc _ _)).trans (Kp.alloc _ _)).trans (Kp.alloc _ _) | with_reducible exact J1.out.trans (Kp.drew _) | with_reducible exact J1.out.trans (Kp.drewN _ _))).trans kk)
      clear kk d0 d1 d2 d3 d4 d5
      obtain ⟨d0, d1, d2, d3, d4, d5⟩ := HC.out w2 J2.out
      go_wp2_with fail
      refine (C2.out _).mono ?_
      rintro e w3 ⟨rfl, kk⟩
      have J3 := Lib.hid ((show Kp V _ from (by first | with_reducible exact J2.out | with_reducible exact J2.out.trans (Kp.alloc _ _) | with_reducible exact (J2.out.trans (Kp.alloc _ _)).trans (Kp.alloc _ _) | with_reducible exact ((J2.out.trans (Kp.alloc _ _)).trans (Kp.alloc _ _)).trans (Kp.alloc _ _) | with_reducible exact J2.out.trans (Kp.drew _) | with_reducible exact J2.out.trans (Kp.drewN _ _))).trans kk)
      clear kk d0 d1 d2 d3 d4 d5
      obtain ⟨d0, d1, d2, d3, d4, d5⟩ := HC.out w3 J3.out
      go_wp2_with fail
      refine (C3.out _).mono ?_
      rintro e w4 ⟨rfl, kk⟩
      have J4 := Lib.hid ((show Kp V _ from (by first | with_reducible exact J3.out | with_reducible exact J3.out.trans (Kp.alloc _ _) | with_reducible exact (J3.out.trans (Kp.alloc _ _)).trans (Kp.alloc _ _) | with_reducible exact ((J3.out.trans (Kp.alloc _ _)).trans (Kp.alloc _ _)).trans (Kp.alloc _ _) | with_reducible exact J3.out.trans (Kp.drew _) | with_reducible exact J3.out.trans (Kp.drewN _ _))).trans kk)
      clear kk d0 d1 d2 d3 d4 d5
      obtain ⟨d0, d1, d2, d3, d4, d5⟩ := HC.out w4 J4.out
      go_wp2
      go_ret
      exact ⟨rfl, KV.out.trans J4.out⟩
  rcases hx' with rfl | rfl
  · have eqk2 : ∀ w1, (binOp .eql 26 (.agg #[.int .i64 pS, .int .i64 pE]) (.agg #[.int .i64 qS, .int .i64 qE])).run Tryd.prog w1 = .ok (.bool true) w1 := fun w1 => by rw [eqk w1]; rfl
    clear eqk
    rw [show -(0 : Int) = 0 by decide] at C3
    rcases hy' with rfl | rfl | rfl
    · obtain rfl := q3 rfl
      clear q3 q4
      go_enter Tryd.func4, Tryd.ntmps4
      go_wp2_with fail
      rw [← HW.out]
      refine (AW.out _ (by first | with_reducible exact K0.out | with_reducible exact K0.out.trans (Kp.alloc _ _) | with_reducible exact (K0.out.trans (Kp.alloc _ _)).trans (Kp.alloc _ _) | with_reducible exact ((K0.out.trans (Kp.alloc _ _)).trans (Kp.alloc _ _)).trans (Kp.alloc _ _) | with_reducible exact K0.out.trans (Kp.drew _) | with_reducible exact K0.out.trans (Kp.drewN _ _))).mono ?_
      rintro e w1 ⟨rfl, kk⟩
      have K1 := Lib.hid ((show Kp W0 _ from (by first | with_reducible exact K0.out | with_reducible exact K0.out.trans (Kp.alloc _ _) | with_reducible exact (K0.out.trans (Kp.alloc _ _)).trans (Kp.alloc _ _) | with_reducible exact ((K0.out.trans (Kp.alloc _ _)).trans (Kp.alloc _ _)).trans (Kp.alloc _ _) | with_reducible exact K0.out.trans (Kp.drew _) | with_reducible exact K0.out.trans (Kp.drewN _ _))).trans kk)
      clear kk
      clear c0 c1 c2 c3 c4 c5
      obtain ⟨c0, c1, c2, c3, c4, c5⟩ := HB.out w1 K1.out
      have hs1 := K1.out.size
      have hs2 := HSZ.out
      have la0 : w.heap.size < w1.heap.size := by omega
      have lb0 : ¬ w.heap.size = w1.heap.size := by omega
      have lc0 : w.heap.size < w1.heap.size + 1 := by omega
      have ld0 : ¬ w.heap.size = w1.heap.size + 1 := by omega
      have la1 : w.heap.size + 1 < w1.heap.size := by omega
      have lb1 : ¬ w.heap.size + 1 = w1.heap.size := by omega
      have lc1 : w.heap.size + 1 < w1.heap.size + 1 := by omega
      have ld1 : ¬ w.heap.size + 1 = w1.heap.size + 1 := by omega
      have la2 : w.heap.size + 1 + 1 < w1.heap.size := by omega
      have lb2 : ¬ w.heap.size + 1 + 1 = w1.heap.size := by omega
      have lc2 : w.heap.size + 1 + 1 < w1.heap.size + 1 := by omega
      have ld2 : ¬ w.heap.size + 1 + 1 = w1.heap.size + 1 := by omega
      clear hs1 hs2
      go_wp2_with fail
      obtain ⟨V, hV⟩ : ∃ x, x = ((w1.alloc (.cells #[.int .i64 pS, .int .i64 pE] 26)).alloc (.cells #[.int .i64 qS, .int .i64 qE] 26)).alloc (.cells #[.int .i64 zS, .int .i64 zE] 26) := ⟨_, rfl⟩
      rw [← hV]
      have kv : Kp w1 V := by rw [hV]; exact ((Kp.alloc _ _).trans (Kp.alloc _ _)).trans (Kp.alloc _ _)
      have HC := Lib.hid (fun w' (k : Kp V w') => show w'.cell? ⟨w1.heap.size, 0, none⟩ = some (.int .i64 pS) ∧ w'.cell? ⟨w1.heap.size, 1, none⟩ = some (.int .i64 pE) ∧ w'.cell? ⟨w1.heap.size + 1, 0, none⟩ = some (.int .i64 qS) ∧ w'.cell? ⟨w1.heap.size + 1, 1, none⟩ = some (.int .i64 qE) ∧ w'.cell? ⟨w1.heap.size + 1 + 1, 0, none⟩ = some (.int .i64 zS) ∧ w'.cell? ⟨w1.heap.size + 1 + 1, 1, none⟩ = some (.int .i64 zE) from ⟨cell_up k (show V.cell? ⟨w1.heap.size, 0, none⟩ = some (.int .i64 pS) by rw [hV]; go_simp), cell_up k (show V.cell? ⟨w1.heap.size, 1, none⟩ = some (.int .i64 pE) by rw [hV]; go_simp), cell_up k (show V.cell? ⟨w1.heap.size + 1, 0, none⟩ = some (.int .i64 qS) by rw [hV]; go_simp), cell_up k (show V.cell? ⟨w1.heap.size + 1, 1, none⟩ = some (.int .i64 qE) by rw [hV]; go_simp), cell_up k (show V.cell? ⟨w1.heap.size + 1 + 1, 0, none⟩ = some (.int .i64 zS) by rw [hV]; go_simp), cell_up k (show V.cell? ⟨w1.heap.size + 1 + 1, 1, none⟩ = some (.int .i64 zE) by rw [hV]; go_simp)⟩)
      have KV := Lib.hid (K00.out.trans (K1.out.trans kv))
      have J1 := Lib.hid (Kp.refl V)
      clear hV kv la0 la1 la2 lb0 lb1 lb2 lc0 lc1 lc2 ld0 ld1 ld2 c0 c1 c2 c3 c4 c5
      obtain ⟨d0, d1, d2, d3, d4, d5⟩ := HC.out V (Kp.refl V)
      refine (C1.out _).mono ?_
      rintro e w2 ⟨rfl, kk⟩
      have J2 := Lib.hid ((show Kp V _ from (by first | with_reducible exact J1.out | with_reducible exact J1.out.trans (Kp.alloc _ _) | with_reducible exact (J1.out.trans (Kp.alloc _ _)).trans (Kp.alloc _ _) | with_reducible exact ((J1.out.trans (Kp.alloc _ _)).trans (Kp.alloc _ _)).trans (Kp.alloc _ _) | with_reducible exact J1.out.trans (Kp.drew _) | with_reducible exact J1.out.trans (Kp.drewN _ _))).trans kk)
      clear kk d0 d1 d2 d3 d4 d5
      obtain ⟨d0, d1, d2, d3, d4, d5⟩ := HC.out w2 J2.out
      go_wp2_with fail
      refine (C2.out _).mono ?_
      rintro e w3 ⟨rfl, kk⟩
      have J3 := Lib.hid ((show Kp V _ from (by first | with_reducible exact J2.out | with_reducible exact J2.out.trans (Kp.alloc _ _) | with_reducible exact (J2.out.trans (Kp.alloc _ _)).trans (Kp.alloc _ _) | with_reducible exact ((J2.out.trans (Kp.alloc _ _)).trans (Kp.alloc _ _)).trans (Kp.alloc _ _) | with_reducible exact J2.out.trans (Kp.drew _) | with_reducible exact J2.out.trans (Kp.drewN _ _))).trans kk)
      clear kk d0 d1 d2 d3 d4 d5
      obtain ⟨d0, d1, d2, d3, d4, d5⟩ := HC.out w3 J3.out
      go_wp2_with fail
      refine (C3.out _).mono ?_
      rintro e w4 ⟨rfl, kk⟩
      have J4 := Lib.hid ((show Kp V _ from (by first | with_reducible exact J3.out | with_reducible exact J3.out.trans (Kp.alloc _ _) | with_reducible exact (J3.out.trans (Kp.alloc _ _)).trans (Kp.alloc _ _) | with_reducible exact ((J3.out.trans (Kp.alloc _ _)).trans (Kp.alloc _ _)).trans (Kp.alloc _ _) | with_reducible exact J3.out.trans (Kp.drew _) | with_reducible exact J3.out.trans (Kp.drewN _ _))).trans kk)
      clear kk d0 d1 d2 d3 d4 d5
      obtain ⟨d0, d1, d2, d3, d4, d5⟩ := HC.out w4 J4.out
      go_wp2_with fail
      refine (C4.out _).mono ?_
      rintro e w5 ⟨rfl, kk⟩
      have J5 := Lib.hid ((show Kp V _ from (by first | with_reducible exact J4.out | with_reducible exact J4.out.trans (Kp.alloc _ _) | with_reducible exact (J4.out.trans (Kp.alloc _ _)).trans (Kp.alloc _ _) | with_reducible exact ((J4.out.trans (Kp.alloc _ _)).trans (Kp.alloc _ _)).trans (Kp.alloc _ _) | with_reducible exact J4.out.trans (Kp.drew _) | with_reducible exact J4.out.trans (Kp.drewN _ _))).trans kk)
      clear kk d0 d1 d2 d3 d4 d5
      obtain ⟨d0, d1, d2, d3, d4, d5⟩ := HC.out w5 J5.out
      go_wp2
      go_ret
      exact ⟨rfl, KV.out.trans J5.out⟩
    · obtain rfl := q3 rfl
      clear q3 q4
      go_enter Tryd.func4, Tryd.ntmps4
      go_wp2_with fail
      rw [← HW.out]
      refine (AW.out _ (by first | with_reducible exact K0.out | with_reducible exact K0.out.trans (Kp.alloc _ _) | with_reducible exact (K0.out.trans (Kp.alloc _ _)).trans (Kp.alloc _ _) | with_reducible exact ((K0.out.trans (Kp.alloc _ _)).trans (Kp.alloc _ _)).trans (Kp.alloc _ _) | with_reducible exact K0.out.trans (Kp.drew _) | with_reducible exact K0.out.trans (Kp.drewN _ _))).mono ?_
      rintro e w1 ⟨rfl, kk⟩
      have K1 := Lib.hid ((show Kp W0 _ from (by first | with_reducible exact K0.out | with_reducible exact K0.out.trans (Kp.alloc _ _) | with_reducible exact (K0.out.trans (Kp.alloc _ _)).trans (Kp.alloc _ _) | with_reducible exact ((K0.out.trans (Kp.alloc _ _)).trans (Kp.alloc _ _)).trans (Kp.alloc _ _) | with_reducible exact K0.out.trans (Kp.drew _) | with_reducible exact K0.out.trans (Kp.drewN _ _))).trans kk)
      clear kk
      clear c0 c1 c2 c3 c4 c5
      obtain ⟨c0, c1, c2, c3, c4, c5⟩ := HB.out w1 K1.out
      have hs1 := K1.out.size
      have hs2 := HSZ.out
      have la0 : w.heap.size < w1.heap.size := by omega
      have lb0 : ¬ w.heap.size = w1.heap.size := by omega
      have lc0 : w.heap.size < w1.heap.size + 1 := by omega
      have ld0 : ¬ w.heap.size = w1.heap.size + 1 := by omega
      have la1 : w.heap.size + 1 < w1.heap.size := by omega
      have lb1 : ¬ w.heap.size + 1 = w1.heap.size := by omega
      have lc1 : w.heap.size + 1 < w1.heap.size + 1 := by omega
      have ld1 : ¬ w.heap.size + 1 = w1.heap.size + 1 := by omega
      have la2 : w.heap.size + 1 + 1 < w1.heap.size := by omega
      have lb2 : ¬ w.heap.size + 1 + 1 = w1.heap.size := by omega
      have lc2 : w.heap.size + 1 + 1 < w1.heap.size + 1 := by omega
      have ld2 : ¬ w.heap.size + 1 + 1 = w1.heap.size + 1 := by omega
      clear hs1 hs2
      go_wp2_with fail
      obtain ⟨V, hV⟩ : ∃ x, x = ((w1.alloc (.cells #[.int .i64 pS, .int .i64 pE] 26)).alloc (.cells #[.int .i64 qS, .int .i64 qE] 26)).alloc (.cells #[.int .i64 zS, .int .i64 zE] 26) := ⟨_, rfl⟩
      rw [← hV]
      have kv : Kp w1 V := by rw [hV]; exact ((Kp.alloc _ _).trans (Kp.alloc _ _)).trans (Kp.alloc _ _)
      have HC := Lib.hid (fun w' (k : Kp V w') => show w'.cell? ⟨w1.heap.size, 0, none⟩ = some (.int .i64 pS) ∧ w'.cell? ⟨w1.heap.size, 1, none⟩ = some (.int .i64 pE) ∧ w'.cell? ⟨w1.heap.size + 1, 0, none⟩ = some (.int .i64 qS) ∧ w'.cell? ⟨w1.heap.size + 1, 1, none⟩ = some (.int .i64 qE) ∧ w'.cell? ⟨w1.heap.size + 1 + 1, 0, none⟩ = some (.int .i64 zS) ∧ w'.cell? ⟨w1.heap.size + 1 + 1, 1, none⟩ = some (.int .i64 zE) from ⟨cell_up k (show V.cell? ⟨w1.heap.size, 0, none⟩ = some (.int .i64 pS) by rw [hV]; go_simp), cell_up k (show V.cell? ⟨w1.heap.size, 1, none⟩ = some (.int .i64 pE) by rw [hV]; go_simp), cell_up k (show V.cell? ⟨w1.heap.size + 1, 0, none⟩ = some (.int .i64 qS) by rw [hV]; go_simp), cell_up k (show V.cell? ⟨w1.heap.size + 1, 1, none⟩ = some (.int .i64 qE) by rw [hV]; go_simp), cell_up k (show V.cell? ⟨w1.heap.size + 1 + 1, 0, none⟩ = some (.int .i64 zS) by rw [hV]; go_simp), cell_up k (show V.cell? ⟨w1.heap.size + 1 + 1, 1, none⟩ = some (.int .i64 zE) by rw [hV]; go_simp)⟩)
      have KV := Lib.hid (K00.out.trans (K1.out.trans kv))
      have J1 := Lib.hid (Kp.refl V)
      clear hV kv la0 la1 la2 lb0 lb1 lb2 lc0 lc1 lc2 ld0 ld1 ld2 c0 c1 c2 c3 c4 c5
      obtain ⟨d0, d1, d2, d3, d4, d5⟩ := HC.out V (Kp.refl V)
      refine (C1.out _).mono ?_
      rintro e w2 ⟨rfl, kk⟩
      have J2 := Lib.hid ((show Kp V _ from (by first | with_reducible exact J1.out | with_reducible exact J1.out.trans (Kp.alloc _ _) | with_reducible exact (J1.out.trans (Kp.alloc _ _)).trans (Kp.alloc _ _) | with_reducible exact ((J1.out.trans (Kp.alloc _ _)).trans (Kp.alloc _ _)).trans (Kp.alloc _ _) | with_reducible exact J1.out.trans (Kp.drew _) | with_reducible exact J1.out.trans (Kp.drewN _ _))).trans kk)
      clear kk d0 d1 d2 d3 d4 d5
      obtain ⟨d0, d1, d2, d3, d4, d5⟩ := HC.out w2 J2.out
      go_wp2_with fail
      refine (C2.out _).mono ?_
      rintro e w3 ⟨rfl, kk⟩
      have J3 := Lib.hid ((show Kp V _ from (by first | with_reducible exact J2.out | with_reducible exact J2.out.trans (Kp.alloc _ _) | with_reducible exact (J2.out.trans (Kp.alloc _ _)).trans (Kp.alloc _ _) | with_reducible exact ((J2.out.trans (Kp.alloc _ _)).trans (Kp.alloc _ _)).trans (Kp.alloc _ _) | with_reducible exact J2.out.trans (Kp.drew _) | with_reducible exact J2.out.trans (Kp.drewN _ _))).trans kk)
      clear kk d0 d1 d2 d3 d4 d5
      obtain ⟨d0, d1, d2, d3, d4, d5⟩ := HC.out w3 J3.out
      go_wp2_with fail
      refine (C3.out _).mono ?_
      rintro e w4 ⟨rfl, kk⟩
      have J4 := Lib.hid ((show Kp V _ from (by first | with_reducible exact J3.out | with_reducible exact J3.out.trans (Kp.alloc _ _) | with_reducible exact (J3.out.trans (Kp.alloc _ _)).trans (Kp.alloc _ _) | with_reducible exact ((J3.out.trans (Kp.alloc _ _)).trans (Kp.alloc _ _)).trans (Kp.alloc _ _) | with_reducible exact J3.out.trans (Kp.drew _) | with_reducible exact J3.out.trans (Kp.drewN _ _))).trans kk)
      clear kk d0 d1 d2 d3 d4 d5
      obtain ⟨d0, d1, d2, d3, d4, d5⟩ := HC.out w4 J4.out
      go_wp2_with fail
      refine (C4.out _).mono ?_
      rintro e w5 ⟨rfl, kk⟩
      have J5 := Lib.hid ((show Kp V _ from (by first | with_reducible exact J4.out | with_reducible exact J4.out.trans (Kp.alloc _ _) | with_reducible exact (J4.out.trans (Kp.alloc _ _)).trans (Kp.alloc _ _) | with_reducible exact ((J4.out.trans (Kp.alloc _ _)).trans (Kp.alloc _ _)).trans (Kp.alloc _ _) | with_reducible exact J4.out.trans (Kp.drew _) | with_reducible exact J4.out.trans (Kp.drewN _ _))).trans kk)
      clear kk d0 d1 d2 d3 d4 d5
      obtain ⟨d0, d1, d2, d3, d4, d5⟩ := HC.out w5 J5.out
      go_wp2
      go_ret
      exact ⟨rfl, KV.out.trans J5.out⟩
    · clear q3 q4
      go_enter Tryd.func4, Tryd.ntmps4
      go_wp2_with fail
      rw [← HW.out]
      refine (AW.out _ (by first | with_reducible exact K0.out | with_reducible exact K0.out.trans (Kp.alloc _ _) | with_reducible exact (K0.out.trans (Kp.alloc _ _)).trans (Kp.alloc _ _) | with_reducible exact ((K0.out.trans (Kp.alloc _ _)).trans (Kp.alloc _ _)).trans (Kp.alloc _ _) | with_reducible exact K0.out.trans (Kp.drew _) | with_reducible exact K0.out.trans (Kp.drewN _ _))).mono ?_
      rintro e w1 ⟨rfl, kk⟩
      have K1 := Lib.hid ((show Kp W0 _ from (by first | with_reducible exact K0.out | with_reducible exact K0.out.trans (Kp.alloc _ _) | with_reducible exact (K0.out.trans (Kp.alloc _ _)).trans (Kp.alloc _ _) | with_reducible exact ((K0.out.trans (Kp.alloc _ _)).trans (Kp.alloc _ _)).trans (Kp.alloc _ _) | with_reducible exact K0.out.trans (Kp.drew _) | with_reducible exact K0.out.trans (Kp.drewN _ _))).trans kk)
      clear kk
      clear c0 c1 c2 c3 c4 c5
      obtain ⟨c0, c1, c2, c3, c4, c5⟩ := HB.out w1 K1.out
      have hs1 := K1.out.size
      have hs2 := HSZ.out
      have la0 : w.heap.size < w1.heap.size := by omega
      have lb0 : ¬ w.heap.size = w1.heap.size := by omega
      have lc0 : w.heap.size < w1.heap.size + 1 := by omega
      have ld0 : ¬ w.heap.size = w1.heap.size + 1 := by omega
      have la1 : w.heap.size + 1 < w1.heap.size := by omega
      have lb1 : ¬ w.heap.size + 1 = w1.heap.size := by omega
      have lc1 : w.heap.size + 1 < w1.heap.size + 1 := by omega
      have ld1 : ¬ w.heap.size + 1 = w1.heap.size + 1 := by omega
      have la2 : w.heap.size + 1 + 1 < w1.heap.size := by omega
      have lb2 : ¬ w.heap.size + 1 + 1 = w1.heap.size := by omega
      have lc2 : w.heap.size + 1 + 1 < w1.heap.size + 1 := by omega
      have ld2 : ¬ w.heap.size + 1 + 1 = w1.heap.size + 1 := by omega
      clear hs1 hs2
      go_wp2_with fail
      obtain ⟨V, hV⟩ : ∃ x, x = ((w1.alloc (.cells #[.int .i64 pS, .int .i64 pE] 26)).alloc (.cells #[.int .i64 qS, .int .i64 qE] 26)).alloc (.cells #[.int .i64 zS, .int .i64 zE] 26) := ⟨_, rfl⟩
      rw [← hV]
      have kv : Kp w1 V := by rw [hV]; exact ((Kp.alloc _ _).trans (Kp.alloc _ _)).trans (Kp.alloc _ _)
      have HC := Lib.hid (fun w' (k : Kp V w') => show w'.cell? ⟨w1.heap.size, 0, none⟩ = some (.int .i64 pS) ∧ w'.cell? ⟨w1.heap.size, 1, none⟩ = some (.int .i64 pE) ∧ w'.cell? ⟨w1.heap.size + 1, 0, none⟩ = some (.int .i64 qS) ∧ w'.cell? ⟨w1.heap.size + 1, 1, none⟩ = some (.int .i64 qE) ∧ w'.cell? ⟨w1.heap.size + 1 + 1, 0, none⟩ = some (.int .i64 zS) ∧ w'.cell? ⟨w1.heap.size + 1 + 1, 1, none⟩ = some (.int .i64 zE) from ⟨cell_up k (show V.cell? ⟨w1.heap.size, 0, none⟩ = some (.int .i64 pS) by rw [hV]; go_simp), cell_up k (show V.cell? ⟨w1.heap.size, 1, none⟩ = some (.int .i64 pE) by rw [hV]; go_simp), cell_up k (show V.cell? ⟨w1.heap.size + 1, 0, none⟩ = some (.int .i64 qS) by rw [hV]; go_simp), cell_up k (show V.cell? ⟨w1.heap.size + 1, 1, none⟩ = some (.int .i64 qE) by rw [hV]; go_simp), cell_up k (show V.cell? ⟨w1.heap.size + 1 + 1, 0, none⟩ = some (.int .i64 zS) by rw [hV]; go_simp), cell_up k (show V.cell? ⟨w1.heap.size + 1 + 1, 1, none⟩ = some (.int .i64 zE) by rw [hV]; go_simp)⟩)
      have KV := Lib.hid (K00.out.trans (K1.out.trans kv))
      have J1 := Lib.hid (Kp.refl V)
      clear hV kv la0 la1 la2 lb0 lb1 lb2 lc0 lc1 lc2 ld0 ld1 ld2 c0 c1 c2 c3 c4 c5
      obtain ⟨d0, d1, d2, d3, d4, d5⟩ := HC.out V (Kp.refl V)
      refine (C1.out _).mono ?_
      rintro e w2 ⟨rfl, kk⟩
      have J2 := Lib.hid ((show Kp V _ from (by first | with_reducible exact J1.out | with_reducible exact J1.out.trans (Kp.alloc _ _) | with_reducible exact (J1.out.trans (Kp.alloc _ _)).trans (Kp.alloc _ _) | with_reducible exact ((J1.out.trans (Kp.alloc _ _)).trans (Kp.alloc _ _)).trans (Kp.alloc _ _) | with_reducible exact J1.out.trans (Kp.drew _) | with_reducible exact J1.out.trans (Kp.drewN _ _))).trans kk)
      clear kk d0 d1 d2 d3 d4 d5
      obtain ⟨d0, d1, d2, d3, d4, d5⟩ := HC.out w2 J2.out
      go_wp2_with fail
      refine (C2.out _).mono ?_
      rintro e w3 ⟨rfl, kk⟩
      have J3 := Lib.hid ((show Kp V _ from (by first | with_reducible exact J2.out | with_reducible exact J2.out.trans (Kp.alloc _ _) | with_reducible exact (J2.out.trans (Kp.alloc _ _)).trans (Kp.alloc _ _) | with_reducible exact ((J2.out.trans (Kp.alloc _ _)).trans (Kp.alloc _ _)).trans (Kp.alloc _ _) | with_reducible exact J2.out.trans (Kp.drew _) | with_reducible exact J2.out.trans (Kp.drewN _ _))).trans kk)
      clear kk d0 d1 d2 d3 d4 d5
      obtain ⟨d0, d1, d2, d3, d4, d5⟩ := HC.out w3 J3.out
      go_wp2_with fail
      refine (C3.out _).mono ?_
      rintro e w4 ⟨rfl, kk⟩
      have J4 := Lib.hid ((show Kp V _ from (by first | with_reducible exact J3.out | with_reducible exact J3.out.trans (Kp.alloc _ _) | with_reducible exact (J3.out.trans (Kp.alloc _ _)).trans (Kp.alloc _ _) | with_reducible exact ((J3.out.trans (Kp.alloc _ _)).trans (Kp.alloc _ _)).trans (Kp.alloc _ _) | with_reducible exact J3.out.trans (Kp.drew _) | with_reducible exact J3.out.trans (Kp.drewN _ _))).trans kk)
      clear kk d0 d1 d2 d3 d4 d5
      obtain ⟨d0, d1, d2, d3, d4, d5⟩ := HC.out w4 J4.out
      go_wp2
      go_ret
      exact ⟨rfl, KV.out.trans J4.out⟩
  · have eqk2 : ∀ w1, (binOp .eql 26 (.agg #[.int .i64 pS, .int .i64 pE]) (.agg #[.int .i64 qS, .int .i64 qE])).run Tryd.prog w1 = .ok (.bool false) w1 := fun w1 => by rw [eqk w1]; rfl
    clear eqk
    rw [show -(1 : Int) = -1 by decide] at C3
    clear q3 q4 hy'
    go_enter Tryd.func4, Tryd.ntmps4
    go_wp2_with fail
    rw [← HW.out]
    refine (AW.out _ (by first | with_reducible exact K0.out | with_reducible exact K0.out.trans (Kp.alloc _ _) | with_reducible exact (K0.out.trans (Kp.alloc _ _)).trans (Kp.alloc _ _) | with_reducible exact ((K0.out.trans (Kp.alloc _ _)).trans (Kp.alloc _ _)).trans (Kp.alloc _ _) | with_reducible exact K0.out.trans (Kp.drew _) | with_reducible exact K0.out.trans (Kp.drewN _ _))).mono ?_
    rintro e w1 ⟨rfl, kk⟩
    have K1 := Lib.hid ((show Kp W0 _ from (by first | with_reducible exact K0.out | with_reducible exact K0.out.trans (Kp.alloc _ _) | with_reducible exact (K0.out.trans (Kp.alloc _ _)).trans (Kp.alloc _ _) | with_reducible exact ((K0.out.trans (Kp.alloc _ _)).trans (Kp.alloc _ _)).trans (Kp.alloc _ _) | with_reducible exact K0.out.trans (Kp.drew _) | with_reducible exact K0.out.trans (Kp.drewN _ _))).trans kk)
    clear kk
    clear c0 c1 c2 c3 c4 c5
    obtain ⟨c0, c1, c2, c3, c4, c5⟩ := HB.out w1 K1.out
    have hs1 := K1.out.size
    have hs2 := HSZ.out
    have la0 : w.heap.size < w1.heap.size := by omega
    have lb0 : ¬ w.heap.size = w1.heap.size := by omega
    have lc0 : w.heap.size < w1.heap.size + 1 := by omega
    have ld0 : ¬ w.heap.size = w1.heap.size + 1 := by omega
    have la1 : w.heap.size + 1 < w1.heap.size := by omega
    have lb1 : ¬ w.heap.size + 1 = w1.heap.size := by omega
    have lc1 : w.heap.size + 1 < w1.heap.size + 1 := by omega
    have ld1 : ¬ w.heap.size + 1 = w1.heap.size + 1 := by omega
    have la2 : w.heap.size + 1 + 1 < w1.heap.size := by omega
    have lb2 : ¬ w.heap.size + 1 + 1 = w1.heap.size := by omega
    have lc2 : w.heap.size + 1 + 1 < w1.heap.size + 1 := by omega
    have ld2 : ¬ w.heap.size + 1 + 1 = w1.heap.size + 1 := by omega
    clear hs1 hs2
    go_wp2_with fail
    obtain ⟨V, hV⟩ : ∃ x, x = ((w1.alloc (.cells #[.int .i64 pS, .int .i64 pE] 26)).alloc (.cells #[.int .i64 qS, .int .i64 qE] 26)).alloc (.cells #[.int .i64 zS, .int .i64 zE] 26) := ⟨_, rfl⟩
    rw [← hV]
    have kv : Kp w1 V := by rw [hV]; exact ((Kp.alloc _ _).trans (Kp.alloc _ _)).trans (Kp.alloc _ _)
    have HC := Lib.hid (fun w' (k : Kp V w') => show w'.cell? ⟨w1.heap.size, 0, none⟩ = some (.int .i64 pS) ∧ w'.cell? ⟨w1.heap.size, 1, none⟩ = some (.int .i64 pE) ∧ w'.cell? ⟨w1.heap.size + 1, 0, none⟩ = some (.int .i64 qS) ∧ w'.cell? ⟨w1.heap.size + 1, 1, none⟩ = some (.int .i64 qE) ∧ w'.cell? ⟨w1.heap.size + 1 + 1, 0, none⟩ = some (.int .i64 zS) ∧ w'.cell? ⟨w1.heap.size + 1 + 1, 1, none⟩ = some (.int .i64 zE) from ⟨cell_up k (show V.cell? ⟨w1.heap.size, 0, none⟩ = some (.int .i64 pS) by rw [hV]; go_simp), cell_up k (show V.cell? ⟨w1.heap.size, 1, none⟩ = some (.int .i64 pE) by rw [hV]; go_simp), cell_up k (show V.cell? ⟨w1.heap.size + 1, 0, none⟩ = some (.int .i64 qS) by rw [hV]; go_simp), cell_up k (show V.cell? ⟨w1.heap.size + 1, 1, none⟩ = some (.int .i64 qE) by rw [hV]; go_simp), cell_up k (show V.cell? ⟨w1.heap.size + 1 + 1, 0, none⟩ = some (.int .i64 zS) by rw [hV]; go_simp), cell_up k (show V.cell? ⟨w1.heap.size + 1 + 1, 1, none⟩ = some (.int .i64 zE) by rw [hV]; go_simp)⟩)
    have KV := Lib.hid (K00.out.trans (K1.out.trans kv))
    have J1 := Lib.hid (Kp.refl V)
    clear hV kv la0 la1 la2 lb0 lb1 lb2 lc0 lc1 lc2 ld0 ld1 ld2 c0 c1 c2 c3 c4 c5
    obtain ⟨d0, d1, d2, d3, d4, d5⟩ := HC.out V (Kp.refl V)
    refine (C1.out _).mono ?_
    rintro e w2 ⟨rfl, kk⟩
    have J2 := Lib.hid ((show Kp V _ from (by first | with_reducible exact J1.out | with_reducible exact J1.out.trans (Kp.alloc _ _) | with_reducible exact (J1.out.trans (Kp.alloc _ _)).trans (Kp.alloc _ _) | with_reducible exact ((J1.out.trans (Kp.alloc _ _)).trans (Kp.alloc _ _)).trans (Kp.alloc _ _) | with_reducible exact J1.out.trans (Kp.drew _) | with_reducible exact J1.out.trans (Kp.drewN _ _))).trans kk)
    clear kk d0 d1 d2 d3 d4 d5
    obtain ⟨d0, d1, d2, d3, d4, d5⟩ := HC.out w2 J2.out
    go_wp2_with fail
    refine (C2.out _).mono ?_
    rintro e w3 ⟨rfl, kk⟩
    have J3 := Lib.hid ((show Kp V _ from (by first | with_reducible exact J2.out | with_reducible exact J2.out.trans (Kp.alloc _ _) | with_reducible exact (J2.out.trans (Kp.alloc _ _)).trans (Kp.alloc _ _) | with_reducible exact ((J2.out.trans (Kp.alloc _ _)).trans (Kp.alloc _ _)).trans (Kp.alloc _ _) | with_reducible exact J2.out.trans (Kp.drew _) | with_reducible exact J2.out.trans (Kp.drewN _ _))).trans kk)
    clear kk d0 d1 d2 d3 d4 d5
    obtain ⟨d0, d1, d2, d3, d4, d5⟩ := HC.out w3 J3.out
    go_wp2_with fail
    refine (C3.out _).mono ?_
    rintro e w4 ⟨rfl, kk⟩
    have J4 := Lib.hid ((show Kp V _ from (by first | with_reducible exact J3.out | with_reducible exact J3.out.trans (Kp.alloc _ _) | with_reducible exact (J3.out.trans (Kp.alloc _ _)).trans (Kp.alloc _ _) | with_reducible exact ((J3.out.trans (Kp.alloc _ _)).trans (Kp.alloc _ _)).trans (Kp.alloc _ _) | with_reducible exact J3.out.trans (Kp.drew _) | with_reducible exact J3.out.trans (Kp.drewN _ _))).trans kk)
    clear kk d0 d1 d2 d3 d4 d5
    obtain ⟨d0, d1, d2, d3, d4, d5⟩ := HC.out w4 J4.out
    go_wp2
    go_ret
    exact ⟨rfl, KV.out.trans J4.out⟩
end Go.Proofs.YtjjpnglilalnmaaDoor
