/-
  Layer 22: awake.
-/
import Derived.Test.YtjdnejglapnbbaaGreatDoorNwL
namespace Go.Proofs.YtjdnejglapnbbaaGreatDoor
open Go.RowKit
set_option linter.unusedVariables false
set_option linter.unusedSimpArgs false
set_option maxHeartbeats 16000000 in
set_option maxRecDepth 100000 in
theorem awake22 (w : World) (T : Tabs w) : Calls Tryz.prog 25 #[] w fun e w' => e = .returned (.bool true) ∧ Kp w w' := by
  have CM := Lib.hid (fun lo hi' w1 => years_any lo hi' w1)
  have N1 := Lib.hid (fun va vb w1 (h1 : LeavesAt w1 va [yrsF 1980 1989]) (h2 : LeavesAt w1 vb [spnF 724276 725736]) (k : Kp w w1) => show Calls Tryz.prog 27 #[va, vb] w1 fun e w' => ∃ ad L c, e = .returned (.tuple #[.slice ad L.length c, .int .i64 0]) ∧ (LeavesAt w' (.slice ad L.length c) L ∧ LsOk L ∧ hasL L 724641 725006 = true ∧ hasL L 723911 724275 = false) ∧ Kp w1 w' from
    (nwNarrow_any va vb _ _ w1 h1 h2 (yr_i64 (by decide) (by decide) (by decide) (by decide)) (sp_i64 (by decide) (by decide) (by decide) (by decide)) (T.kp k) (by decide +kernel) (by decide +kernel) (nW_of (sml_one (by decide) (by decide)) (by decide +kernel) (by decide +kernel))).mono (by
      rintro e w' ⟨⟨v, L, n, rfl, lv, np⟩, k⟩
      obtain ⟨ad, c, rfl⟩ := lv.slice
      obtain ⟨rfl, a, b, d⟩ := awA np
      exact ⟨ad, L, c, rfl, ⟨lv, a, b, d⟩, k⟩))
  have N2 := Lib.hid (fun va vb w1 (h1 : LeavesAt w1 va [yrsF 1 1]) (h2 : LeavesAt w1 vb [yrsF 2 2]) (k : Kp w w1) => show Calls Tryz.prog 27 #[va, vb] w1 fun e w' => ∃ ad n c, e = .returned (.tuple #[.slice ad n c, .int .i64 9]) ∧ Kp w1 w' from
    (nwNarrow_any va vb _ _ w1 h1 h2 (yr_i64 (by decide) (by decide) (by decide) (by decide)) (yr_i64 (by decide) (by decide) (by decide) (by decide)) (T.kp k) (by decide +kernel) (by decide +kernel) (nW_of (sml_one (by decide) (by decide)) (by decide +kernel) (by decide +kernel))).mono (by
      rintro e w' ⟨⟨v, L, n, rfl, lv, np⟩, k⟩
      obtain ⟨ad, c, rfl⟩ := lv.slice
      obtain rfl := awB np
      exact ⟨ad, _, c, rfl, k⟩))
  have HS := Lib.hid (fun v L S E w1 (hv : LeavesAt w1 v L) (hl : LsOk L) (k : Kp w w1) b1 b2 b3 b4 => nwHas_any v L S E w1 hv hl (T.kp k) b1 b2 b3 b4)
  have IN := Lib.hid (fun v w1 (hv : LeavesAt w1 v [yrsF 1984 1984]) (k : Kp w w1) => show Calls Tryz.prog 30 #[v, .agg #[.int .i64 724641, .int .i64 724641]] w1 fun e w' => e = .returned (.bool true) ∧ Kp w1 w' from by
    have h := nwInside_any v [yrsF 1984 1984] 724641 724641 w1 hv (yr_i64 (by decide) (by decide) (by decide) (by decide)) (T.kp k) (by decide) (by decide) (by decide) (by decide)
    rw [awC] at h
    exact h)
  have K0 := Lib.hid (Kp.refl w)
  clear T
  go_enter Tryz.func25, Tryz.ntmps25
  go_wp2_with fail
  refine (CM.out 1980 1989 _).mono ?_
  rintro e w1 ⟨b1, rfl, lv, k1⟩
  have L1 := Lib.hid lv
  have K1 := Lib.hid (K0.out.trans ((show Kp w _ from (by first | with_reducible exact Kp.refl _ | with_reducible exact Kp.alloc _ _ | with_reducible exact (Kp.alloc _ _).trans (Kp.alloc _ _) | with_reducible exact ((Kp.alloc _ _).trans (Kp.alloc _ _)).trans (Kp.alloc _ _) | with_reducible exact Kp.drew _ | with_reducible exact Kp.drewN _ _)).trans k1))
  clear lv k1
  obtain ⟨V, hV⟩ : ∃ x, x = ((w1.alloc (.cells #[.int .i64 724276, .int .i64 724276] 53)).alloc (.cells #[.int .i64 725736, .int .i64 725736] 53)).alloc (.cells #[.bool true, .int .i64 0, .slice (some ⟨w1.heap.size, 0, none⟩) 1 1, .slice (some ⟨w1.heap.size + 1, 0, none⟩) 1 1] 47) := ⟨_, rfl⟩
  have kv : Kp w1 V := by rw [hV]; exact ((Kp.alloc _ _).trans (Kp.alloc _ _)).trans (Kp.alloc _ _)
  have gv : V.heap[w1.heap.size + 2]? = some (.cells #[.bool true, .int .i64 0, .slice (some ⟨w1.heap.size, 0, none⟩) 1 1, .slice (some ⟨w1.heap.size + 1, 0, none⟩) 1 1] 47 (0, 0)) := by rw [hV]; exact heap_at _ _ _ (by simp)
  have r1 : RunsAt V (.slice (some ⟨w1.heap.size, 0, none⟩) 1 1) [(724276, 724276)] := by rw [hV]; exact (one_at w1 724276 724276 _).kp ((Kp.alloc _ _).trans (Kp.alloc _ _))
  have r2 : RunsAt V (.slice (some ⟨w1.heap.size + 1, 0, none⟩) 1 1) [(725736, 725736)] := by
    have h := one_at (w1.alloc (.cells #[.int .i64 724276, .int .i64 724276] 53)) 725736 725736 53
    rw [show (w1.alloc (.cells #[.int .i64 724276, .int .i64 724276] 53)).heap.size = w1.heap.size + 1 by simp] at h
    rw [hV]
    exact h.kp (Kp.alloc _ _)
  have LY := Lib.hid (show LeavesAt V (.slice (some ⟨w1.heap.size + 2, 0, none⟩) 1 1) [spnF 724276 725736] from leaf_oneN gv r1 r2)
  have L1' := Lib.hid (L1.out.kp kv)
  have KV := Lib.hid (K1.out.trans kv)
  have HV := Lib.hid hV
  clear hV kv gv r1 r2
  go_wp2_with fail
  rw [← HV.out]
  refine (N1.out _ _ _ L1'.out LY.out KV.out).mono ?_
  rintro e w2 ⟨ad, L, c, rfl, ⟨lv, ok, h1, h2⟩, k1⟩
  have K2 := Lib.hid (KV.out.trans k1)
  have LL := Lib.hid lv
  have H1 := Lib.hid (fun w' (kk : Kp w2 w') => HS.out _ L 724641 725006 w' (lv.kp kk) ok ((KV.out.trans k1).trans kk) (by decide) (by decide) (by decide) (by decide))
  have H2 := Lib.hid (fun w' (kk : Kp w2 w') => HS.out _ L 723911 724275 w' (lv.kp kk) ok ((KV.out.trans k1).trans kk) (by decide) (by decide) (by decide) (by decide))
  rw [h1] at H1
  rw [h2] at H2
  have Z2 := Lib.hid (Kp.refl w2)
  clear lv ok h1 h2 k1
  go_wp2_with fail
  refine (CM.out 1 1 _).mono ?_
  rintro e w3 ⟨b3, rfl, lv, k1⟩
  have L3 := Lib.hid lv
  have K3 := Lib.hid (K2.out.trans ((show Kp w2 _ from (by first | with_reducible exact Kp.refl _ | with_reducible exact Kp.alloc _ _ | with_reducible exact (Kp.alloc _ _).trans (Kp.alloc _ _) | with_reducible exact ((Kp.alloc _ _).trans (Kp.alloc _ _)).trans (Kp.alloc _ _) | with_reducible exact Kp.drew _ | with_reducible exact Kp.drewN _ _)).trans k1))
  have Z3 := Lib.hid (Z2.out.trans ((show Kp w2 _ from (by first | with_reducible exact Kp.refl _ | with_reducible exact Kp.alloc _ _ | with_reducible exact (Kp.alloc _ _).trans (Kp.alloc _ _) | with_reducible exact ((Kp.alloc _ _).trans (Kp.alloc _ _)).trans (Kp.alloc _ _) | with_reducible exact Kp.drew _ | with_reducible exact Kp.drewN _ _)).trans k1))
  clear lv k1
  go_wp2_with fail
  refine (CM.out 2 2 _).mono ?_
  rintro e w4 ⟨b4, rfl, lv, k1⟩
  have L4 := Lib.hid lv
  have K4 := Lib.hid (K3.out.trans ((show Kp w3 _ from (by first | with_reducible exact Kp.refl _ | with_reducible exact Kp.alloc _ _ | with_reducible exact (Kp.alloc _ _).trans (Kp.alloc _ _) | with_reducible exact ((Kp.alloc _ _).trans (Kp.alloc _ _)).trans (Kp.alloc _ _) | with_reducible exact Kp.drew _ | with_reducible exact Kp.drewN _ _)).trans k1))
  replace L3 := Lib.hid (L3.out.kp ((show Kp w3 _ from (by first | with_reducible exact Kp.refl _ | with_reducible exact Kp.alloc _ _ | with_reducible exact (Kp.alloc _ _).trans (Kp.alloc _ _) | with_reducible exact ((Kp.alloc _ _).trans (Kp.alloc _ _)).trans (Kp.alloc _ _) | with_reducible exact Kp.drew _ | with_reducible exact Kp.drewN _ _)).trans k1))
  have Z4 := Lib.hid (Z3.out.trans ((show Kp w3 _ from (by first | with_reducible exact Kp.refl _ | with_reducible exact Kp.alloc _ _ | with_reducible exact (Kp.alloc _ _).trans (Kp.alloc _ _) | with_reducible exact ((Kp.alloc _ _).trans (Kp.alloc _ _)).trans (Kp.alloc _ _) | with_reducible exact Kp.drew _ | with_reducible exact Kp.drewN _ _)).trans k1))
  clear lv k1
  go_wp2_with fail
  refine (N2.out _ _ _ L3.out L4.out K4.out).mono ?_
  rintro e w5 ⟨ad2, n2, c2, rfl, k1⟩
  have K5 := Lib.hid (K4.out.trans k1)
  have Z5 := Lib.hid (Z4.out.trans k1)
  clear k1
  go_wp2_with fail
  refine (H1.out _ (Z5.out.trans (by first | with_reducible exact Kp.refl _ | with_reducible exact Kp.alloc _ _ | with_reducible exact (Kp.alloc _ _).trans (Kp.alloc _ _) | with_reducible exact ((Kp.alloc _ _).trans (Kp.alloc _ _)).trans (Kp.alloc _ _) | with_reducible exact Kp.drew _ | with_reducible exact Kp.drewN _ _))).mono ?_
  rintro e w6 ⟨rfl, k1⟩
  have K6 := Lib.hid (K5.out.trans ((show Kp w5 _ from (by first | with_reducible exact Kp.refl _ | with_reducible exact Kp.alloc _ _ | with_reducible exact (Kp.alloc _ _).trans (Kp.alloc _ _) | with_reducible exact ((Kp.alloc _ _).trans (Kp.alloc _ _)).trans (Kp.alloc _ _) | with_reducible exact Kp.drew _ | with_reducible exact Kp.drewN _ _)).trans k1))
  have Z6 := Lib.hid (Z5.out.trans ((show Kp w5 _ from (by first | with_reducible exact Kp.refl _ | with_reducible exact Kp.alloc _ _ | with_reducible exact (Kp.alloc _ _).trans (Kp.alloc _ _) | with_reducible exact ((Kp.alloc _ _).trans (Kp.alloc _ _)).trans (Kp.alloc _ _) | with_reducible exact Kp.drew _ | with_reducible exact Kp.drewN _ _)).trans k1))
  clear k1
  go_wp2_with fail
  refine (H2.out _ (Z6.out.trans (by first | with_reducible exact Kp.refl _ | with_reducible exact Kp.alloc _ _ | with_reducible exact (Kp.alloc _ _).trans (Kp.alloc _ _) | with_reducible exact ((Kp.alloc _ _).trans (Kp.alloc _ _)).trans (Kp.alloc _ _) | with_reducible exact Kp.drew _ | with_reducible exact Kp.drewN _ _))).mono ?_
  rintro e w7 ⟨rfl, k1⟩
  have K7 := Lib.hid (K6.out.trans ((show Kp w6 _ from (by first | with_reducible exact Kp.refl _ | with_reducible exact Kp.alloc _ _ | with_reducible exact (Kp.alloc _ _).trans (Kp.alloc _ _) | with_reducible exact ((Kp.alloc _ _).trans (Kp.alloc _ _)).trans (Kp.alloc _ _) | with_reducible exact Kp.drew _ | with_reducible exact Kp.drewN _ _)).trans k1))
  clear k1
  go_wp2_with fail
  refine (CM.out 1984 1984 _).mono ?_
  rintro e w8 ⟨b8, rfl, lv, k1⟩
  have L8 := Lib.hid lv
  have K8 := Lib.hid (K7.out.trans ((show Kp w7 _ from (by first | with_reducible exact Kp.refl _ | with_reducible exact Kp.alloc _ _ | with_reducible exact (Kp.alloc _ _).trans (Kp.alloc _ _) | with_reducible exact ((Kp.alloc _ _).trans (Kp.alloc _ _)).trans (Kp.alloc _ _) | with_reducible exact Kp.drew _ | with_reducible exact Kp.drewN _ _)).trans k1))
  clear lv k1
  go_wp2_with fail
  refine (IN.out _ _ (L8.out.kp (by first | with_reducible exact Kp.refl _ | with_reducible exact Kp.alloc _ _ | with_reducible exact (Kp.alloc _ _).trans (Kp.alloc _ _) | with_reducible exact ((Kp.alloc _ _).trans (Kp.alloc _ _)).trans (Kp.alloc _ _) | with_reducible exact Kp.drew _ | with_reducible exact Kp.drewN _ _)) (K8.out.trans (by first | with_reducible exact Kp.refl _ | with_reducible exact Kp.alloc _ _ | with_reducible exact (Kp.alloc _ _).trans (Kp.alloc _ _) | with_reducible exact ((Kp.alloc _ _).trans (Kp.alloc _ _)).trans (Kp.alloc _ _) | with_reducible exact Kp.drew _ | with_reducible exact Kp.drewN _ _))).mono ?_
  rintro e w9 ⟨rfl, k1⟩
  go_wp2
  go_ret
  exact ⟨rfl, K8.out.trans ((show Kp w8 _ from (by first | with_reducible exact Kp.refl _ | with_reducible exact Kp.alloc _ _ | with_reducible exact (Kp.alloc _ _).trans (Kp.alloc _ _) | with_reducible exact ((Kp.alloc _ _).trans (Kp.alloc _ _)).trans (Kp.alloc _ _) | with_reducible exact Kp.drew _ | with_reducible exact Kp.drewN _ _)).trans k1)⟩
end Go.Proofs.YtjdnejglapnbbaaGreatDoor
