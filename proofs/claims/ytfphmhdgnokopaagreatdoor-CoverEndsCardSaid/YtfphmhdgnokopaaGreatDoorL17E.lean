/-
  Layer 17: the walk of CoverEnds.
-/
import Derived.Test.YtfphmhdgnokopaaGreatDoorGCovB
namespace Go.Proofs.YtfphmhdgnokopaaGreatDoor
open Go.RowKit
set_option linter.unusedVariables false
set_option linter.unusedSimpArgs false
set_option maxHeartbeats 16000000 in
set_option maxRecDepth 100000 in
theorem cends_few (vl : Value) (l : List LF) (w : World) (rl : LeavesAt w vl l) (gl : ∀ f ∈ l, LeafG f) (T : Tabs w) (hf : fewL l = false) :
    Calls Tryz.prog 8 #[vl] w fun e w' => e = .returned (.bool true) ∧ Kp w w' := by
  have RFW := Lib.hid (fun w1 (kk : Kp w w1) => fewL_any vl l w1 (rl.kp kk))
  rw [hf] at RFW
  obtain ⟨adl, cal, rfl⟩ := rl.slice
  obtain ⟨W0, hW⟩ : ∃ W0, W0 = w := ⟨_, rfl⟩
  subst hW
  have K00 := Lib.hid (Kp.refl W0)
  have K0 := Lib.hid (Kp.refl W0)
  have AW := Lib.hid (fun w1 (kk : Kp W0 w1) => awake17 w1 (T.kp (K00.out.trans kk)))
  have FW := Lib.hid (fun w1 (kk : Kp W0 w1) => RFW.out w1 (K00.out.trans kk))
  clear rl gl T
  go_enter Tryz.func8, Tryz.ntmps8
  go_wp2_with fail
  refine (AW.out _ (by first | with_reducible exact K0.out | with_reducible exact K0.out.trans (Kp.alloc _ _) | with_reducible exact (K0.out.trans (Kp.alloc _ _)).trans (Kp.alloc _ _) | with_reducible exact ((K0.out.trans (Kp.alloc _ _)).trans (Kp.alloc _ _)).trans (Kp.alloc _ _) | with_reducible exact K0.out.trans (Kp.drew _) | with_reducible exact K0.out.trans (Kp.drewN _ _))).mono ?_
  rintro e w1 ⟨rfl, kk⟩
  have K1 := Lib.hid ((show Kp W0 _ from (by first | with_reducible exact K0.out | with_reducible exact K0.out.trans (Kp.alloc _ _) | with_reducible exact (K0.out.trans (Kp.alloc _ _)).trans (Kp.alloc _ _) | with_reducible exact ((K0.out.trans (Kp.alloc _ _)).trans (Kp.alloc _ _)).trans (Kp.alloc _ _) | with_reducible exact K0.out.trans (Kp.drew _) | with_reducible exact K0.out.trans (Kp.drewN _ _))).trans kk)
  clear kk
  go_wp2_with fail
  refine (FW.out _ (by first | with_reducible exact K1.out | with_reducible exact K1.out.trans (Kp.alloc _ _) | with_reducible exact (K1.out.trans (Kp.alloc _ _)).trans (Kp.alloc _ _) | with_reducible exact ((K1.out.trans (Kp.alloc _ _)).trans (Kp.alloc _ _)).trans (Kp.alloc _ _) | with_reducible exact K1.out.trans (Kp.drew _) | with_reducible exact K1.out.trans (Kp.drewN _ _))).mono ?_
  rintro e w2 ⟨rfl, kk⟩
  have K2 := Lib.hid ((show Kp W0 _ from (by first | with_reducible exact K1.out | with_reducible exact K1.out.trans (Kp.alloc _ _) | with_reducible exact (K1.out.trans (Kp.alloc _ _)).trans (Kp.alloc _ _) | with_reducible exact ((K1.out.trans (Kp.alloc _ _)).trans (Kp.alloc _ _)).trans (Kp.alloc _ _) | with_reducible exact K1.out.trans (Kp.drew _) | with_reducible exact K1.out.trans (Kp.drewN _ _))).trans kk)
  clear kk
  go_wp2
  go_ret
  exact ⟨rfl, K00.out.trans K2.out⟩
set_option maxHeartbeats 16000000 in
set_option maxRecDepth 100000 in
theorem cends_wide (vl : Value) (l : List LF) (w : World) (rl : LeavesAt w vl l) (gl : ∀ f ∈ l, LeafG f) (T : Tabs w) (hf : fewL l = true) (hw : 400 < (posR l).length) :
    Calls Tryz.prog 8 #[vl] w fun e w' => e = .returned (.bool true) ∧ Kp w w' := by
  have RFW := Lib.hid (fun w1 (kk : Kp w w1) => fewL_any vl l w1 (rl.kp kk))
  rw [hf] at RFW
  obtain ⟨hls, hn⟩ := fewL_ok hf gl
  have R1 := Lib.hid (fun w1 (kk : Kp w w1) => covDays_any vl l w1 (rl.kp kk) hls (by omega) (T.kp kk))
  have R2 := Lib.hid (fun w1 (kk : Kp w w1) => envEarliest_any vl l w1 (rl.kp kk) hls (T.kp kk))
  have R3 := Lib.hid (fun w1 (kk : Kp w w1) => envLatest_any vl l w1 (rl.kp kk) hls (T.kp kk))
  have ha := wide_full hw
  have ey := (env_min dLS l ha).1
  have ez := (env_max dGE l ha).1
  rw [ey] at R2
  rw [ez] at R3
  clear ey ez
  rw [if_pos hw, if_pos hw] at R1
  clear ha hw
  generalize (envF dLS min l).1 = x at *
  generalize (envF dGE max l).1 = y at *
  obtain ⟨adl, cal, rfl⟩ := rl.slice
  obtain ⟨W0, hW⟩ : ∃ W0, W0 = w := ⟨_, rfl⟩
  subst hW
  have K00 := Lib.hid (Kp.refl W0)
  have K0 := Lib.hid (Kp.refl W0)
  have AW := Lib.hid (fun w1 (kk : Kp W0 w1) => awake17 w1 (T.kp (K00.out.trans kk)))
  have FW := Lib.hid (fun w1 (kk : Kp W0 w1) => RFW.out w1 (K00.out.trans kk))
  have C1 := Lib.hid (fun w1 (kk : Kp W0 w1) => R1.out w1 (K00.out.trans kk))
  have C2 := Lib.hid (fun w1 (kk : Kp W0 w1) => R2.out w1 (K00.out.trans kk))
  have C3 := Lib.hid (fun w1 (kk : Kp W0 w1) => R3.out w1 (K00.out.trans kk))
  clear rl gl T R1 R2 R3 RFW hls
  go_enter Tryz.func8, Tryz.ntmps8
  go_wp2_with fail
  refine (AW.out _ (by first | with_reducible exact K0.out | with_reducible exact K0.out.trans (Kp.alloc _ _) | with_reducible exact (K0.out.trans (Kp.alloc _ _)).trans (Kp.alloc _ _) | with_reducible exact ((K0.out.trans (Kp.alloc _ _)).trans (Kp.alloc _ _)).trans (Kp.alloc _ _) | with_reducible exact K0.out.trans (Kp.drew _) | with_reducible exact K0.out.trans (Kp.drewN _ _))).mono ?_
  rintro e w1 ⟨rfl, kk⟩
  have K1 := Lib.hid ((show Kp W0 _ from (by first | with_reducible exact K0.out | with_reducible exact K0.out.trans (Kp.alloc _ _) | with_reducible exact (K0.out.trans (Kp.alloc _ _)).trans (Kp.alloc _ _) | with_reducible exact ((K0.out.trans (Kp.alloc _ _)).trans (Kp.alloc _ _)).trans (Kp.alloc _ _) | with_reducible exact K0.out.trans (Kp.drew _) | with_reducible exact K0.out.trans (Kp.drewN _ _))).trans kk)
  clear kk
  go_wp2_with fail
  refine (FW.out _ (by first | with_reducible exact K1.out | with_reducible exact K1.out.trans (Kp.alloc _ _) | with_reducible exact (K1.out.trans (Kp.alloc _ _)).trans (Kp.alloc _ _) | with_reducible exact ((K1.out.trans (Kp.alloc _ _)).trans (Kp.alloc _ _)).trans (Kp.alloc _ _) | with_reducible exact K1.out.trans (Kp.drew _) | with_reducible exact K1.out.trans (Kp.drewN _ _))).mono ?_
  rintro e w2 ⟨rfl, kk⟩
  have K2 := Lib.hid ((show Kp W0 _ from (by first | with_reducible exact K1.out | with_reducible exact K1.out.trans (Kp.alloc _ _) | with_reducible exact (K1.out.trans (Kp.alloc _ _)).trans (Kp.alloc _ _) | with_reducible exact ((K1.out.trans (Kp.alloc _ _)).trans (Kp.alloc _ _)).trans (Kp.alloc _ _) | with_reducible exact K1.out.trans (Kp.drew _) | with_reducible exact K1.out.trans (Kp.drewN _ _))).trans kk)
  clear kk
  go_wp2_with fail
  refine (C1.out _ (by first | with_reducible exact K2.out | with_reducible exact K2.out.trans (Kp.alloc _ _) | with_reducible exact (K2.out.trans (Kp.alloc _ _)).trans (Kp.alloc _ _) | with_reducible exact ((K2.out.trans (Kp.alloc _ _)).trans (Kp.alloc _ _)).trans (Kp.alloc _ _) | with_reducible exact K2.out.trans (Kp.drew _) | with_reducible exact K2.out.trans (Kp.drewN _ _))).mono ?_
  rintro e w3 ⟨v3, rfl, r3, kk⟩
  have K3 := Lib.hid ((show Kp W0 _ from (by first | with_reducible exact K2.out | with_reducible exact K2.out.trans (Kp.alloc _ _) | with_reducible exact (K2.out.trans (Kp.alloc _ _)).trans (Kp.alloc _ _) | with_reducible exact ((K2.out.trans (Kp.alloc _ _)).trans (Kp.alloc _ _)).trans (Kp.alloc _ _) | with_reducible exact K2.out.trans (Kp.drew _) | with_reducible exact K2.out.trans (Kp.drewN _ _))).trans kk)
  obtain ⟨a3, q3, rfl⟩ := r3.slice
  clear r3
  clear kk
  have G3_3 := Lib.hid (Kp.refl w3)
  go_wp2_with fail
  refine (C2.out _ (by first | with_reducible exact K3.out | with_reducible exact K3.out.trans (Kp.alloc _ _) | with_reducible exact (K3.out.trans (Kp.alloc _ _)).trans (Kp.alloc _ _) | with_reducible exact ((K3.out.trans (Kp.alloc _ _)).trans (Kp.alloc _ _)).trans (Kp.alloc _ _) | with_reducible exact K3.out.trans (Kp.drew _) | with_reducible exact K3.out.trans (Kp.drewN _ _))).mono ?_
  rintro e w4 ⟨rfl, kk⟩
  have K4 := Lib.hid ((show Kp W0 _ from (by first | with_reducible exact K3.out | with_reducible exact K3.out.trans (Kp.alloc _ _) | with_reducible exact (K3.out.trans (Kp.alloc _ _)).trans (Kp.alloc _ _) | with_reducible exact ((K3.out.trans (Kp.alloc _ _)).trans (Kp.alloc _ _)).trans (Kp.alloc _ _) | with_reducible exact K3.out.trans (Kp.drew _) | with_reducible exact K3.out.trans (Kp.drewN _ _))).trans kk)
  have G3_4 := Lib.hid (G3_3.out.trans ((show Kp w3 _ from (by first | with_reducible exact Kp.refl _ | with_reducible exact Kp.alloc _ _ | with_reducible exact (Kp.alloc _ _).trans (Kp.alloc _ _) | with_reducible exact ((Kp.alloc _ _).trans (Kp.alloc _ _)).trans (Kp.alloc _ _) | with_reducible exact Kp.drew _ | with_reducible exact Kp.drewN _ _)).trans kk))
  clear kk
  go_wp2_with fail
  refine (C3.out _ (by first | with_reducible exact K4.out | with_reducible exact K4.out.trans (Kp.alloc _ _) | with_reducible exact (K4.out.trans (Kp.alloc _ _)).trans (Kp.alloc _ _) | with_reducible exact ((K4.out.trans (Kp.alloc _ _)).trans (Kp.alloc _ _)).trans (Kp.alloc _ _) | with_reducible exact K4.out.trans (Kp.drew _) | with_reducible exact K4.out.trans (Kp.drewN _ _))).mono ?_
  rintro e w5 ⟨rfl, kk⟩
  have K5 := Lib.hid ((show Kp W0 _ from (by first | with_reducible exact K4.out | with_reducible exact K4.out.trans (Kp.alloc _ _) | with_reducible exact (K4.out.trans (Kp.alloc _ _)).trans (Kp.alloc _ _) | with_reducible exact ((K4.out.trans (Kp.alloc _ _)).trans (Kp.alloc _ _)).trans (Kp.alloc _ _) | with_reducible exact K4.out.trans (Kp.drew _) | with_reducible exact K4.out.trans (Kp.drewN _ _))).trans kk)
  have G3_5 := Lib.hid (G3_4.out.trans ((show Kp w4 _ from (by first | with_reducible exact Kp.refl _ | with_reducible exact Kp.alloc _ _ | with_reducible exact (Kp.alloc _ _).trans (Kp.alloc _ _) | with_reducible exact ((Kp.alloc _ _).trans (Kp.alloc _ _)).trans (Kp.alloc _ _) | with_reducible exact Kp.drew _ | with_reducible exact Kp.drewN _ _)).trans kk))
  clear kk
  go_wp2
  go_ret
  exact ⟨rfl, K00.out.trans K5.out⟩
set_option maxHeartbeats 16000000 in
set_option maxRecDepth 100000 in
theorem cends_none (vl : Value) (l : List LF) (w : World) (rl : LeavesAt w vl l) (gl : ∀ f ∈ l, LeafG f) (T : Tabs w) (hf : fewL l = true) (ha : anyB l = false) :
    Calls Tryz.prog 8 #[vl] w fun e w' => e = .returned (.bool true) ∧ Kp w w' := by
  have RFW := Lib.hid (fun w1 (kk : Kp w w1) => fewL_any vl l w1 (rl.kp kk))
  rw [hf] at RFW
  obtain ⟨hls, hn⟩ := fewL_ok hf gl
  have R1 := Lib.hid (fun w1 (kk : Kp w w1) => covDays_any vl l w1 (rl.kp kk) hls (by omega) (T.kp kk))
  have R2 := Lib.hid (fun w1 (kk : Kp w w1) => envEarliest_any vl l w1 (rl.kp kk) hls (T.kp kk))
  have R3 := Lib.hid (fun w1 (kk : Kp w w1) => envLatest_any vl l w1 (rl.kp kk) hls (T.kp kk))
  rw [env_nil _ _ _ ha] at R2 R3
  rw [if_neg (by rw [posR_none ha]; decide), if_neg (by rw [posR_none ha]; decide), posR_none ha] at R1
  clear ha
  obtain ⟨adl, cal, rfl⟩ := rl.slice
  obtain ⟨W0, hW⟩ : ∃ W0, W0 = w := ⟨_, rfl⟩
  subst hW
  have K00 := Lib.hid (Kp.refl W0)
  have K0 := Lib.hid (Kp.refl W0)
  have AW := Lib.hid (fun w1 (kk : Kp W0 w1) => awake17 w1 (T.kp (K00.out.trans kk)))
  have FW := Lib.hid (fun w1 (kk : Kp W0 w1) => RFW.out w1 (K00.out.trans kk))
  have C1 := Lib.hid (fun w1 (kk : Kp W0 w1) => R1.out w1 (K00.out.trans kk))
  have C2 := Lib.hid (fun w1 (kk : Kp W0 w1) => R2.out w1 (K00.out.trans kk))
  have C3 := Lib.hid (fun w1 (kk : Kp W0 w1) => R3.out w1 (K00.out.trans kk))
  clear rl gl T R1 R2 R3 RFW hls
  go_enter Tryz.func8, Tryz.ntmps8
  go_wp2_with fail
  refine (AW.out _ (by first | with_reducible exact K0.out | with_reducible exact K0.out.trans (Kp.alloc _ _) | with_reducible exact (K0.out.trans (Kp.alloc _ _)).trans (Kp.alloc _ _) | with_reducible exact ((K0.out.trans (Kp.alloc _ _)).trans (Kp.alloc _ _)).trans (Kp.alloc _ _) | with_reducible exact K0.out.trans (Kp.drew _) | with_reducible exact K0.out.trans (Kp.drewN _ _))).mono ?_
  rintro e w1 ⟨rfl, kk⟩
  have K1 := Lib.hid ((show Kp W0 _ from (by first | with_reducible exact K0.out | with_reducible exact K0.out.trans (Kp.alloc _ _) | with_reducible exact (K0.out.trans (Kp.alloc _ _)).trans (Kp.alloc _ _) | with_reducible exact ((K0.out.trans (Kp.alloc _ _)).trans (Kp.alloc _ _)).trans (Kp.alloc _ _) | with_reducible exact K0.out.trans (Kp.drew _) | with_reducible exact K0.out.trans (Kp.drewN _ _))).trans kk)
  clear kk
  go_wp2_with fail
  refine (FW.out _ (by first | with_reducible exact K1.out | with_reducible exact K1.out.trans (Kp.alloc _ _) | with_reducible exact (K1.out.trans (Kp.alloc _ _)).trans (Kp.alloc _ _) | with_reducible exact ((K1.out.trans (Kp.alloc _ _)).trans (Kp.alloc _ _)).trans (Kp.alloc _ _) | with_reducible exact K1.out.trans (Kp.drew _) | with_reducible exact K1.out.trans (Kp.drewN _ _))).mono ?_
  rintro e w2 ⟨rfl, kk⟩
  have K2 := Lib.hid ((show Kp W0 _ from (by first | with_reducible exact K1.out | with_reducible exact K1.out.trans (Kp.alloc _ _) | with_reducible exact (K1.out.trans (Kp.alloc _ _)).trans (Kp.alloc _ _) | with_reducible exact ((K1.out.trans (Kp.alloc _ _)).trans (Kp.alloc _ _)).trans (Kp.alloc _ _) | with_reducible exact K1.out.trans (Kp.drew _) | with_reducible exact K1.out.trans (Kp.drewN _ _))).trans kk)
  clear kk
  go_wp2_with fail
  refine (C1.out _ (by first | with_reducible exact K2.out | with_reducible exact K2.out.trans (Kp.alloc _ _) | with_reducible exact (K2.out.trans (Kp.alloc _ _)).trans (Kp.alloc _ _) | with_reducible exact ((K2.out.trans (Kp.alloc _ _)).trans (Kp.alloc _ _)).trans (Kp.alloc _ _) | with_reducible exact K2.out.trans (Kp.drew _) | with_reducible exact K2.out.trans (Kp.drewN _ _))).mono ?_
  rintro e w3 ⟨v3, rfl, r3, kk⟩
  have K3 := Lib.hid ((show Kp W0 _ from (by first | with_reducible exact K2.out | with_reducible exact K2.out.trans (Kp.alloc _ _) | with_reducible exact (K2.out.trans (Kp.alloc _ _)).trans (Kp.alloc _ _) | with_reducible exact ((K2.out.trans (Kp.alloc _ _)).trans (Kp.alloc _ _)).trans (Kp.alloc _ _) | with_reducible exact K2.out.trans (Kp.drew _) | with_reducible exact K2.out.trans (Kp.drewN _ _))).trans kk)
  obtain ⟨a3, q3, rfl⟩ := r3.slice
  clear r3
  clear kk
  have G3_3 := Lib.hid (Kp.refl w3)
  go_wp2_with fail
  refine (C2.out _ (by first | with_reducible exact K3.out | with_reducible exact K3.out.trans (Kp.alloc _ _) | with_reducible exact (K3.out.trans (Kp.alloc _ _)).trans (Kp.alloc _ _) | with_reducible exact ((K3.out.trans (Kp.alloc _ _)).trans (Kp.alloc _ _)).trans (Kp.alloc _ _) | with_reducible exact K3.out.trans (Kp.drew _) | with_reducible exact K3.out.trans (Kp.drewN _ _))).mono ?_
  rintro e w4 ⟨rfl, kk⟩
  have K4 := Lib.hid ((show Kp W0 _ from (by first | with_reducible exact K3.out | with_reducible exact K3.out.trans (Kp.alloc _ _) | with_reducible exact (K3.out.trans (Kp.alloc _ _)).trans (Kp.alloc _ _) | with_reducible exact ((K3.out.trans (Kp.alloc _ _)).trans (Kp.alloc _ _)).trans (Kp.alloc _ _) | with_reducible exact K3.out.trans (Kp.drew _) | with_reducible exact K3.out.trans (Kp.drewN _ _))).trans kk)
  have G3_4 := Lib.hid (G3_3.out.trans ((show Kp w3 _ from (by first | with_reducible exact Kp.refl _ | with_reducible exact Kp.alloc _ _ | with_reducible exact (Kp.alloc _ _).trans (Kp.alloc _ _) | with_reducible exact ((Kp.alloc _ _).trans (Kp.alloc _ _)).trans (Kp.alloc _ _) | with_reducible exact Kp.drew _ | with_reducible exact Kp.drewN _ _)).trans kk))
  clear kk
  go_wp2_with fail
  refine (C3.out _ (by first | with_reducible exact K4.out | with_reducible exact K4.out.trans (Kp.alloc _ _) | with_reducible exact (K4.out.trans (Kp.alloc _ _)).trans (Kp.alloc _ _) | with_reducible exact ((K4.out.trans (Kp.alloc _ _)).trans (Kp.alloc _ _)).trans (Kp.alloc _ _) | with_reducible exact K4.out.trans (Kp.drew _) | with_reducible exact K4.out.trans (Kp.drewN _ _))).mono ?_
  rintro e w5 ⟨rfl, kk⟩
  have K5 := Lib.hid ((show Kp W0 _ from (by first | with_reducible exact K4.out | with_reducible exact K4.out.trans (Kp.alloc _ _) | with_reducible exact (K4.out.trans (Kp.alloc _ _)).trans (Kp.alloc _ _) | with_reducible exact ((K4.out.trans (Kp.alloc _ _)).trans (Kp.alloc _ _)).trans (Kp.alloc _ _) | with_reducible exact K4.out.trans (Kp.drew _) | with_reducible exact K4.out.trans (Kp.drewN _ _))).trans kk)
  have G3_5 := Lib.hid (G3_4.out.trans ((show Kp w4 _ from (by first | with_reducible exact Kp.refl _ | with_reducible exact Kp.alloc _ _ | with_reducible exact (Kp.alloc _ _).trans (Kp.alloc _ _) | with_reducible exact ((Kp.alloc _ _).trans (Kp.alloc _ _)).trans (Kp.alloc _ _) | with_reducible exact Kp.drew _ | with_reducible exact Kp.drewN _ _)).trans kk))
  clear kk
  go_wp2
  go_ret
  exact ⟨rfl, K00.out.trans K5.out⟩
set_option maxHeartbeats 16000000 in
set_option maxRecDepth 100000 in
theorem cends_main (vl : Value) (l : List LF) (w : World) (rl : LeavesAt w vl l) (gl : ∀ f ∈ l, LeafG f) (T : Tabs w) (hf : fewL l = true) (ha : anyB l = true) (hw : ¬ 400 < (posR l).length) :
    Calls Tryz.prog 8 #[vl] w fun e w' => e = .returned (.bool true) ∧ Kp w w' := by
  have RFW := Lib.hid (fun w1 (kk : Kp w w1) => fewL_any vl l w1 (rl.kp kk))
  rw [hf] at RFW
  obtain ⟨hls, hn⟩ := fewL_ok hf gl
  have R1 := Lib.hid (fun w1 (kk : Kp w w1) => covDays_any vl l w1 (rl.kp kk) hls (by omega) (T.kp kk))
  have R2 := Lib.hid (fun w1 (kk : Kp w w1) => envEarliest_any vl l w1 (rl.kp kk) hls (T.kp kk))
  have R3 := Lib.hid (fun w1 (kk : Kp w w1) => envLatest_any vl l w1 (rl.kp kk) hls (T.kp kk))
  have ey := (env_min dLS l ha).1
  have ez := (env_max dGE l ha).1
  rw [ey] at R2
  rw [ez] at R3
  clear ey ez
  obtain ⟨p1, p2, l0, le, ge⟩ := pos_ends ha
  have R4 := Lib.hid (fun w1 (kk : Kp w w1) => possible_any vl l (envF dLS min l).1 w1 (rl.kp kk) hls (T.kp kk))
  have R5 := Lib.hid (fun w1 (kk : Kp w w1) => possible_any vl l (envF dGE max l).1 w1 (rl.kp kk) hls (T.kp kk))
  rw [p1] at R4
  rw [p2] at R5
  rw [if_neg hw, if_neg hw] at R1
  generalize (envF dLS min l).1 = x at *
  generalize (envF dGE max l).1 = y at *
  generalize posR l = D at *
  have ex : (x == x) = true := by simp
  have ey : (y == y) = true := by simp
  have wt : (D.length : Int) - 1 = ((D.length - 1 : Nat) : Int) := by omega
  have wu : IntKind.i64.wrap ((D.length - 1 : Nat) : Int) = ((D.length - 1 : Nat) : Int) := IntWalk.i64_in _ (by omega)
  have wx : D.length - 1 < D.length := by omega
  have wy : ((D.length - 1 : Nat) : Int) < (D.length : Int) := by omega
  have wv : (0 : Int) ≤ ((D.length - 1 : Nat) : Int) := by omega
  have wz : decide ((0 : Int) < (D.length : Int)) = true := decide_eq_true (by omega)
  have wz' : decide (0 < D.length) = true := decide_eq_true l0
  have L0 := Lib.hid l0
  have LE := Lib.hid le
  have GE := Lib.hid ge
  clear p1 p2 hw ha le ge
  obtain ⟨adl, cal, rfl⟩ := rl.slice
  obtain ⟨W0, hW⟩ : ∃ W0, W0 = w := ⟨_, rfl⟩
  subst hW
  have K00 := Lib.hid (Kp.refl W0)
  have K0 := Lib.hid (Kp.refl W0)
  have AW := Lib.hid (fun w1 (kk : Kp W0 w1) => awake17 w1 (T.kp (K00.out.trans kk)))
  have FW := Lib.hid (fun w1 (kk : Kp W0 w1) => RFW.out w1 (K00.out.trans kk))
  have C1 := Lib.hid (fun w1 (kk : Kp W0 w1) => R1.out w1 (K00.out.trans kk))
  have C2 := Lib.hid (fun w1 (kk : Kp W0 w1) => R2.out w1 (K00.out.trans kk))
  have C3 := Lib.hid (fun w1 (kk : Kp W0 w1) => R3.out w1 (K00.out.trans kk))
  have C4 := Lib.hid (fun w1 (kk : Kp W0 w1) => R4.out w1 (K00.out.trans kk))
  have C5 := Lib.hid (fun w1 (kk : Kp W0 w1) => R5.out w1 (K00.out.trans kk))
  clear rl gl T R1 R2 R3 R4 R5 RFW hls
  go_enter Tryz.func8, Tryz.ntmps8
  go_wp2_with fail
  refine (AW.out _ (by first | with_reducible exact K0.out | with_reducible exact K0.out.trans (Kp.alloc _ _) | with_reducible exact (K0.out.trans (Kp.alloc _ _)).trans (Kp.alloc _ _) | with_reducible exact ((K0.out.trans (Kp.alloc _ _)).trans (Kp.alloc _ _)).trans (Kp.alloc _ _) | with_reducible exact K0.out.trans (Kp.drew _) | with_reducible exact K0.out.trans (Kp.drewN _ _))).mono ?_
  rintro e w1 ⟨rfl, kk⟩
  have K1 := Lib.hid ((show Kp W0 _ from (by first | with_reducible exact K0.out | with_reducible exact K0.out.trans (Kp.alloc _ _) | with_reducible exact (K0.out.trans (Kp.alloc _ _)).trans (Kp.alloc _ _) | with_reducible exact ((K0.out.trans (Kp.alloc _ _)).trans (Kp.alloc _ _)).trans (Kp.alloc _ _) | with_reducible exact K0.out.trans (Kp.drew _) | with_reducible exact K0.out.trans (Kp.drewN _ _))).trans kk)
  clear kk
  go_wp2_with fail
  refine (FW.out _ (by first | with_reducible exact K1.out | with_reducible exact K1.out.trans (Kp.alloc _ _) | with_reducible exact (K1.out.trans (Kp.alloc _ _)).trans (Kp.alloc _ _) | with_reducible exact ((K1.out.trans (Kp.alloc _ _)).trans (Kp.alloc _ _)).trans (Kp.alloc _ _) | with_reducible exact K1.out.trans (Kp.drew _) | with_reducible exact K1.out.trans (Kp.drewN _ _))).mono ?_
  rintro e w2 ⟨rfl, kk⟩
  have K2 := Lib.hid ((show Kp W0 _ from (by first | with_reducible exact K1.out | with_reducible exact K1.out.trans (Kp.alloc _ _) | with_reducible exact (K1.out.trans (Kp.alloc _ _)).trans (Kp.alloc _ _) | with_reducible exact ((K1.out.trans (Kp.alloc _ _)).trans (Kp.alloc _ _)).trans (Kp.alloc _ _) | with_reducible exact K1.out.trans (Kp.drew _) | with_reducible exact K1.out.trans (Kp.drewN _ _))).trans kk)
  clear kk
  go_wp2_with fail
  refine (C1.out _ (by first | with_reducible exact K2.out | with_reducible exact K2.out.trans (Kp.alloc _ _) | with_reducible exact (K2.out.trans (Kp.alloc _ _)).trans (Kp.alloc _ _) | with_reducible exact ((K2.out.trans (Kp.alloc _ _)).trans (Kp.alloc _ _)).trans (Kp.alloc _ _) | with_reducible exact K2.out.trans (Kp.drew _) | with_reducible exact K2.out.trans (Kp.drewN _ _))).mono ?_
  rintro e w3 ⟨v3, rfl, r3, kk⟩
  have K3 := Lib.hid ((show Kp W0 _ from (by first | with_reducible exact K2.out | with_reducible exact K2.out.trans (Kp.alloc _ _) | with_reducible exact (K2.out.trans (Kp.alloc _ _)).trans (Kp.alloc _ _) | with_reducible exact ((K2.out.trans (Kp.alloc _ _)).trans (Kp.alloc _ _)).trans (Kp.alloc _ _) | with_reducible exact K2.out.trans (Kp.drew _) | with_reducible exact K2.out.trans (Kp.drewN _ _))).trans kk)
  obtain ⟨b3, o3, c3, ev, x0, x1⟩ := ends_at r3 L0.out
  subst ev
  rw [LE.out] at x0
  rw [GE.out] at x1
  clear r3
  clear kk
  have G3_3 := Lib.hid (Kp.refl w3)
  go_wp2_with fail
  refine (C2.out _ (by first | with_reducible exact K3.out | with_reducible exact K3.out.trans (Kp.alloc _ _) | with_reducible exact (K3.out.trans (Kp.alloc _ _)).trans (Kp.alloc _ _) | with_reducible exact ((K3.out.trans (Kp.alloc _ _)).trans (Kp.alloc _ _)).trans (Kp.alloc _ _) | with_reducible exact K3.out.trans (Kp.drew _) | with_reducible exact K3.out.trans (Kp.drewN _ _))).mono ?_
  rintro e w4 ⟨rfl, kk⟩
  have K4 := Lib.hid ((show Kp W0 _ from (by first | with_reducible exact K3.out | with_reducible exact K3.out.trans (Kp.alloc _ _) | with_reducible exact (K3.out.trans (Kp.alloc _ _)).trans (Kp.alloc _ _) | with_reducible exact ((K3.out.trans (Kp.alloc _ _)).trans (Kp.alloc _ _)).trans (Kp.alloc _ _) | with_reducible exact K3.out.trans (Kp.drew _) | with_reducible exact K3.out.trans (Kp.drewN _ _))).trans kk)
  have G3_4 := Lib.hid (G3_3.out.trans ((show Kp w3 _ from (by first | with_reducible exact Kp.refl _ | with_reducible exact Kp.alloc _ _ | with_reducible exact (Kp.alloc _ _).trans (Kp.alloc _ _) | with_reducible exact ((Kp.alloc _ _).trans (Kp.alloc _ _)).trans (Kp.alloc _ _) | with_reducible exact Kp.drew _ | with_reducible exact Kp.drewN _ _)).trans kk))
  clear kk
  go_wp2_with fail
  refine (C3.out _ (by first | with_reducible exact K4.out | with_reducible exact K4.out.trans (Kp.alloc _ _) | with_reducible exact (K4.out.trans (Kp.alloc _ _)).trans (Kp.alloc _ _) | with_reducible exact ((K4.out.trans (Kp.alloc _ _)).trans (Kp.alloc _ _)).trans (Kp.alloc _ _) | with_reducible exact K4.out.trans (Kp.drew _) | with_reducible exact K4.out.trans (Kp.drewN _ _))).mono ?_
  rintro e w5 ⟨rfl, kk⟩
  have K5 := Lib.hid ((show Kp W0 _ from (by first | with_reducible exact K4.out | with_reducible exact K4.out.trans (Kp.alloc _ _) | with_reducible exact (K4.out.trans (Kp.alloc _ _)).trans (Kp.alloc _ _) | with_reducible exact ((K4.out.trans (Kp.alloc _ _)).trans (Kp.alloc _ _)).trans (Kp.alloc _ _) | with_reducible exact K4.out.trans (Kp.drew _) | with_reducible exact K4.out.trans (Kp.drewN _ _))).trans kk)
  have G3_5 := Lib.hid (G3_4.out.trans ((show Kp w4 _ from (by first | with_reducible exact Kp.refl _ | with_reducible exact Kp.alloc _ _ | with_reducible exact (Kp.alloc _ _).trans (Kp.alloc _ _) | with_reducible exact ((Kp.alloc _ _).trans (Kp.alloc _ _)).trans (Kp.alloc _ _) | with_reducible exact Kp.drew _ | with_reducible exact Kp.drewN _ _)).trans kk))
  clear kk
  replace x0 := cell_up G3_5.out x0
  replace x1 := cell_up G3_5.out x1
  go_wp2_with fail
  refine (C4.out _ (by first | with_reducible exact K5.out | with_reducible exact K5.out.trans (Kp.alloc _ _) | with_reducible exact (K5.out.trans (Kp.alloc _ _)).trans (Kp.alloc _ _) | with_reducible exact ((K5.out.trans (Kp.alloc _ _)).trans (Kp.alloc _ _)).trans (Kp.alloc _ _) | with_reducible exact K5.out.trans (Kp.drew _) | with_reducible exact K5.out.trans (Kp.drewN _ _))).mono ?_
  rintro e w6 ⟨rfl, kk⟩
  have K6 := Lib.hid ((show Kp W0 _ from (by first | with_reducible exact K5.out | with_reducible exact K5.out.trans (Kp.alloc _ _) | with_reducible exact (K5.out.trans (Kp.alloc _ _)).trans (Kp.alloc _ _) | with_reducible exact ((K5.out.trans (Kp.alloc _ _)).trans (Kp.alloc _ _)).trans (Kp.alloc _ _) | with_reducible exact K5.out.trans (Kp.drew _) | with_reducible exact K5.out.trans (Kp.drewN _ _))).trans kk)
  have G3_6 := Lib.hid (G3_5.out.trans ((show Kp w5 _ from (by first | with_reducible exact Kp.refl _ | with_reducible exact Kp.alloc _ _ | with_reducible exact (Kp.alloc _ _).trans (Kp.alloc _ _) | with_reducible exact ((Kp.alloc _ _).trans (Kp.alloc _ _)).trans (Kp.alloc _ _) | with_reducible exact Kp.drew _ | with_reducible exact Kp.drewN _ _)).trans kk))
  clear kk
  clear x0 x1
  go_wp2_with fail
  refine (C5.out _ (by first | with_reducible exact K6.out | with_reducible exact K6.out.trans (Kp.alloc _ _) | with_reducible exact (K6.out.trans (Kp.alloc _ _)).trans (Kp.alloc _ _) | with_reducible exact ((K6.out.trans (Kp.alloc _ _)).trans (Kp.alloc _ _)).trans (Kp.alloc _ _) | with_reducible exact K6.out.trans (Kp.drew _) | with_reducible exact K6.out.trans (Kp.drewN _ _))).mono ?_
  rintro e w7 ⟨rfl, kk⟩
  have K7 := Lib.hid ((show Kp W0 _ from (by first | with_reducible exact K6.out | with_reducible exact K6.out.trans (Kp.alloc _ _) | with_reducible exact (K6.out.trans (Kp.alloc _ _)).trans (Kp.alloc _ _) | with_reducible exact ((K6.out.trans (Kp.alloc _ _)).trans (Kp.alloc _ _)).trans (Kp.alloc _ _) | with_reducible exact K6.out.trans (Kp.drew _) | with_reducible exact K6.out.trans (Kp.drewN _ _))).trans kk)
  have G3_7 := Lib.hid (G3_6.out.trans ((show Kp w6 _ from (by first | with_reducible exact Kp.refl _ | with_reducible exact Kp.alloc _ _ | with_reducible exact (Kp.alloc _ _).trans (Kp.alloc _ _) | with_reducible exact ((Kp.alloc _ _).trans (Kp.alloc _ _)).trans (Kp.alloc _ _) | with_reducible exact Kp.drew _ | with_reducible exact Kp.drewN _ _)).trans kk))
  clear kk
  go_wp2
  go_ret
  exact ⟨rfl, K00.out.trans K7.out⟩
theorem coverEnds_walk (vl : Value) (l : List LF) (w : World) (rl : LeavesAt w vl l) (gl : ∀ f ∈ l, LeafG f) (T : Tabs w) :
    Calls Tryz.prog 8 #[vl] w fun e w' => e = .returned (.bool true) ∧ Kp w w' := by
  rcases Bool.eq_false_or_eq_true (fewL l) with hf | hf
  · by_cases hw : 400 < (posR l).length
    · exact cends_wide vl l w rl gl T hf hw
    · rcases Bool.eq_false_or_eq_true (anyB l) with ha | ha
      · exact cends_main vl l w rl gl T hf ha hw
      · exact cends_none vl l w rl gl T hf ha
  · exact cends_few vl l w rl gl T hf
end Go.Proofs.YtfphmhdgnokopaaGreatDoor
