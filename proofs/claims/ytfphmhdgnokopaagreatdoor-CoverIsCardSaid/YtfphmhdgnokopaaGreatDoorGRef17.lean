/-
  Joined: 16D, RefP, Ref17, Ref17D, L17F.
-/
import Derived.Test.YtfphmhdgnokopaaGreatDoorGEnvB
import Derived.Test.YtfphmhdgnokopaaGreatDoorGEnv
import Derived.Test.YtfphmhdgnokopaaGreatDoorGRef
import Derived.Test.YtfphmhdgnokopaaGreatDoorGCovA
import Derived.Test.YtfphmhdgnokopaaGreatDoorGImgC
import Derived.Test.YtfphmhdgnokopaaGreatDoorGLeafA
import Derived.Test.YtfphmhdgnokopaaGreatDoorGCovB
namespace Go.Proofs.YtfphmhdgnokopaaGreatDoor
open Go.RowKit
set_option linter.unusedVariables false
set_option linter.unusedSimpArgs false
theorem envAN_all (l : List LF) : envAN l l.length = anyB l := by unfold envAN; rw [List.take_length]
theorem envST_all (l : List LF) : envST l l.length = ((envF dLS min l).1, (envF dGS max l).1, (envF dLE min l).1, (envF dGE max l).1) := by unfold envST; rw [List.take_length]
set_option maxHeartbeats 16000000 in
set_option maxRecDepth 100000 in
theorem told_Earliest (v : Value) (l : List LF) (w : World) (hv : LeavesAt w v l) (hl : LsOk l) :
    Calls Tryz.prog 85 #[v, .int .i64 0] w fun e w' => e = .returned (.tuple #[.int .i64 (envF dLS min l).1, .int .i64 (envF dLS min l).2]) ∧ Kp w w' := by
  have C := Lib.hid (refAll_any v l w hv hl)
  rw [envAN_all, envST_all] at C
  rcases Bool.eq_false_or_eq_true (anyB l) with ha | ha
  · have e2 := (env_min dLS l ha).1
    rw [e2]
    rw [ha] at C
    simp only at C
    generalize (envF dLS min l).1 = x0 at *
    generalize (envF dGS max l).1 = x1 at *
    generalize (envF dLE min l).1 = x2 at *
    generalize (envF dGE max l).1 = x3 at *
    clear e2 ha hv hl
    go_enter Tryz.func85, Tryz.ntmps85
    go_wp2_with fail
    refine (C.out).mono ?_
    rintro e w1 ⟨rfl, kk⟩
    have K1 := Lib.hid kk
    clear kk C
    go_wp2
    exact bodyPost_ret (results_tmp2 rfl _ _ _) rfl ⟨rfl, K1.out.trans (Kp.alloc _ _)⟩
  · rw [env_nil _ _ _ ha]
    rw [ha] at C
    simp only at C ⊢
    generalize (envF dLS min l).1 = x0 at *
    generalize (envF dGS max l).1 = x1 at *
    generalize (envF dLE min l).1 = x2 at *
    generalize (envF dGE max l).1 = x3 at *
    clear ha hv hl
    go_enter Tryz.func85, Tryz.ntmps85
    go_wp2_with fail
    refine (C.out).mono ?_
    rintro e w1 ⟨rfl, kk⟩
    have K1 := Lib.hid kk
    clear kk C
    go_wp2
    exact bodyPost_ret (results_tmp2 rfl _ _ _) rfl ⟨rfl, K1.out.trans (Kp.alloc _ _)⟩
theorem refEarliest_any (v : Value) (l : List LF) (w : World) (hv : LeavesAt w v l) (hl : LsOk l) :
    Calls Tryz.prog 34 #[v] w fun e w' => e = .returned (.tuple #[.int .i64 (envF dLS min l).1, .int .i64 (envF dLS min l).2]) ∧ Kp w w' := by
  have C := Lib.hid (told_Earliest v l w hv hl)
  generalize envF dLS min l = r at *
  obtain ⟨x, y⟩ := r
  clear hv hl
  go_enter Tryz.func34, Tryz.ntmps34
  go_wp2_with fail
  refine (C.out).mono ?_
  rintro e w' ⟨rfl, kk⟩
  go_wp2
  exact bodyPost_ret (results_tmp2 rfl _ _ _) rfl ⟨rfl, kk⟩
set_option maxHeartbeats 16000000 in
set_option maxRecDepth 100000 in
theorem told_LastStart (v : Value) (l : List LF) (w : World) (hv : LeavesAt w v l) (hl : LsOk l) :
    Calls Tryz.prog 85 #[v, .int .i64 1] w fun e w' => e = .returned (.tuple #[.int .i64 (envF dGS max l).1, .int .i64 (envF dGS max l).2]) ∧ Kp w w' := by
  have C := Lib.hid (refAll_any v l w hv hl)
  rw [envAN_all, envST_all] at C
  rcases Bool.eq_false_or_eq_true (anyB l) with ha | ha
  · have e2 := (env_max dGS l ha).1
    rw [e2]
    rw [ha] at C
    simp only at C
    generalize (envF dLS min l).1 = x0 at *
    generalize (envF dGS max l).1 = x1 at *
    generalize (envF dLE min l).1 = x2 at *
    generalize (envF dGE max l).1 = x3 at *
    clear e2 ha hv hl
    go_enter Tryz.func85, Tryz.ntmps85
    go_wp2_with fail
    refine (C.out).mono ?_
    rintro e w1 ⟨rfl, kk⟩
    have K1 := Lib.hid kk
    clear kk C
    go_wp2
    exact bodyPost_ret (results_tmp2 rfl _ _ _) rfl ⟨rfl, K1.out.trans (Kp.alloc _ _)⟩
  · rw [env_nil _ _ _ ha]
    rw [ha] at C
    simp only at C ⊢
    generalize (envF dLS min l).1 = x0 at *
    generalize (envF dGS max l).1 = x1 at *
    generalize (envF dLE min l).1 = x2 at *
    generalize (envF dGE max l).1 = x3 at *
    clear ha hv hl
    go_enter Tryz.func85, Tryz.ntmps85
    go_wp2_with fail
    refine (C.out).mono ?_
    rintro e w1 ⟨rfl, kk⟩
    have K1 := Lib.hid kk
    clear kk C
    go_wp2
    exact bodyPost_ret (results_tmp2 rfl _ _ _) rfl ⟨rfl, K1.out.trans (Kp.alloc _ _)⟩
theorem refLastStart_any (v : Value) (l : List LF) (w : World) (hv : LeavesAt w v l) (hl : LsOk l) :
    Calls Tryz.prog 40 #[v] w fun e w' => e = .returned (.tuple #[.int .i64 (envF dGS max l).1, .int .i64 (envF dGS max l).2]) ∧ Kp w w' := by
  have C := Lib.hid (told_LastStart v l w hv hl)
  generalize envF dGS max l = r at *
  obtain ⟨x, y⟩ := r
  clear hv hl
  go_enter Tryz.func40, Tryz.ntmps40
  go_wp2_with fail
  refine (C.out).mono ?_
  rintro e w' ⟨rfl, kk⟩
  go_wp2
  exact bodyPost_ret (results_tmp2 rfl _ _ _) rfl ⟨rfl, kk⟩
set_option maxHeartbeats 16000000 in
set_option maxRecDepth 100000 in
theorem told_FirstEnd (v : Value) (l : List LF) (w : World) (hv : LeavesAt w v l) (hl : LsOk l) :
    Calls Tryz.prog 85 #[v, .int .i64 2] w fun e w' => e = .returned (.tuple #[.int .i64 (envF dLE min l).1, .int .i64 (envF dLE min l).2]) ∧ Kp w w' := by
  have C := Lib.hid (refAll_any v l w hv hl)
  rw [envAN_all, envST_all] at C
  rcases Bool.eq_false_or_eq_true (anyB l) with ha | ha
  · have e2 := (env_min dLE l ha).1
    rw [e2]
    rw [ha] at C
    simp only at C
    generalize (envF dLS min l).1 = x0 at *
    generalize (envF dGS max l).1 = x1 at *
    generalize (envF dLE min l).1 = x2 at *
    generalize (envF dGE max l).1 = x3 at *
    clear e2 ha hv hl
    go_enter Tryz.func85, Tryz.ntmps85
    go_wp2_with fail
    refine (C.out).mono ?_
    rintro e w1 ⟨rfl, kk⟩
    have K1 := Lib.hid kk
    clear kk C
    go_wp2
    exact bodyPost_ret (results_tmp2 rfl _ _ _) rfl ⟨rfl, K1.out.trans (Kp.alloc _ _)⟩
  · rw [env_nil _ _ _ ha]
    rw [ha] at C
    simp only at C ⊢
    generalize (envF dLS min l).1 = x0 at *
    generalize (envF dGS max l).1 = x1 at *
    generalize (envF dLE min l).1 = x2 at *
    generalize (envF dGE max l).1 = x3 at *
    clear ha hv hl
    go_enter Tryz.func85, Tryz.ntmps85
    go_wp2_with fail
    refine (C.out).mono ?_
    rintro e w1 ⟨rfl, kk⟩
    have K1 := Lib.hid kk
    clear kk C
    go_wp2
    exact bodyPost_ret (results_tmp2 rfl _ _ _) rfl ⟨rfl, K1.out.trans (Kp.alloc _ _)⟩
theorem refFirstEnd_any (v : Value) (l : List LF) (w : World) (hv : LeavesAt w v l) (hl : LsOk l) :
    Calls Tryz.prog 38 #[v] w fun e w' => e = .returned (.tuple #[.int .i64 (envF dLE min l).1, .int .i64 (envF dLE min l).2]) ∧ Kp w w' := by
  have C := Lib.hid (told_FirstEnd v l w hv hl)
  generalize envF dLE min l = r at *
  obtain ⟨x, y⟩ := r
  clear hv hl
  go_enter Tryz.func38, Tryz.ntmps38
  go_wp2_with fail
  refine (C.out).mono ?_
  rintro e w' ⟨rfl, kk⟩
  go_wp2
  exact bodyPost_ret (results_tmp2 rfl _ _ _) rfl ⟨rfl, kk⟩
set_option maxHeartbeats 16000000 in
set_option maxRecDepth 100000 in
theorem told_Latest (v : Value) (l : List LF) (w : World) (hv : LeavesAt w v l) (hl : LsOk l) :
    Calls Tryz.prog 85 #[v, .int .i64 3] w fun e w' => e = .returned (.tuple #[.int .i64 (envF dGE max l).1, .int .i64 (envF dGE max l).2]) ∧ Kp w w' := by
  have C := Lib.hid (refAll_any v l w hv hl)
  rw [envAN_all, envST_all] at C
  rcases Bool.eq_false_or_eq_true (anyB l) with ha | ha
  · have e2 := (env_max dGE l ha).1
    rw [e2]
    rw [ha] at C
    simp only at C
    generalize (envF dLS min l).1 = x0 at *
    generalize (envF dGS max l).1 = x1 at *
    generalize (envF dLE min l).1 = x2 at *
    generalize (envF dGE max l).1 = x3 at *
    clear e2 ha hv hl
    go_enter Tryz.func85, Tryz.ntmps85
    go_wp2_with fail
    refine (C.out).mono ?_
    rintro e w1 ⟨rfl, kk⟩
    have K1 := Lib.hid kk
    clear kk C
    go_wp2
    exact bodyPost_ret (results_tmp2 rfl _ _ _) rfl ⟨rfl, K1.out.trans (Kp.alloc _ _)⟩
  · rw [env_nil _ _ _ ha]
    rw [ha] at C
    simp only at C ⊢
    generalize (envF dLS min l).1 = x0 at *
    generalize (envF dGS max l).1 = x1 at *
    generalize (envF dLE min l).1 = x2 at *
    generalize (envF dGE max l).1 = x3 at *
    clear ha hv hl
    go_enter Tryz.func85, Tryz.ntmps85
    go_wp2_with fail
    refine (C.out).mono ?_
    rintro e w1 ⟨rfl, kk⟩
    have K1 := Lib.hid kk
    clear kk C
    go_wp2
    exact bodyPost_ret (results_tmp2 rfl _ _ _) rfl ⟨rfl, K1.out.trans (Kp.alloc _ _)⟩
theorem refLatest_any (v : Value) (l : List LF) (w : World) (hv : LeavesAt w v l) (hl : LsOk l) :
    Calls Tryz.prog 36 #[v] w fun e w' => e = .returned (.tuple #[.int .i64 (envF dGE max l).1, .int .i64 (envF dGE max l).2]) ∧ Kp w w' := by
  have C := Lib.hid (told_Latest v l w hv hl)
  generalize envF dGE max l = r at *
  obtain ⟨x, y⟩ := r
  clear hv hl
  go_enter Tryz.func36, Tryz.ntmps36
  go_wp2_with fail
  refine (C.out).mono ?_
  rintro e w' ⟨rfl, kk⟩
  go_wp2
  exact bodyPost_ret (results_tmp2 rfl _ _ _) rfl ⟨rfl, kk⟩
set_option maxHeartbeats 16000000 in
set_option maxRecDepth 100000 in
theorem eis_few (vl : Value) (l : List LF) (w : World) (rl : LeavesAt w vl l) (gl : ∀ f ∈ l, LeafG f) (T : Tabs w) (hf : fewL l = false) :
    Calls Tryz.prog 4 #[vl] w fun e w' => e = .returned (.bool true) ∧ Kp w w' := by
  have RFW := Lib.hid (fun w1 (kk : Kp w w1) => fewL_any vl l w1 (rl.kp kk))
  rw [hf] at RFW
  obtain ⟨adl, cal, rfl⟩ := rl.slice
  obtain ⟨W0, hW⟩ : ∃ W0, W0 = w := ⟨_, rfl⟩
  subst hW
  have K00 := Lib.hid (Kp.refl W0)
  have K0 := Lib.hid (Kp.refl W0)
  have AW := Lib.hid (fun w1 (kk : Kp W0 w1) => awake16 w1 (T.kp (K00.out.trans kk)))
  have FW := Lib.hid (fun w1 (kk : Kp W0 w1) => RFW.out w1 (K00.out.trans kk))
  clear rl gl T
  go_enter Tryz.func4, Tryz.ntmps4
  go_wp2_with fail
  refine (AW.out _ (by first | with_reducible exact K0.out | with_reducible exact K0.out.trans (Kp.alloc _ _) | with_reducible exact (K0.out.trans (Kp.alloc _ _)).trans (Kp.alloc _ _) | with_reducible exact ((K0.out.trans (Kp.alloc _ _)).trans (Kp.alloc _ _)).trans (Kp.alloc _ _) | with_reducible exact K0.out.trans (Kp.drew _) | with_reducible exact K0.out.trans (Kp.drewN _ _))).mono ?_
  rintro e w1 ⟨rfl, kk⟩
  have K1 := Lib.hid ((show Kp W0 _ from (by first | with_reducible exact K0.out | with_reducible exact K0.out.trans (Kp.alloc _ _) | with_reducible exact (K0.out.trans (Kp.alloc _ _)).trans (Kp.alloc _ _) | with_reducible exact ((K0.out.trans (Kp.alloc _ _)).trans (Kp.alloc _ _)).trans (Kp.alloc _ _) | with_reducible exact K0.out.trans (Kp.drew _) | with_reducible exact K0.out.trans (Kp.drewN _ _))).trans kk)
  clear kk
  go_wp2_with fail
  refine (FW.out _ (by first | with_reducible exact K1.out | with_reducible exact K1.out.trans (Kp.alloc _ _) | with_reducible exact (K1.out.trans (Kp.alloc _ _)).trans (Kp.alloc _ _) | with_reducible exact ((K1.out.trans (Kp.alloc _ _)).trans (Kp.alloc _ _)).trans (Kp.alloc _ _) | with_reducible exact K1.out.trans (Kp.drew _) | with_reducible exact K1.out.trans (Kp.drewN _ _))).mono ?_
  rintro e w2 ⟨rfl, kk⟩
  have K2 := Lib.hid ((show Kp W0 _ from (by first | with_reducible exact K1.out | with_reducible exact K1.out.trans (Kp.alloc _ _) | with_reducible exact (K1.out.trans (Kp.alloc _ _)).trans (Kp.alloc _ _) | with_reducible exact ((K1.out.trans (Kp.alloc _ _)).trans (Kp.alloc _ _)).trans (Kp.alloc _ _) | with_reducible exact K1.out.trans (Kp.drew _) | with_reducible exact K1.out.trans (Kp.drewN _ _))).trans kk)
  clear kk
  go_wp2
  go_ret
  exact ⟨rfl, K00.out.trans K2.out⟩
set_option maxHeartbeats 16000000 in
set_option maxRecDepth 100000 in
theorem eis_main (vl : Value) (l : List LF) (w : World) (rl : LeavesAt w vl l) (gl : ∀ f ∈ l, LeafG f) (T : Tabs w) (hf : fewL l = true) :
    Calls Tryz.prog 4 #[vl] w fun e w' => e = .returned (.bool true) ∧ Kp w w' := by
  have RFW := Lib.hid (fun w1 (kk : Kp w w1) => fewL_any vl l w1 (rl.kp kk))
  rw [hf] at RFW
  obtain ⟨hls, hn⟩ := fewL_ok hf gl
  have R0 := Lib.hid (fun w1 (kk : Kp w w1) => envEarliest_any vl l w1 (rl.kp kk) hls (T.kp kk))
  have Q0 := Lib.hid (fun w1 (kk : Kp w w1) => refEarliest_any vl l w1 (rl.kp kk) hls)
  generalize envF dLS min l = r0 at *
  obtain ⟨x0, y0⟩ := r0
  have ex0 : (x0 == x0) = true := by simp
  have ey0 : (y0 == y0) = true := by simp
  have R1 := Lib.hid (fun w1 (kk : Kp w w1) => envLatest_any vl l w1 (rl.kp kk) hls (T.kp kk))
  have Q1 := Lib.hid (fun w1 (kk : Kp w w1) => refLatest_any vl l w1 (rl.kp kk) hls)
  generalize envF dGE max l = r1 at *
  obtain ⟨x1, y1⟩ := r1
  have ex1 : (x1 == x1) = true := by simp
  have ey1 : (y1 == y1) = true := by simp
  have R2 := Lib.hid (fun w1 (kk : Kp w w1) => envFirstEnd_any vl l w1 (rl.kp kk) hls (T.kp kk))
  have Q2 := Lib.hid (fun w1 (kk : Kp w w1) => refFirstEnd_any vl l w1 (rl.kp kk) hls)
  generalize envF dLE min l = r2 at *
  obtain ⟨x2, y2⟩ := r2
  have ex2 : (x2 == x2) = true := by simp
  have ey2 : (y2 == y2) = true := by simp
  have R3 := Lib.hid (fun w1 (kk : Kp w w1) => envLastStart_any vl l w1 (rl.kp kk) hls (T.kp kk))
  have Q3 := Lib.hid (fun w1 (kk : Kp w w1) => refLastStart_any vl l w1 (rl.kp kk) hls)
  generalize envF dGS max l = r3 at *
  obtain ⟨x3, y3⟩ := r3
  have ex3 : (x3 == x3) = true := by simp
  have ey3 : (y3 == y3) = true := by simp
  obtain ⟨adl, cal, rfl⟩ := rl.slice
  obtain ⟨W0, hW⟩ : ∃ W0, W0 = w := ⟨_, rfl⟩
  subst hW
  have K00 := Lib.hid (Kp.refl W0)
  have K0 := Lib.hid (Kp.refl W0)
  have AW := Lib.hid (fun w1 (kk : Kp W0 w1) => awake16 w1 (T.kp (K00.out.trans kk)))
  have FW := Lib.hid (fun w1 (kk : Kp W0 w1) => RFW.out w1 (K00.out.trans kk))
  have C0 := Lib.hid (fun w1 (kk : Kp W0 w1) => R0.out w1 (K00.out.trans kk))
  have D0 := Lib.hid (fun w1 (kk : Kp W0 w1) => Q0.out w1 (K00.out.trans kk))
  have C1 := Lib.hid (fun w1 (kk : Kp W0 w1) => R1.out w1 (K00.out.trans kk))
  have D1 := Lib.hid (fun w1 (kk : Kp W0 w1) => Q1.out w1 (K00.out.trans kk))
  have C2 := Lib.hid (fun w1 (kk : Kp W0 w1) => R2.out w1 (K00.out.trans kk))
  have D2 := Lib.hid (fun w1 (kk : Kp W0 w1) => Q2.out w1 (K00.out.trans kk))
  have C3 := Lib.hid (fun w1 (kk : Kp W0 w1) => R3.out w1 (K00.out.trans kk))
  have D3 := Lib.hid (fun w1 (kk : Kp W0 w1) => Q3.out w1 (K00.out.trans kk))
  clear rl gl T RFW hls R0 R1 R2 R3 Q0 Q1 Q2 Q3
  go_enter Tryz.func4, Tryz.ntmps4
  go_wp2_with fail
  refine (AW.out _ (by first | with_reducible exact K0.out | with_reducible exact K0.out.trans (Kp.alloc _ _) | with_reducible exact (K0.out.trans (Kp.alloc _ _)).trans (Kp.alloc _ _) | with_reducible exact ((K0.out.trans (Kp.alloc _ _)).trans (Kp.alloc _ _)).trans (Kp.alloc _ _) | with_reducible exact K0.out.trans (Kp.drew _) | with_reducible exact K0.out.trans (Kp.drewN _ _))).mono ?_
  rintro e w1 ⟨rfl, kk⟩
  have K1 := Lib.hid ((show Kp W0 _ from (by first | with_reducible exact K0.out | with_reducible exact K0.out.trans (Kp.alloc _ _) | with_reducible exact (K0.out.trans (Kp.alloc _ _)).trans (Kp.alloc _ _) | with_reducible exact ((K0.out.trans (Kp.alloc _ _)).trans (Kp.alloc _ _)).trans (Kp.alloc _ _) | with_reducible exact K0.out.trans (Kp.drew _) | with_reducible exact K0.out.trans (Kp.drewN _ _))).trans kk)
  clear kk
  go_wp2_with fail
  refine (FW.out _ (by first | with_reducible exact K1.out | with_reducible exact K1.out.trans (Kp.alloc _ _) | with_reducible exact (K1.out.trans (Kp.alloc _ _)).trans (Kp.alloc _ _) | with_reducible exact ((K1.out.trans (Kp.alloc _ _)).trans (Kp.alloc _ _)).trans (Kp.alloc _ _) | with_reducible exact K1.out.trans (Kp.drew _) | with_reducible exact K1.out.trans (Kp.drewN _ _))).mono ?_
  rintro e w2 ⟨rfl, kk⟩
  have K2 := Lib.hid ((show Kp W0 _ from (by first | with_reducible exact K1.out | with_reducible exact K1.out.trans (Kp.alloc _ _) | with_reducible exact (K1.out.trans (Kp.alloc _ _)).trans (Kp.alloc _ _) | with_reducible exact ((K1.out.trans (Kp.alloc _ _)).trans (Kp.alloc _ _)).trans (Kp.alloc _ _) | with_reducible exact K1.out.trans (Kp.drew _) | with_reducible exact K1.out.trans (Kp.drewN _ _))).trans kk)
  clear kk
  go_wp2_with fail
  refine (C0.out _ (by first | with_reducible exact K2.out | with_reducible exact K2.out.trans (Kp.alloc _ _) | with_reducible exact (K2.out.trans (Kp.alloc _ _)).trans (Kp.alloc _ _) | with_reducible exact ((K2.out.trans (Kp.alloc _ _)).trans (Kp.alloc _ _)).trans (Kp.alloc _ _) | with_reducible exact K2.out.trans (Kp.drew _) | with_reducible exact K2.out.trans (Kp.drewN _ _))).mono ?_
  rintro e w3 ⟨rfl, kk⟩
  have K3 := Lib.hid ((show Kp W0 _ from (by first | with_reducible exact K2.out | with_reducible exact K2.out.trans (Kp.alloc _ _) | with_reducible exact (K2.out.trans (Kp.alloc _ _)).trans (Kp.alloc _ _) | with_reducible exact ((K2.out.trans (Kp.alloc _ _)).trans (Kp.alloc _ _)).trans (Kp.alloc _ _) | with_reducible exact K2.out.trans (Kp.drew _) | with_reducible exact K2.out.trans (Kp.drewN _ _))).trans kk)
  clear kk
  go_wp2_with fail
  refine (D0.out _ (by first | with_reducible exact K3.out | with_reducible exact K3.out.trans (Kp.alloc _ _) | with_reducible exact (K3.out.trans (Kp.alloc _ _)).trans (Kp.alloc _ _) | with_reducible exact ((K3.out.trans (Kp.alloc _ _)).trans (Kp.alloc _ _)).trans (Kp.alloc _ _) | with_reducible exact K3.out.trans (Kp.drew _) | with_reducible exact K3.out.trans (Kp.drewN _ _))).mono ?_
  rintro e w4 ⟨rfl, kk⟩
  have K4 := Lib.hid ((show Kp W0 _ from (by first | with_reducible exact K3.out | with_reducible exact K3.out.trans (Kp.alloc _ _) | with_reducible exact (K3.out.trans (Kp.alloc _ _)).trans (Kp.alloc _ _) | with_reducible exact ((K3.out.trans (Kp.alloc _ _)).trans (Kp.alloc _ _)).trans (Kp.alloc _ _) | with_reducible exact K3.out.trans (Kp.drew _) | with_reducible exact K3.out.trans (Kp.drewN _ _))).trans kk)
  clear kk
  go_wp2_with fail
  refine (C1.out _ (by first | with_reducible exact K4.out | with_reducible exact K4.out.trans (Kp.alloc _ _) | with_reducible exact (K4.out.trans (Kp.alloc _ _)).trans (Kp.alloc _ _) | with_reducible exact ((K4.out.trans (Kp.alloc _ _)).trans (Kp.alloc _ _)).trans (Kp.alloc _ _) | with_reducible exact K4.out.trans (Kp.drew _) | with_reducible exact K4.out.trans (Kp.drewN _ _))).mono ?_
  rintro e w5 ⟨rfl, kk⟩
  have K5 := Lib.hid ((show Kp W0 _ from (by first | with_reducible exact K4.out | with_reducible exact K4.out.trans (Kp.alloc _ _) | with_reducible exact (K4.out.trans (Kp.alloc _ _)).trans (Kp.alloc _ _) | with_reducible exact ((K4.out.trans (Kp.alloc _ _)).trans (Kp.alloc _ _)).trans (Kp.alloc _ _) | with_reducible exact K4.out.trans (Kp.drew _) | with_reducible exact K4.out.trans (Kp.drewN _ _))).trans kk)
  clear kk
  go_wp2_with fail
  refine (D1.out _ (by first | with_reducible exact K5.out | with_reducible exact K5.out.trans (Kp.alloc _ _) | with_reducible exact (K5.out.trans (Kp.alloc _ _)).trans (Kp.alloc _ _) | with_reducible exact ((K5.out.trans (Kp.alloc _ _)).trans (Kp.alloc _ _)).trans (Kp.alloc _ _) | with_reducible exact K5.out.trans (Kp.drew _) | with_reducible exact K5.out.trans (Kp.drewN _ _))).mono ?_
  rintro e w6 ⟨rfl, kk⟩
  have K6 := Lib.hid ((show Kp W0 _ from (by first | with_reducible exact K5.out | with_reducible exact K5.out.trans (Kp.alloc _ _) | with_reducible exact (K5.out.trans (Kp.alloc _ _)).trans (Kp.alloc _ _) | with_reducible exact ((K5.out.trans (Kp.alloc _ _)).trans (Kp.alloc _ _)).trans (Kp.alloc _ _) | with_reducible exact K5.out.trans (Kp.drew _) | with_reducible exact K5.out.trans (Kp.drewN _ _))).trans kk)
  clear kk
  go_wp2_with fail
  refine (C2.out _ (by first | with_reducible exact K6.out | with_reducible exact K6.out.trans (Kp.alloc _ _) | with_reducible exact (K6.out.trans (Kp.alloc _ _)).trans (Kp.alloc _ _) | with_reducible exact ((K6.out.trans (Kp.alloc _ _)).trans (Kp.alloc _ _)).trans (Kp.alloc _ _) | with_reducible exact K6.out.trans (Kp.drew _) | with_reducible exact K6.out.trans (Kp.drewN _ _))).mono ?_
  rintro e w7 ⟨rfl, kk⟩
  have K7 := Lib.hid ((show Kp W0 _ from (by first | with_reducible exact K6.out | with_reducible exact K6.out.trans (Kp.alloc _ _) | with_reducible exact (K6.out.trans (Kp.alloc _ _)).trans (Kp.alloc _ _) | with_reducible exact ((K6.out.trans (Kp.alloc _ _)).trans (Kp.alloc _ _)).trans (Kp.alloc _ _) | with_reducible exact K6.out.trans (Kp.drew _) | with_reducible exact K6.out.trans (Kp.drewN _ _))).trans kk)
  clear kk
  go_wp2_with fail
  refine (D2.out _ (by first | with_reducible exact K7.out | with_reducible exact K7.out.trans (Kp.alloc _ _) | with_reducible exact (K7.out.trans (Kp.alloc _ _)).trans (Kp.alloc _ _) | with_reducible exact ((K7.out.trans (Kp.alloc _ _)).trans (Kp.alloc _ _)).trans (Kp.alloc _ _) | with_reducible exact K7.out.trans (Kp.drew _) | with_reducible exact K7.out.trans (Kp.drewN _ _))).mono ?_
  rintro e w8 ⟨rfl, kk⟩
  have K8 := Lib.hid ((show Kp W0 _ from (by first | with_reducible exact K7.out | with_reducible exact K7.out.trans (Kp.alloc _ _) | with_reducible exact (K7.out.trans (Kp.alloc _ _)).trans (Kp.alloc _ _) | with_reducible exact ((K7.out.trans (Kp.alloc _ _)).trans (Kp.alloc _ _)).trans (Kp.alloc _ _) | with_reducible exact K7.out.trans (Kp.drew _) | with_reducible exact K7.out.trans (Kp.drewN _ _))).trans kk)
  clear kk
  go_wp2_with fail
  refine (C3.out _ (by first | with_reducible exact K8.out | with_reducible exact K8.out.trans (Kp.alloc _ _) | with_reducible exact (K8.out.trans (Kp.alloc _ _)).trans (Kp.alloc _ _) | with_reducible exact ((K8.out.trans (Kp.alloc _ _)).trans (Kp.alloc _ _)).trans (Kp.alloc _ _) | with_reducible exact K8.out.trans (Kp.drew _) | with_reducible exact K8.out.trans (Kp.drewN _ _))).mono ?_
  rintro e w9 ⟨rfl, kk⟩
  have K9 := Lib.hid ((show Kp W0 _ from (by first | with_reducible exact K8.out | with_reducible exact K8.out.trans (Kp.alloc _ _) | with_reducible exact (K8.out.trans (Kp.alloc _ _)).trans (Kp.alloc _ _) | with_reducible exact ((K8.out.trans (Kp.alloc _ _)).trans (Kp.alloc _ _)).trans (Kp.alloc _ _) | with_reducible exact K8.out.trans (Kp.drew _) | with_reducible exact K8.out.trans (Kp.drewN _ _))).trans kk)
  clear kk
  go_wp2_with fail
  refine (D3.out _ (by first | with_reducible exact K9.out | with_reducible exact K9.out.trans (Kp.alloc _ _) | with_reducible exact (K9.out.trans (Kp.alloc _ _)).trans (Kp.alloc _ _) | with_reducible exact ((K9.out.trans (Kp.alloc _ _)).trans (Kp.alloc _ _)).trans (Kp.alloc _ _) | with_reducible exact K9.out.trans (Kp.drew _) | with_reducible exact K9.out.trans (Kp.drewN _ _))).mono ?_
  rintro e w10 ⟨rfl, kk⟩
  have K10 := Lib.hid ((show Kp W0 _ from (by first | with_reducible exact K9.out | with_reducible exact K9.out.trans (Kp.alloc _ _) | with_reducible exact (K9.out.trans (Kp.alloc _ _)).trans (Kp.alloc _ _) | with_reducible exact ((K9.out.trans (Kp.alloc _ _)).trans (Kp.alloc _ _)).trans (Kp.alloc _ _) | with_reducible exact K9.out.trans (Kp.drew _) | with_reducible exact K9.out.trans (Kp.drewN _ _))).trans kk)
  clear kk
  go_wp2
  go_ret
  exact ⟨rfl, K00.out.trans K10.out⟩
theorem envIs_walk (vl : Value) (l : List LF) (w : World) (rl : LeavesAt w vl l) (gl : ∀ f ∈ l, LeafG f) (T : Tabs w) :
    Calls Tryz.prog 4 #[vl] w fun e w' => e = .returned (.bool true) ∧ Kp w w' := by
  rcases Bool.eq_false_or_eq_true (fewL l) with hf | hf
  · exact eis_main vl l w rl gl T hf
  · exact eis_few vl l w rl gl T hf
end Go.Proofs.YtfphmhdgnokopaaGreatDoor

namespace Go.Proofs.YtfphmhdgnokopaaGreatDoor
open Go.RowKit
set_option linter.unusedVariables false
set_option linter.unusedSimpArgs false
set_option maxHeartbeats 16000000 in
set_option maxRecDepth 100000 in
theorem refCovers_e (f : LF) (va vb : Value) (d : Int) (w : World) (h : LeafOk w f va vb) (h0 : emptyF (famR f) = true) :
    Calls Tryz.prog 24 #[leafV f va vb, .int .i64 d] w fun e w' => e = .returned (.bool false) ∧ Kp w w' := by
  have C := Lib.hid (fun w1 (kk : Kp w w1) => refTidy_any f va vb w1 (h.kp kk))
  rw [lfOf_none h0] at C
  clear h0
  simp only [lf0] at C
  obtain ⟨sp, u, a, b⟩ := f
  obtain ⟨ad, ca, rfl⟩ := h.a.slice
  obtain ⟨bd, cb, rfl⟩ := h.b.slice
  simp only [leafV] at C ⊢
  have K0 := Lib.hid (Kp.alloc w (.cells #[.bool sp, .int .i64 u, .slice ad a.length ca, .slice bd b.length cb] 24))
  clear h
  go_enter Tryz.func24, Tryz.ntmps24
  go_wp2_with fail
  refine (C.out _ K0.out).mono ?_
  rintro e w1 ⟨ga, gb, rfl, okg, kk⟩
  have K1 := Lib.hid (K0.out.trans kk)
  clear kk C
  obtain ⟨aa, c1, e1⟩ := okg.a.slice
  obtain ⟨ab, c2, e2⟩ := okg.b.slice
  simp only [List.length_nil] at e1 e2
  subst e1 e2
  obtain ⟨V, hV⟩ : ∃ x, x = w1.alloc (.cells #[.bool false, .int .i64 0, .slice aa 0 c1, .slice ab 0 c2] 24) := ⟨_, rfl⟩
  have ka : Kp w1 V := by rw [hV]; exact Kp.alloc _ _
  have hgq : V.heap[w1.heap.size]? = some (.cells #[.bool false, .int .i64 0, .slice aa 0 c1, .slice ab 0 c2] 24 (0, 0)) := by rw [hV]; exact heap_at _ _ _ rfl
  have g0 : V.cell? ⟨w1.heap.size, 0, none⟩ = some (.bool false) := by simp [World.cell?, hgq]
  have g1 : V.cell? ⟨w1.heap.size, 1, none⟩ = some (.int .i64 0) := by simp [World.cell?, hgq]
  have g2 : V.cell? ⟨w1.heap.size, 2, none⟩ = some (.slice aa 0 c1) := by simp [World.cell?, hgq]
  have g3 : V.cell? ⟨w1.heap.size, 3, none⟩ = some (.slice ab 0 c2) := by simp [World.cell?, hgq]
  have HB := Lib.hid (fun w' (kq : Kp V w') => show w'.cell? ⟨w1.heap.size, 0, none⟩ = some (.bool false) ∧ w'.cell? ⟨w1.heap.size, 1, none⟩ = some (.int .i64 0) ∧ w'.cell? ⟨w1.heap.size, 2, none⟩ = some (.slice aa 0 c1) ∧ w'.cell? ⟨w1.heap.size, 3, none⟩ = some (.slice ab 0 c2) from ⟨cell_up kq g0, cell_up kq g1, cell_up kq g2, cell_up kq g3⟩)
  have KV := Lib.hid (K1.out.trans ka)
  have KA := Lib.hid ka
  have HV := Lib.hid hV
  have OKV := Lib.hid (okg.kp ka)
  have ZV := Lib.hid (Kp.refl V)
  clear hV ka hgq g0 g1 g2 g3 okg
  go_wp2_with fail
  rw [← HV.out]
  obtain ⟨cf0, cf1, cf2, cf3⟩ := HB.out V (Kp.refl _)
  go_wp2
  go_ret
  exact ⟨rfl, KV.out⟩
set_option maxHeartbeats 16000000 in
set_option maxRecDepth 100000 in
theorem refCovers_u (k : Int) (s : List R) (f : LF) (va vb : Value) (d : Int) (w : World) (h : LeafOk w f va vb) (hf : famR f = .units k s) (h1 : ¬ s.length = 0) (d1 : -9223372036854775808 ≤ d) (d2 : d ≤ 9223372036854775807) :
    Calls Tryz.prog 24 #[leafV f va vb, .int .i64 d] w fun e w' => e = .returned (.bool (okO k d && hasB s (ofV k d))) ∧ Kp w w' := by
  have C := Lib.hid (fun w1 (kk : Kp w w1) => refTidy_any f va vb w1 (h.kp kk))
  have hF := famR_ok f
  rw [hf] at C hF
  rw [lfOf_u1 h1] at C
  have ss := setB_sane hF
  have CO := Lib.hid (fun w1 => rof_any k d w1 d1 d2)
  have CH := Lib.hid (fun ad c w1 (r : RunsAt w1 (.slice ad s.length c) s) (ii : I64R s) (hn : s.length ≤ 1000) => rhas_of (.slice ad s.length c) s (ofV k d) w1 (by have := asR_any _ s w1 r ii (by omega); rwa [nf_of_sane ss] at this) ss (by omega))
  generalize okO k d = q at *
  generalize ofV k d = i at *
  generalize hasB s i = z at *
  clear hf hF ss
  obtain ⟨sp, u, a, b⟩ := f
  obtain ⟨ad, ca, rfl⟩ := h.a.slice
  obtain ⟨bd, cb, rfl⟩ := h.b.slice
  simp only [leafV] at C ⊢
  have K0 := Lib.hid (Kp.alloc w (.cells #[.bool sp, .int .i64 u, .slice ad a.length ca, .slice bd b.length cb] 24))
  clear h
  go_enter Tryz.func24, Tryz.ntmps24
  go_wp2_with fail
  refine (C.out _ K0.out).mono ?_
  rintro e w1 ⟨ga, gb, rfl, okg, kk⟩
  have K1 := Lib.hid (K0.out.trans kk)
  clear kk C
  obtain ⟨aa, c1, e1⟩ := okg.a.slice
  obtain ⟨ab, c2, e2⟩ := okg.b.slice
  simp only [List.length_nil] at e1 e2
  subst e1 e2
  have na := okg.na
  simp only at na
  have q0 : ((s.length : Int) == 0) = false := beq_eq_false_iff_ne.2 (by omega)
  obtain ⟨V, hV⟩ : ∃ x, x = w1.alloc (.cells #[.bool false, .int .i64 k, .slice aa s.length c1, .slice ab 0 c2] 24) := ⟨_, rfl⟩
  have ka : Kp w1 V := by rw [hV]; exact Kp.alloc _ _
  have hgq : V.heap[w1.heap.size]? = some (.cells #[.bool false, .int .i64 k, .slice aa s.length c1, .slice ab 0 c2] 24 (0, 0)) := by rw [hV]; exact heap_at _ _ _ rfl
  have g0 : V.cell? ⟨w1.heap.size, 0, none⟩ = some (.bool false) := by simp [World.cell?, hgq]
  have g1 : V.cell? ⟨w1.heap.size, 1, none⟩ = some (.int .i64 k) := by simp [World.cell?, hgq]
  have g2 : V.cell? ⟨w1.heap.size, 2, none⟩ = some (.slice aa s.length c1) := by simp [World.cell?, hgq]
  have g3 : V.cell? ⟨w1.heap.size, 3, none⟩ = some (.slice ab 0 c2) := by simp [World.cell?, hgq]
  have HB := Lib.hid (fun w' (kq : Kp V w') => show w'.cell? ⟨w1.heap.size, 0, none⟩ = some (.bool false) ∧ w'.cell? ⟨w1.heap.size, 1, none⟩ = some (.int .i64 k) ∧ w'.cell? ⟨w1.heap.size, 2, none⟩ = some (.slice aa s.length c1) ∧ w'.cell? ⟨w1.heap.size, 3, none⟩ = some (.slice ab 0 c2) from ⟨cell_up kq g0, cell_up kq g1, cell_up kq g2, cell_up kq g3⟩)
  have KV := Lib.hid (K1.out.trans ka)
  have KA := Lib.hid ka
  have HV := Lib.hid hV
  have OKV := Lib.hid (okg.kp ka)
  have ZV := Lib.hid (Kp.refl V)
  clear hV ka hgq g0 g1 g2 g3 okg
  go_wp2_with fail
  rw [← HV.out]
  obtain ⟨cf0, cf1, cf2, cf3⟩ := HB.out V (Kp.refl _)
  cases q with
  | false =>
    refine (CO.out _).mono ?_
    rintro e w' ⟨rfl, rfl⟩
    go_wp2
    go_ret
    exact ⟨rfl, KV.out⟩
  | true =>
    refine (CO.out _).mono ?_
    rintro e w' ⟨rfl, rfl⟩
    go_wp2_with fail
    refine (CH.out _ _ _ (OKV.out.a.kp (by first | with_reducible exact ZV.out | with_reducible exact ZV.out.trans (Kp.alloc _ _) | with_reducible exact (ZV.out.trans (Kp.alloc _ _)).trans (Kp.alloc _ _) | with_reducible exact ((ZV.out.trans (Kp.alloc _ _)).trans (Kp.alloc _ _)).trans (Kp.alloc _ _) | with_reducible exact ZV.out.trans (Kp.drew _) | with_reducible exact ZV.out.trans (Kp.drewN _ _))) OKV.out.ia na).mono ?_
    rintro e w2 ⟨rfl, kk⟩
    have K2 := Lib.hid (KV.out.trans ((show Kp V _ from (by first | with_reducible exact ZV.out | with_reducible exact ZV.out.trans (Kp.alloc _ _) | with_reducible exact (ZV.out.trans (Kp.alloc _ _)).trans (Kp.alloc _ _) | with_reducible exact ((ZV.out.trans (Kp.alloc _ _)).trans (Kp.alloc _ _)).trans (Kp.alloc _ _) | with_reducible exact ZV.out.trans (Kp.drew _) | with_reducible exact ZV.out.trans (Kp.drewN _ _))).trans kk))
    go_wp2
    go_ret
    exact ⟨rfl, K2.out⟩
set_option maxHeartbeats 16000000 in
set_option maxRecDepth 100000 in
theorem refCovers_s (s t : List R) (f : LF) (va vb : Value) (d : Int) (w : World) (h : LeafOk w f va vb) (hf : famR f = .span s t) (h1 : ¬ s.length = 0) (d1 : -9223372036854775808 ≤ d) (d2 : d ≤ 9223372036854775807) :
    Calls Tryz.prog 24 #[leafV f va vb, .int .i64 d] w fun e w' => e = .returned (.bool (decide (leastR s ≤ d) && decide (d ≤ greatR t))) ∧ Kp w w' := by
  have C := Lib.hid (fun w1 (kk : Kp w w1) => refTidy_any f va vb w1 (h.kp kk))
  have hF := famR_ok f
  rw [hf] at C hF
  rw [lfOf_s1 h1] at C
  have l1 : 0 < t.length := by
    obtain ⟨m, hm, _⟩ := hF.2.2.1 _ (least_mem (setB_sane hF.1) (by omega))
    exact mem_pos hm
  obtain ⟨q1, hq1⟩ : ∃ q, decide (leastR s ≤ d) = q := ⟨_, rfl⟩
  obtain ⟨q2, hq2⟩ : ∃ q, decide (d ≤ greatR t) = q := ⟨_, rfl⟩
  rw [hq1, hq2]
  clear hf hF
  obtain ⟨sp, u, a, b⟩ := f
  obtain ⟨ad, ca, rfl⟩ := h.a.slice
  obtain ⟨bd, cb, rfl⟩ := h.b.slice
  simp only [leafV] at C ⊢
  have K0 := Lib.hid (Kp.alloc w (.cells #[.bool sp, .int .i64 u, .slice ad a.length ca, .slice bd b.length cb] 24))
  clear h
  go_enter Tryz.func24, Tryz.ntmps24
  go_wp2_with fail
  refine (C.out _ K0.out).mono ?_
  rintro e w1 ⟨ga, gb, rfl, okg, kk⟩
  have K1 := Lib.hid (K0.out.trans kk)
  clear kk C
  obtain ⟨ba, oa, c1, ev, x0, x1⟩ := ends_at okg.a (by simp only; omega)
  simp only at ev x0 x1
  subst ev
  obtain ⟨bb, ob, c2, ev, y0, y1⟩ := ends_at okg.b (by simp only; omega)
  simp only at ev y0 y1
  subst ev
  have na := okg.na
  have nb := okg.nb
  simp only at na nb
  have q0 : ((s.length : Int) == 0) = false := beq_eq_false_iff_ne.2 (by omega)
  have wz : 0 < s.length := by omega
  have wt : (t.length : Int) - 1 = ((t.length - 1 : Nat) : Int) := by omega
  have wu : IntKind.i64.wrap ((t.length - 1 : Nat) : Int) = ((t.length - 1 : Nat) : Int) := IntWalk.i64_in _ (by omega)
  have wx : t.length - 1 < t.length := by omega
  have wy : ((t.length - 1 : Nat) : Int) < (t.length : Int) := by omega
  have wv : (0 : Int) ≤ ((t.length - 1 : Nat) : Int) := by omega
  have za := World.block_lt_of_cell? w1 _ x0
  have zb := World.block_lt_of_cell? w1 _ y1
  have za' : ¬ ba = w1.heap.size := by simp at za; omega
  have zb' : ¬ bb = w1.heap.size := by simp at zb; omega
  clear x1 y0 h1 okg
  generalize leastR s = x at *
  generalize greatR t = y at *
  cases q1 <;> cases q2
  all_goals
    go_wp2
    go_ret
    exact ⟨rfl, K1.out.trans (Kp.alloc _ _)⟩
theorem refCovers_any (f : LF) (va vb : Value) (d : Int) (w : World) (h : LeafOk w f va vb) (d1 : -9223372036854775808 ≤ d) (d2 : d ≤ 9223372036854775807) :
    Calls Tryz.prog 24 #[leafV f va vb, .int .i64 d] w fun e w' => e = .returned (.bool (coversF (famR f) d)) ∧ Kp w w' := by
  rcases Bool.eq_false_or_eq_true (emptyF (famR f)) with h0 | h0
  · have e : coversF (famR f) d = false := by
      rw [Bool.eq_false_iff]
      intro c
      obtain ⟨S, T, m, _⟩ := (covers_iff (famR_ok f) d).1 c
      rw [(empty_iff (famR_ok f)).1 h0 S T] at m
      cases m
    rw [e]
    exact refCovers_e f va vb d w h h0
  · cases hf : famR f with
    | units k s =>
      rw [hf] at h0
      exact refCovers_u k s f va vb d w h hf (of_decide_eq_false h0) d1 d2
    | span s t =>
      rw [hf] at h0
      have h1 : decide (s.length = 0) = false := h0
      have e2 : coversF (.span s t) d = (!decide (s.length = 0) && (decide (leastR s ≤ d) && decide (d ≤ greatR t))) := rfl
      have e : coversF (.span s t) d = (decide (leastR s ≤ d) && decide (d ≤ greatR t)) := by rw [e2, h1]; rfl
      rw [e]
      exact refCovers_s s t f va vb d w h hf (of_decide_eq_false h0) d1 d2
end Go.Proofs.YtfphmhdgnokopaaGreatDoor

namespace Go.Proofs.YtfphmhdgnokopaaGreatDoor
open Go.RowKit
set_option linter.unusedVariables false
set_option linter.unusedSimpArgs false
theorem cerB_eq (l : List LF) (d : Int) : cerB l d = (anyB l && (decide ((envF dGS max l).1 ≤ d) && decide (d ≤ (envF dLE min l).1))) := by
  rcases Bool.eq_false_or_eq_true (anyB l) with h | h
  · unfold cerB
    rw [h, Bool.true_and, Bool.true_and, Bool.eq_iff_iff, has_mem (sureR_sane l), sureR_mem h]
    simp
  · rw [cerB_none h, h]; rfl
theorem sureR_eq {l : List LF} (h : anyB l = true) : sureR l = if (envF dLE min l).1 < (envF dGS max l).1 then [] else [((envF dGS max l).1, (envF dLE min l).1)] := by
  have b := env_days h
  unfold sureR
  rw [if_pos h]
  split
  · next c =>
    refine nf_eq trivial fun n => ?_
    rw [memR_one]
    constructor
    · intro m; exact absurd m (memR_nil n)
    · intro m; omega
  · next c => exact nf_of_sane ⟨⟨by simp only; omega, by simp only; omega, by simp only; omega⟩, trivial, trivial⟩
noncomputable def preR (l : List LF) (k : Nat) : List R := nf (allR ((l.take k).filter fullB))
theorem preR_no {l : List LF} {k : Nat} (h : k < l.length) (g : fullB (lat l k) = false) : preR l (k + 1) = preR l k := by
  unfold preR; rw [filter_no h g]
theorem preR_yes {l : List LF} {k : Nat} (h : k < l.length) (g : fullB (lat l k) = true) : nf (preR l k ++ dayR (famR (lat l k))) = preR l (k + 1) := by
  unfold preR; rw [filter_yes h g, allR_snoc, nf_left]
theorem preR_all (l : List LF) : preR l l.length = posR l := by unfold preR posR; rw [List.take_length]
theorem preR_len {l : List LF} (h : LsOk l) (k : Nat) : (preR l k).length ≤ 1000 * l.length := by
  have h2 : LsOk ((l.take k).filter fullB) := fun f hf => h f (List.mem_of_mem_take (List.mem_filter.1 hf).1)
  have a := allR_len h2
  have b := List.length_filter_le fullB (l.take k)
  have c : (l.take k).length ≤ l.length := List.length_take_le' k l
  have e := nf_len (allR ((l.take k).filter fullB))
  unfold preR
  omega
theorem one_at2 (w : World) (o : Obj) (lo hi' : Int) (t : TypeId) : RunsAt ((w.alloc o).alloc (.cells #[.int .i64 lo, .int .i64 hi'] t)) (.slice (some ⟨w.heap.size + 1, 0, none⟩) 1 1) [(lo, hi')] := by
  have := one_at (w.alloc o) lo hi' t
  simpa using this
set_option maxHeartbeats 16000000 in
set_option maxRecDepth 100000 in
theorem refPossible_any (v : Value) (l : List LF) (d : Int) (w : World) (hv : LeavesAt w v l) (hl : LsOk l) (hd1 : -9223372036854775808 ≤ d) (hd2 : d ≤ 9223372036854775807) :
    Calls Tryz.prog 47 #[v, .int .i64 d] w fun e w' => e = .returned (.bool (posB l d)) ∧ Kp w w' := by
  have hm := hv.len
  unfold maxLen at hm
  obtain ⟨ad, cp, rfl⟩ := hv.slice
  have HV := Lib.hid hv
  have HL := Lib.hid hl
  have NO := Lib.hid (fun h => any_no (F := fun f => coversF (famR f) d) (l := l) h)
  have YES := Lib.hid (fun k (h : k < l.length) g => any_yes (F := fun f => coversF (famR f) d) h g)
  rw [show (l.any fun f => coversF (famR f) d) = posB l d from rfl] at NO YES
  have Z0 := Lib.hid (Kp.refl w)
  clear hv hl
  generalize posB l d = r at *
  go_enter Tryz.func47, Tryz.ntmps47
  go_wp2
  go_loopw [5] (fun i wr => ∃ k : Nat, k ≤ l.length ∧ i = .int .i64 k ∧ Hid (∀ i, i < k → coversF (famR (lat l i)) d = false) ∧ Hid (Kp w wr)) (fun i _ => l.length - (intOf i).toNat)
  case atStart => exact ⟨0, Nat.zero_le _, rfl, Lib.hid (fun i h => by omega), Z0⟩
  case round =>
    obtain ⟨k, hk, rfl, FA, J⟩ := hrel
    by_cases hlt : k < l.length
    · rcases HV.out.kp J.out with ⟨_, _, _, e⟩ | ⟨b0, off, cap, ev, hc, hmx, hx⟩
      · rw [e] at hlt; simp at hlt
      cases ev
      obtain ⟨va, vb, d0, d1, d2, d3, ra, rb⟩ := hx k hlt
      have LOK := HL.out _ (lat_mem hlt)
      obtain ⟨f, hf⟩ : ∃ f, lat l k = f := ⟨_, rfl⟩
      rw [hf] at d0 d1 ra rb
      (try rw [hf] at LOK)
      obtain ⟨sp, u, a, b⟩ := f
      simp only at d0 d1 ra rb
      (try simp only at LOK)
      obtain ⟨aa, ca, rfl⟩ := ra.slice
      obtain ⟨ab, cb, rfl⟩ := rb.slice
      have HF := Lib.hid hf
      have z1 : (k : Int) < (l.length : Int) := by omega
      have z2 : (0 : Int) ≤ (k : Int) := by omega
      clear hx hc hmx hf
      have ok : LeafOk wr ⟨sp, u, a, b⟩ _ _ := ⟨ra, rb, LOK.1, LOK.2.1, LOK.2.2.1, LOK.2.2.2⟩
      have C := Lib.hid (fun w1 (kk : Kp wr w1) => refCovers_any ⟨sp, u, a, b⟩ _ _ d w1 (ok.kp kk) hd1 hd2)
      simp only [leafV] at C
      have N := Lib.hid (fun (g : coversF (famR ⟨sp, u, a, b⟩) d = false) => (by rw [HF.out]; exact g : coversF (famR (lat l k)) d = false))
      have Y := Lib.hid (fun g => YES.out k hlt (show coversF (famR (lat l k)) d = true by rw [HF.out]; exact g))
      generalize coversF (famR ⟨sp, u, a, b⟩) d = fb at *
      have KR := Lib.hid (Kp.refl wr)
      clear ra rb ok
      cases fb with
      | true =>
        have hr := Y.out (by first | rfl | trivial)
        subst hr
        go_wp2_with fail
        refine (C.out _ (by first | with_reducible exact KR.out | with_reducible exact KR.out.trans (Kp.alloc _ _) | with_reducible exact (KR.out.trans (Kp.alloc _ _)).trans (Kp.alloc _ _) | with_reducible exact ((KR.out.trans (Kp.alloc _ _)).trans (Kp.alloc _ _)).trans (Kp.alloc _ _) | with_reducible exact KR.out.trans (Kp.drew _) | with_reducible exact KR.out.trans (Kp.drewN _ _))).mono ?_
        rintro e w1 ⟨rfl, kk⟩
        have J1 := Lib.hid (J.out.trans ((show Kp wr _ from (by first | with_reducible exact KR.out | with_reducible exact KR.out.trans (Kp.alloc _ _) | with_reducible exact (KR.out.trans (Kp.alloc _ _)).trans (Kp.alloc _ _) | with_reducible exact ((KR.out.trans (Kp.alloc _ _)).trans (Kp.alloc _ _)).trans (Kp.alloc _ _) | with_reducible exact KR.out.trans (Kp.drew _) | with_reducible exact KR.out.trans (Kp.drewN _ _))).trans kk))
        go_wp2
        go_ret
        exact ⟨rfl, J1.out⟩
      | false =>
        go_wp2_with fail
        refine (C.out _ (by first | with_reducible exact KR.out | with_reducible exact KR.out.trans (Kp.alloc _ _) | with_reducible exact (KR.out.trans (Kp.alloc _ _)).trans (Kp.alloc _ _) | with_reducible exact ((KR.out.trans (Kp.alloc _ _)).trans (Kp.alloc _ _)).trans (Kp.alloc _ _) | with_reducible exact KR.out.trans (Kp.drew _) | with_reducible exact KR.out.trans (Kp.drewN _ _))).mono ?_
        rintro e w1 ⟨rfl, kk⟩
        have J1 := Lib.hid (J.out.trans ((show Kp wr _ from (by first | with_reducible exact KR.out | with_reducible exact KR.out.trans (Kp.alloc _ _) | with_reducible exact (KR.out.trans (Kp.alloc _ _)).trans (Kp.alloc _ _) | with_reducible exact ((KR.out.trans (Kp.alloc _ _)).trans (Kp.alloc _ _)).trans (Kp.alloc _ _) | with_reducible exact KR.out.trans (Kp.drew _) | with_reducible exact KR.out.trans (Kp.drewN _ _))).trans kk))
        clear kk
        go_wp2
        go_roundw
        case rel => exact ⟨k + 1, by omega, by go_num, Lib.hid (fun i hi => by
          by_cases c : i < k
          · exact FA.out i c
          · obtain rfl : i = k := by omega
            exact N.out (by first | rfl | trivial)), J1⟩
        case measure => simp [intOf]; omega
    · obtain rfl : k = l.length := by omega
      have hr := NO.out FA.out
      subst hr
      go_wp2
      go_ret
      exact ⟨rfl, J.out⟩
set_option maxHeartbeats 16000000 in
set_option maxRecDepth 100000 in
theorem refCertain_any (v : Value) (l : List LF) (d : Int) (w : World) (hv : LeavesAt w v l) (hl : LsOk l) :
    Calls Tryz.prog 49 #[v, .int .i64 d] w fun e w' => e = .returned (.bool (cerB l d)) ∧ Kp w w' := by
  have C := Lib.hid (refAll_any v l w hv hl)
  rw [envAN_all, envST_all] at C
  simp only at C
  rw [cerB_eq]
  generalize (envF dLS min l).1 = x0 at *
  generalize (envF dGS max l).1 = x1 at *
  generalize (envF dLE min l).1 = x2 at *
  generalize (envF dGE max l).1 = x3 at *
  generalize anyB l = q at *
  clear hv hl
  obtain ⟨q1, hq1⟩ : ∃ q, decide (x1 ≤ d) = q := ⟨_, rfl⟩
  obtain ⟨q2, hq2⟩ : ∃ q, decide (d ≤ x2) = q := ⟨_, rfl⟩
  rw [hq1, hq2]
  cases q <;> cases q1 <;> cases q2
  all_goals
    go_enter Tryz.func49, Tryz.ntmps49
    go_wp2_with fail
    refine (C.out).mono ?_
    rintro e w1 ⟨rfl, kk⟩
    have K1 := Lib.hid kk
    clear kk C
    go_wp2
    go_ret
    exact ⟨rfl, K1.out.trans (Kp.alloc _ _)⟩
set_option maxHeartbeats 16000000 in
set_option maxRecDepth 100000 in
theorem refSure_any (v : Value) (l : List LF) (w : World) (hv : LeavesAt w v l) (hl : LsOk l) :
    Calls Tryz.prog 45 #[v] w fun e w' => ∃ v' : Value, e = .returned (.tuple #[v', .int .i64 (if anyB l = true then 0 else 9)]) ∧ RunsAt w' v' (sureR l) ∧ Kp w w' := by
  have C := Lib.hid (refAll_any v l w hv hl)
  rw [envAN_all, envST_all] at C
  simp only at C
  rcases Bool.eq_false_or_eq_true (anyB l) with ha | ha
  · rw [if_pos ha, sureR_eq ha]
    rw [ha] at C
    generalize (envF dLS min l).1 = x0 at *
    generalize (envF dGS max l).1 = x1 at *
    generalize (envF dLE min l).1 = x2 at *
    generalize (envF dGE max l).1 = x3 at *
    clear hv hl ha
    by_cases h : x2 < x1
    · rw [if_pos h]
      have hd : decide (x2 < x1) = true := decide_eq_true h
      clear h
      go_enter Tryz.func45, Tryz.ntmps45
      go_wp2_with fail
      refine (C.out).mono ?_
      rintro e w1 ⟨rfl, kk⟩
      have K1 := Lib.hid kk
      clear kk C
      go_wp2
      exact bodyPost_ret (results_tmp2 rfl _ _ _) rfl ⟨_, rfl, .inl ⟨_, _, rfl, rfl⟩, K1.out.trans (Kp.alloc _ _)⟩
    · rw [if_neg h]
      have hd : decide (x2 < x1) = false := decide_eq_false h
      clear h
      go_enter Tryz.func45, Tryz.ntmps45
      go_wp2_with fail
      refine (C.out).mono ?_
      rintro e w1 ⟨rfl, kk⟩
      have K1 := Lib.hid kk
      clear kk C
      go_wp2
      exact bodyPost_ret (results_tmp2 rfl _ _ _) rfl ⟨_, rfl, by first | exact one_at _ x1 x2 _ | exact one_at2 _ _ x1 x2 _, K1.out.trans ((Kp.alloc _ _).trans (Kp.alloc _ _))⟩
  · rw [if_neg (by rw [ha]; decide), sureR_none ha]
    rw [ha] at C
    generalize (envF dLS min l).1 = x0 at *
    generalize (envF dGS max l).1 = x1 at *
    generalize (envF dLE min l).1 = x2 at *
    generalize (envF dGE max l).1 = x3 at *
    clear hv hl ha
    go_enter Tryz.func45, Tryz.ntmps45
    go_wp2_with fail
    refine (C.out).mono ?_
    rintro e w1 ⟨rfl, kk⟩
    have K1 := Lib.hid kk
    clear kk C
    go_wp2
    exact bodyPost_ret (results_tmp2 rfl _ _ _) rfl ⟨_, rfl, .inl ⟨_, _, rfl, rfl⟩, K1.out.trans (Kp.alloc _ _)⟩
end Go.Proofs.YtfphmhdgnokopaaGreatDoor

namespace Go.Proofs.YtfphmhdgnokopaaGreatDoor
open Go.RowKit
set_option linter.unusedVariables false
set_option linter.unusedSimpArgs false
abbrev rD0 : Oper := { dst := some 30, op := Go.Op.fieldAddr 24 (Go.Operand.tmp 6) 2, type := 0, pos := "ref.go:38", after := #[], guard := none }
abbrev rD1 : Oper := { dst := some 31, op := Go.Op.load 22 (Go.Operand.tmp 30), type := 22, pos := "ref.go:38", after := #[{ on := 0, ground := Go.Ground.data }], guard := none }
abbrev rD2 : Oper := { dst := some 32, op := Go.Op.indexAddr 22 (Go.Operand.tmp 31) (Go.Operand.const (Go.Value.int Go.IntKind.i64 0)), type := 0, pos := "ref.go:38", after := #[{ on := 1, ground := Go.Ground.data }], guard := none }
abbrev rD3 : Oper := { dst := some 33, op := Go.Op.fieldAddr 51 (Go.Operand.tmp 32) 0, type := 0, pos := "ref.go:38", after := #[{ on := 2, ground := Go.Ground.data }], guard := none }
abbrev rD4 : Oper := { dst := some 34, op := Go.Op.load 3 (Go.Operand.tmp 33), type := 3, pos := "ref.go:38", after := #[{ on := 3, ground := Go.Ground.data }], guard := none }
abbrev rD5 : Oper := { dst := some 35, op := Go.Op.fieldAddr 24 (Go.Operand.tmp 6) 3, type := 0, pos := "ref.go:38", after := #[], guard := none }
abbrev rD6 : Oper := { dst := some 36, op := Go.Op.load 22 (Go.Operand.tmp 35), type := 22, pos := "ref.go:38", after := #[{ on := 5, ground := Go.Ground.data }], guard := none }
abbrev rD7 : Oper := { dst := some 37, op := Go.Op.fieldAddr 24 (Go.Operand.tmp 6) 3, type := 0, pos := "ref.go:38", after := #[], guard := none }
abbrev rD8 : Oper := { dst := some 38, op := Go.Op.load 22 (Go.Operand.tmp 37), type := 22, pos := "ref.go:38", after := #[{ on := 7, ground := Go.Ground.data }], guard := none }
abbrev rD9 : Oper := { dst := some 39, op := Go.Op.call { callee := Go.Callee.builtin Go.Builtin.len, args := #[Go.Operand.tmp 38], argTypes := #[22] }, type := 3, pos := "ref.go:38", after := #[{ on := 8, ground := Go.Ground.data }], guard := none }
abbrev rD10 : Oper := { dst := some 40, op := Go.Op.binOp Go.BinOp.sub 3 (Go.Operand.tmp 39) (Go.Operand.const (Go.Value.int Go.IntKind.i64 1)) 3, type := 3, pos := "ref.go:38", after := #[{ on := 9, ground := Go.Ground.data }], guard := none }
abbrev rD11 : Oper := { dst := some 41, op := Go.Op.indexAddr 22 (Go.Operand.tmp 36) (Go.Operand.tmp 40), type := 0, pos := "ref.go:38", after := #[{ on := 6, ground := Go.Ground.data }, { on := 10, ground := Go.Ground.data }], guard := none }
abbrev rD12 : Oper := { dst := some 42, op := Go.Op.fieldAddr 51 (Go.Operand.tmp 41) 1, type := 0, pos := "ref.go:38", after := #[{ on := 11, ground := Go.Ground.data }], guard := none }
abbrev rD13 : Oper := { dst := some 43, op := Go.Op.load 3 (Go.Operand.tmp 42), type := 3, pos := "ref.go:38", after := #[{ on := 12, ground := Go.Ground.data }], guard := none }
abbrev rD14 : Oper := { dst := some 44, op := Go.Op.build 51 #[(0, Go.Operand.tmp 34), (1, Go.Operand.tmp 43)], type := 51, pos := "ref.go:38", after := #[{ on := 4, ground := Go.Ground.data }, { on := 13, ground := Go.Ground.data }], guard := none }
abbrev rD15 : Oper := { dst := some 45, op := Go.Op.buildSlice 22 1 #[(0, Go.Operand.tmp 44)], type := 22, pos := "ref.go:38", after := #[{ on := 14, ground := Go.Ground.data }], guard := none }
abbrev rD16 : Oper := { dst := some 7, op := Go.Op.assign (Go.Operand.tmp 45), type := 22, pos := "ref.go:38", after := #[{ on := 15, ground := Go.Ground.data }, { on := 0, ground := Go.Ground.phase }, { on := 1, ground := Go.Ground.phase }, { on := 2, ground := Go.Ground.phase }, { on := 3, ground := Go.Ground.phase }, { on := 4, ground := Go.Ground.phase }, { on := 5, ground := Go.Ground.phase }, { on := 6, ground := Go.Ground.phase }, { on := 7, ground := Go.Ground.phase }, { on := 8, ground := Go.Ground.phase }, { on := 9, ground := Go.Ground.phase }, { on := 10, ground := Go.Ground.phase }, { on := 11, ground := Go.Ground.phase }, { on := 12, ground := Go.Ground.phase }, { on := 13, ground := Go.Ground.phase }, { on := 14, ground := Go.Ground.phase }, { on := 15, ground := Go.Ground.phase }], guard := none }
set_option maxHeartbeats 16000000 in
set_option maxRecDepth 100000 in
theorem refDays_any (v : Value) (l : List LF) (w : World) (hv : LeavesAt w v l) (hl : LsOk l) (hn : l.length ≤ 100) :
    Calls Tryz.prog 43 #[v] w fun e w' => ∃ v' : Value, e = .returned (.tuple #[v', .int .i64 (if 400 < (posR l).length then 8 else 0)]) ∧ RunsAt w' v' (if 400 < (posR l).length then [] else posR l) ∧ Kp w w' := by
  have hm := hv.len
  unfold maxLen at hm
  obtain ⟨ad, cp, rfl⟩ := hv.slice
  have HV := Lib.hid hv
  have HL := Lib.hid hl
  have PN := Lib.hid (fun k (h : k < l.length) g => preR_no h g)
  have PY := Lib.hid (fun k (h : k < l.length) g => preR_yes h g)
  have PE := Lib.hid (preR_all l)
  have PL := Lib.hid (fun k => preR_len hl k)
  have PS := Lib.hid (fun k => show sane (preR l k) from nf_sane _)
  have Z0 := Lib.hid (Kp.refl w)
  have R0 := Lib.hid (show RunsAt w (.slice none 0 0) (preR l 0) from .inl ⟨_, _, rfl, rfl⟩)
  clear hv hl
  generalize preR l = PP at *
  generalize posR l = D at *
  obtain ⟨en, hen⟩ : ∃ x : Int, (if 400 < D.length then (8 : Int) else 0) = x := ⟨_, rfl⟩
  obtain ⟨RL, hrl⟩ : ∃ x : List R, (if 400 < D.length then [] else D) = x := ⟨_, rfl⟩
  rw [hen, hrl]
  have HEN := Lib.hid hen
  have HRL := Lib.hid hrl
  clear hen hrl
  go_enter Tryz.func43, Tryz.ntmps43
  go_wp2
  go_loopw [4, 5] (fun q i wr => ∃ k : Nat, k ≤ l.length ∧ i = .int .i64 k ∧ Hid (RunsAt wr q (PP k)) ∧ Hid (Kp w wr)) (fun _ i _ => l.length - (intOf i).toNat)
  case atStart => exact ⟨0, Nat.zero_le _, rfl, R0, Z0⟩
  case round =>
    obtain ⟨k, hk, rfl, RO, J⟩ := hrel
    obtain ⟨qa, qc, rfl⟩ := RO.out.slice
    by_cases hlt : k < l.length
    · rcases HV.out.kp J.out with ⟨_, _, _, e⟩ | ⟨b0, off, cap, ev, hc, hmx, hx⟩
      · rw [e] at hlt; simp at hlt
      cases ev
      obtain ⟨va, vb, d0, d1, d2, d3, ra, rb⟩ := hx k hlt
      have LOK := HL.out _ (lat_mem hlt)
      obtain ⟨f, hf⟩ : ∃ f, lat l k = f := ⟨_, rfl⟩
      rw [hf] at d0 d1 ra rb
      (try rw [hf] at LOK)
      obtain ⟨sp, u, a, b⟩ := f
      simp only at d0 d1 ra rb
      (try simp only at LOK)
      obtain ⟨aa, ca, rfl⟩ := ra.slice
      obtain ⟨ab, cb, rfl⟩ := rb.slice
      have HF := Lib.hid hf
      have z1 : (k : Int) < (l.length : Int) := by omega
      have z2 : (0 : Int) ≤ (k : Int) := by omega
      clear hx hc hmx hf
      have ok : LeafOk wr ⟨sp, u, a, b⟩ _ _ := ⟨ra, rb, LOK.1, LOK.2.1, LOK.2.2.1, LOK.2.2.2⟩
      have C := Lib.hid (fun w1 (kk : Kp wr w1) => refTidy_any ⟨sp, u, a, b⟩ _ _ w1 (ok.kp kk))
      have fk := famR_ok ⟨sp, u, a, b⟩
      have pn := PN.out k hlt
      have py0 := PY.out k hlt
      have pl := PL.out k
      have ps := sane_i64 (PS.out k)
      rw [HF.out] at pn py0
      unfold fullB at pn py0
      have fl := famR_len (f := ⟨sp, u, a, b⟩) LOK.2.2.1 LOK.2.2.2
      simp only [leafV] at C
      generalize famR ⟨sp, u, a, b⟩ = F at *
      have dl := dayR_len fl
      have KR := Lib.hid (Kp.refl wr)
      clear ra rb ok
      rcases Bool.eq_false_or_eq_true (emptyF F) with h0 | h0
      · rw [lfOf_none h0] at C
        simp only [lf0] at C
        have a2 := Lib.hid (pn (by rw [h0]; rfl))
        clear pn py0 fk fl h0 dl
        go_wp2_with fail
        refine (C.out _ (by first | with_reducible exact KR.out | with_reducible exact KR.out.trans (Kp.alloc _ _) | with_reducible exact (KR.out.trans (Kp.alloc _ _)).trans (Kp.alloc _ _) | with_reducible exact ((KR.out.trans (Kp.alloc _ _)).trans (Kp.alloc _ _)).trans (Kp.alloc _ _) | with_reducible exact KR.out.trans (Kp.drew _) | with_reducible exact KR.out.trans (Kp.drewN _ _))).mono ?_
        rintro e w1 ⟨ga, gb, rfl, okg, kk⟩
        have kz := (show Kp wr _ from (by first | with_reducible exact KR.out | with_reducible exact KR.out.trans (Kp.alloc _ _) | with_reducible exact (KR.out.trans (Kp.alloc _ _)).trans (Kp.alloc _ _) | with_reducible exact ((KR.out.trans (Kp.alloc _ _)).trans (Kp.alloc _ _)).trans (Kp.alloc _ _) | with_reducible exact KR.out.trans (Kp.drew _) | with_reducible exact KR.out.trans (Kp.drewN _ _))).trans kk
        obtain ⟨aa', c1', e1⟩ := okg.a.slice
        obtain ⟨ab', c2', e2⟩ := okg.b.slice
        simp only [List.length_nil] at e1 e2
        subst e1 e2
        obtain ⟨V, hV⟩ : ∃ x, x = w1.alloc (.cells #[.bool false, .int .i64 0, .slice aa' 0 c1', .slice ab' 0 c2'] 24) := ⟨_, rfl⟩
        have ka : Kp w1 V := by rw [hV]; exact Kp.alloc _ _
        have hgq : V.heap[w1.heap.size]? = some (.cells #[.bool false, .int .i64 0, .slice aa' 0 c1', .slice ab' 0 c2'] 24 (0, 0)) := by rw [hV]; exact heap_at _ _ _ rfl
        have g0 : V.cell? ⟨w1.heap.size, 0, none⟩ = some (.bool false) := by simp [World.cell?, hgq]
        have g1 : V.cell? ⟨w1.heap.size, 1, none⟩ = some (.int .i64 0) := by simp [World.cell?, hgq]
        have g2 : V.cell? ⟨w1.heap.size, 2, none⟩ = some (.slice aa' 0 c1') := by simp [World.cell?, hgq]
        have g3 : V.cell? ⟨w1.heap.size, 3, none⟩ = some (.slice ab' 0 c2') := by simp [World.cell?, hgq]
        have HB := Lib.hid (fun w' (kq : Kp V w') => show w'.cell? ⟨w1.heap.size, 0, none⟩ = some (.bool false) ∧ w'.cell? ⟨w1.heap.size, 1, none⟩ = some (.int .i64 0) ∧ w'.cell? ⟨w1.heap.size, 2, none⟩ = some (.slice aa' 0 c1') ∧ w'.cell? ⟨w1.heap.size, 3, none⟩ = some (.slice ab' 0 c2') ∧ Kp V w' from ⟨cell_up kq g0, cell_up kq g1, cell_up kq g2, cell_up kq g3, kq⟩)
        have KV := Lib.hid (kz.trans ka)
        have HV2 := Lib.hid hV
        have OKV := Lib.hid (okg.kp ka)
        have ZV := Lib.hid (Kp.refl V)
        have ROV := Lib.hid (RO.out.kp (kz.trans ka))
        clear hV ka kz kk C hgq g0 g1 g2 g3 okg d0 d1 d2 d3
        have R6 := Lib.hid (show RunsAt V _ (PP (k + 1)) by rw [a2.out]; exact ROV.out)
        have J6 := Lib.hid (J.out.trans KV.out)
        go_wp2_with fail
        rw [← HV2.out]
        obtain ⟨c0, c1, c2, c3, _⟩ := HB.out V (Kp.refl _)
        go_wp2
        go_roundw
        case rel => exact ⟨k + 1, by omega, by go_num, R6, J6⟩
        case measure => simp [intOf]; omega
      · have py := Lib.hid (py0 (by rw [h0]; rfl))
        have ds := dayR_sane fk h0
        cases F with
        | units k' s =>
          have h1 : ¬ s.length = 0 := of_decide_eq_false h0
          rw [lfOf_u1 h1] at C
          clear pn py0 fk h0
          go_wp2_with fail
          refine (C.out _ (by first | with_reducible exact KR.out | with_reducible exact KR.out.trans (Kp.alloc _ _) | with_reducible exact (KR.out.trans (Kp.alloc _ _)).trans (Kp.alloc _ _) | with_reducible exact ((KR.out.trans (Kp.alloc _ _)).trans (Kp.alloc _ _)).trans (Kp.alloc _ _) | with_reducible exact KR.out.trans (Kp.drew _) | with_reducible exact KR.out.trans (Kp.drewN _ _))).mono ?_
          rintro e w1 ⟨ga, gb, rfl, okg, kk⟩
          have kz := (show Kp wr _ from (by first | with_reducible exact KR.out | with_reducible exact KR.out.trans (Kp.alloc _ _) | with_reducible exact (KR.out.trans (Kp.alloc _ _)).trans (Kp.alloc _ _) | with_reducible exact ((KR.out.trans (Kp.alloc _ _)).trans (Kp.alloc _ _)).trans (Kp.alloc _ _) | with_reducible exact KR.out.trans (Kp.drew _) | with_reducible exact KR.out.trans (Kp.drewN _ _))).trans kk
          obtain ⟨aa', c1', e1⟩ := okg.a.slice
          obtain ⟨ab', c2', e2⟩ := okg.b.slice
          simp only [List.length_nil] at e1 e2
          subst e1 e2
          have na := okg.na
          simp only at na
          have q0 : ((s.length : Int) == 0) = false := beq_eq_false_iff_ne.2 (by omega)
          obtain ⟨V, hV⟩ : ∃ x, x = w1.alloc (.cells #[.bool false, .int .i64 k', .slice aa' s.length c1', .slice ab' 0 c2'] 24) := ⟨_, rfl⟩
          have ka : Kp w1 V := by rw [hV]; exact Kp.alloc _ _
          have hgq : V.heap[w1.heap.size]? = some (.cells #[.bool false, .int .i64 k', .slice aa' s.length c1', .slice ab' 0 c2'] 24 (0, 0)) := by rw [hV]; exact heap_at _ _ _ rfl
          have g0 : V.cell? ⟨w1.heap.size, 0, none⟩ = some (.bool false) := by simp [World.cell?, hgq]
          have g1 : V.cell? ⟨w1.heap.size, 1, none⟩ = some (.int .i64 k') := by simp [World.cell?, hgq]
          have g2 : V.cell? ⟨w1.heap.size, 2, none⟩ = some (.slice aa' s.length c1') := by simp [World.cell?, hgq]
          have g3 : V.cell? ⟨w1.heap.size, 3, none⟩ = some (.slice ab' 0 c2') := by simp [World.cell?, hgq]
          have HB := Lib.hid (fun w' (kq : Kp V w') => show w'.cell? ⟨w1.heap.size, 0, none⟩ = some (.bool false) ∧ w'.cell? ⟨w1.heap.size, 1, none⟩ = some (.int .i64 k') ∧ w'.cell? ⟨w1.heap.size, 2, none⟩ = some (.slice aa' s.length c1') ∧ w'.cell? ⟨w1.heap.size, 3, none⟩ = some (.slice ab' 0 c2') ∧ Kp V w' from ⟨cell_up kq g0, cell_up kq g1, cell_up kq g2, cell_up kq g3, kq⟩)
          have KV := Lib.hid (kz.trans ka)
          have HV2 := Lib.hid hV
          have OKV := Lib.hid (okg.kp ka)
          have ZV := Lib.hid (Kp.refl V)
          have ROV := Lib.hid (RO.out.kp (kz.trans ka))
          clear hV ka kz kk C hgq g0 g1 g2 g3 okg d0 d1 d2 d3
          have CV := Lib.hid (fun w2 (kk : Kp V w2) => rcover_any k' _ s w2 (OKV.out.a.kp kk) OKV.out.ia (by omega))
          have CU := Lib.hid (fun v w2 (kk : Kp V w2) (r : RunsAt w2 v (dayR (.units k' s))) => runion_any _ v (PP k) (dayR (.units k' s)) w2 (ROV.out.kp kk) r ps ds (by omega))
          rw [show dayR (.units k' s) = coverR k' s from rfl] at CU py
          generalize coverR k' s = E at *
          clear ds dl ps pl fl h1
          go_wp2_with fail
          rw [← HV2.out]
          obtain ⟨c0, c1, c2, c3, _⟩ := HB.out V (Kp.refl _)
          refine (CV.out _ (by first | with_reducible exact ZV.out | with_reducible exact ZV.out.trans (Kp.alloc _ _) | with_reducible exact (ZV.out.trans (Kp.alloc _ _)).trans (Kp.alloc _ _) | with_reducible exact ((ZV.out.trans (Kp.alloc _ _)).trans (Kp.alloc _ _)).trans (Kp.alloc _ _) | with_reducible exact ZV.out.trans (Kp.drew _) | with_reducible exact ZV.out.trans (Kp.drewN _ _))).mono ?_
          rintro e w4 ⟨v4, rfl, r4, kk⟩
          have K4 := Lib.hid ((show Kp V _ from (by first | with_reducible exact ZV.out | with_reducible exact ZV.out.trans (Kp.alloc _ _) | with_reducible exact (ZV.out.trans (Kp.alloc _ _)).trans (Kp.alloc _ _) | with_reducible exact ((ZV.out.trans (Kp.alloc _ _)).trans (Kp.alloc _ _)).trans (Kp.alloc _ _) | with_reducible exact ZV.out.trans (Kp.drew _) | with_reducible exact ZV.out.trans (Kp.drewN _ _))).trans kk)
          have R4 := Lib.hid r4
          obtain ⟨a4, cx4, rfl⟩ := r4.slice
          clear r4 kk c0 c1 c2 c3
          obtain ⟨c0, c1, c2, c3, _⟩ := HB.out w4 K4.out
          go_wp2_with fail
          refine (CU.out _ _ ((by first | with_reducible exact K4.out | with_reducible exact K4.out.trans (Kp.alloc _ _) | with_reducible exact (K4.out.trans (Kp.alloc _ _)).trans (Kp.alloc _ _) | with_reducible exact ((K4.out.trans (Kp.alloc _ _)).trans (Kp.alloc _ _)).trans (Kp.alloc _ _) | with_reducible exact K4.out.trans (Kp.drew _) | with_reducible exact K4.out.trans (Kp.drewN _ _))) (R4.out.kp (by first | with_reducible exact Kp.refl _ | with_reducible exact Kp.alloc _ _ | with_reducible exact (Kp.alloc _ _).trans (Kp.alloc _ _) | with_reducible exact ((Kp.alloc _ _).trans (Kp.alloc _ _)).trans (Kp.alloc _ _) | with_reducible exact Kp.drew _ | with_reducible exact Kp.drewN _ _))).mono ?_
          rintro e w5 ⟨v5, rfl, r5, kk⟩
          have R5 := Lib.hid (show RunsAt w5 v5 (PP (k + 1)) by rw [← py.out]; exact r5)
          have J5 := Lib.hid (J.out.trans (KV.out.trans (Kp.trans (show Kp V _ from (by first | with_reducible exact K4.out | with_reducible exact K4.out.trans (Kp.alloc _ _) | with_reducible exact (K4.out.trans (Kp.alloc _ _)).trans (Kp.alloc _ _) | with_reducible exact ((K4.out.trans (Kp.alloc _ _)).trans (Kp.alloc _ _)).trans (Kp.alloc _ _) | with_reducible exact K4.out.trans (Kp.drew _) | with_reducible exact K4.out.trans (Kp.drewN _ _))) kk)))
          clear kk r5
          go_wp2
          go_roundw
          case rel => exact ⟨k + 1, by omega, by go_num, R5, J5⟩
          case measure => simp [intOf]; omega
        | span s t =>
          have h1 : ¬ s.length = 0 := of_decide_eq_false h0
          rw [lfOf_s1 h1] at C
          have l1 : 0 < t.length := by
            obtain ⟨m, hm, _⟩ := fk.2.2.1 _ (least_mem (setB_sane fk.1) (by omega))
            exact mem_pos hm
          rw [show dayR (.span s t) = [(leastR s, greatR t)] from rfl] at py ds dl
          clear pn py0 fk h0
          go_wp2_with fail
          refine (C.out _ (by first | with_reducible exact KR.out | with_reducible exact KR.out.trans (Kp.alloc _ _) | with_reducible exact (KR.out.trans (Kp.alloc _ _)).trans (Kp.alloc _ _) | with_reducible exact ((KR.out.trans (Kp.alloc _ _)).trans (Kp.alloc _ _)).trans (Kp.alloc _ _) | with_reducible exact KR.out.trans (Kp.drew _) | with_reducible exact KR.out.trans (Kp.drewN _ _))).mono ?_
          rintro e w1 ⟨ga, gb, rfl, okg, kk⟩
          have kz := (show Kp wr _ from (by first | with_reducible exact KR.out | with_reducible exact KR.out.trans (Kp.alloc _ _) | with_reducible exact (KR.out.trans (Kp.alloc _ _)).trans (Kp.alloc _ _) | with_reducible exact ((KR.out.trans (Kp.alloc _ _)).trans (Kp.alloc _ _)).trans (Kp.alloc _ _) | with_reducible exact KR.out.trans (Kp.drew _) | with_reducible exact KR.out.trans (Kp.drewN _ _))).trans kk
          obtain ⟨ba, oa, c1', ev, x0, x1⟩ := ends_at okg.a (by simp only; omega)
          simp only at ev x0 x1
          subst ev
          obtain ⟨bb, ob, c2', ev, y0, y1⟩ := ends_at okg.b (by simp only; omega)
          simp only at ev y0 y1
          subst ev
          have na := okg.na
          have nb := okg.nb
          simp only at na nb
          have q0 : ((s.length : Int) == 0) = false := beq_eq_false_iff_ne.2 (by omega)
          have wz : 0 < s.length := by omega
          have wt : (t.length : Int) - 1 = ((t.length - 1 : Nat) : Int) := by omega
          have wu : IntKind.i64.wrap ((t.length - 1 : Nat) : Int) = ((t.length - 1 : Nat) : Int) := IntWalk.i64_in _ (by omega)
          have wx : t.length - 1 < t.length := by omega
          have wy : ((t.length - 1 : Nat) : Int) < (t.length : Int) := by omega
          have wv : (0 : Int) ≤ ((t.length - 1 : Nat) : Int) := by omega
          clear x1 y0 h1
          generalize leastR s = x at *
          generalize greatR t = y at *
          obtain ⟨V, hV⟩ : ∃ x, x = w1.alloc (.cells #[.bool true, .int .i64 0, .slice (some ⟨ba, oa, none⟩) s.length c1', .slice (some ⟨bb, ob, none⟩) t.length c2'] 24) := ⟨_, rfl⟩
          have ka : Kp w1 V := by rw [hV]; exact Kp.alloc _ _
          have hgq : V.heap[w1.heap.size]? = some (.cells #[.bool true, .int .i64 0, .slice (some ⟨ba, oa, none⟩) s.length c1', .slice (some ⟨bb, ob, none⟩) t.length c2'] 24 (0, 0)) := by rw [hV]; exact heap_at _ _ _ rfl
          have g0 : V.cell? ⟨w1.heap.size, 0, none⟩ = some (.bool true) := by simp [World.cell?, hgq]
          have g1 : V.cell? ⟨w1.heap.size, 1, none⟩ = some (.int .i64 0) := by simp [World.cell?, hgq]
          have g2 : V.cell? ⟨w1.heap.size, 2, none⟩ = some (.slice (some ⟨ba, oa, none⟩) s.length c1') := by simp [World.cell?, hgq]
          have g3 : V.cell? ⟨w1.heap.size, 3, none⟩ = some (.slice (some ⟨bb, ob, none⟩) t.length c2') := by simp [World.cell?, hgq]
          have HB := Lib.hid (fun w' (kq : Kp V w') => show w'.cell? ⟨w1.heap.size, 0, none⟩ = some (.bool true) ∧ w'.cell? ⟨w1.heap.size, 1, none⟩ = some (.int .i64 0) ∧ w'.cell? ⟨w1.heap.size, 2, none⟩ = some (.slice (some ⟨ba, oa, none⟩) s.length c1') ∧ w'.cell? ⟨w1.heap.size, 3, none⟩ = some (.slice (some ⟨bb, ob, none⟩) t.length c2') ∧ w'.cell? ⟨ba, oa, none⟩ = some (.int .i64 x) ∧ w'.cell? ⟨bb, ob + (t.length - 1) * 2 + 1, none⟩ = some (.int .i64 y) ∧ Kp V w' from ⟨cell_up kq g0, cell_up kq g1, cell_up kq g2, cell_up kq g3, cell_up (ka.trans kq) x0, cell_up (ka.trans kq) y1, kq⟩)
          have KV := Lib.hid (kz.trans ka)
          have HV2 := Lib.hid hV
          have OKV := Lib.hid (okg.kp ka)
          have ZV := Lib.hid (Kp.refl V)
          have ROV := Lib.hid (RO.out.kp (kz.trans ka))
          clear hV ka kz kk C hgq g0 g1 g2 g3 okg d0 d1 d2 d3 x0 y1
          have CV := Lib.hid (fun w2 (kk : Kp V w2) => rcover_any 0 _ s w2 (OKV.out.a.kp kk) OKV.out.ia (by omega))
          have CU := Lib.hid (fun v w2 (kk : Kp V w2) (r : RunsAt w2 v [(x, y)]) => runion_any _ v (PP k) [(x, y)] w2 (ROV.out.kp kk) r ps ds (by simp only [List.length_singleton]; omega))
          generalize coverR 0 s = E at *
          clear ds dl ps pl fl l1
          go_wp2_with fail
          rw [← HV2.out]
          obtain ⟨c0, c1, c2, c3, c4, c5, _⟩ := HB.out V (Kp.refl _)
          refine (CV.out _ (by first | with_reducible exact ZV.out | with_reducible exact ZV.out.trans (Kp.alloc _ _) | with_reducible exact (ZV.out.trans (Kp.alloc _ _)).trans (Kp.alloc _ _) | with_reducible exact ((ZV.out.trans (Kp.alloc _ _)).trans (Kp.alloc _ _)).trans (Kp.alloc _ _) | with_reducible exact ZV.out.trans (Kp.drew _) | with_reducible exact ZV.out.trans (Kp.drewN _ _))).mono ?_
          rintro e w4 ⟨v4, rfl, r4, kk⟩
          have K4 := Lib.hid ((show Kp V _ from (by first | with_reducible exact ZV.out | with_reducible exact ZV.out.trans (Kp.alloc _ _) | with_reducible exact (ZV.out.trans (Kp.alloc _ _)).trans (Kp.alloc _ _) | with_reducible exact ((ZV.out.trans (Kp.alloc _ _)).trans (Kp.alloc _ _)).trans (Kp.alloc _ _) | with_reducible exact ZV.out.trans (Kp.drew _) | with_reducible exact ZV.out.trans (Kp.drewN _ _))).trans kk)
          obtain ⟨a4, cx4, rfl⟩ := r4.slice
          clear r4 kk c0 c1 c2 c3 c4 c5
          obtain ⟨c0, c1, c2, c3, c4, c5, _⟩ := HB.out w4 K4.out
          go_wp2_with fail
          refine wp_region_held_drew (S := fun w' => w'.cell? ⟨w1.heap.size, 0, none⟩ = some (.bool true) ∧ w'.cell? ⟨w1.heap.size, 1, none⟩ = some (.int .i64 0) ∧ w'.cell? ⟨w1.heap.size, 2, none⟩ = some (.slice (some ⟨ba, oa, none⟩) s.length c1') ∧ w'.cell? ⟨w1.heap.size, 3, none⟩ = some (.slice (some ⟨bb, ob, none⟩) t.length c2') ∧ w'.cell? ⟨ba, oa, none⟩ = some (.int .i64 x) ∧ w'.cell? ⟨bb, ob + (t.length - 1) * 2 + 1, none⟩ = some (.int .i64 y) ∧ Kp V w') (by kernel_rfl) ?_ (fun hHeld0 => ?_)
          · (try dsimp only); first | exact HB.out _ (by first | assumption | exact Kp.drew _) | exact HB.out _ (Kp.trans (show Kp V _ from (by first | assumption | exact Kp.drew _)) (Kp.alloc _ _)) | exact HB.out _ K4.out | exact HB.out _ (K4.out.trans (Kp.drew _)) | exact HB.out _ (K4.out.trans (Kp.alloc _ _)) | exact HB.out _ ((K4.out.trans (Kp.alloc _ _)).trans (Kp.drew _))
          refine tkW (v := ?_) 0 rD0 rfl (by kernel_rfl) (by kernel_rfl) (by kernel_rfl) (fun _ _ _ h => h) (by rfl) ?_ (by assumption) ?_
          rotate_left
          · intro w hSw; (try dsimp only at hSw); go_simp; (try with_reducible rfl)
          (try simp only [Act.put, rD0, List.setIfInBounds_toArray, List.set_cons_zero, List.set_cons_succ])
          refine tkW (v := ?_) 1 rD1 rfl (by kernel_rfl) (by kernel_rfl) (by kernel_rfl) (fun _ _ _ h => h) (by rfl) ?_ (by assumption) ?_
          rotate_left
          · intro w hSw; (try dsimp only at hSw); go_simp; (try with_reducible rfl)
          (try simp only [Act.put, rD1, List.setIfInBounds_toArray, List.set_cons_zero, List.set_cons_succ])
          refine tkW (v := ?_) 2 rD2 rfl (by kernel_rfl) (by kernel_rfl) (by kernel_rfl) (fun _ _ _ h => h) (by rfl) ?_ (by assumption) ?_
          rotate_left
          · intro w hSw; (try dsimp only at hSw); go_simp; (try with_reducible rfl)
          (try simp only [Act.put, rD2, List.setIfInBounds_toArray, List.set_cons_zero, List.set_cons_succ])
          refine tkW (v := ?_) 3 rD3 rfl (by kernel_rfl) (by kernel_rfl) (by kernel_rfl) (fun _ _ _ h => h) (by rfl) ?_ (by assumption) ?_
          rotate_left
          · intro w hSw; (try dsimp only at hSw); go_simp; (try with_reducible rfl)
          (try simp only [Act.put, rD3, List.setIfInBounds_toArray, List.set_cons_zero, List.set_cons_succ])
          refine tkW (v := ?_) 4 rD4 rfl (by kernel_rfl) (by kernel_rfl) (by kernel_rfl) (fun _ _ _ h => h) (by rfl) ?_ (by assumption) ?_
          rotate_left
          · intro w hSw; (try dsimp only at hSw); go_simp; (try with_reducible rfl)
          (try simp only [Act.put, rD4, List.setIfInBounds_toArray, List.set_cons_zero, List.set_cons_succ])
          refine tkW (v := ?_) 5 rD5 rfl (by kernel_rfl) (by kernel_rfl) (by kernel_rfl) (fun _ _ _ h => h) (by rfl) ?_ (by assumption) ?_
          rotate_left
          · intro w hSw; (try dsimp only at hSw); go_simp; (try with_reducible rfl)
          (try simp only [Act.put, rD5, List.setIfInBounds_toArray, List.set_cons_zero, List.set_cons_succ])
          refine tkW (v := ?_) 6 rD6 rfl (by kernel_rfl) (by kernel_rfl) (by kernel_rfl) (fun _ _ _ h => h) (by rfl) ?_ (by assumption) ?_
          rotate_left
          · intro w hSw; (try dsimp only at hSw); go_simp; (try with_reducible rfl)
          (try simp only [Act.put, rD6, List.setIfInBounds_toArray, List.set_cons_zero, List.set_cons_succ])
          refine tkW (v := ?_) 7 rD7 rfl (by kernel_rfl) (by kernel_rfl) (by kernel_rfl) (fun _ _ _ h => h) (by rfl) ?_ (by assumption) ?_
          rotate_left
          · intro w hSw; (try dsimp only at hSw); go_simp; (try with_reducible rfl)
          (try simp only [Act.put, rD7, List.setIfInBounds_toArray, List.set_cons_zero, List.set_cons_succ])
          refine tkW (v := ?_) 8 rD8 rfl (by kernel_rfl) (by kernel_rfl) (by kernel_rfl) (fun _ _ _ h => h) (by rfl) ?_ (by assumption) ?_
          rotate_left
          · intro w hSw; (try dsimp only at hSw); go_simp; (try with_reducible rfl)
          (try simp only [Act.put, rD8, List.setIfInBounds_toArray, List.set_cons_zero, List.set_cons_succ])
          refine tkW (v := ?_) 9 rD9 rfl (by kernel_rfl) (by kernel_rfl) (by kernel_rfl) (fun _ _ _ h => h) (by rfl) ?_ (by assumption) ?_
          rotate_left
          · intro w hSw; (try dsimp only at hSw); go_simp; (try with_reducible rfl)
          (try simp only [Act.put, rD9, List.setIfInBounds_toArray, List.set_cons_zero, List.set_cons_succ])
          refine tkW (v := ?_) 10 rD10 rfl (by kernel_rfl) (by kernel_rfl) (by kernel_rfl) (fun _ _ _ h => h) (by rfl) ?_ (by assumption) ?_
          rotate_left
          · intro w hSw; (try dsimp only at hSw); go_simp; (try with_reducible rfl)
          (try simp only [Act.put, rD10, List.setIfInBounds_toArray, List.set_cons_zero, List.set_cons_succ])
          refine tkW (v := ?_) 11 rD11 rfl (by kernel_rfl) (by kernel_rfl) (by kernel_rfl) (fun _ _ _ h => h) (by rfl) ?_ (by assumption) ?_
          rotate_left
          · intro w hSw; (try dsimp only at hSw); go_simp; (try with_reducible rfl)
          (try simp only [Act.put, rD11, List.setIfInBounds_toArray, List.set_cons_zero, List.set_cons_succ])
          refine tkW (v := ?_) 12 rD12 rfl (by kernel_rfl) (by kernel_rfl) (by kernel_rfl) (fun _ _ _ h => h) (by rfl) ?_ (by assumption) ?_
          rotate_left
          · intro w hSw; (try dsimp only at hSw); go_simp; (try with_reducible rfl)
          (try simp only [Act.put, rD12, List.setIfInBounds_toArray, List.set_cons_zero, List.set_cons_succ])
          refine tkW (v := ?_) 13 rD13 rfl (by kernel_rfl) (by kernel_rfl) (by kernel_rfl) (fun _ _ _ h => h) (by rfl) ?_ (by assumption) ?_
          rotate_left
          · intro w hSw; (try dsimp only at hSw); go_simp; (try with_reducible rfl)
          (try simp only [Act.put, rD13, List.setIfInBounds_toArray, List.set_cons_zero, List.set_cons_succ])
          refine tkW (v := ?_) 14 rD14 rfl (by kernel_rfl) (by kernel_rfl) (by kernel_rfl) (fun _ _ _ h => h) (by rfl) ?_ (by assumption) ?_
          rotate_left
          · intro w hSw; (try dsimp only at hSw); go_simp; (try with_reducible rfl)
          (try simp only [Act.put, rD14, List.setIfInBounds_toArray, List.set_cons_zero, List.set_cons_succ])
          refine tkE 15 rD15 rfl (by kernel_rfl) (fun K hK => ?_)
          go_simp
          skip
          (try go_wp2_with fail)
          refine hK.out _ _ ?_ (fun hHeld1 => ?_)
          · (try dsimp only); first | exact HB.out _ (by first | assumption | exact Kp.drew _) | exact HB.out _ (Kp.trans (show Kp V _ from (by first | assumption | exact Kp.drew _)) (Kp.alloc _ _)) | exact HB.out _ K4.out | exact HB.out _ (K4.out.trans (Kp.drew _)) | exact HB.out _ (K4.out.trans (Kp.alloc _ _)) | exact HB.out _ ((K4.out.trans (Kp.alloc _ _)).trans (Kp.drew _))
          clear hK K hHeld0
          (try simp only [Act.put, rD15, List.setIfInBounds_toArray, List.set_cons_zero, List.set_cons_succ])
          refine tkW (v := ?_) 16 rD16 rfl (by kernel_rfl) (by kernel_rfl) (by kernel_rfl) (fun _ _ _ h => h) (by rfl) ?_ (by assumption) ?_
          rotate_left
          · intro w hSw; (try dsimp only at hSw); go_simp; (try with_reducible rfl)
          (try simp only [Act.put, rD16, List.setIfInBounds_toArray, List.set_cons_zero, List.set_cons_succ])
          refine wpAnyH_done (by kernel_rfl) ?_ _
          go_wp2_with fail
          refine (CU.out _ _ ((K4.out.trans (Kp.alloc _ _)).trans (Kp.drew _)) ((one_at w4 x y 51).kp (Kp.drew _))).mono ?_
          rintro e w5 ⟨v5, rfl, r5, kk⟩
          have R5 := Lib.hid (show RunsAt w5 v5 (PP (k + 1)) by rw [← py.out]; exact r5)
          have J5 := Lib.hid (J.out.trans (KV.out.trans (Kp.trans (show Kp V _ from (K4.out.trans (Kp.alloc _ _)).trans (Kp.drew _)) kk)))
          clear kk r5
          go_wp2
          go_roundw
          case rel => exact ⟨k + 1, by omega, by go_num, R5, J5⟩
          case measure => simp [intOf]; omega
    · obtain rfl : k = l.length := by omega
      have pe := PE.out
      subst pe
      have e1 : decide ((400 : Int) < ((PP l.length).length : Int)) = decide (400 < (PP l.length).length) := by
        by_cases h : 400 < (PP l.length).length
        · rw [decide_eq_true h, decide_eq_true (by omega)]
        · rw [decide_eq_false h, decide_eq_false (by omega)]
      by_cases h : 400 < (PP l.length).length
      · have hen := HEN.out
        have hrl := HRL.out
        rw [if_pos h] at hen hrl
        subst hen hrl
        have e2 := decide_eq_true h
        rw [e2] at e1
        clear h HEN HRL
        go_wp2
        exact bodyPost_ret (results_tmp2 rfl _ _ _) rfl ⟨_, rfl, .inl ⟨_, _, rfl, rfl⟩, J.out⟩
      · have hen := HEN.out
        have hrl := HRL.out
        rw [if_neg h] at hen hrl
        subst hen hrl
        have e2 := decide_eq_false h
        rw [e2] at e1
        clear h HEN HRL
        go_wp2
        exact bodyPost_ret (results_tmp2 rfl _ _ _) rfl ⟨_, rfl, RO.out, J.out⟩
end Go.Proofs.YtfphmhdgnokopaaGreatDoor

namespace Go.Proofs.YtfphmhdgnokopaaGreatDoor
open Go.RowKit
set_option linter.unusedVariables false
set_option linter.unusedSimpArgs false
set_option maxHeartbeats 16000000 in
set_option maxRecDepth 100000 in
theorem cis_few (vl : Value) (l : List LF) (day : Int) (w : World) (rl : LeavesAt w vl l) (gl : ∀ f ∈ l, LeafG f) (hday1 : -9223372036854775808 ≤ day) (hday2 : day ≤ 9223372036854775807) (T : Tabs w) (hf : fewL l = false) :
    Calls Tryz.prog 5 #[vl, .int .i64 day] w fun e w' => e = .returned (.bool true) ∧ Kp w w' := by
  have RFW := Lib.hid (fun w1 (kk : Kp w w1) => fewL_any vl l w1 (rl.kp kk))
  rw [hf] at RFW
  obtain ⟨adl, cal, rfl⟩ := rl.slice
  obtain ⟨W0, hW⟩ : ∃ W0, W0 = w := ⟨_, rfl⟩
  subst hW
  have K00 := Lib.hid (Kp.refl W0)
  have K0 := Lib.hid (Kp.refl W0)
  have AW := Lib.hid (fun w1 (kk : Kp W0 w1) => awake17 w1 (T.kp (K00.out.trans kk)))
  have FW := Lib.hid (fun w1 (kk : Kp W0 w1) => RFW.out w1 (K00.out.trans kk))
  clear rl gl T
  go_enter Tryz.func5, Tryz.ntmps5
  go_wp2_with fail
  refine (AW.out _ (by first | with_reducible exact K0.out | with_reducible exact K0.out.trans (Kp.alloc _ _) | with_reducible exact (K0.out.trans (Kp.alloc _ _)).trans (Kp.alloc _ _) | with_reducible exact ((K0.out.trans (Kp.alloc _ _)).trans (Kp.alloc _ _)).trans (Kp.alloc _ _) | with_reducible exact K0.out.trans (Kp.drew _) | with_reducible exact K0.out.trans (Kp.drewN _ _))).mono ?_
  rintro e w1 ⟨rfl, kk⟩
  have K1 := Lib.hid ((show Kp W0 _ from (by first | with_reducible exact K0.out | with_reducible exact K0.out.trans (Kp.alloc _ _) | with_reducible exact (K0.out.trans (Kp.alloc _ _)).trans (Kp.alloc _ _) | with_reducible exact ((K0.out.trans (Kp.alloc _ _)).trans (Kp.alloc _ _)).trans (Kp.alloc _ _) | with_reducible exact K0.out.trans (Kp.drew _) | with_reducible exact K0.out.trans (Kp.drewN _ _))).trans kk)
  clear kk
  go_wp2_with fail
  refine (FW.out _ (by first | with_reducible exact K1.out | with_reducible exact K1.out.trans (Kp.alloc _ _) | with_reducible exact (K1.out.trans (Kp.alloc _ _)).trans (Kp.alloc _ _) | with_reducible exact ((K1.out.trans (Kp.alloc _ _)).trans (Kp.alloc _ _)).trans (Kp.alloc _ _) | with_reducible exact K1.out.trans (Kp.drew _) | with_reducible exact K1.out.trans (Kp.drewN _ _))).mono ?_
  rintro e w2 ⟨rfl, kk⟩
  have K2 := Lib.hid ((show Kp W0 _ from (by first | with_reducible exact K1.out | with_reducible exact K1.out.trans (Kp.alloc _ _) | with_reducible exact (K1.out.trans (Kp.alloc _ _)).trans (Kp.alloc _ _) | with_reducible exact ((K1.out.trans (Kp.alloc _ _)).trans (Kp.alloc _ _)).trans (Kp.alloc _ _) | with_reducible exact K1.out.trans (Kp.drew _) | with_reducible exact K1.out.trans (Kp.drewN _ _))).trans kk)
  clear kk
  go_wp2
  go_ret
  exact ⟨rfl, K00.out.trans K2.out⟩
set_option maxHeartbeats 16000000 in
set_option maxRecDepth 100000 in
theorem cis_main (vl : Value) (l : List LF) (day : Int) (w : World) (rl : LeavesAt w vl l) (gl : ∀ f ∈ l, LeafG f) (hday1 : -9223372036854775808 ≤ day) (hday2 : day ≤ 9223372036854775807) (T : Tabs w) (hf : fewL l = true) :
    Calls Tryz.prog 5 #[vl, .int .i64 day] w fun e w' => e = .returned (.bool true) ∧ Kp w w' := by
  have RFW := Lib.hid (fun w1 (kk : Kp w w1) => fewL_any vl l w1 (rl.kp kk))
  rw [hf] at RFW
  obtain ⟨hls, hn⟩ := fewL_ok hf gl
  have R1 := Lib.hid (fun w1 (kk : Kp w w1) => covDays_any vl l w1 (rl.kp kk) hls (by omega) (T.kp kk))
  have R2 := Lib.hid (fun w1 (kk : Kp w w1) => refDays_any vl l w1 (rl.kp kk) hls (by omega))
  have R3 := Lib.hid (fun w1 (kk : Kp w w1) => sure_any vl l w1 (rl.kp kk) hls (T.kp kk))
  have R4 := Lib.hid (fun w1 (kk : Kp w w1) => refSure_any vl l w1 (rl.kp kk) hls)
  have R5 := Lib.hid (fun w1 (kk : Kp w w1) => possible_any vl l day w1 (rl.kp kk) hls (T.kp kk))
  have R6 := Lib.hid (fun w1 (kk : Kp w w1) => refPossible_any vl l day w1 (rl.kp kk) hls hday1 hday2)
  have R7 := Lib.hid (fun w1 (kk : Kp w w1) => certain_any vl l day w1 (rl.kp kk) hls (T.kp kk) hday1 hday2)
  have R8 := Lib.hid (fun w1 (kk : Kp w w1) => refCertain_any vl l day w1 (rl.kp kk) hls)
  have sl := sureR_len l
  have pl := posR_len hls
  have dl : (if 400 < (posR l).length then [] else posR l).length ≤ 1000000 := by
    split
    · simp
    · omega
  generalize posB l day = p at *
  generalize cerB l day = c at *
  generalize (if 400 < (posR l).length then (8 : Int) else 0) = e1 at *
  generalize (if 400 < (posR l).length then [] else posR l) = D at *
  generalize (if anyB l = true then (0 : Int) else 9) = e2 at *
  generalize sureR l = S at *
  have SD := Lib.hid (fun v u w1 (h : RunsAt w1 v D) (h' : RunsAt w1 u D) => same_any v u D w1 h h' (by omega))
  have SS := Lib.hid (fun v u w1 (h : RunsAt w1 v S) (h' : RunsAt w1 u S) => same_any v u S w1 h h' (by omega))
  have hp : (p == p) = true := by simp
  have hc : (c == c) = true := by simp
  have he1 : (e1 == e1) = true := by simp
  have he2 : (e2 == e2) = true := by simp
  clear dl pl sl
  obtain ⟨adl, cal, rfl⟩ := rl.slice
  obtain ⟨W0, hW⟩ : ∃ W0, W0 = w := ⟨_, rfl⟩
  subst hW
  have K00 := Lib.hid (Kp.refl W0)
  have K0 := Lib.hid (Kp.refl W0)
  have AW := Lib.hid (fun w1 (kk : Kp W0 w1) => awake17 w1 (T.kp (K00.out.trans kk)))
  have FW := Lib.hid (fun w1 (kk : Kp W0 w1) => RFW.out w1 (K00.out.trans kk))
  have C1 := Lib.hid (fun w1 (kk : Kp W0 w1) => R1.out w1 (K00.out.trans kk))
  have C2 := Lib.hid (fun w1 (kk : Kp W0 w1) => R2.out w1 (K00.out.trans kk))
  have C3 := Lib.hid (fun w1 (kk : Kp W0 w1) => R3.out w1 (K00.out.trans kk))
  have C4 := Lib.hid (fun w1 (kk : Kp W0 w1) => R4.out w1 (K00.out.trans kk))
  have C5 := Lib.hid (fun w1 (kk : Kp W0 w1) => R5.out w1 (K00.out.trans kk))
  have C6 := Lib.hid (fun w1 (kk : Kp W0 w1) => R6.out w1 (K00.out.trans kk))
  have C7 := Lib.hid (fun w1 (kk : Kp W0 w1) => R7.out w1 (K00.out.trans kk))
  have C8 := Lib.hid (fun w1 (kk : Kp W0 w1) => R8.out w1 (K00.out.trans kk))
  clear rl gl T R1 R2 R3 R4 R5 R6 R7 R8 RFW hls hf
  go_enter Tryz.func5, Tryz.ntmps5
  go_wp2_with fail
  refine (AW.out _ (by first | with_reducible exact K0.out | with_reducible exact K0.out.trans (Kp.alloc _ _) | with_reducible exact (K0.out.trans (Kp.alloc _ _)).trans (Kp.alloc _ _) | with_reducible exact ((K0.out.trans (Kp.alloc _ _)).trans (Kp.alloc _ _)).trans (Kp.alloc _ _) | with_reducible exact K0.out.trans (Kp.drew _) | with_reducible exact K0.out.trans (Kp.drewN _ _))).mono ?_
  rintro e w1 ⟨rfl, kk⟩
  have K1 := Lib.hid ((show Kp W0 _ from (by first | with_reducible exact K0.out | with_reducible exact K0.out.trans (Kp.alloc _ _) | with_reducible exact (K0.out.trans (Kp.alloc _ _)).trans (Kp.alloc _ _) | with_reducible exact ((K0.out.trans (Kp.alloc _ _)).trans (Kp.alloc _ _)).trans (Kp.alloc _ _) | with_reducible exact K0.out.trans (Kp.drew _) | with_reducible exact K0.out.trans (Kp.drewN _ _))).trans kk)
  clear kk
  go_wp2_with fail
  refine (FW.out _ (by first | with_reducible exact K1.out | with_reducible exact K1.out.trans (Kp.alloc _ _) | with_reducible exact (K1.out.trans (Kp.alloc _ _)).trans (Kp.alloc _ _) | with_reducible exact ((K1.out.trans (Kp.alloc _ _)).trans (Kp.alloc _ _)).trans (Kp.alloc _ _) | with_reducible exact K1.out.trans (Kp.drew _) | with_reducible exact K1.out.trans (Kp.drewN _ _))).mono ?_
  rintro e w2 ⟨rfl, kk⟩
  have K2 := Lib.hid ((show Kp W0 _ from (by first | with_reducible exact K1.out | with_reducible exact K1.out.trans (Kp.alloc _ _) | with_reducible exact (K1.out.trans (Kp.alloc _ _)).trans (Kp.alloc _ _) | with_reducible exact ((K1.out.trans (Kp.alloc _ _)).trans (Kp.alloc _ _)).trans (Kp.alloc _ _) | with_reducible exact K1.out.trans (Kp.drew _) | with_reducible exact K1.out.trans (Kp.drewN _ _))).trans kk)
  clear kk
  go_wp2_with fail
  refine (C1.out _ (by first | with_reducible exact K2.out | with_reducible exact K2.out.trans (Kp.alloc _ _) | with_reducible exact (K2.out.trans (Kp.alloc _ _)).trans (Kp.alloc _ _) | with_reducible exact ((K2.out.trans (Kp.alloc _ _)).trans (Kp.alloc _ _)).trans (Kp.alloc _ _) | with_reducible exact K2.out.trans (Kp.drew _) | with_reducible exact K2.out.trans (Kp.drewN _ _))).mono ?_
  rintro e w3 ⟨v3, rfl, r3, kk⟩
  have K3 := Lib.hid ((show Kp W0 _ from (by first | with_reducible exact K2.out | with_reducible exact K2.out.trans (Kp.alloc _ _) | with_reducible exact (K2.out.trans (Kp.alloc _ _)).trans (Kp.alloc _ _) | with_reducible exact ((K2.out.trans (Kp.alloc _ _)).trans (Kp.alloc _ _)).trans (Kp.alloc _ _) | with_reducible exact K2.out.trans (Kp.drew _) | with_reducible exact K2.out.trans (Kp.drewN _ _))).trans kk)
  have RR3 := Lib.hid r3
  obtain ⟨a3, q3, rfl⟩ := r3.slice
  clear r3
  clear kk
  have G3_3 := Lib.hid (Kp.refl w3)
  go_wp2_with fail
  refine (C2.out _ (by first | with_reducible exact K3.out | with_reducible exact K3.out.trans (Kp.alloc _ _) | with_reducible exact (K3.out.trans (Kp.alloc _ _)).trans (Kp.alloc _ _) | with_reducible exact ((K3.out.trans (Kp.alloc _ _)).trans (Kp.alloc _ _)).trans (Kp.alloc _ _) | with_reducible exact K3.out.trans (Kp.drew _) | with_reducible exact K3.out.trans (Kp.drewN _ _))).mono ?_
  rintro e w4 ⟨v4, rfl, r4, kk⟩
  have K4 := Lib.hid ((show Kp W0 _ from (by first | with_reducible exact K3.out | with_reducible exact K3.out.trans (Kp.alloc _ _) | with_reducible exact (K3.out.trans (Kp.alloc _ _)).trans (Kp.alloc _ _) | with_reducible exact ((K3.out.trans (Kp.alloc _ _)).trans (Kp.alloc _ _)).trans (Kp.alloc _ _) | with_reducible exact K3.out.trans (Kp.drew _) | with_reducible exact K3.out.trans (Kp.drewN _ _))).trans kk)
  have G3_4 := Lib.hid (G3_3.out.trans ((show Kp w3 _ from (by first | with_reducible exact Kp.refl _ | with_reducible exact Kp.alloc _ _ | with_reducible exact (Kp.alloc _ _).trans (Kp.alloc _ _) | with_reducible exact ((Kp.alloc _ _).trans (Kp.alloc _ _)).trans (Kp.alloc _ _) | with_reducible exact Kp.drew _ | with_reducible exact Kp.drewN _ _)).trans kk))
  have RR4 := Lib.hid r4
  obtain ⟨a4, q4, rfl⟩ := r4.slice
  clear r4
  clear kk
  have G4_4 := Lib.hid (Kp.refl w4)
  go_wp2_with fail
  refine (C3.out _ (by first | with_reducible exact K4.out | with_reducible exact K4.out.trans (Kp.alloc _ _) | with_reducible exact (K4.out.trans (Kp.alloc _ _)).trans (Kp.alloc _ _) | with_reducible exact ((K4.out.trans (Kp.alloc _ _)).trans (Kp.alloc _ _)).trans (Kp.alloc _ _) | with_reducible exact K4.out.trans (Kp.drew _) | with_reducible exact K4.out.trans (Kp.drewN _ _))).mono ?_
  rintro e w5 ⟨v5, rfl, r5, kk⟩
  have K5 := Lib.hid ((show Kp W0 _ from (by first | with_reducible exact K4.out | with_reducible exact K4.out.trans (Kp.alloc _ _) | with_reducible exact (K4.out.trans (Kp.alloc _ _)).trans (Kp.alloc _ _) | with_reducible exact ((K4.out.trans (Kp.alloc _ _)).trans (Kp.alloc _ _)).trans (Kp.alloc _ _) | with_reducible exact K4.out.trans (Kp.drew _) | with_reducible exact K4.out.trans (Kp.drewN _ _))).trans kk)
  have G3_5 := Lib.hid (G3_4.out.trans ((show Kp w4 _ from (by first | with_reducible exact Kp.refl _ | with_reducible exact Kp.alloc _ _ | with_reducible exact (Kp.alloc _ _).trans (Kp.alloc _ _) | with_reducible exact ((Kp.alloc _ _).trans (Kp.alloc _ _)).trans (Kp.alloc _ _) | with_reducible exact Kp.drew _ | with_reducible exact Kp.drewN _ _)).trans kk))
  have G4_5 := Lib.hid (G4_4.out.trans ((show Kp w4 _ from (by first | with_reducible exact Kp.refl _ | with_reducible exact Kp.alloc _ _ | with_reducible exact (Kp.alloc _ _).trans (Kp.alloc _ _) | with_reducible exact ((Kp.alloc _ _).trans (Kp.alloc _ _)).trans (Kp.alloc _ _) | with_reducible exact Kp.drew _ | with_reducible exact Kp.drewN _ _)).trans kk))
  have RR5 := Lib.hid r5
  obtain ⟨a5, q5, rfl⟩ := r5.slice
  clear r5
  clear kk
  have G5_5 := Lib.hid (Kp.refl w5)
  go_wp2_with fail
  refine (C4.out _ (by first | with_reducible exact K5.out | with_reducible exact K5.out.trans (Kp.alloc _ _) | with_reducible exact (K5.out.trans (Kp.alloc _ _)).trans (Kp.alloc _ _) | with_reducible exact ((K5.out.trans (Kp.alloc _ _)).trans (Kp.alloc _ _)).trans (Kp.alloc _ _) | with_reducible exact K5.out.trans (Kp.drew _) | with_reducible exact K5.out.trans (Kp.drewN _ _))).mono ?_
  rintro e w6 ⟨v6, rfl, r6, kk⟩
  have K6 := Lib.hid ((show Kp W0 _ from (by first | with_reducible exact K5.out | with_reducible exact K5.out.trans (Kp.alloc _ _) | with_reducible exact (K5.out.trans (Kp.alloc _ _)).trans (Kp.alloc _ _) | with_reducible exact ((K5.out.trans (Kp.alloc _ _)).trans (Kp.alloc _ _)).trans (Kp.alloc _ _) | with_reducible exact K5.out.trans (Kp.drew _) | with_reducible exact K5.out.trans (Kp.drewN _ _))).trans kk)
  have G3_6 := Lib.hid (G3_5.out.trans ((show Kp w5 _ from (by first | with_reducible exact Kp.refl _ | with_reducible exact Kp.alloc _ _ | with_reducible exact (Kp.alloc _ _).trans (Kp.alloc _ _) | with_reducible exact ((Kp.alloc _ _).trans (Kp.alloc _ _)).trans (Kp.alloc _ _) | with_reducible exact Kp.drew _ | with_reducible exact Kp.drewN _ _)).trans kk))
  have G4_6 := Lib.hid (G4_5.out.trans ((show Kp w5 _ from (by first | with_reducible exact Kp.refl _ | with_reducible exact Kp.alloc _ _ | with_reducible exact (Kp.alloc _ _).trans (Kp.alloc _ _) | with_reducible exact ((Kp.alloc _ _).trans (Kp.alloc _ _)).trans (Kp.alloc _ _) | with_reducible exact Kp.drew _ | with_reducible exact Kp.drewN _ _)).trans kk))
  have G5_6 := Lib.hid (G5_5.out.trans ((show Kp w5 _ from (by first | with_reducible exact Kp.refl _ | with_reducible exact Kp.alloc _ _ | with_reducible exact (Kp.alloc _ _).trans (Kp.alloc _ _) | with_reducible exact ((Kp.alloc _ _).trans (Kp.alloc _ _)).trans (Kp.alloc _ _) | with_reducible exact Kp.drew _ | with_reducible exact Kp.drewN _ _)).trans kk))
  have RR6 := Lib.hid r6
  obtain ⟨a6, q6, rfl⟩ := r6.slice
  clear r6
  clear kk
  have G6_6 := Lib.hid (Kp.refl w6)
  go_wp2_with fail
  refine (SD.out _ _ _ (RR3.out.kp (G3_6.out.trans (by first | with_reducible exact Kp.refl _ | with_reducible exact Kp.alloc _ _ | with_reducible exact (Kp.alloc _ _).trans (Kp.alloc _ _) | with_reducible exact ((Kp.alloc _ _).trans (Kp.alloc _ _)).trans (Kp.alloc _ _) | with_reducible exact Kp.drew _ | with_reducible exact Kp.drewN _ _))) (RR4.out.kp (G4_6.out.trans (by first | with_reducible exact Kp.refl _ | with_reducible exact Kp.alloc _ _ | with_reducible exact (Kp.alloc _ _).trans (Kp.alloc _ _) | with_reducible exact ((Kp.alloc _ _).trans (Kp.alloc _ _)).trans (Kp.alloc _ _) | with_reducible exact Kp.drew _ | with_reducible exact Kp.drewN _ _)))).mono ?_
  rintro e w7 ⟨rfl, kk⟩
  have K7 := Lib.hid ((show Kp W0 _ from (by first | with_reducible exact K6.out | with_reducible exact K6.out.trans (Kp.alloc _ _) | with_reducible exact (K6.out.trans (Kp.alloc _ _)).trans (Kp.alloc _ _) | with_reducible exact ((K6.out.trans (Kp.alloc _ _)).trans (Kp.alloc _ _)).trans (Kp.alloc _ _) | with_reducible exact K6.out.trans (Kp.drew _) | with_reducible exact K6.out.trans (Kp.drewN _ _))).trans kk)
  have G3_7 := Lib.hid (G3_6.out.trans ((show Kp w6 _ from (by first | with_reducible exact Kp.refl _ | with_reducible exact Kp.alloc _ _ | with_reducible exact (Kp.alloc _ _).trans (Kp.alloc _ _) | with_reducible exact ((Kp.alloc _ _).trans (Kp.alloc _ _)).trans (Kp.alloc _ _) | with_reducible exact Kp.drew _ | with_reducible exact Kp.drewN _ _)).trans kk))
  have G4_7 := Lib.hid (G4_6.out.trans ((show Kp w6 _ from (by first | with_reducible exact Kp.refl _ | with_reducible exact Kp.alloc _ _ | with_reducible exact (Kp.alloc _ _).trans (Kp.alloc _ _) | with_reducible exact ((Kp.alloc _ _).trans (Kp.alloc _ _)).trans (Kp.alloc _ _) | with_reducible exact Kp.drew _ | with_reducible exact Kp.drewN _ _)).trans kk))
  have G5_7 := Lib.hid (G5_6.out.trans ((show Kp w6 _ from (by first | with_reducible exact Kp.refl _ | with_reducible exact Kp.alloc _ _ | with_reducible exact (Kp.alloc _ _).trans (Kp.alloc _ _) | with_reducible exact ((Kp.alloc _ _).trans (Kp.alloc _ _)).trans (Kp.alloc _ _) | with_reducible exact Kp.drew _ | with_reducible exact Kp.drewN _ _)).trans kk))
  have G6_7 := Lib.hid (G6_6.out.trans ((show Kp w6 _ from (by first | with_reducible exact Kp.refl _ | with_reducible exact Kp.alloc _ _ | with_reducible exact (Kp.alloc _ _).trans (Kp.alloc _ _) | with_reducible exact ((Kp.alloc _ _).trans (Kp.alloc _ _)).trans (Kp.alloc _ _) | with_reducible exact Kp.drew _ | with_reducible exact Kp.drewN _ _)).trans kk))
  clear kk
  go_wp2_with fail
  refine (SS.out _ _ _ (RR5.out.kp (G5_7.out.trans (by first | with_reducible exact Kp.refl _ | with_reducible exact Kp.alloc _ _ | with_reducible exact (Kp.alloc _ _).trans (Kp.alloc _ _) | with_reducible exact ((Kp.alloc _ _).trans (Kp.alloc _ _)).trans (Kp.alloc _ _) | with_reducible exact Kp.drew _ | with_reducible exact Kp.drewN _ _))) (RR6.out.kp (G6_7.out.trans (by first | with_reducible exact Kp.refl _ | with_reducible exact Kp.alloc _ _ | with_reducible exact (Kp.alloc _ _).trans (Kp.alloc _ _) | with_reducible exact ((Kp.alloc _ _).trans (Kp.alloc _ _)).trans (Kp.alloc _ _) | with_reducible exact Kp.drew _ | with_reducible exact Kp.drewN _ _)))).mono ?_
  rintro e w8 ⟨rfl, kk⟩
  have K8 := Lib.hid ((show Kp W0 _ from (by first | with_reducible exact K7.out | with_reducible exact K7.out.trans (Kp.alloc _ _) | with_reducible exact (K7.out.trans (Kp.alloc _ _)).trans (Kp.alloc _ _) | with_reducible exact ((K7.out.trans (Kp.alloc _ _)).trans (Kp.alloc _ _)).trans (Kp.alloc _ _) | with_reducible exact K7.out.trans (Kp.drew _) | with_reducible exact K7.out.trans (Kp.drewN _ _))).trans kk)
  have G3_8 := Lib.hid (G3_7.out.trans ((show Kp w7 _ from (by first | with_reducible exact Kp.refl _ | with_reducible exact Kp.alloc _ _ | with_reducible exact (Kp.alloc _ _).trans (Kp.alloc _ _) | with_reducible exact ((Kp.alloc _ _).trans (Kp.alloc _ _)).trans (Kp.alloc _ _) | with_reducible exact Kp.drew _ | with_reducible exact Kp.drewN _ _)).trans kk))
  have G4_8 := Lib.hid (G4_7.out.trans ((show Kp w7 _ from (by first | with_reducible exact Kp.refl _ | with_reducible exact Kp.alloc _ _ | with_reducible exact (Kp.alloc _ _).trans (Kp.alloc _ _) | with_reducible exact ((Kp.alloc _ _).trans (Kp.alloc _ _)).trans (Kp.alloc _ _) | with_reducible exact Kp.drew _ | with_reducible exact Kp.drewN _ _)).trans kk))
  have G5_8 := Lib.hid (G5_7.out.trans ((show Kp w7 _ from (by first | with_reducible exact Kp.refl _ | with_reducible exact Kp.alloc _ _ | with_reducible exact (Kp.alloc _ _).trans (Kp.alloc _ _) | with_reducible exact ((Kp.alloc _ _).trans (Kp.alloc _ _)).trans (Kp.alloc _ _) | with_reducible exact Kp.drew _ | with_reducible exact Kp.drewN _ _)).trans kk))
  have G6_8 := Lib.hid (G6_7.out.trans ((show Kp w7 _ from (by first | with_reducible exact Kp.refl _ | with_reducible exact Kp.alloc _ _ | with_reducible exact (Kp.alloc _ _).trans (Kp.alloc _ _) | with_reducible exact ((Kp.alloc _ _).trans (Kp.alloc _ _)).trans (Kp.alloc _ _) | with_reducible exact Kp.drew _ | with_reducible exact Kp.drewN _ _)).trans kk))
  clear kk
  go_wp2_with fail
  refine (C5.out _ (by first | with_reducible exact K8.out | with_reducible exact K8.out.trans (Kp.alloc _ _) | with_reducible exact (K8.out.trans (Kp.alloc _ _)).trans (Kp.alloc _ _) | with_reducible exact ((K8.out.trans (Kp.alloc _ _)).trans (Kp.alloc _ _)).trans (Kp.alloc _ _) | with_reducible exact K8.out.trans (Kp.drew _) | with_reducible exact K8.out.trans (Kp.drewN _ _))).mono ?_
  rintro e w9 ⟨rfl, kk⟩
  have K9 := Lib.hid ((show Kp W0 _ from (by first | with_reducible exact K8.out | with_reducible exact K8.out.trans (Kp.alloc _ _) | with_reducible exact (K8.out.trans (Kp.alloc _ _)).trans (Kp.alloc _ _) | with_reducible exact ((K8.out.trans (Kp.alloc _ _)).trans (Kp.alloc _ _)).trans (Kp.alloc _ _) | with_reducible exact K8.out.trans (Kp.drew _) | with_reducible exact K8.out.trans (Kp.drewN _ _))).trans kk)
  have G3_9 := Lib.hid (G3_8.out.trans ((show Kp w8 _ from (by first | with_reducible exact Kp.refl _ | with_reducible exact Kp.alloc _ _ | with_reducible exact (Kp.alloc _ _).trans (Kp.alloc _ _) | with_reducible exact ((Kp.alloc _ _).trans (Kp.alloc _ _)).trans (Kp.alloc _ _) | with_reducible exact Kp.drew _ | with_reducible exact Kp.drewN _ _)).trans kk))
  have G4_9 := Lib.hid (G4_8.out.trans ((show Kp w8 _ from (by first | with_reducible exact Kp.refl _ | with_reducible exact Kp.alloc _ _ | with_reducible exact (Kp.alloc _ _).trans (Kp.alloc _ _) | with_reducible exact ((Kp.alloc _ _).trans (Kp.alloc _ _)).trans (Kp.alloc _ _) | with_reducible exact Kp.drew _ | with_reducible exact Kp.drewN _ _)).trans kk))
  have G5_9 := Lib.hid (G5_8.out.trans ((show Kp w8 _ from (by first | with_reducible exact Kp.refl _ | with_reducible exact Kp.alloc _ _ | with_reducible exact (Kp.alloc _ _).trans (Kp.alloc _ _) | with_reducible exact ((Kp.alloc _ _).trans (Kp.alloc _ _)).trans (Kp.alloc _ _) | with_reducible exact Kp.drew _ | with_reducible exact Kp.drewN _ _)).trans kk))
  have G6_9 := Lib.hid (G6_8.out.trans ((show Kp w8 _ from (by first | with_reducible exact Kp.refl _ | with_reducible exact Kp.alloc _ _ | with_reducible exact (Kp.alloc _ _).trans (Kp.alloc _ _) | with_reducible exact ((Kp.alloc _ _).trans (Kp.alloc _ _)).trans (Kp.alloc _ _) | with_reducible exact Kp.drew _ | with_reducible exact Kp.drewN _ _)).trans kk))
  clear kk
  go_wp2_with fail
  refine (C6.out _ (by first | with_reducible exact K9.out | with_reducible exact K9.out.trans (Kp.alloc _ _) | with_reducible exact (K9.out.trans (Kp.alloc _ _)).trans (Kp.alloc _ _) | with_reducible exact ((K9.out.trans (Kp.alloc _ _)).trans (Kp.alloc _ _)).trans (Kp.alloc _ _) | with_reducible exact K9.out.trans (Kp.drew _) | with_reducible exact K9.out.trans (Kp.drewN _ _))).mono ?_
  rintro e w10 ⟨rfl, kk⟩
  have K10 := Lib.hid ((show Kp W0 _ from (by first | with_reducible exact K9.out | with_reducible exact K9.out.trans (Kp.alloc _ _) | with_reducible exact (K9.out.trans (Kp.alloc _ _)).trans (Kp.alloc _ _) | with_reducible exact ((K9.out.trans (Kp.alloc _ _)).trans (Kp.alloc _ _)).trans (Kp.alloc _ _) | with_reducible exact K9.out.trans (Kp.drew _) | with_reducible exact K9.out.trans (Kp.drewN _ _))).trans kk)
  have G3_10 := Lib.hid (G3_9.out.trans ((show Kp w9 _ from (by first | with_reducible exact Kp.refl _ | with_reducible exact Kp.alloc _ _ | with_reducible exact (Kp.alloc _ _).trans (Kp.alloc _ _) | with_reducible exact ((Kp.alloc _ _).trans (Kp.alloc _ _)).trans (Kp.alloc _ _) | with_reducible exact Kp.drew _ | with_reducible exact Kp.drewN _ _)).trans kk))
  have G4_10 := Lib.hid (G4_9.out.trans ((show Kp w9 _ from (by first | with_reducible exact Kp.refl _ | with_reducible exact Kp.alloc _ _ | with_reducible exact (Kp.alloc _ _).trans (Kp.alloc _ _) | with_reducible exact ((Kp.alloc _ _).trans (Kp.alloc _ _)).trans (Kp.alloc _ _) | with_reducible exact Kp.drew _ | with_reducible exact Kp.drewN _ _)).trans kk))
  have G5_10 := Lib.hid (G5_9.out.trans ((show Kp w9 _ from (by first | with_reducible exact Kp.refl _ | with_reducible exact Kp.alloc _ _ | with_reducible exact (Kp.alloc _ _).trans (Kp.alloc _ _) | with_reducible exact ((Kp.alloc _ _).trans (Kp.alloc _ _)).trans (Kp.alloc _ _) | with_reducible exact Kp.drew _ | with_reducible exact Kp.drewN _ _)).trans kk))
  have G6_10 := Lib.hid (G6_9.out.trans ((show Kp w9 _ from (by first | with_reducible exact Kp.refl _ | with_reducible exact Kp.alloc _ _ | with_reducible exact (Kp.alloc _ _).trans (Kp.alloc _ _) | with_reducible exact ((Kp.alloc _ _).trans (Kp.alloc _ _)).trans (Kp.alloc _ _) | with_reducible exact Kp.drew _ | with_reducible exact Kp.drewN _ _)).trans kk))
  clear kk
  go_wp2_with fail
  refine (C7.out _ (by first | with_reducible exact K10.out | with_reducible exact K10.out.trans (Kp.alloc _ _) | with_reducible exact (K10.out.trans (Kp.alloc _ _)).trans (Kp.alloc _ _) | with_reducible exact ((K10.out.trans (Kp.alloc _ _)).trans (Kp.alloc _ _)).trans (Kp.alloc _ _) | with_reducible exact K10.out.trans (Kp.drew _) | with_reducible exact K10.out.trans (Kp.drewN _ _))).mono ?_
  rintro e w11 ⟨rfl, kk⟩
  have K11 := Lib.hid ((show Kp W0 _ from (by first | with_reducible exact K10.out | with_reducible exact K10.out.trans (Kp.alloc _ _) | with_reducible exact (K10.out.trans (Kp.alloc _ _)).trans (Kp.alloc _ _) | with_reducible exact ((K10.out.trans (Kp.alloc _ _)).trans (Kp.alloc _ _)).trans (Kp.alloc _ _) | with_reducible exact K10.out.trans (Kp.drew _) | with_reducible exact K10.out.trans (Kp.drewN _ _))).trans kk)
  have G3_11 := Lib.hid (G3_10.out.trans ((show Kp w10 _ from (by first | with_reducible exact Kp.refl _ | with_reducible exact Kp.alloc _ _ | with_reducible exact (Kp.alloc _ _).trans (Kp.alloc _ _) | with_reducible exact ((Kp.alloc _ _).trans (Kp.alloc _ _)).trans (Kp.alloc _ _) | with_reducible exact Kp.drew _ | with_reducible exact Kp.drewN _ _)).trans kk))
  have G4_11 := Lib.hid (G4_10.out.trans ((show Kp w10 _ from (by first | with_reducible exact Kp.refl _ | with_reducible exact Kp.alloc _ _ | with_reducible exact (Kp.alloc _ _).trans (Kp.alloc _ _) | with_reducible exact ((Kp.alloc _ _).trans (Kp.alloc _ _)).trans (Kp.alloc _ _) | with_reducible exact Kp.drew _ | with_reducible exact Kp.drewN _ _)).trans kk))
  have G5_11 := Lib.hid (G5_10.out.trans ((show Kp w10 _ from (by first | with_reducible exact Kp.refl _ | with_reducible exact Kp.alloc _ _ | with_reducible exact (Kp.alloc _ _).trans (Kp.alloc _ _) | with_reducible exact ((Kp.alloc _ _).trans (Kp.alloc _ _)).trans (Kp.alloc _ _) | with_reducible exact Kp.drew _ | with_reducible exact Kp.drewN _ _)).trans kk))
  have G6_11 := Lib.hid (G6_10.out.trans ((show Kp w10 _ from (by first | with_reducible exact Kp.refl _ | with_reducible exact Kp.alloc _ _ | with_reducible exact (Kp.alloc _ _).trans (Kp.alloc _ _) | with_reducible exact ((Kp.alloc _ _).trans (Kp.alloc _ _)).trans (Kp.alloc _ _) | with_reducible exact Kp.drew _ | with_reducible exact Kp.drewN _ _)).trans kk))
  clear kk
  go_wp2_with fail
  refine (C8.out _ (by first | with_reducible exact K11.out | with_reducible exact K11.out.trans (Kp.alloc _ _) | with_reducible exact (K11.out.trans (Kp.alloc _ _)).trans (Kp.alloc _ _) | with_reducible exact ((K11.out.trans (Kp.alloc _ _)).trans (Kp.alloc _ _)).trans (Kp.alloc _ _) | with_reducible exact K11.out.trans (Kp.drew _) | with_reducible exact K11.out.trans (Kp.drewN _ _))).mono ?_
  rintro e w12 ⟨rfl, kk⟩
  have K12 := Lib.hid ((show Kp W0 _ from (by first | with_reducible exact K11.out | with_reducible exact K11.out.trans (Kp.alloc _ _) | with_reducible exact (K11.out.trans (Kp.alloc _ _)).trans (Kp.alloc _ _) | with_reducible exact ((K11.out.trans (Kp.alloc _ _)).trans (Kp.alloc _ _)).trans (Kp.alloc _ _) | with_reducible exact K11.out.trans (Kp.drew _) | with_reducible exact K11.out.trans (Kp.drewN _ _))).trans kk)
  have G3_12 := Lib.hid (G3_11.out.trans ((show Kp w11 _ from (by first | with_reducible exact Kp.refl _ | with_reducible exact Kp.alloc _ _ | with_reducible exact (Kp.alloc _ _).trans (Kp.alloc _ _) | with_reducible exact ((Kp.alloc _ _).trans (Kp.alloc _ _)).trans (Kp.alloc _ _) | with_reducible exact Kp.drew _ | with_reducible exact Kp.drewN _ _)).trans kk))
  have G4_12 := Lib.hid (G4_11.out.trans ((show Kp w11 _ from (by first | with_reducible exact Kp.refl _ | with_reducible exact Kp.alloc _ _ | with_reducible exact (Kp.alloc _ _).trans (Kp.alloc _ _) | with_reducible exact ((Kp.alloc _ _).trans (Kp.alloc _ _)).trans (Kp.alloc _ _) | with_reducible exact Kp.drew _ | with_reducible exact Kp.drewN _ _)).trans kk))
  have G5_12 := Lib.hid (G5_11.out.trans ((show Kp w11 _ from (by first | with_reducible exact Kp.refl _ | with_reducible exact Kp.alloc _ _ | with_reducible exact (Kp.alloc _ _).trans (Kp.alloc _ _) | with_reducible exact ((Kp.alloc _ _).trans (Kp.alloc _ _)).trans (Kp.alloc _ _) | with_reducible exact Kp.drew _ | with_reducible exact Kp.drewN _ _)).trans kk))
  have G6_12 := Lib.hid (G6_11.out.trans ((show Kp w11 _ from (by first | with_reducible exact Kp.refl _ | with_reducible exact Kp.alloc _ _ | with_reducible exact (Kp.alloc _ _).trans (Kp.alloc _ _) | with_reducible exact ((Kp.alloc _ _).trans (Kp.alloc _ _)).trans (Kp.alloc _ _) | with_reducible exact Kp.drew _ | with_reducible exact Kp.drewN _ _)).trans kk))
  clear kk
  go_wp2
  go_ret
  exact ⟨rfl, K00.out.trans K12.out⟩
theorem coverIs_walk (vl : Value) (l : List LF) (day : Int) (w : World) (rl : LeavesAt w vl l) (gl : ∀ f ∈ l, LeafG f) (h1 : -9223372036854775808 ≤ day) (h2 : day ≤ 9223372036854775807) (T : Tabs w) :
    Calls Tryz.prog 5 #[vl, .int .i64 day] w fun e w' => e = .returned (.bool true) ∧ Kp w w' := by
  rcases Bool.eq_false_or_eq_true (fewL l) with hf | hf
  · exact cis_main vl l day w rl gl h1 h2 T hf
  · exact cis_few vl l day w rl gl h1 h2 T hf
end Go.Proofs.YtfphmhdgnokopaaGreatDoor
