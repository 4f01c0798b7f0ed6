/-
  Layer 16: the walk of EnvIs.
-/
import Derived.Test.YtfphmhdgnokopaaGreatDoorGEnvB
import Derived.Test.YtfphmhdgnokopaaGreatDoorGEnv
namespace Go.Proofs.YtfphmhdgnokopaaGreatDoor
open Go.RowKit
set_option linter.unusedVariables false
set_option linter.unusedSimpArgs false
theorem envAN_all (l : List LF) : envAN l l.length = anyB l := by unfold envAN; rw [List.take_length]
theorem envST_all (l : List LF) : envST l l.length = ((envF dLS min l).1, (envF dGS max l).1, (envF dLE min l).1, (envF dGE max l).1) := by unfold envST; rw [List.take_length]
set_option maxHeartbeats 16000000 in
set_option maxRecDepth 100000 in
theorem told_Earliest (v : Value) (l : List LF) (w : World) (hv : LeavesAt w v l) (hl : LsOk l) :
    Calls Tryz.prog 85 #[v, .int .i64 0] w fun e w' => e = .returned (.tuple #[.int .i64 (envF dLS min l).1, .int .i64 (envF dLS min l).2]) ∧ Kp w w' := by
  have C := Lib.hid (refAll_any v l w hv hl)
  rw [envAN_all, envST_all] at C
  rcases Bool.eq_false_or_eq_true (anyB l) with ha | ha
  · have e2 := (env_min dLS l ha).1
    rw [e2]
    rw [ha] at C
    simp only at C
    generalize (envF dLS min l).1 = x0 at *
    generalize (envF dGS max l).1 = x1 at *
    generalize (envF dLE min l).1 = x2 at *
    generalize (envF dGE max l).1 = x3 at *
    clear e2 ha hv hl
    go_enter Tryz.func85, Tryz.ntmps85
    go_wp2_with fail
    refine (C.out).mono ?_
    rintro e w1 ⟨rfl, kk⟩
    have K1 := Lib.hid kk
    clear kk C
    go_wp2
    exact bodyPost_ret (results_tmp2 rfl _ _ _) rfl ⟨rfl, K1.out.trans (Kp.alloc _ _)⟩
  · rw [env_nil _ _ _ ha]
    rw [ha] at C
    simp only at C ⊢
    generalize (envF dLS min l).1 = x0 at *
    generalize (envF dGS max l).1 = x1 at *
    generalize (envF dLE min l).1 = x2 at *
    generalize (envF dGE max l).1 = x3 at *
    clear ha hv hl
    go_enter Tryz.func85, Tryz.ntmps85
    go_wp2_with fail
    refine (C.out).mono ?_
    rintro e w1 ⟨rfl, kk⟩
    have K1 := Lib.hid kk
    clear kk C
    go_wp2
    exact bodyPost_ret (results_tmp2 rfl _ _ _) rfl ⟨rfl, K1.out.trans (Kp.alloc _ _)⟩
theorem refEarliest_any (v : Value) (l : List LF) (w : World) (hv : LeavesAt w v l) (hl : LsOk l) :
    Calls Tryz.prog 34 #[v] w fun e w' => e = .returned (.tuple #[.int .i64 (envF dLS min l).1, .int .i64 (envF dLS min l).2]) ∧ Kp w w' := by
  have C := Lib.hid (told_Earliest v l w hv hl)
  generalize envF dLS min l = r at *
  obtain ⟨x, y⟩ := r
  clear hv hl
  go_enter Tryz.func34, Tryz.ntmps34
  go_wp2_with fail
  refine (C.out).mono ?_
  rintro e w' ⟨rfl, kk⟩
  go_wp2
  exact bodyPost_ret (results_tmp2 rfl _ _ _) rfl ⟨rfl, kk⟩
set_option maxHeartbeats 16000000 in
set_option maxRecDepth 100000 in
theorem told_LastStart (v : Value) (l : List LF) (w : World) (hv : LeavesAt w v l) (hl : LsOk l) :
    Calls Tryz.prog 85 #[v, .int .i64 1] w fun e w' => e = .returned (.tuple #[.int .i64 (envF dGS max l).1, .int .i64 (envF dGS max l).2]) ∧ Kp w w' := by
  have C := Lib.hid (refAll_any v l w hv hl)
  rw [envAN_all, envST_all] at C
  rcases Bool.eq_false_or_eq_true (anyB l) with ha | ha
  · have e2 := (env_max dGS l ha).1
    rw [e2]
    rw [ha] at C
    simp only at C
    generalize (envF dLS min l).1 = x0 at *
    generalize (envF dGS max l).1 = x1 at *
    generalize (envF dLE min l).1 = x2 at *
    generalize (envF dGE max l).1 = x3 at *
    clear e2 ha hv hl
    go_enter Tryz.func85, Tryz.ntmps85
    go_wp2_with fail
    refine (C.out).mono ?_
    rintro e w1 ⟨rfl, kk⟩
    have K1 := Lib.hid kk
    clear kk C
    go_wp2
    exact bodyPost_ret (results_tmp2 rfl _ _ _) rfl ⟨rfl, K1.out.trans (Kp.alloc _ _)⟩
  · rw [env_nil _ _ _ ha]
    rw [ha] at C
    simp only at C ⊢
    generalize (envF dLS min l).1 = x0 at *
    generalize (envF dGS max l).1 = x1 at *
    generalize (envF dLE min l).1 = x2 at *
    generalize (envF dGE max l).1 = x3 at *
    clear ha hv hl
    go_enter Tryz.func85, Tryz.ntmps85
    go_wp2_with fail
    refine (C.out).mono ?_
    rintro e w1 ⟨rfl, kk⟩
    have K1 := Lib.hid kk
    clear kk C
    go_wp2
    exact bodyPost_ret (results_tmp2 rfl _ _ _) rfl ⟨rfl, K1.out.trans (Kp.alloc _ _)⟩
theorem refLastStart_any (v : Value) (l : List LF) (w : World) (hv : LeavesAt w v l) (hl : LsOk l) :
    Calls Tryz.prog 40 #[v] w fun e w' => e = .returned (.tuple #[.int .i64 (envF dGS max l).1, .int .i64 (envF dGS max l).2]) ∧ Kp w w' := by
  have C := Lib.hid (told_LastStart v l w hv hl)
  generalize envF dGS max l = r at *
  obtain ⟨x, y⟩ := r
  clear hv hl
  go_enter Tryz.func40, Tryz.ntmps40
  go_wp2_with fail
  refine (C.out).mono ?_
  rintro e w' ⟨rfl, kk⟩
  go_wp2
  exact bodyPost_ret (results_tmp2 rfl _ _ _) rfl ⟨rfl, kk⟩
set_option maxHeartbeats 16000000 in
set_option maxRecDepth 100000 in
theorem told_FirstEnd (v : Value) (l : List LF) (w : World) (hv : LeavesAt w v l) (hl : LsOk l) :
    Calls Tryz.prog 85 #[v, .int .i64 2] w fun e w' => e = .returned (.tuple #[.int .i64 (envF dLE min l).1, .int .i64 (envF dLE min l).2]) ∧ Kp w w' := by
  have C := Lib.hid (refAll_any v l w hv hl)
  rw [envAN_all, envST_all] at C
  rcases Bool.eq_false_or_eq_true (anyB l) with ha | ha
  · have e2 := (env_min dLE l ha).1
    rw [e2]
    rw [ha] at C
    simp only at C
    generalize (envF dLS min l).1 = x0 at *
    generalize (envF dGS max l).1 = x1 at *
    generalize (envF dLE min l).1 = x2 at *
    generalize (envF dGE max l).1 = x3 at *
    clear e2 ha hv hl
    go_enter Tryz.func85, Tryz.ntmps85
    go_wp2_with fail
    refine (C.out).mono ?_
    rintro e w1 ⟨rfl, kk⟩
    have K1 := Lib.hid kk
    clear kk C
    go_wp2
    exact bodyPost_ret (results_tmp2 rfl _ _ _) rfl ⟨rfl, K1.out.trans (Kp.alloc _ _)⟩
  · rw [env_nil _ _ _ ha]
    rw [ha] at C
    simp only at C ⊢
    generalize (envF dLS min l).1 = x0 at *
    generalize (envF dGS max l).1 = x1 at *
    generalize (envF dLE min l).1 = x2 at *
    generalize (envF dGE max l).1 = x3 at *
    clear ha hv hl
    go_enter Tryz.func85, Tryz.ntmps85
    go_wp2_with fail
    refine (C.out).mono ?_
    rintro e w1 ⟨rfl, kk⟩
    have K1 := Lib.hid kk
    clear kk C
    go_wp2
    exact bodyPost_ret (results_tmp2 rfl _ _ _) rfl ⟨rfl, K1.out.trans (Kp.alloc _ _)⟩
theorem refFirstEnd_any (v : Value) (l : List LF) (w : World) (hv : LeavesAt w v l) (hl : LsOk l) :
    Calls Tryz.prog 38 #[v] w fun e w' => e = .returned (.tuple #[.int .i64 (envF dLE min l).1, .int .i64 (envF dLE min l).2]) ∧ Kp w w' := by
  have C := Lib.hid (told_FirstEnd v l w hv hl)
  generalize envF dLE min l = r at *
  obtain ⟨x, y⟩ := r
  clear hv hl
  go_enter Tryz.func38, Tryz.ntmps38
  go_wp2_with fail
  refine (C.out).mono ?_
  rintro e w' ⟨rfl, kk⟩
  go_wp2
  exact bodyPost_ret (results_tmp2 rfl _ _ _) rfl ⟨rfl, kk⟩
set_option maxHeartbeats 16000000 in
set_option maxRecDepth 100000 in
theorem told_Latest (v : Value) (l : List LF) (w : World) (hv : LeavesAt w v l) (hl : LsOk l) :
    Calls Tryz.prog 85 #[v, .int .i64 3] w fun e w' => e = .returned (.tuple #[.int .i64 (envF dGE max l).1, .int .i64 (envF dGE max l).2]) ∧ Kp w w' := by
  have C := Lib.hid (refAll_any v l w hv hl)
  rw [envAN_all, envST_all] at C
  rcases Bool.eq_false_or_eq_true (anyB l) with ha | ha
  · have e2 := (env_max dGE l ha).1
    rw [e2]
    rw [ha] at C
    simp only at C
    generalize (envF dLS min l).1 = x0 at *
    generalize (envF dGS max l).1 = x1 at *
    generalize (envF dLE min l).1 = x2 at *
    generalize (envF dGE max l).1 = x3 at *
    clear e2 ha hv hl
    go_enter Tryz.func85, Tryz.ntmps85
    go_wp2_with fail
    refine (C.out).mono ?_
    rintro e w1 ⟨rfl, kk⟩
    have K1 := Lib.hid kk
    clear kk C
    go_wp2
    exact bodyPost_ret (results_tmp2 rfl _ _ _) rfl ⟨rfl, K1.out.trans (Kp.alloc _ _)⟩
  · rw [env_nil _ _ _ ha]
    rw [ha] at C
    simp only at C ⊢
    generalize (envF dLS min l).1 = x0 at *
    generalize (envF dGS max l).1 = x1 at *
    generalize (envF dLE min l).1 = x2 at *
    generalize (envF dGE max l).1 = x3 at *
    clear ha hv hl
    go_enter Tryz.func85, Tryz.ntmps85
    go_wp2_with fail
    refine (C.out).mono ?_
    rintro e w1 ⟨rfl, kk⟩
    have K1 := Lib.hid kk
    clear kk C
    go_wp2
    exact bodyPost_ret (results_tmp2 rfl _ _ _) rfl ⟨rfl, K1.out.trans (Kp.alloc _ _)⟩
theorem refLatest_any (v : Value) (l : List LF) (w : World) (hv : LeavesAt w v l) (hl : LsOk l) :
    Calls Tryz.prog 36 #[v] w fun e w' => e = .returned (.tuple #[.int .i64 (envF dGE max l).1, .int .i64 (envF dGE max l).2]) ∧ Kp w w' := by
  have C := Lib.hid (told_Latest v l w hv hl)
  generalize envF dGE max l = r at *
  obtain ⟨x, y⟩ := r
  clear hv hl
  go_enter Tryz.func36, Tryz.ntmps36
  go_wp2_with fail
  refine (C.out).mono ?_
  rintro e w' ⟨rfl, kk⟩
  go_wp2
  exact bodyPost_ret (results_tmp2 rfl _ _ _) rfl ⟨rfl, kk⟩
set_option maxHeartbeats 16000000 in
set_option maxRecDepth 100000 in
theorem eis_few (vl : Value) (l : List LF) (w : World) (rl : LeavesAt w vl l) (gl : ∀ f ∈ l, LeafG f) (T : Tabs w) (hf : fewL l = false) :
    Calls Tryz.prog 4 #[vl] w fun e w' => e = .returned (.bool true) ∧ Kp w w' := by
  have RFW := Lib.hid (fun w1 (kk : Kp w w1) => fewL_any vl l w1 (rl.kp kk))
  rw [hf] at RFW
  obtain ⟨adl, cal, rfl⟩ := rl.slice
  obtain ⟨W0, hW⟩ : ∃ W0, W0 = w := ⟨_, rfl⟩
  subst hW
  have K00 := Lib.hid (Kp.refl W0)
  have K0 := Lib.hid (Kp.refl W0)
  have AW := Lib.hid (fun w1 (kk : Kp W0 w1) => awake16 w1 (T.kp (K00.out.trans kk)))
  have FW := Lib.hid (fun w1 (kk : Kp W0 w1) => RFW.out w1 (K00.out.trans kk))
  clear rl gl T
  go_enter Tryz.func4, Tryz.ntmps4
  go_wp2_with fail
  refine (AW.out _ (by first | with_reducible exact K0.out | with_reducible exact K0.out.trans (Kp.alloc _ _) | with_reducible exact (K0.out.trans (Kp.alloc _ _)).trans (Kp.alloc _ _) | with_reducible exact ((K0.out.trans (Kp.alloc _ _)).trans (Kp.alloc _ _)).trans (Kp.alloc _ _) | with_reducible exact K0.out.trans (Kp.drew _) | with_reducible exact K0.out.trans (Kp.drewN _ _))).mono ?_
  rintro e w1 ⟨rfl, kk⟩
  have K1 := Lib.hid ((show Kp W0 _ from (by first | with_reducible exact K0.out | with_reducible exact K0.out.trans (Kp.alloc _ _) | with_reducible exact (K0.out.trans (Kp.alloc _ _)).trans (Kp.alloc _ _) | with_reducible exact ((K0.out.trans (Kp.alloc _ _)).trans (Kp.alloc _ _)).trans (Kp.alloc _ _) | with_reducible exact K0.out.trans (Kp.drew _) | with_reducible exact K0.out.trans (Kp.drewN _ _))).trans kk)
  clear kk
  go_wp2_with fail
  refine (FW.out _ (by first | with_reducible exact K1.out | with_reducible exact K1.out.trans (Kp.alloc _ _) | with_reducible exact (K1.out.trans (Kp.alloc _ _)).trans (Kp.alloc _ _) | with_reducible exact ((K1.out.trans (Kp.alloc _ _)).trans (Kp.alloc _ _)).trans (Kp.alloc _ _) | with_reducible exact K1.out.trans (Kp.drew _) | with_reducible exact K1.out.trans (Kp.drewN _ _))).mono ?_
  rintro e w2 ⟨rfl, kk⟩
  have K2 := Lib.hid ((show Kp W0 _ from (by first | with_reducible exact K1.out | with_reducible exact K1.out.trans (Kp.alloc _ _) | with_reducible exact (K1.out.trans (Kp.alloc _ _)).trans (Kp.alloc _ _) | with_reducible exact ((K1.out.trans (Kp.alloc _ _)).trans (Kp.alloc _ _)).trans (Kp.alloc _ _) | with_reducible exact K1.out.trans (Kp.drew _) | with_reducible exact K1.out.trans (Kp.drewN _ _))).trans kk)
  clear kk
  go_wp2
  go_ret
  exact ⟨rfl, K00.out.trans K2.out⟩
set_option maxHeartbeats 16000000 in
set_option maxRecDepth 100000 in
theorem eis_main (vl : Value) (l : List LF) (w : World) (rl : LeavesAt w vl l) (gl : ∀ f ∈ l, LeafG f) (T : Tabs w) (hf : fewL l = true) :
    Calls Tryz.prog 4 #[vl] w fun e w' => e = .returned (.bool true) ∧ Kp w w' := by
  have RFW := Lib.hid (fun w1 (kk : Kp w w1) => fewL_any vl l w1 (rl.kp kk))
  rw [hf] at RFW
  obtain ⟨hls, hn⟩ := fewL_ok hf gl
  have R0 := Lib.hid (fun w1 (kk : Kp w w1) => envEarliest_any vl l w1 (rl.kp kk) hls (T.kp kk))
  have Q0 := Lib.hid (fun w1 (kk : Kp w w1) => refEarliest_any vl l w1 (rl.kp kk) hls)
  generalize envF dLS min l = r0 at *
  obtain ⟨x0, y0⟩ := r0
  have ex0 : (x0 == x0) = true := by simp
  have ey0 : (y0 == y0) = true := by simp
  have R1 := Lib.hid (fun w1 (kk : Kp w w1) => envLatest_any vl l w1 (rl.kp kk) hls (T.kp kk))
  have Q1 := Lib.hid (fun w1 (kk : Kp w w1) => refLatest_any vl l w1 (rl.kp kk) hls)
  generalize envF dGE max l = r1 at *
  obtain ⟨x1, y1⟩ := r1
  have ex1 : (x1 == x1) = true := by simp
  have ey1 : (y1 == y1) = true := by simp
  have R2 := Lib.hid (fun w1 (kk : Kp w w1) => envFirstEnd_any vl l w1 (rl.kp kk) hls (T.kp kk))
  have Q2 := Lib.hid (fun w1 (kk : Kp w w1) => refFirstEnd_any vl l w1 (rl.kp kk) hls)
  generalize envF dLE min l = r2 at *
  obtain ⟨x2, y2⟩ := r2
  have ex2 : (x2 == x2) = true := by simp
  have ey2 : (y2 == y2) = true := by simp
  have R3 := Lib.hid (fun w1 (kk : Kp w w1) => envLastStart_any vl l w1 (rl.kp kk) hls (T.kp kk))
  have Q3 := Lib.hid (fun w1 (kk : Kp w w1) => refLastStart_any vl l w1 (rl.kp kk) hls)
  generalize envF dGS max l = r3 at *
  obtain ⟨x3, y3⟩ := r3
  have ex3 : (x3 == x3) = true := by simp
  have ey3 : (y3 == y3) = true := by simp
  obtain ⟨adl, cal, rfl⟩ := rl.slice
  obtain ⟨W0, hW⟩ : ∃ W0, W0 = w := ⟨_, rfl⟩
  subst hW
  have K00 := Lib.hid (Kp.refl W0)
  have K0 := Lib.hid (Kp.refl W0)
  have AW := Lib.hid (fun w1 (kk : Kp W0 w1) => awake16 w1 (T.kp (K00.out.trans kk)))
  have FW := Lib.hid (fun w1 (kk : Kp W0 w1) => RFW.out w1 (K00.out.trans kk))
  have C0 := Lib.hid (fun w1 (kk : Kp W0 w1) => R0.out w1 (K00.out.trans kk))
  have D0 := Lib.hid (fun w1 (kk : Kp W0 w1) => Q0.out w1 (K00.out.trans kk))
  have C1 := Lib.hid (fun w1 (kk : Kp W0 w1) => R1.out w1 (K00.out.trans kk))
  have D1 := Lib.hid (fun w1 (kk : Kp W0 w1) => Q1.out w1 (K00.out.trans kk))
  have C2 := Lib.hid (fun w1 (kk : Kp W0 w1) => R2.out w1 (K00.out.trans kk))
  have D2 := Lib.hid (fun w1 (kk : Kp W0 w1) => Q2.out w1 (K00.out.trans kk))
  have C3 := Lib.hid (fun w1 (kk : Kp W0 w1) => R3.out w1 (K00.out.trans kk))
  have D3 := Lib.hid (fun w1 (kk : Kp W0 w1) => Q3.out w1 (K00.out.trans kk))
  clear rl gl T RFW hls R0 R1 R2 R3 Q0 Q1 Q2 Q3
  go_enter Tryz.func4, Tryz.ntmps4
  go_wp2_with fail
  refine (AW.out _ (by first | with_reducible exact K0.out | with_reducible exact K0.out.trans (Kp.alloc _ _) | with_reducible exact (K0.out.trans (Kp.alloc _ _)).trans (Kp.alloc _ _) | with_reducible exact ((K0.out.trans (Kp.alloc _ _)).trans (Kp.alloc _ _)).trans (Kp.alloc _ _) | with_reducible exact K0.out.trans (Kp.drew _) | with_reducible exact K0.out.trans (Kp.drewN _ _))).mono ?_
  rintro e w1 ⟨rfl, kk⟩
  have K1 := Lib.hid ((show Kp W0 _ from (by first | with_reducible exact K0.out | with_reducible exact K0.out.trans (Kp.alloc _ _) | with_reducible exact (K0.out.trans (Kp.alloc _ _)).trans (Kp.alloc _ _) | with_reducible exact ((K0.out.trans (Kp.alloc _ _)).trans (Kp.alloc _ _)).trans (Kp.alloc _ _) | with_reducible exact K0.out.trans (Kp.drew _) | with_reducible exact K0.out.trans (Kp.drewN _ _))).trans kk)
  clear kk
  go_wp2_with fail
  refine (FW.out _ (by first | with_reducible exact K1.out | with_reducible exact K1.out.trans (Kp.alloc _ _) | with_reducible exact (K1.out.trans (Kp.alloc _ _)).trans (Kp.alloc _ _) | with_reducible exact ((K1.out.trans (Kp.alloc _ _)).trans (Kp.alloc _ _)).trans (Kp.alloc _ _) | with_reducible exact K1.out.trans (Kp.drew _) | with_reducible exact K1.out.trans (Kp.drewN _ _))).mono ?_
  rintro e w2 ⟨rfl, kk⟩
  have K2 := Lib.hid ((show Kp W0 _ from (by first | with_reducible exact K1.out | with_reducible exact K1.out.trans (Kp.alloc _ _) | with_reducible exact (K1.out.trans (Kp.alloc _ _)).trans (Kp.alloc _ _) | with_reducible exact ((K1.out.trans (Kp.alloc _ _)).trans (Kp.alloc _ _)).trans (Kp.alloc _ _) | with_reducible exact K1.out.trans (Kp.drew _) | with_reducible exact K1.out.trans (Kp.drewN _ _))).trans kk)
  clear kk
  go_wp2_with fail
  refine (C0.out _ (by first | with_reducible exact K2.out | with_reducible exact K2.out.trans (Kp.alloc _ _) | with_reducible exact (K2.out.trans (Kp.alloc _ _)).trans (Kp.alloc _ _) | with_reducible exact ((K2.out.trans (Kp.alloc _ _)).trans (Kp.alloc _ _)).trans (Kp.alloc _ _) | with_reducible exact K2.out.trans (Kp.drew _) | with_reducible exact K2.out.trans (Kp.drewN _ _))).mono ?_
  rintro e w3 ⟨rfl, kk⟩
  have K3 := Lib.hid ((show Kp W0 _ from (by first | with_reducible exact K2.out | with_reducible exact K2.out.trans (Kp.alloc _ _) | with_reducible exact (K2.out.trans (Kp.alloc _ _)).trans (Kp.alloc _ _) | with_reducible exact ((K2.out.trans (Kp.alloc _ _)).trans (Kp.alloc _ _)).trans (Kp.alloc _ _) | with_reducible exact K2.out.trans (Kp.drew _) | with_reducible exact K2.out.trans (Kp.drewN _ _))).trans kk)
  clear kk
  go_wp2_with fail
  refine (D0.out _ (by first | with_reducible exact K3.out | with_reducible exact K3.out.trans (Kp.alloc _ _) | with_reducible exact (K3.out.trans (Kp.alloc _ _)).trans (Kp.alloc _ _) | with_reducible exact ((K3.out.trans (Kp.alloc _ _)).trans (Kp.alloc _ _)).trans (Kp.alloc _ _) | with_reducible exact K3.out.trans (Kp.drew _) | with_reducible exact K3.out.trans (Kp.drewN _ _))).mono ?_
  rintro e w4 ⟨rfl, kk⟩
  have K4 := Lib.hid ((show Kp W0 _ from (by first | with_reducible exact K3.out | with_reducible exact K3.out.trans (Kp.alloc _ _) | with_reducible exact (K3.out.trans (Kp.alloc _ _)).trans (Kp.alloc _ _) | with_reducible exact ((K3.out.trans (Kp.alloc _ _)).trans (Kp.alloc _ _)).trans (Kp.alloc _ _) | with_reducible exact K3.out.trans (Kp.drew _) | with_reducible exact K3.out.trans (Kp.drewN _ _))).trans kk)
  clear kk
  go_wp2_with fail
  refine (C1.out _ (by first | with_reducible exact K4.out | with_reducible exact K4.out.trans (Kp.alloc _ _) | with_reducible exact (K4.out.trans (Kp.alloc _ _)).trans (Kp.alloc _ _) | with_reducible exact ((K4.out.trans (Kp.alloc _ _)).trans (Kp.alloc _ _)).trans (Kp.alloc _ _) | with_reducible exact K4.out.trans (Kp.drew _) | with_reducible exact K4.out.trans (Kp.drewN _ _))).mono ?_
  rintro e w5 ⟨rfl, kk⟩
  have K5 := Lib.hid ((show Kp W0 _ from (by first | with_reducible exact K4.out | with_reducible exact K4.out.trans (Kp.alloc _ _) | with_reducible exact (K4.out.trans (Kp.alloc _ _)).trans (Kp.alloc _ _) | with_reducible exact ((K4.out.trans (Kp.alloc _ _)).trans (Kp.alloc _ _)).trans (Kp.alloc _ _) | with_reducible exact K4.out.trans (Kp.drew _) | with_reducible exact K4.out.trans (Kp.drewN _ _))).trans kk)
  clear kk
  go_wp2_with fail
  refine (D1.out _ (by first | with_reducible exact K5.out | with_reducible exact K5.out.trans (Kp.alloc _ _) | with_reducible exact (K5.out.trans (Kp.alloc _ _)).trans (Kp.alloc _ _) | with_reducible exact ((K5.out.trans (Kp.alloc _ _)).trans (Kp.alloc _ _)).trans (Kp.alloc _ _) | with_reducible exact K5.out.trans (Kp.drew _) | with_reducible exact K5.out.trans (Kp.drewN _ _))).mono ?_
  rintro e w6 ⟨rfl, kk⟩
  have K6 := Lib.hid ((show Kp W0 _ from (by first | with_reducible exact K5.out | with_reducible exact K5.out.trans (Kp.alloc _ _) | with_reducible exact (K5.out.trans (Kp.alloc _ _)).trans (Kp.alloc _ _) | with_reducible exact ((K5.out.trans (Kp.alloc _ _)).trans (Kp.alloc _ _)).trans (Kp.alloc _ _) | with_reducible exact K5.out.trans (Kp.drew _) | with_reducible exact K5.out.trans (Kp.drewN _ _))).trans kk)
  clear kk
  go_wp2_with fail
  refine (C2.out _ (by first | with_reducible exact K6.out | with_reducible exact K6.out.trans (Kp.alloc _ _) | with_reducible exact (K6.out.trans (Kp.alloc _ _)).trans (Kp.alloc _ _) | with_reducible exact ((K6.out.trans (Kp.alloc _ _)).trans (Kp.alloc _ _)).trans (Kp.alloc _ _) | with_reducible exact K6.out.trans (Kp.drew _) | with_reducible exact K6.out.trans (Kp.drewN _ _))).mono ?_
  rintro e w7 ⟨rfl, kk⟩
  have K7 := Lib.hid ((show Kp W0 _ from (by first | with_reducible exact K6.out | with_reducible exact K6.out.trans (Kp.alloc _ _) | with_reducible exact (K6.out.trans (Kp.alloc _ _)).trans (Kp.alloc _ _) | with_reducible exact ((K6.out.trans (Kp.alloc _ _)).trans (Kp.alloc _ _)).trans (Kp.alloc _ _) | with_reducible exact K6.out.trans (Kp.drew _) | with_reducible exact K6.out.trans (Kp.drewN _ _))).trans kk)
  clear kk
  go_wp2_with fail
  refine (D2.out _ (by first | with_reducible exact K7.out | with_reducible exact K7.out.trans (Kp.alloc _ _) | with_reducible exact (K7.out.trans (Kp.alloc _ _)).trans (Kp.alloc _ _) | with_reducible exact ((K7.out.trans (Kp.alloc _ _)).trans (Kp.alloc _ _)).trans (Kp.alloc _ _) | with_reducible exact K7.out.trans (Kp.drew _) | with_reducible exact K7.out.trans (Kp.drewN _ _))).mono ?_
  rintro e w8 ⟨rfl, kk⟩
  have K8 := Lib.hid ((show Kp W0 _ from (by first | with_reducible exact K7.out | with_reducible exact K7.out.trans (Kp.alloc _ _) | with_reducible exact (K7.out.trans (Kp.alloc _ _)).trans (Kp.alloc _ _) | with_reducible exact ((K7.out.trans (Kp.alloc _ _)).trans (Kp.alloc _ _)).trans (Kp.alloc _ _) | with_reducible exact K7.out.trans (Kp.drew _) | with_reducible exact K7.out.trans (Kp.drewN _ _))).trans kk)
  clear kk
  go_wp2_with fail
  refine (C3.out _ (by first | with_reducible exact K8.out | with_reducible exact K8.out.trans (Kp.alloc _ _) | with_reducible exact (K8.out.trans (Kp.alloc _ _)).trans (Kp.alloc _ _) | with_reducible exact ((K8.out.trans (Kp.alloc _ _)).trans (Kp.alloc _ _)).trans (Kp.alloc _ _) | with_reducible exact K8.out.trans (Kp.drew _) | with_reducible exact K8.out.trans (Kp.drewN _ _))).mono ?_
  rintro e w9 ⟨rfl, kk⟩
  have K9 := Lib.hid ((show Kp W0 _ from (by first | with_reducible exact K8.out | with_reducible exact K8.out.trans (Kp.alloc _ _) | with_reducible exact (K8.out.trans (Kp.alloc _ _)).trans (Kp.alloc _ _) | with_reducible exact ((K8.out.trans (Kp.alloc _ _)).trans (Kp.alloc _ _)).trans (Kp.alloc _ _) | with_reducible exact K8.out.trans (Kp.drew _) | with_reducible exact K8.out.trans (Kp.drewN _ _))).trans kk)
  clear kk
  go_wp2_with fail
  refine (D3.out _ (by first | with_reducible exact K9.out | with_reducible exact K9.out.trans (Kp.alloc _ _) | with_reducible exact (K9.out.trans (Kp.alloc _ _)).trans (Kp.alloc _ _) | with_reducible exact ((K9.out.trans (Kp.alloc _ _)).trans (Kp.alloc _ _)).trans (Kp.alloc _ _) | with_reducible exact K9.out.trans (Kp.drew _) | with_reducible exact K9.out.trans (Kp.drewN _ _))).mono ?_
  rintro e w10 ⟨rfl, kk⟩
  have K10 := Lib.hid ((show Kp W0 _ from (by first | with_reducible exact K9.out | with_reducible exact K9.out.trans (Kp.alloc _ _) | with_reducible exact (K9.out.trans (Kp.alloc _ _)).trans (Kp.alloc _ _) | with_reducible exact ((K9.out.trans (Kp.alloc _ _)).trans (Kp.alloc _ _)).trans (Kp.alloc _ _) | with_reducible exact K9.out.trans (Kp.drew _) | with_reducible exact K9.out.trans (Kp.drewN _ _))).trans kk)
  clear kk
  go_wp2
  go_ret
  exact ⟨rfl, K00.out.trans K10.out⟩
theorem envIs_walk (vl : Value) (l : List LF) (w : World) (rl : LeavesAt w vl l) (gl : ∀ f ∈ l, LeafG f) (T : Tabs w) :
    Calls Tryz.prog 4 #[vl] w fun e w' => e = .returned (.bool true) ∧ Kp w w' := by
  rcases Bool.eq_false_or_eq_true (fewL l) with hf | hf
  · exact eis_main vl l w rl gl T hf
  · exact eis_few vl l w rl gl T hf
end Go.Proofs.YtfphmhdgnokopaaGreatDoor
