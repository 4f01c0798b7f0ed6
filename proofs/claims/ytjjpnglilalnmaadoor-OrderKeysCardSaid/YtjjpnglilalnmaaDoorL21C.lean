/-
  Layer 21: the walk of OrderKeys.
-/
import Derived.Test.YtjjpnglilalnmaaDoorGOrdB
namespace Go.Proofs.YtjjpnglilalnmaaDoor
open Go.RowKit
set_option linter.unusedVariables false
set_option linter.unusedSimpArgs false
theorem cer_no {l m : List LF} (h : bothB l m = false) : cerO l m = false ∧ posO l m = false := by
  unfold cerO posO
  rw [h]
  exact ⟨rfl, rfl⟩
theorem both_swap (l m : List LF) : bothB m l = bothB l m := by unfold bothB; rw [Bool.and_comm]
set_option maxHeartbeats 16000000 in
set_option maxRecDepth 100000 in
theorem okeys_few0 (vl : Value) (l : List LF) (vm : Value) (m : List LF) (w : World) (rl : LeavesAt w vl l) (gl : ∀ f ∈ l, LeafG f) (rm : LeavesAt w vm m) (gm : ∀ f ∈ m, LeafG f) (T : Tabs w) (hfl : fewL l = false) :
    Calls Tryd.prog 3 #[vl, vm] w fun e w' => e = .returned (.bool true) ∧ Kp w w' := by
  have AW := Lib.hid (fun w1 (kk : Kp w w1) => awake21 w1 (T.kp kk))
  have Fl := Lib.hid (fun w1 (kk : Kp w w1) => fewL_any vl l w1 (rl.kp kk))
  rw [hfl] at Fl
  obtain ⟨adl, cal, rfl⟩ := rl.slice
  obtain ⟨adm, cam, rfl⟩ := rm.slice
  obtain ⟨W0, hW⟩ : ∃ W0, W0 = w := ⟨_, rfl⟩
  subst hW
  have K00 := Lib.hid (Kp.refl W0)
  have K0 := Lib.hid (Kp.refl W0)
  clear T rl gl rm gm
  go_enter Tryd.func3, Tryd.ntmps3
  go_wp2_with fail
  refine (AW.out _ (by first | with_reducible exact K0.out | with_reducible exact K0.out.trans (Kp.alloc _ _) | with_reducible exact (K0.out.trans (Kp.alloc _ _)).trans (Kp.alloc _ _) | with_reducible exact ((K0.out.trans (Kp.alloc _ _)).trans (Kp.alloc _ _)).trans (Kp.alloc _ _) | with_reducible exact K0.out.trans (Kp.drew _) | with_reducible exact K0.out.trans (Kp.drewN _ _))).mono ?_
  rintro e w1 ⟨rfl, kk⟩
  have K1 := Lib.hid ((show Kp W0 _ from (by first | with_reducible exact K0.out | with_reducible exact K0.out.trans (Kp.alloc _ _) | with_reducible exact (K0.out.trans (Kp.alloc _ _)).trans (Kp.alloc _ _) | with_reducible exact ((K0.out.trans (Kp.alloc _ _)).trans (Kp.alloc _ _)).trans (Kp.alloc _ _) | with_reducible exact K0.out.trans (Kp.drew _) | with_reducible exact K0.out.trans (Kp.drewN _ _))).trans kk)
  clear kk
  go_wp2_with fail
  refine (Fl.out _ (by first | with_reducible exact K1.out | with_reducible exact K1.out.trans (Kp.alloc _ _) | with_reducible exact (K1.out.trans (Kp.alloc _ _)).trans (Kp.alloc _ _) | with_reducible exact ((K1.out.trans (Kp.alloc _ _)).trans (Kp.alloc _ _)).trans (Kp.alloc _ _) | with_reducible exact K1.out.trans (Kp.drew _) | with_reducible exact K1.out.trans (Kp.drewN _ _))).mono ?_
  rintro e w2 ⟨rfl, kk⟩
  have K2 := Lib.hid ((show Kp W0 _ from (by first | with_reducible exact K1.out | with_reducible exact K1.out.trans (Kp.alloc _ _) | with_reducible exact (K1.out.trans (Kp.alloc _ _)).trans (Kp.alloc _ _) | with_reducible exact ((K1.out.trans (Kp.alloc _ _)).trans (Kp.alloc _ _)).trans (Kp.alloc _ _) | with_reducible exact K1.out.trans (Kp.drew _) | with_reducible exact K1.out.trans (Kp.drewN _ _))).trans kk)
  clear kk
  go_wp2
  go_ret
  exact ⟨rfl, K00.out.trans K2.out⟩
set_option maxHeartbeats 16000000 in
set_option maxRecDepth 100000 in
theorem okeys_few1 (vl : Value) (l : List LF) (vm : Value) (m : List LF) (w : World) (rl : LeavesAt w vl l) (gl : ∀ f ∈ l, LeafG f) (rm : LeavesAt w vm m) (gm : ∀ f ∈ m, LeafG f) (T : Tabs w) (hfl : fewL l = true) (hfm : fewL m = false) :
    Calls Tryd.prog 3 #[vl, vm] w fun e w' => e = .returned (.bool true) ∧ Kp w w' := by
  have AW := Lib.hid (fun w1 (kk : Kp w w1) => awake21 w1 (T.kp kk))
  have Fl := Lib.hid (fun w1 (kk : Kp w w1) => fewL_any vl l w1 (rl.kp kk))
  rw [hfl] at Fl
  have Fm := Lib.hid (fun w1 (kk : Kp w w1) => fewL_any vm m w1 (rm.kp kk))
  rw [hfm] at Fm
  obtain ⟨adl, cal, rfl⟩ := rl.slice
  obtain ⟨adm, cam, rfl⟩ := rm.slice
  obtain ⟨W0, hW⟩ : ∃ W0, W0 = w := ⟨_, rfl⟩
  subst hW
  have K00 := Lib.hid (Kp.refl W0)
  have K0 := Lib.hid (Kp.refl W0)
  clear T rl gl rm gm
  go_enter Tryd.func3, Tryd.ntmps3
  go_wp2_with fail
  refine (AW.out _ (by first | with_reducible exact K0.out | with_reducible exact K0.out.trans (Kp.alloc _ _) | with_reducible exact (K0.out.trans (Kp.alloc _ _)).trans (Kp.alloc _ _) | with_reducible exact ((K0.out.trans (Kp.alloc _ _)).trans (Kp.alloc _ _)).trans (Kp.alloc _ _) | with_reducible exact K0.out.trans (Kp.drew _) | with_reducible exact K0.out.trans (Kp.drewN _ _))).mono ?_
  rintro e w1 ⟨rfl, kk⟩
  have K1 := Lib.hid ((show Kp W0 _ from (by first | with_reducible exact K0.out | with_reducible exact K0.out.trans (Kp.alloc _ _) | with_reducible exact (K0.out.trans (Kp.alloc _ _)).trans (Kp.alloc _ _) | with_reducible exact ((K0.out.trans (Kp.alloc _ _)).trans (Kp.alloc _ _)).trans (Kp.alloc _ _) | with_reducible exact K0.out.trans (Kp.drew _) | with_reducible exact K0.out.trans (Kp.drewN _ _))).trans kk)
  clear kk
  go_wp2_with fail
  refine (Fl.out _ (by first | with_reducible exact K1.out | with_reducible exact K1.out.trans (Kp.alloc _ _) | with_reducible exact (K1.out.trans (Kp.alloc _ _)).trans (Kp.alloc _ _) | with_reducible exact ((K1.out.trans (Kp.alloc _ _)).trans (Kp.alloc _ _)).trans (Kp.alloc _ _) | with_reducible exact K1.out.trans (Kp.drew _) | with_reducible exact K1.out.trans (Kp.drewN _ _))).mono ?_
  rintro e w2 ⟨rfl, kk⟩
  have K2 := Lib.hid ((show Kp W0 _ from (by first | with_reducible exact K1.out | with_reducible exact K1.out.trans (Kp.alloc _ _) | with_reducible exact (K1.out.trans (Kp.alloc _ _)).trans (Kp.alloc _ _) | with_reducible exact ((K1.out.trans (Kp.alloc _ _)).trans (Kp.alloc _ _)).trans (Kp.alloc _ _) | with_reducible exact K1.out.trans (Kp.drew _) | with_reducible exact K1.out.trans (Kp.drewN _ _))).trans kk)
  clear kk
  go_wp2_with fail
  refine (Fm.out _ (by first | with_reducible exact K2.out | with_reducible exact K2.out.trans (Kp.alloc _ _) | with_reducible exact (K2.out.trans (Kp.alloc _ _)).trans (Kp.alloc _ _) | with_reducible exact ((K2.out.trans (Kp.alloc _ _)).trans (Kp.alloc _ _)).trans (Kp.alloc _ _) | with_reducible exact K2.out.trans (Kp.drew _) | with_reducible exact K2.out.trans (Kp.drewN _ _))).mono ?_
  rintro e w3 ⟨rfl, kk⟩
  have K3 := Lib.hid ((show Kp W0 _ from (by first | with_reducible exact K2.out | with_reducible exact K2.out.trans (Kp.alloc _ _) | with_reducible exact (K2.out.trans (Kp.alloc _ _)).trans (Kp.alloc _ _) | with_reducible exact ((K2.out.trans (Kp.alloc _ _)).trans (Kp.alloc _ _)).trans (Kp.alloc _ _) | with_reducible exact K2.out.trans (Kp.drew _) | with_reducible exact K2.out.trans (Kp.drewN _ _))).trans kk)
  clear kk
  go_wp2
  go_ret
  exact ⟨rfl, K00.out.trans K3.out⟩
set_option maxHeartbeats 16000000 in
set_option maxRecDepth 100000 in
theorem okeys_ff (vl : Value) (l : List LF) (vm : Value) (m : List LF) (w : World) (rl : LeavesAt w vl l) (gl : ∀ f ∈ l, LeafG f) (rm : LeavesAt w vm m) (gm : ∀ f ∈ m, LeafG f) (T : Tabs w) (hfl : fewL l = true) (hfm : fewL m = true) (ha : anyB l = false) (hb' : anyB m = false) :
    Calls Tryd.prog 3 #[vl, vm] w fun e w' => e = .returned (.bool true) ∧ Kp w w' := by
  have AW := Lib.hid (fun w1 (kk : Kp w w1) => awake21 w1 (T.kp kk))
  have Fl := Lib.hid (fun w1 (kk : Kp w w1) => fewL_any vl l w1 (rl.kp kk))
  rw [hfl] at Fl
  obtain ⟨hl, hnl⟩ := fewL_ok hfl gl
  have Fm := Lib.hid (fun w1 (kk : Kp w w1) => fewL_any vm m w1 (rm.kp kk))
  rw [hfm] at Fm
  obtain ⟨hm, hnm⟩ := fewL_ok hfm gm
  have R1 := Lib.hid (fun w1 (kk : Kp w w1) => okey_any vl l w1 (rl.kp kk) hl (T.kp kk))
  have R2 := Lib.hid (fun w1 (kk : Kp w w1) => okey_any vm m w1 (rm.kp kk) hm (T.kp kk))
  have R3 := Lib.hid (fun w1 (kk : Kp w w1) => ordCertainly_any vl vm l m w1 (rl.kp kk) (rm.kp kk) hl hm (T.kp kk))
  have R4 := Lib.hid (fun w1 (kk : Kp w w1) => ordPossibly_any vl vm l m w1 (rl.kp kk) (rm.kp kk) hl hm (T.kp kk))
  have R5 := Lib.hid (fun w1 (kk : Kp w w1) => ordPossibly_any vm vl m l w1 (rm.kp kk) (rl.kp kk) hm hl (T.kp kk))
  have hb : bothB l m = false := by unfold bothB; rw [ha, hb']; rfl
  have CN := cer_no hb
  rw [CN.1, hb, erE_f] at R3
  rw [CN.2, hb, erE_f] at R4
  rw [ha] at R1
  rw [hb'] at R2
  clear CN hb ha hb' hl hm hnl hnm
  generalize posO m l = bk at *
  generalize erE (bothB m l) = be at *
  generalize keyA l = xa at *
  generalize keyB l = xb at *
  generalize keyA m = xc at *
  generalize keyB m = xd at *
  rw [erE_f] at R1
  rw [erE_f] at R2
  obtain ⟨adl, cal, rfl⟩ := rl.slice
  obtain ⟨adm, cam, rfl⟩ := rm.slice
  obtain ⟨W0, hW⟩ : ∃ W0, W0 = w := ⟨_, rfl⟩
  subst hW
  have K00 := Lib.hid (Kp.refl W0)
  have K0 := Lib.hid (Kp.refl W0)
  clear T rl gl rm gm
  have HB := Lib.hid trivial
  go_enter Tryd.func3, Tryd.ntmps3
  go_wp2_with fail
  refine (AW.out _ (by first | with_reducible exact K0.out | with_reducible exact K0.out.trans (Kp.alloc _ _) | with_reducible exact (K0.out.trans (Kp.alloc _ _)).trans (Kp.alloc _ _) | with_reducible exact ((K0.out.trans (Kp.alloc _ _)).trans (Kp.alloc _ _)).trans (Kp.alloc _ _) | with_reducible exact K0.out.trans (Kp.drew _) | with_reducible exact K0.out.trans (Kp.drewN _ _))).mono ?_
  rintro e w1 ⟨rfl, kk⟩
  have K1 := Lib.hid ((show Kp W0 _ from (by first | with_reducible exact K0.out | with_reducible exact K0.out.trans (Kp.alloc _ _) | with_reducible exact (K0.out.trans (Kp.alloc _ _)).trans (Kp.alloc _ _) | with_reducible exact ((K0.out.trans (Kp.alloc _ _)).trans (Kp.alloc _ _)).trans (Kp.alloc _ _) | with_reducible exact K0.out.trans (Kp.drew _) | with_reducible exact K0.out.trans (Kp.drewN _ _))).trans kk)
  clear kk
  go_wp2_with fail
  refine (Fl.out _ (by first | with_reducible exact K1.out | with_reducible exact K1.out.trans (Kp.alloc _ _) | with_reducible exact (K1.out.trans (Kp.alloc _ _)).trans (Kp.alloc _ _) | with_reducible exact ((K1.out.trans (Kp.alloc _ _)).trans (Kp.alloc _ _)).trans (Kp.alloc _ _) | with_reducible exact K1.out.trans (Kp.drew _) | with_reducible exact K1.out.trans (Kp.drewN _ _))).mono ?_
  rintro e w2 ⟨rfl, kk⟩
  have K2 := Lib.hid ((show Kp W0 _ from (by first | with_reducible exact K1.out | with_reducible exact K1.out.trans (Kp.alloc _ _) | with_reducible exact (K1.out.trans (Kp.alloc _ _)).trans (Kp.alloc _ _) | with_reducible exact ((K1.out.trans (Kp.alloc _ _)).trans (Kp.alloc _ _)).trans (Kp.alloc _ _) | with_reducible exact K1.out.trans (Kp.drew _) | with_reducible exact K1.out.trans (Kp.drewN _ _))).trans kk)
  clear kk
  go_wp2_with fail
  refine (Fm.out _ (by first | with_reducible exact K2.out | with_reducible exact K2.out.trans (Kp.alloc _ _) | with_reducible exact (K2.out.trans (Kp.alloc _ _)).trans (Kp.alloc _ _) | with_reducible exact ((K2.out.trans (Kp.alloc _ _)).trans (Kp.alloc _ _)).trans (Kp.alloc _ _) | with_reducible exact K2.out.trans (Kp.drew _) | with_reducible exact K2.out.trans (Kp.drewN _ _))).mono ?_
  rintro e w3 ⟨rfl, kk⟩
  have K3 := Lib.hid ((show Kp W0 _ from (by first | with_reducible exact K2.out | with_reducible exact K2.out.trans (Kp.alloc _ _) | with_reducible exact (K2.out.trans (Kp.alloc _ _)).trans (Kp.alloc _ _) | with_reducible exact ((K2.out.trans (Kp.alloc _ _)).trans (Kp.alloc _ _)).trans (Kp.alloc _ _) | with_reducible exact K2.out.trans (Kp.drew _) | with_reducible exact K2.out.trans (Kp.drewN _ _))).trans kk)
  clear kk
  go_wp2_with fail
  refine (R1.out _ (by first | with_reducible exact K3.out | with_reducible exact K3.out.trans (Kp.alloc _ _) | with_reducible exact (K3.out.trans (Kp.alloc _ _)).trans (Kp.alloc _ _) | with_reducible exact ((K3.out.trans (Kp.alloc _ _)).trans (Kp.alloc _ _)).trans (Kp.alloc _ _) | with_reducible exact K3.out.trans (Kp.drew _) | with_reducible exact K3.out.trans (Kp.drewN _ _))).mono ?_
  rintro e w4 ⟨rfl, kk⟩
  have K4 := Lib.hid ((show Kp W0 _ from (by first | with_reducible exact K3.out | with_reducible exact K3.out.trans (Kp.alloc _ _) | with_reducible exact (K3.out.trans (Kp.alloc _ _)).trans (Kp.alloc _ _) | with_reducible exact ((K3.out.trans (Kp.alloc _ _)).trans (Kp.alloc _ _)).trans (Kp.alloc _ _) | with_reducible exact K3.out.trans (Kp.drew _) | with_reducible exact K3.out.trans (Kp.drewN _ _))).trans kk)
  clear kk
  obtain ⟨w5, hV⟩ : ∃ x, x = w4.alloc (.cells #[.int .i64 xa, .int .i64 xb] 26) := ⟨_, rfl⟩
  have ka : Kp w4 w5 := by rw [hV]; exact Kp.alloc _ _
  have hgq : w5.heap[w4.heap.size]? = some (.cells #[.int .i64 xa, .int .i64 xb] 26 (0, 0)) := by rw [hV]; exact heap_at _ _ _ rfl
  have q0 : w5.cell? ⟨w4.heap.size, 0, none⟩ = some (.int .i64 xa) := by simp [World.cell?, hgq]
  have q1 : w5.cell? ⟨w4.heap.size, 1, none⟩ = some (.int .i64 xb) := by simp [World.cell?, hgq]
  have HB2 := Lib.hid (fun w1 (k : Kp w5 w1) => show w1.cell? ⟨w4.heap.size, 0, none⟩ = some (.int .i64 xa) ∧ w1.cell? ⟨w4.heap.size, 1, none⟩ = some (.int .i64 xb) from ⟨cell_up k q0, cell_up k q1⟩)
  have K01 := Lib.hid (K00.out.trans (K4.out.trans ka))
  clear HB K00 hgq  q0 q1
  have HB := HB2
  have K00 := K01
  clear HB2 K01
  have K5 := Lib.hid (Kp.refl w5)
  have Hw5 := Lib.hid hV
  clear hV ka
  go_wp2_with fail
  rw [← Hw5.out]
  obtain ⟨c0, c1⟩ := HB.out w5 (Kp.refl _)
  refine (R2.out _ (K00.out.trans (by first | with_reducible exact K5.out | with_reducible exact K5.out.trans (Kp.alloc _ _) | with_reducible exact (K5.out.trans (Kp.alloc _ _)).trans (Kp.alloc _ _) | with_reducible exact ((K5.out.trans (Kp.alloc _ _)).trans (Kp.alloc _ _)).trans (Kp.alloc _ _) | with_reducible exact K5.out.trans (Kp.drew _) | with_reducible exact K5.out.trans (Kp.drewN _ _)))).mono ?_
  rintro e w6 ⟨rfl, kk⟩
  have K6 := Lib.hid ((show Kp w5 _ from (by first | with_reducible exact K5.out | with_reducible exact K5.out.trans (Kp.alloc _ _) | with_reducible exact (K5.out.trans (Kp.alloc _ _)).trans (Kp.alloc _ _) | with_reducible exact ((K5.out.trans (Kp.alloc _ _)).trans (Kp.alloc _ _)).trans (Kp.alloc _ _) | with_reducible exact K5.out.trans (Kp.drew _) | with_reducible exact K5.out.trans (Kp.drewN _ _))).trans kk)
  clear kk
  clear c0 c1
  obtain ⟨c0, c1⟩ := HB.out w6 K6.out
  obtain ⟨w7, hV⟩ : ∃ x, x = w6.alloc (.cells #[.int .i64 xc, .int .i64 xd] 26) := ⟨_, rfl⟩
  have ka : Kp w6 w7 := by rw [hV]; exact Kp.alloc _ _
  have hgq : w7.heap[w6.heap.size]? = some (.cells #[.int .i64 xc, .int .i64 xd] 26 (0, 0)) := by rw [hV]; exact heap_at _ _ _ rfl
  have q0 : w7.cell? ⟨w6.heap.size, 0, none⟩ = some (.int .i64 xc) := by simp [World.cell?, hgq]
  have q1 : w7.cell? ⟨w6.heap.size, 1, none⟩ = some (.int .i64 xd) := by simp [World.cell?, hgq]
  have HB2 := Lib.hid (fun w1 (k : Kp w7 w1) => show w1.cell? ⟨w4.heap.size, 0, none⟩ = some (.int .i64 xa) ∧ w1.cell? ⟨w4.heap.size, 1, none⟩ = some (.int .i64 xb) ∧ w1.cell? ⟨w6.heap.size, 0, none⟩ = some (.int .i64 xc) ∧ w1.cell? ⟨w6.heap.size, 1, none⟩ = some (.int .i64 xd) from ⟨(HB.out w1 (K6.out.trans (ka.trans k))).1, (HB.out w1 (K6.out.trans (ka.trans k))).2, cell_up k q0, cell_up k q1⟩)
  have K01 := Lib.hid (K00.out.trans (K6.out.trans ka))
  clear HB K00 hgq c0 c1 q0 q1
  have HB := HB2
  have K00 := K01
  clear HB2 K01
  have K7 := Lib.hid (Kp.refl w7)
  have Hw7 := Lib.hid hV
  clear hV ka
  go_wp2_with fail
  rw [← Hw7.out]
  obtain ⟨c0, c1, c2, c3⟩ := HB.out w7 (Kp.refl _)
  refine (R3.out _ (K00.out.trans (by first | with_reducible exact K7.out | with_reducible exact K7.out.trans (Kp.alloc _ _) | with_reducible exact (K7.out.trans (Kp.alloc _ _)).trans (Kp.alloc _ _) | with_reducible exact ((K7.out.trans (Kp.alloc _ _)).trans (Kp.alloc _ _)).trans (Kp.alloc _ _) | with_reducible exact K7.out.trans (Kp.drew _) | with_reducible exact K7.out.trans (Kp.drewN _ _)))).mono ?_
  rintro e w8 ⟨rfl, kk⟩
  have K8 := Lib.hid ((show Kp w7 _ from (by first | with_reducible exact K7.out | with_reducible exact K7.out.trans (Kp.alloc _ _) | with_reducible exact (K7.out.trans (Kp.alloc _ _)).trans (Kp.alloc _ _) | with_reducible exact ((K7.out.trans (Kp.alloc _ _)).trans (Kp.alloc _ _)).trans (Kp.alloc _ _) | with_reducible exact K7.out.trans (Kp.drew _) | with_reducible exact K7.out.trans (Kp.drewN _ _))).trans kk)
  clear kk
  clear c0 c1 c2 c3
  obtain ⟨c0, c1, c2, c3⟩ := HB.out w8 K8.out
  go_wp2_with fail
  refine (R4.out _ (K00.out.trans (by first | with_reducible exact K8.out | with_reducible exact K8.out.trans (Kp.alloc _ _) | with_reducible exact (K8.out.trans (Kp.alloc _ _)).trans (Kp.alloc _ _) | with_reducible exact ((K8.out.trans (Kp.alloc _ _)).trans (Kp.alloc _ _)).trans (Kp.alloc _ _) | with_reducible exact K8.out.trans (Kp.drew _) | with_reducible exact K8.out.trans (Kp.drewN _ _)))).mono ?_
  rintro e w9 ⟨rfl, kk⟩
  have K9 := Lib.hid ((show Kp w7 _ from (by first | with_reducible exact K8.out | with_reducible exact K8.out.trans (Kp.alloc _ _) | with_reducible exact (K8.out.trans (Kp.alloc _ _)).trans (Kp.alloc _ _) | with_reducible exact ((K8.out.trans (Kp.alloc _ _)).trans (Kp.alloc _ _)).trans (Kp.alloc _ _) | with_reducible exact K8.out.trans (Kp.drew _) | with_reducible exact K8.out.trans (Kp.drewN _ _))).trans kk)
  clear kk
  clear c0 c1 c2 c3
  obtain ⟨c0, c1, c2, c3⟩ := HB.out w9 K9.out
  go_wp2_with fail
  refine (R5.out _ (K00.out.trans (by first | with_reducible exact K9.out | with_reducible exact K9.out.trans (Kp.alloc _ _) | with_reducible exact (K9.out.trans (Kp.alloc _ _)).trans (Kp.alloc _ _) | with_reducible exact ((K9.out.trans (Kp.alloc _ _)).trans (Kp.alloc _ _)).trans (Kp.alloc _ _) | with_reducible exact K9.out.trans (Kp.drew _) | with_reducible exact K9.out.trans (Kp.drewN _ _)))).mono ?_
  rintro e w10 ⟨rfl, kk⟩
  have K10 := Lib.hid ((show Kp w7 _ from (by first | with_reducible exact K9.out | with_reducible exact K9.out.trans (Kp.alloc _ _) | with_reducible exact (K9.out.trans (Kp.alloc _ _)).trans (Kp.alloc _ _) | with_reducible exact ((K9.out.trans (Kp.alloc _ _)).trans (Kp.alloc _ _)).trans (Kp.alloc _ _) | with_reducible exact K9.out.trans (Kp.drew _) | with_reducible exact K9.out.trans (Kp.drewN _ _))).trans kk)
  clear kk
  clear c0 c1 c2 c3
  obtain ⟨c0, c1, c2, c3⟩ := HB.out w10 K10.out
  go_wp2
  go_ret
  exact ⟨rfl, K00.out.trans K10.out⟩
set_option maxHeartbeats 16000000 in
set_option maxRecDepth 100000 in
theorem okeys_ft (vl : Value) (l : List LF) (vm : Value) (m : List LF) (w : World) (rl : LeavesAt w vl l) (gl : ∀ f ∈ l, LeafG f) (rm : LeavesAt w vm m) (gm : ∀ f ∈ m, LeafG f) (T : Tabs w) (hfl : fewL l = true) (hfm : fewL m = true) (ha : anyB l = false) (hb' : anyB m = true) :
    Calls Tryd.prog 3 #[vl, vm] w fun e w' => e = .returned (.bool true) ∧ Kp w w' := by
  have AW := Lib.hid (fun w1 (kk : Kp w w1) => awake21 w1 (T.kp kk))
  have Fl := Lib.hid (fun w1 (kk : Kp w w1) => fewL_any vl l w1 (rl.kp kk))
  rw [hfl] at Fl
  obtain ⟨hl, hnl⟩ := fewL_ok hfl gl
  have Fm := Lib.hid (fun w1 (kk : Kp w w1) => fewL_any vm m w1 (rm.kp kk))
  rw [hfm] at Fm
  obtain ⟨hm, hnm⟩ := fewL_ok hfm gm
  have R1 := Lib.hid (fun w1 (kk : Kp w w1) => okey_any vl l w1 (rl.kp kk) hl (T.kp kk))
  have R2 := Lib.hid (fun w1 (kk : Kp w w1) => okey_any vm m w1 (rm.kp kk) hm (T.kp kk))
  have R3 := Lib.hid (fun w1 (kk : Kp w w1) => ordCertainly_any vl vm l m w1 (rl.kp kk) (rm.kp kk) hl hm (T.kp kk))
  have R4 := Lib.hid (fun w1 (kk : Kp w w1) => ordPossibly_any vl vm l m w1 (rl.kp kk) (rm.kp kk) hl hm (T.kp kk))
  have R5 := Lib.hid (fun w1 (kk : Kp w w1) => ordPossibly_any vm vl m l w1 (rm.kp kk) (rl.kp kk) hm hl (T.kp kk))
  have hb : bothB l m = false := by unfold bothB; rw [ha, hb']; rfl
  have CN := cer_no hb
  rw [CN.1, hb, erE_f] at R3
  rw [CN.2, hb, erE_f] at R4
  rw [ha] at R1
  rw [hb'] at R2
  clear CN hb ha hb' hl hm hnl hnm
  generalize posO m l = bk at *
  generalize erE (bothB m l) = be at *
  generalize keyA l = xa at *
  generalize keyB l = xb at *
  generalize keyA m = xc at *
  generalize keyB m = xd at *
  rw [erE_f] at R1
  rw [erE_t] at R2
  obtain ⟨adl, cal, rfl⟩ := rl.slice
  obtain ⟨adm, cam, rfl⟩ := rm.slice
  obtain ⟨W0, hW⟩ : ∃ W0, W0 = w := ⟨_, rfl⟩
  subst hW
  have K00 := Lib.hid (Kp.refl W0)
  have K0 := Lib.hid (Kp.refl W0)
  clear T rl gl rm gm
  have HB := Lib.hid trivial
  go_enter Tryd.func3, Tryd.ntmps3
  go_wp2_with fail
  refine (AW.out _ (by first | with_reducible exact K0.out | with_reducible exact K0.out.trans (Kp.alloc _ _) | with_reducible exact (K0.out.trans (Kp.alloc _ _)).trans (Kp.alloc _ _) | with_reducible exact ((K0.out.trans (Kp.alloc _ _)).trans (Kp.alloc _ _)).trans (Kp.alloc _ _) | with_reducible exact K0.out.trans (Kp.drew _) | with_reducible exact K0.out.trans (Kp.drewN _ _))).mono ?_
  rintro e w1 ⟨rfl, kk⟩
  have K1 := Lib.hid ((show Kp W0 _ from (by first | with_reducible exact K0.out | with_reducible exact K0.out.trans (Kp.alloc _ _) | with_reducible exact (K0.out.trans (Kp.alloc _ _)).trans (Kp.alloc _ _) | with_reducible exact ((K0.out.trans (Kp.alloc _ _)).trans (Kp.alloc _ _)).trans (Kp.alloc _ _) | with_reducible exact K0.out.trans (Kp.drew _) | with_reducible exact K0.out.trans (Kp.drewN _ _))).trans kk)
  clear kk
  go_wp2_with fail
  refine (Fl.out _ (by first | with_reducible exact K1.out | with_reducible exact K1.out.trans (Kp.alloc _ _) | with_reducible exact (K1.out.trans (Kp.alloc _ _)).trans (Kp.alloc _ _) | with_reducible exact ((K1.out.trans (Kp.alloc _ _)).trans (Kp.alloc _ _)).trans (Kp.alloc _ _) | with_reducible exact K1.out.trans (Kp.drew _) | with_reducible exact K1.out.trans (Kp.drewN _ _))).mono ?_
  rintro e w2 ⟨rfl, kk⟩
  have K2 := Lib.hid ((show Kp W0 _ from (by first | with_reducible exact K1.out | with_reducible exact K1.out.trans (Kp.alloc _ _) | with_reducible exact (K1.out.trans (Kp.alloc _ _)).trans (Kp.alloc _ _) | with_reducible exact ((K1.out.trans (Kp.alloc _ _)).trans (Kp.alloc _ _)).trans (Kp.alloc _ _) | with_reducible exact K1.out.trans (Kp.drew _) | with_reducible exact K1.out.trans (Kp.drewN _ _))).trans kk)
  clear kk
  go_wp2_with fail
  refine (Fm.out _ (by first | with_reducible exact K2.out | with_reducible exact K2.out.trans (Kp.alloc _ _) | with_reducible exact (K2.out.trans (Kp.alloc _ _)).trans (Kp.alloc _ _) | with_reducible exact ((K2.out.trans (Kp.alloc _ _)).trans (Kp.alloc _ _)).trans (Kp.alloc _ _) | with_reducible exact K2.out.trans (Kp.drew _) | with_reducible exact K2.out.trans (Kp.drewN _ _))).mono ?_
  rintro e w3 ⟨rfl, kk⟩
  have K3 := Lib.hid ((show Kp W0 _ from (by first | with_reducible exact K2.out | with_reducible exact K2.out.trans (Kp.alloc _ _) | with_reducible exact (K2.out.trans (Kp.alloc _ _)).trans (Kp.alloc _ _) | with_reducible exact ((K2.out.trans (Kp.alloc _ _)).trans (Kp.alloc _ _)).trans (Kp.alloc _ _) | with_reducible exact K2.out.trans (Kp.drew _) | with_reducible exact K2.out.trans (Kp.drewN _ _))).trans kk)
  clear kk
  go_wp2_with fail
  refine (R1.out _ (by first | with_reducible exact K3.out | with_reducible exact K3.out.trans (Kp.alloc _ _) | with_reducible exact (K3.out.trans (Kp.alloc _ _)).trans (Kp.alloc _ _) | with_reducible exact ((K3.out.trans (Kp.alloc _ _)).trans (Kp.alloc _ _)).trans (Kp.alloc _ _) | with_reducible exact K3.out.trans (Kp.drew _) | with_reducible exact K3.out.trans (Kp.drewN _ _))).mono ?_
  rintro e w4 ⟨rfl, kk⟩
  have K4 := Lib.hid ((show Kp W0 _ from (by first | with_reducible exact K3.out | with_reducible exact K3.out.trans (Kp.alloc _ _) | with_reducible exact (K3.out.trans (Kp.alloc _ _)).trans (Kp.alloc _ _) | with_reducible exact ((K3.out.trans (Kp.alloc _ _)).trans (Kp.alloc _ _)).trans (Kp.alloc _ _) | with_reducible exact K3.out.trans (Kp.drew _) | with_reducible exact K3.out.trans (Kp.drewN _ _))).trans kk)
  clear kk
  obtain ⟨w5, hV⟩ : ∃ x, x = w4.alloc (.cells #[.int .i64 xa, .int .i64 xb] 26) := ⟨_, rfl⟩
  have ka : Kp w4 w5 := by rw [hV]; exact Kp.alloc _ _
  have hgq : w5.heap[w4.heap.size]? = some (.cells #[.int .i64 xa, .int .i64 xb] 26 (0, 0)) := by rw [hV]; exact heap_at _ _ _ rfl
  have q0 : w5.cell? ⟨w4.heap.size, 0, none⟩ = some (.int .i64 xa) := by simp [World.cell?, hgq]
  have q1 : w5.cell? ⟨w4.heap.size, 1, none⟩ = some (.int .i64 xb) := by simp [World.cell?, hgq]
  have HB2 := Lib.hid (fun w1 (k : Kp w5 w1) => show w1.cell? ⟨w4.heap.size, 0, none⟩ = some (.int .i64 xa) ∧ w1.cell? ⟨w4.heap.size, 1, none⟩ = some (.int .i64 xb) from ⟨cell_up k q0, cell_up k q1⟩)
  have K01 := Lib.hid (K00.out.trans (K4.out.trans ka))
  clear HB K00 hgq  q0 q1
  have HB := HB2
  have K00 := K01
  clear HB2 K01
  have K5 := Lib.hid (Kp.refl w5)
  have Hw5 := Lib.hid hV
  clear hV ka
  go_wp2_with fail
  rw [← Hw5.out]
  obtain ⟨c0, c1⟩ := HB.out w5 (Kp.refl _)
  refine (R2.out _ (K00.out.trans (by first | with_reducible exact K5.out | with_reducible exact K5.out.trans (Kp.alloc _ _) | with_reducible exact (K5.out.trans (Kp.alloc _ _)).trans (Kp.alloc _ _) | with_reducible exact ((K5.out.trans (Kp.alloc _ _)).trans (Kp.alloc _ _)).trans (Kp.alloc _ _) | with_reducible exact K5.out.trans (Kp.drew _) | with_reducible exact K5.out.trans (Kp.drewN _ _)))).mono ?_
  rintro e w6 ⟨rfl, kk⟩
  have K6 := Lib.hid ((show Kp w5 _ from (by first | with_reducible exact K5.out | with_reducible exact K5.out.trans (Kp.alloc _ _) | with_reducible exact (K5.out.trans (Kp.alloc _ _)).trans (Kp.alloc _ _) | with_reducible exact ((K5.out.trans (Kp.alloc _ _)).trans (Kp.alloc _ _)).trans (Kp.alloc _ _) | with_reducible exact K5.out.trans (Kp.drew _) | with_reducible exact K5.out.trans (Kp.drewN _ _))).trans kk)
  clear kk
  clear c0 c1
  obtain ⟨c0, c1⟩ := HB.out w6 K6.out
  obtain ⟨w7, hV⟩ : ∃ x, x = w6.alloc (.cells #[.int .i64 xc, .int .i64 xd] 26) := ⟨_, rfl⟩
  have ka : Kp w6 w7 := by rw [hV]; exact Kp.alloc _ _
  have hgq : w7.heap[w6.heap.size]? = some (.cells #[.int .i64 xc, .int .i64 xd] 26 (0, 0)) := by rw [hV]; exact heap_at _ _ _ rfl
  have q0 : w7.cell? ⟨w6.heap.size, 0, none⟩ = some (.int .i64 xc) := by simp [World.cell?, hgq]
  have q1 : w7.cell? ⟨w6.heap.size, 1, none⟩ = some (.int .i64 xd) := by simp [World.cell?, hgq]
  have HB2 := Lib.hid (fun w1 (k : Kp w7 w1) => show w1.cell? ⟨w4.heap.size, 0, none⟩ = some (.int .i64 xa) ∧ w1.cell? ⟨w4.heap.size, 1, none⟩ = some (.int .i64 xb) ∧ w1.cell? ⟨w6.heap.size, 0, none⟩ = some (.int .i64 xc) ∧ w1.cell? ⟨w6.heap.size, 1, none⟩ = some (.int .i64 xd) from ⟨(HB.out w1 (K6.out.trans (ka.trans k))).1, (HB.out w1 (K6.out.trans (ka.trans k))).2, cell_up k q0, cell_up k q1⟩)
  have K01 := Lib.hid (K00.out.trans (K6.out.trans ka))
  clear HB K00 hgq c0 c1 q0 q1
  have HB := HB2
  have K00 := K01
  clear HB2 K01
  have K7 := Lib.hid (Kp.refl w7)
  have Hw7 := Lib.hid hV
  clear hV ka
  go_wp2_with fail
  rw [← Hw7.out]
  obtain ⟨c0, c1, c2, c3⟩ := HB.out w7 (Kp.refl _)
  refine (R3.out _ (K00.out.trans (by first | with_reducible exact K7.out | with_reducible exact K7.out.trans (Kp.alloc _ _) | with_reducible exact (K7.out.trans (Kp.alloc _ _)).trans (Kp.alloc _ _) | with_reducible exact ((K7.out.trans (Kp.alloc _ _)).trans (Kp.alloc _ _)).trans (Kp.alloc _ _) | with_reducible exact K7.out.trans (Kp.drew _) | with_reducible exact K7.out.trans (Kp.drewN _ _)))).mono ?_
  rintro e w8 ⟨rfl, kk⟩
  have K8 := Lib.hid ((show Kp w7 _ from (by first | with_reducible exact K7.out | with_reducible exact K7.out.trans (Kp.alloc _ _) | with_reducible exact (K7.out.trans (Kp.alloc _ _)).trans (Kp.alloc _ _) | with_reducible exact ((K7.out.trans (Kp.alloc _ _)).trans (Kp.alloc _ _)).trans (Kp.alloc _ _) | with_reducible exact K7.out.trans (Kp.drew _) | with_reducible exact K7.out.trans (Kp.drewN _ _))).trans kk)
  clear kk
  clear c0 c1 c2 c3
  obtain ⟨c0, c1, c2, c3⟩ := HB.out w8 K8.out
  go_wp2_with fail
  refine (R4.out _ (K00.out.trans (by first | with_reducible exact K8.out | with_reducible exact K8.out.trans (Kp.alloc _ _) | with_reducible exact (K8.out.trans (Kp.alloc _ _)).trans (Kp.alloc _ _) | with_reducible exact ((K8.out.trans (Kp.alloc _ _)).trans (Kp.alloc _ _)).trans (Kp.alloc _ _) | with_reducible exact K8.out.trans (Kp.drew _) | with_reducible exact K8.out.trans (Kp.drewN _ _)))).mono ?_
  rintro e w9 ⟨rfl, kk⟩
  have K9 := Lib.hid ((show Kp w7 _ from (by first | with_reducible exact K8.out | with_reducible exact K8.out.trans (Kp.alloc _ _) | with_reducible exact (K8.out.trans (Kp.alloc _ _)).trans (Kp.alloc _ _) | with_reducible exact ((K8.out.trans (Kp.alloc _ _)).trans (Kp.alloc _ _)).trans (Kp.alloc _ _) | with_reducible exact K8.out.trans (Kp.drew _) | with_reducible exact K8.out.trans (Kp.drewN _ _))).trans kk)
  clear kk
  clear c0 c1 c2 c3
  obtain ⟨c0, c1, c2, c3⟩ := HB.out w9 K9.out
  go_wp2_with fail
  refine (R5.out _ (K00.out.trans (by first | with_reducible exact K9.out | with_reducible exact K9.out.trans (Kp.alloc _ _) | with_reducible exact (K9.out.trans (Kp.alloc _ _)).trans (Kp.alloc _ _) | with_reducible exact ((K9.out.trans (Kp.alloc _ _)).trans (Kp.alloc _ _)).trans (Kp.alloc _ _) | with_reducible exact K9.out.trans (Kp.drew _) | with_reducible exact K9.out.trans (Kp.drewN _ _)))).mono ?_
  rintro e w10 ⟨rfl, kk⟩
  have K10 := Lib.hid ((show Kp w7 _ from (by first | with_reducible exact K9.out | with_reducible exact K9.out.trans (Kp.alloc _ _) | with_reducible exact (K9.out.trans (Kp.alloc _ _)).trans (Kp.alloc _ _) | with_reducible exact ((K9.out.trans (Kp.alloc _ _)).trans (Kp.alloc _ _)).trans (Kp.alloc _ _) | with_reducible exact K9.out.trans (Kp.drew _) | with_reducible exact K9.out.trans (Kp.drewN _ _))).trans kk)
  clear kk
  clear c0 c1 c2 c3
  obtain ⟨c0, c1, c2, c3⟩ := HB.out w10 K10.out
  go_wp2
  go_ret
  exact ⟨rfl, K00.out.trans K10.out⟩
set_option maxHeartbeats 16000000 in
set_option maxRecDepth 100000 in
theorem okeys_tf (vl : Value) (l : List LF) (vm : Value) (m : List LF) (w : World) (rl : LeavesAt w vl l) (gl : ∀ f ∈ l, LeafG f) (rm : LeavesAt w vm m) (gm : ∀ f ∈ m, LeafG f) (T : Tabs w) (hfl : fewL l = true) (hfm : fewL m = true) (ha : anyB l = true) (hb' : anyB m = false) :
    Calls Tryd.prog 3 #[vl, vm] w fun e w' => e = .returned (.bool true) ∧ Kp w w' := by
  have AW := Lib.hid (fun w1 (kk : Kp w w1) => awake21 w1 (T.kp kk))
  have Fl := Lib.hid (fun w1 (kk : Kp w w1) => fewL_any vl l w1 (rl.kp kk))
  rw [hfl] at Fl
  obtain ⟨hl, hnl⟩ := fewL_ok hfl gl
  have Fm := Lib.hid (fun w1 (kk : Kp w w1) => fewL_any vm m w1 (rm.kp kk))
  rw [hfm] at Fm
  obtain ⟨hm, hnm⟩ := fewL_ok hfm gm
  have R1 := Lib.hid (fun w1 (kk : Kp w w1) => okey_any vl l w1 (rl.kp kk) hl (T.kp kk))
  have R2 := Lib.hid (fun w1 (kk : Kp w w1) => okey_any vm m w1 (rm.kp kk) hm (T.kp kk))
  have R3 := Lib.hid (fun w1 (kk : Kp w w1) => ordCertainly_any vl vm l m w1 (rl.kp kk) (rm.kp kk) hl hm (T.kp kk))
  have R4 := Lib.hid (fun w1 (kk : Kp w w1) => ordPossibly_any vl vm l m w1 (rl.kp kk) (rm.kp kk) hl hm (T.kp kk))
  have R5 := Lib.hid (fun w1 (kk : Kp w w1) => ordPossibly_any vm vl m l w1 (rm.kp kk) (rl.kp kk) hm hl (T.kp kk))
  have hb : bothB l m = false := by unfold bothB; rw [ha, hb']; rfl
  have CN := cer_no hb
  rw [CN.1, hb, erE_f] at R3
  rw [CN.2, hb, erE_f] at R4
  rw [ha] at R1
  rw [hb'] at R2
  clear CN hb ha hb' hl hm hnl hnm
  generalize posO m l = bk at *
  generalize erE (bothB m l) = be at *
  generalize keyA l = xa at *
  generalize keyB l = xb at *
  generalize keyA m = xc at *
  generalize keyB m = xd at *
  rw [erE_t] at R1
  rw [erE_f] at R2
  obtain ⟨adl, cal, rfl⟩ := rl.slice
  obtain ⟨adm, cam, rfl⟩ := rm.slice
  obtain ⟨W0, hW⟩ : ∃ W0, W0 = w := ⟨_, rfl⟩
  subst hW
  have K00 := Lib.hid (Kp.refl W0)
  have K0 := Lib.hid (Kp.refl W0)
  clear T rl gl rm gm
  have HB := Lib.hid trivial
  go_enter Tryd.func3, Tryd.ntmps3
  go_wp2_with fail
  refine (AW.out _ (by first | with_reducible exact K0.out | with_reducible exact K0.out.trans (Kp.alloc _ _) | with_reducible exact (K0.out.trans (Kp.alloc _ _)).trans (Kp.alloc _ _) | with_reducible exact ((K0.out.trans (Kp.alloc _ _)).trans (Kp.alloc _ _)).trans (Kp.alloc _ _) | with_reducible exact K0.out.trans (Kp.drew _) | with_reducible exact K0.out.trans (Kp.drewN _ _))).mono ?_
  rintro e w1 ⟨rfl, kk⟩
  have K1 := Lib.hid ((show Kp W0 _ from (by first | with_reducible exact K0.out | with_reducible exact K0.out.trans (Kp.alloc _ _) | with_reducible exact (K0.out.trans (Kp.alloc _ _)).trans (Kp.alloc _ _) | with_reducible exact ((K0.out.trans (Kp.alloc _ _)).trans (Kp.alloc _ _)).trans (Kp.alloc _ _) | with_reducible exact K0.out.trans (Kp.drew _) | with_reducible exact K0.out.trans (Kp.drewN _ _))).trans kk)
  clear kk
  go_wp2_with fail
  refine (Fl.out _ (by first | with_reducible exact K1.out | with_reducible exact K1.out.trans (Kp.alloc _ _) | with_reducible exact (K1.out.trans (Kp.alloc _ _)).trans (Kp.alloc _ _) | with_reducible exact ((K1.out.trans (Kp.alloc _ _)).trans (Kp.alloc _ _)).trans (Kp.alloc _ _) | with_reducible exact K1.out.trans (Kp.drew _) | with_reducible exact K1.out.trans (Kp.drewN _ _))).mono ?_
  rintro e w2 ⟨rfl, kk⟩
  have K2 := Lib.hid ((show Kp W0 _ from (by first | with_reducible exact K1.out | with_reducible exact K1.out.trans (Kp.alloc _ _) | with_reducible exact (K1.out.trans (Kp.alloc _ _)).trans (Kp.alloc _ _) | with_reducible exact ((K1.out.trans (Kp.alloc _ _)).trans (Kp.alloc _ _)).trans (Kp.alloc _ _) | with_reducible exact K1.out.trans (Kp.drew _) | with_reducible exact K1.out.trans (Kp.drewN _ _))).trans kk)
  clear kk
  go_wp2_with fail
  refine (Fm.out _ (by first | with_reducible exact K2.out | with_reducible exact K2.out.trans (Kp.alloc _ _) | with_reducible exact (K2.out.trans (Kp.alloc _ _)).trans (Kp.alloc _ _) | with_reducible exact ((K2.out.trans (Kp.alloc _ _)).trans (Kp.alloc _ _)).trans (Kp.alloc _ _) | with_reducible exact K2.out.trans (Kp.drew _) | with_reducible exact K2.out.trans (Kp.drewN _ _))).mono ?_
  rintro e w3 ⟨rfl, kk⟩
  have K3 := Lib.hid ((show Kp W0 _ from (by first | with_reducible exact K2.out | with_reducible exact K2.out.trans (Kp.alloc _ _) | with_reducible exact (K2.out.trans (Kp.alloc _ _)).trans (Kp.alloc _ _) | with_reducible exact ((K2.out.trans (Kp.alloc _ _)).trans (Kp.alloc _ _)).trans (Kp.alloc _ _) | with_reducible exact K2.out.trans (Kp.drew _) | with_reducible exact K2.out.trans (Kp.drewN _ _))).trans kk)
  clear kk
  go_wp2_with fail
  refine (R1.out _ (by first | with_reducible exact K3.out | with_reducible exact K3.out.trans (Kp.alloc _ _) | with_reducible exact (K3.out.trans (Kp.alloc _ _)).trans (Kp.alloc _ _) | with_reducible exact ((K3.out.trans (Kp.alloc _ _)).trans (Kp.alloc _ _)).trans (Kp.alloc _ _) | with_reducible exact K3.out.trans (Kp.drew _) | with_reducible exact K3.out.trans (Kp.drewN _ _))).mono ?_
  rintro e w4 ⟨rfl, kk⟩
  have K4 := Lib.hid ((show Kp W0 _ from (by first | with_reducible exact K3.out | with_reducible exact K3.out.trans (Kp.alloc _ _) | with_reducible exact (K3.out.trans (Kp.alloc _ _)).trans (Kp.alloc _ _) | with_reducible exact ((K3.out.trans (Kp.alloc _ _)).trans (Kp.alloc _ _)).trans (Kp.alloc _ _) | with_reducible exact K3.out.trans (Kp.drew _) | with_reducible exact K3.out.trans (Kp.drewN _ _))).trans kk)
  clear kk
  obtain ⟨w5, hV⟩ : ∃ x, x = w4.alloc (.cells #[.int .i64 xa, .int .i64 xb] 26) := ⟨_, rfl⟩
  have ka : Kp w4 w5 := by rw [hV]; exact Kp.alloc _ _
  have hgq : w5.heap[w4.heap.size]? = some (.cells #[.int .i64 xa, .int .i64 xb] 26 (0, 0)) := by rw [hV]; exact heap_at _ _ _ rfl
  have q0 : w5.cell? ⟨w4.heap.size, 0, none⟩ = some (.int .i64 xa) := by simp [World.cell?, hgq]
  have q1 : w5.cell? ⟨w4.heap.size, 1, none⟩ = some (.int .i64 xb) := by simp [World.cell?, hgq]
  have HB2 := Lib.hid (fun w1 (k : Kp w5 w1) => show w1.cell? ⟨w4.heap.size, 0, none⟩ = some (.int .i64 xa) ∧ w1.cell? ⟨w4.heap.size, 1, none⟩ = some (.int .i64 xb) from ⟨cell_up k q0, cell_up k q1⟩)
  have K01 := Lib.hid (K00.out.trans (K4.out.trans ka))
  clear HB K00 hgq  q0 q1
  have HB := HB2
  have K00 := K01
  clear HB2 K01
  have K5 := Lib.hid (Kp.refl w5)
  have Hw5 := Lib.hid hV
  clear hV ka
  go_wp2_with fail
  rw [← Hw5.out]
  obtain ⟨c0, c1⟩ := HB.out w5 (Kp.refl _)
  refine (R2.out _ (K00.out.trans (by first | with_reducible exact K5.out | with_reducible exact K5.out.trans (Kp.alloc _ _) | with_reducible exact (K5.out.trans (Kp.alloc _ _)).trans (Kp.alloc _ _) | with_reducible exact ((K5.out.trans (Kp.alloc _ _)).trans (Kp.alloc _ _)).trans (Kp.alloc _ _) | with_reducible exact K5.out.trans (Kp.drew _) | with_reducible exact K5.out.trans (Kp.drewN _ _)))).mono ?_
  rintro e w6 ⟨rfl, kk⟩
  have K6 := Lib.hid ((show Kp w5 _ from (by first | with_reducible exact K5.out | with_reducible exact K5.out.trans (Kp.alloc _ _) | with_reducible exact (K5.out.trans (Kp.alloc _ _)).trans (Kp.alloc _ _) | with_reducible exact ((K5.out.trans (Kp.alloc _ _)).trans (Kp.alloc _ _)).trans (Kp.alloc _ _) | with_reducible exact K5.out.trans (Kp.drew _) | with_reducible exact K5.out.trans (Kp.drewN _ _))).trans kk)
  clear kk
  clear c0 c1
  obtain ⟨c0, c1⟩ := HB.out w6 K6.out
  obtain ⟨w7, hV⟩ : ∃ x, x = w6.alloc (.cells #[.int .i64 xc, .int .i64 xd] 26) := ⟨_, rfl⟩
  have ka : Kp w6 w7 := by rw [hV]; exact Kp.alloc _ _
  have hgq : w7.heap[w6.heap.size]? = some (.cells #[.int .i64 xc, .int .i64 xd] 26 (0, 0)) := by rw [hV]; exact heap_at _ _ _ rfl
  have q0 : w7.cell? ⟨w6.heap.size, 0, none⟩ = some (.int .i64 xc) := by simp [World.cell?, hgq]
  have q1 : w7.cell? ⟨w6.heap.size, 1, none⟩ = some (.int .i64 xd) := by simp [World.cell?, hgq]
  have HB2 := Lib.hid (fun w1 (k : Kp w7 w1) => show w1.cell? ⟨w4.heap.size, 0, none⟩ = some (.int .i64 xa) ∧ w1.cell? ⟨w4.heap.size, 1, none⟩ = some (.int .i64 xb) ∧ w1.cell? ⟨w6.heap.size, 0, none⟩ = some (.int .i64 xc) ∧ w1.cell? ⟨w6.heap.size, 1, none⟩ = some (.int .i64 xd) from ⟨(HB.out w1 (K6.out.trans (ka.trans k))).1, (HB.out w1 (K6.out.trans (ka.trans k))).2, cell_up k q0, cell_up k q1⟩)
  have K01 := Lib.hid (K00.out.trans (K6.out.trans ka))
  clear HB K00 hgq c0 c1 q0 q1
  have HB := HB2
  have K00 := K01
  clear HB2 K01
  have K7 := Lib.hid (Kp.refl w7)
  have Hw7 := Lib.hid hV
  clear hV ka
  go_wp2_with fail
  rw [← Hw7.out]
  obtain ⟨c0, c1, c2, c3⟩ := HB.out w7 (Kp.refl _)
  refine (R3.out _ (K00.out.trans (by first | with_reducible exact K7.out | with_reducible exact K7.out.trans (Kp.alloc _ _) | with_reducible exact (K7.out.trans (Kp.alloc _ _)).trans (Kp.alloc _ _) | with_reducible exact ((K7.out.trans (Kp.alloc _ _)).trans (Kp.alloc _ _)).trans (Kp.alloc _ _) | with_reducible exact K7.out.trans (Kp.drew _) | with_reducible exact K7.out.trans (Kp.drewN _ _)))).mono ?_
  rintro e w8 ⟨rfl, kk⟩
  have K8 := Lib.hid ((show Kp w7 _ from (by first | with_reducible exact K7.out | with_reducible exact K7.out.trans (Kp.alloc _ _) | with_reducible exact (K7.out.trans (Kp.alloc _ _)).trans (Kp.alloc _ _) | with_reducible exact ((K7.out.trans (Kp.alloc _ _)).trans (Kp.alloc _ _)).trans (Kp.alloc _ _) | with_reducible exact K7.out.trans (Kp.drew _) | with_reducible exact K7.out.trans (Kp.drewN _ _))).trans kk)
  clear kk
  clear c0 c1 c2 c3
  obtain ⟨c0, c1, c2, c3⟩ := HB.out w8 K8.out
  go_wp2_with fail
  refine (R4.out _ (K00.out.trans (by first | with_reducible exact K8.out | with_reducible exact K8.out.trans (Kp.alloc _ _) | with_reducible exact (K8.out.trans (Kp.alloc _ _)).trans (Kp.alloc _ _) | with_reducible exact ((K8.out.trans (Kp.alloc _ _)).trans (Kp.alloc _ _)).trans (Kp.alloc _ _) | with_reducible exact K8.out.trans (Kp.drew _) | with_reducible exact K8.out.trans (Kp.drewN _ _)))).mono ?_
  rintro e w9 ⟨rfl, kk⟩
  have K9 := Lib.hid ((show Kp w7 _ from (by first | with_reducible exact K8.out | with_reducible exact K8.out.trans (Kp.alloc _ _) | with_reducible exact (K8.out.trans (Kp.alloc _ _)).trans (Kp.alloc _ _) | with_reducible exact ((K8.out.trans (Kp.alloc _ _)).trans (Kp.alloc _ _)).trans (Kp.alloc _ _) | with_reducible exact K8.out.trans (Kp.drew _) | with_reducible exact K8.out.trans (Kp.drewN _ _))).trans kk)
  clear kk
  clear c0 c1 c2 c3
  obtain ⟨c0, c1, c2, c3⟩ := HB.out w9 K9.out
  go_wp2_with fail
  refine (R5.out _ (K00.out.trans (by first | with_reducible exact K9.out | with_reducible exact K9.out.trans (Kp.alloc _ _) | with_reducible exact (K9.out.trans (Kp.alloc _ _)).trans (Kp.alloc _ _) | with_reducible exact ((K9.out.trans (Kp.alloc _ _)).trans (Kp.alloc _ _)).trans (Kp.alloc _ _) | with_reducible exact K9.out.trans (Kp.drew _) | with_reducible exact K9.out.trans (Kp.drewN _ _)))).mono ?_
  rintro e w10 ⟨rfl, kk⟩
  have K10 := Lib.hid ((show Kp w7 _ from (by first | with_reducible exact K9.out | with_reducible exact K9.out.trans (Kp.alloc _ _) | with_reducible exact (K9.out.trans (Kp.alloc _ _)).trans (Kp.alloc _ _) | with_reducible exact ((K9.out.trans (Kp.alloc _ _)).trans (Kp.alloc _ _)).trans (Kp.alloc _ _) | with_reducible exact K9.out.trans (Kp.drew _) | with_reducible exact K9.out.trans (Kp.drewN _ _))).trans kk)
  clear kk
  clear c0 c1 c2 c3
  obtain ⟨c0, c1, c2, c3⟩ := HB.out w10 K10.out
  go_wp2
  go_ret
  exact ⟨rfl, K00.out.trans K10.out⟩
set_option maxHeartbeats 16000000 in
set_option maxRecDepth 100000 in
theorem okeys_tt (vl : Value) (l : List LF) (vm : Value) (m : List LF) (w : World) (rl : LeavesAt w vl l) (gl : ∀ f ∈ l, LeafG f) (rm : LeavesAt w vm m) (gm : ∀ f ∈ m, LeafG f) (T : Tabs w) (hfl : fewL l = true) (hfm : fewL m = true) (ha : anyB l = true) (hb' : anyB m = true) :
    Calls Tryd.prog 3 #[vl, vm] w fun e w' => e = .returned (.bool true) ∧ Kp w w' := by
  have AW := Lib.hid (fun w1 (kk : Kp w w1) => awake21 w1 (T.kp kk))
  have Fl := Lib.hid (fun w1 (kk : Kp w w1) => fewL_any vl l w1 (rl.kp kk))
  rw [hfl] at Fl
  obtain ⟨hl, hnl⟩ := fewL_ok hfl gl
  have Fm := Lib.hid (fun w1 (kk : Kp w w1) => fewL_any vm m w1 (rm.kp kk))
  rw [hfm] at Fm
  obtain ⟨hm, hnm⟩ := fewL_ok hfm gm
  have R1 := Lib.hid (fun w1 (kk : Kp w w1) => okey_any vl l w1 (rl.kp kk) hl (T.kp kk))
  have R2 := Lib.hid (fun w1 (kk : Kp w w1) => okey_any vm m w1 (rm.kp kk) hm (T.kp kk))
  have R3 := Lib.hid (fun w1 (kk : Kp w w1) => ordCertainly_any vl vm l m w1 (rl.kp kk) (rm.kp kk) hl hm (T.kp kk))
  have R4 := Lib.hid (fun w1 (kk : Kp w w1) => ordPossibly_any vl vm l m w1 (rl.kp kk) (rm.kp kk) hl hm (T.kp kk))
  have R5 := Lib.hid (fun w1 (kk : Kp w w1) => ordPossibly_any vm vl m l w1 (rm.kp kk) (rl.kp kk) hm hl (T.kp kk))
  have R6 := Lib.hid (fun w1 (kk : Kp w w1) => envEarliest_any vl l w1 (rl.kp kk) hl (T.kp kk))
  have R7 := Lib.hid (fun w1 (kk : Kp w w1) => envLatest_any vl l w1 (rl.kp kk) hl (T.kp kk))
  have hb : bothB l m = true := by unfold bothB; rw [ha, hb']; rfl
  have e6 := env_er dLS min l (.inl rfl)
  have e7 := env_er dGE max l (.inr rfl)
  rw [ha, erE_t] at e6 e7
  have q1 : keyA l = (envF dLS min l).1 := by unfold keyA; rw [if_pos ha]
  have q2 : keyB l = (envF dGE max l).1 := by unfold keyB; rw [if_pos ha]
  rw [e6, ← q1] at R6
  rw [e7, ← q2] at R7
  rw [hb, erE_t] at R3 R4
  rw [both_swap, hb, erE_t] at R5
  rw [ha, erE_t] at R1
  rw [hb', erE_t] at R2
  have KY := @cer_key l m
  have PO := @cer_pos1 l m
  have CK := Lib.hid (fun w1 => kcmp_any (keyA l) (keyB l) (keyA m) (keyB m) w1)
  clear q1 q2 e6 e7 hb ha hb' hl hm hnl hnm
  generalize keyA l = xa at *
  generalize keyB l = xb at *
  generalize keyA m = xc at *
  generalize keyB m = xd at *
  generalize cerO l m = c at *
  generalize posO l m = p at *
  generalize posO m l = bk at *
  generalize cmpK xa xb xc xd = ck at *
  obtain ⟨adl, cal, rfl⟩ := rl.slice
  obtain ⟨adm, cam, rfl⟩ := rm.slice
  obtain ⟨W0, hW⟩ : ∃ W0, W0 = w := ⟨_, rfl⟩
  subst hW
  have K00 := Lib.hid (Kp.refl W0)
  have K0 := Lib.hid (Kp.refl W0)
  clear T rl gl rm gm
  cases c with
  | false =>
    clear KY PO CK
    have HB := Lib.hid trivial
    go_enter Tryd.func3, Tryd.ntmps3
    go_wp2_with fail
    refine (AW.out _ (by first | with_reducible exact K0.out | with_reducible exact K0.out.trans (Kp.alloc _ _) | with_reducible exact (K0.out.trans (Kp.alloc _ _)).trans (Kp.alloc _ _) | with_reducible exact ((K0.out.trans (Kp.alloc _ _)).trans (Kp.alloc _ _)).trans (Kp.alloc _ _) | with_reducible exact K0.out.trans (Kp.drew _) | with_reducible exact K0.out.trans (Kp.drewN _ _))).mono ?_
    rintro e w1 ⟨rfl, kk⟩
    have K1 := Lib.hid ((show Kp W0 _ from (by first | with_reducible exact K0.out | with_reducible exact K0.out.trans (Kp.alloc _ _) | with_reducible exact (K0.out.trans (Kp.alloc _ _)).trans (Kp.alloc _ _) | with_reducible exact ((K0.out.trans (Kp.alloc _ _)).trans (Kp.alloc _ _)).trans (Kp.alloc _ _) | with_reducible exact K0.out.trans (Kp.drew _) | with_reducible exact K0.out.trans (Kp.drewN _ _))).trans kk)
    clear kk
    go_wp2_with fail
    refine (Fl.out _ (by first | with_reducible exact K1.out | with_reducible exact K1.out.trans (Kp.alloc _ _) | with_reducible exact (K1.out.trans (Kp.alloc _ _)).trans (Kp.alloc _ _) | with_reducible exact ((K1.out.trans (Kp.alloc _ _)).trans (Kp.alloc _ _)).trans (Kp.alloc _ _) | with_reducible exact K1.out.trans (Kp.drew _) | with_reducible exact K1.out.trans (Kp.drewN _ _))).mono ?_
    rintro e w2 ⟨rfl, kk⟩
    have K2 := Lib.hid ((show Kp W0 _ from (by first | with_reducible exact K1.out | with_reducible exact K1.out.trans (Kp.alloc _ _) | with_reducible exact (K1.out.trans (Kp.alloc _ _)).trans (Kp.alloc _ _) | with_reducible exact ((K1.out.trans (Kp.alloc _ _)).trans (Kp.alloc _ _)).trans (Kp.alloc _ _) | with_reducible exact K1.out.trans (Kp.drew _) | with_reducible exact K1.out.trans (Kp.drewN _ _))).trans kk)
    clear kk
    go_wp2_with fail
    refine (Fm.out _ (by first | with_reducible exact K2.out | with_reducible exact K2.out.trans (Kp.alloc _ _) | with_reducible exact (K2.out.trans (Kp.alloc _ _)).trans (Kp.alloc _ _) | with_reducible exact ((K2.out.trans (Kp.alloc _ _)).trans (Kp.alloc _ _)).trans (Kp.alloc _ _) | with_reducible exact K2.out.trans (Kp.drew _) | with_reducible exact K2.out.trans (Kp.drewN _ _))).mono ?_
    rintro e w3 ⟨rfl, kk⟩
    have K3 := Lib.hid ((show Kp W0 _ from (by first | with_reducible exact K2.out | with_reducible exact K2.out.trans (Kp.alloc _ _) | with_reducible exact (K2.out.trans (Kp.alloc _ _)).trans (Kp.alloc _ _) | with_reducible exact ((K2.out.trans (Kp.alloc _ _)).trans (Kp.alloc _ _)).trans (Kp.alloc _ _) | with_reducible exact K2.out.trans (Kp.drew _) | with_reducible exact K2.out.trans (Kp.drewN _ _))).trans kk)
    clear kk
    go_wp2_with fail
    refine (R1.out _ (by first | with_reducible exact K3.out | with_reducible exact K3.out.trans (Kp.alloc _ _) | with_reducible exact (K3.out.trans (Kp.alloc _ _)).trans (Kp.alloc _ _) | with_reducible exact ((K3.out.trans (Kp.alloc _ _)).trans (Kp.alloc _ _)).trans (Kp.alloc _ _) | with_reducible exact K3.out.trans (Kp.drew _) | with_reducible exact K3.out.trans (Kp.drewN _ _))).mono ?_
    rintro e w4 ⟨rfl, kk⟩
    have K4 := Lib.hid ((show Kp W0 _ from (by first | with_reducible exact K3.out | with_reducible exact K3.out.trans (Kp.alloc _ _) | with_reducible exact (K3.out.trans (Kp.alloc _ _)).trans (Kp.alloc _ _) | with_reducible exact ((K3.out.trans (Kp.alloc _ _)).trans (Kp.alloc _ _)).trans (Kp.alloc _ _) | with_reducible exact K3.out.trans (Kp.drew _) | with_reducible exact K3.out.trans (Kp.drewN _ _))).trans kk)
    clear kk
    obtain ⟨w5, hV⟩ : ∃ x, x = w4.alloc (.cells #[.int .i64 xa, .int .i64 xb] 26) := ⟨_, rfl⟩
    have ka : Kp w4 w5 := by rw [hV]; exact Kp.alloc _ _
    have hgq : w5.heap[w4.heap.size]? = some (.cells #[.int .i64 xa, .int .i64 xb] 26 (0, 0)) := by rw [hV]; exact heap_at _ _ _ rfl
    have q0 : w5.cell? ⟨w4.heap.size, 0, none⟩ = some (.int .i64 xa) := by simp [World.cell?, hgq]
    have q1 : w5.cell? ⟨w4.heap.size, 1, none⟩ = some (.int .i64 xb) := by simp [World.cell?, hgq]
    have HB2 := Lib.hid (fun w1 (k : Kp w5 w1) => show w1.cell? ⟨w4.heap.size, 0, none⟩ = some (.int .i64 xa) ∧ w1.cell? ⟨w4.heap.size, 1, none⟩ = some (.int .i64 xb) from ⟨cell_up k q0, cell_up k q1⟩)
    have K01 := Lib.hid (K00.out.trans (K4.out.trans ka))
    clear HB K00 hgq  q0 q1
    have HB := HB2
    have K00 := K01
    clear HB2 K01
    have K5 := Lib.hid (Kp.refl w5)
    have Hw5 := Lib.hid hV
    clear hV ka
    go_wp2_with fail
    rw [← Hw5.out]
    obtain ⟨c0, c1⟩ := HB.out w5 (Kp.refl _)
    refine (R2.out _ (K00.out.trans (by first | with_reducible exact K5.out | with_reducible exact K5.out.trans (Kp.alloc _ _) | with_reducible exact (K5.out.trans (Kp.alloc _ _)).trans (Kp.alloc _ _) | with_reducible exact ((K5.out.trans (Kp.alloc _ _)).trans (Kp.alloc _ _)).trans (Kp.alloc _ _) | with_reducible exact K5.out.trans (Kp.drew _) | with_reducible exact K5.out.trans (Kp.drewN _ _)))).mono ?_
    rintro e w6 ⟨rfl, kk⟩
    have K6 := Lib.hid ((show Kp w5 _ from (by first | with_reducible exact K5.out | with_reducible exact K5.out.trans (Kp.alloc _ _) | with_reducible exact (K5.out.trans (Kp.alloc _ _)).trans (Kp.alloc _ _) | with_reducible exact ((K5.out.trans (Kp.alloc _ _)).trans (Kp.alloc _ _)).trans (Kp.alloc _ _) | with_reducible exact K5.out.trans (Kp.drew _) | with_reducible exact K5.out.trans (Kp.drewN _ _))).trans kk)
    clear kk
    clear c0 c1
    obtain ⟨c0, c1⟩ := HB.out w6 K6.out
    obtain ⟨w7, hV⟩ : ∃ x, x = w6.alloc (.cells #[.int .i64 xc, .int .i64 xd] 26) := ⟨_, rfl⟩
    have ka : Kp w6 w7 := by rw [hV]; exact Kp.alloc _ _
    have hgq : w7.heap[w6.heap.size]? = some (.cells #[.int .i64 xc, .int .i64 xd] 26 (0, 0)) := by rw [hV]; exact heap_at _ _ _ rfl
    have q0 : w7.cell? ⟨w6.heap.size, 0, none⟩ = some (.int .i64 xc) := by simp [World.cell?, hgq]
    have q1 : w7.cell? ⟨w6.heap.size, 1, none⟩ = some (.int .i64 xd) := by simp [World.cell?, hgq]
    have HB2 := Lib.hid (fun w1 (k : Kp w7 w1) => show w1.cell? ⟨w4.heap.size, 0, none⟩ = some (.int .i64 xa) ∧ w1.cell? ⟨w4.heap.size, 1, none⟩ = some (.int .i64 xb) ∧ w1.cell? ⟨w6.heap.size, 0, none⟩ = some (.int .i64 xc) ∧ w1.cell? ⟨w6.heap.size, 1, none⟩ = some (.int .i64 xd) from ⟨(HB.out w1 (K6.out.trans (ka.trans k))).1, (HB.out w1 (K6.out.trans (ka.trans k))).2, cell_up k q0, cell_up k q1⟩)
    have K01 := Lib.hid (K00.out.trans (K6.out.trans ka))
    clear HB K00 hgq c0 c1 q0 q1
    have HB := HB2
    have K00 := K01
    clear HB2 K01
    have K7 := Lib.hid (Kp.refl w7)
    have Hw7 := Lib.hid hV
    clear hV ka
    go_wp2_with fail
    rw [← Hw7.out]
    obtain ⟨c0, c1, c2, c3⟩ := HB.out w7 (Kp.refl _)
    refine (R3.out _ (K00.out.trans (by first | with_reducible exact K7.out | with_reducible exact K7.out.trans (Kp.alloc _ _) | with_reducible exact (K7.out.trans (Kp.alloc _ _)).trans (Kp.alloc _ _) | with_reducible exact ((K7.out.trans (Kp.alloc _ _)).trans (Kp.alloc _ _)).trans (Kp.alloc _ _) | with_reducible exact K7.out.trans (Kp.drew _) | with_reducible exact K7.out.trans (Kp.drewN _ _)))).mono ?_
    rintro e w8 ⟨rfl, kk⟩
    have K8 := Lib.hid ((show Kp w7 _ from (by first | with_reducible exact K7.out | with_reducible exact K7.out.trans (Kp.alloc _ _) | with_reducible exact (K7.out.trans (Kp.alloc _ _)).trans (Kp.alloc _ _) | with_reducible exact ((K7.out.trans (Kp.alloc _ _)).trans (Kp.alloc _ _)).trans (Kp.alloc _ _) | with_reducible exact K7.out.trans (Kp.drew _) | with_reducible exact K7.out.trans (Kp.drewN _ _))).trans kk)
    clear kk
    clear c0 c1 c2 c3
    obtain ⟨c0, c1, c2, c3⟩ := HB.out w8 K8.out
    go_wp2_with fail
    refine (R4.out _ (K00.out.trans (by first | with_reducible exact K8.out | with_reducible exact K8.out.trans (Kp.alloc _ _) | with_reducible exact (K8.out.trans (Kp.alloc _ _)).trans (Kp.alloc _ _) | with_reducible exact ((K8.out.trans (Kp.alloc _ _)).trans (Kp.alloc _ _)).trans (Kp.alloc _ _) | with_reducible exact K8.out.trans (Kp.drew _) | with_reducible exact K8.out.trans (Kp.drewN _ _)))).mono ?_
    rintro e w9 ⟨rfl, kk⟩
    have K9 := Lib.hid ((show Kp w7 _ from (by first | with_reducible exact K8.out | with_reducible exact K8.out.trans (Kp.alloc _ _) | with_reducible exact (K8.out.trans (Kp.alloc _ _)).trans (Kp.alloc _ _) | with_reducible exact ((K8.out.trans (Kp.alloc _ _)).trans (Kp.alloc _ _)).trans (Kp.alloc _ _) | with_reducible exact K8.out.trans (Kp.drew _) | with_reducible exact K8.out.trans (Kp.drewN _ _))).trans kk)
    clear kk
    clear c0 c1 c2 c3
    obtain ⟨c0, c1, c2, c3⟩ := HB.out w9 K9.out
    go_wp2_with fail
    refine (R5.out _ (K00.out.trans (by first | with_reducible exact K9.out | with_reducible exact K9.out.trans (Kp.alloc _ _) | with_reducible exact (K9.out.trans (Kp.alloc _ _)).trans (Kp.alloc _ _) | with_reducible exact ((K9.out.trans (Kp.alloc _ _)).trans (Kp.alloc _ _)).trans (Kp.alloc _ _) | with_reducible exact K9.out.trans (Kp.drew _) | with_reducible exact K9.out.trans (Kp.drewN _ _)))).mono ?_
    rintro e w10 ⟨rfl, kk⟩
    have K10 := Lib.hid ((show Kp w7 _ from (by first | with_reducible exact K9.out | with_reducible exact K9.out.trans (Kp.alloc _ _) | with_reducible exact (K9.out.trans (Kp.alloc _ _)).trans (Kp.alloc _ _) | with_reducible exact ((K9.out.trans (Kp.alloc _ _)).trans (Kp.alloc _ _)).trans (Kp.alloc _ _) | with_reducible exact K9.out.trans (Kp.drew _) | with_reducible exact K9.out.trans (Kp.drewN _ _))).trans kk)
    clear kk
    clear c0 c1 c2 c3
    obtain ⟨c0, c1, c2, c3⟩ := HB.out w10 K10.out
    go_wp2_with fail
    refine (R6.out _ (K00.out.trans (by first | with_reducible exact K10.out | with_reducible exact K10.out.trans (Kp.alloc _ _) | with_reducible exact (K10.out.trans (Kp.alloc _ _)).trans (Kp.alloc _ _) | with_reducible exact ((K10.out.trans (Kp.alloc _ _)).trans (Kp.alloc _ _)).trans (Kp.alloc _ _) | with_reducible exact K10.out.trans (Kp.drew _) | with_reducible exact K10.out.trans (Kp.drewN _ _)))).mono ?_
    rintro e w11 ⟨rfl, kk⟩
    have K11 := Lib.hid ((show Kp w7 _ from (by first | with_reducible exact K10.out | with_reducible exact K10.out.trans (Kp.alloc _ _) | with_reducible exact (K10.out.trans (Kp.alloc _ _)).trans (Kp.alloc _ _) | with_reducible exact ((K10.out.trans (Kp.alloc _ _)).trans (Kp.alloc _ _)).trans (Kp.alloc _ _) | with_reducible exact K10.out.trans (Kp.drew _) | with_reducible exact K10.out.trans (Kp.drewN _ _))).trans kk)
    clear kk
    clear c0 c1 c2 c3
    obtain ⟨c0, c1, c2, c3⟩ := HB.out w11 K11.out
    go_wp2_with fail
    refine (R7.out _ (K00.out.trans (by first | with_reducible exact K11.out | with_reducible exact K11.out.trans (Kp.alloc _ _) | with_reducible exact (K11.out.trans (Kp.alloc _ _)).trans (Kp.alloc _ _) | with_reducible exact ((K11.out.trans (Kp.alloc _ _)).trans (Kp.alloc _ _)).trans (Kp.alloc _ _) | with_reducible exact K11.out.trans (Kp.drew _) | with_reducible exact K11.out.trans (Kp.drewN _ _)))).mono ?_
    rintro e w12 ⟨rfl, kk⟩
    have K12 := Lib.hid ((show Kp w7 _ from (by first | with_reducible exact K11.out | with_reducible exact K11.out.trans (Kp.alloc _ _) | with_reducible exact (K11.out.trans (Kp.alloc _ _)).trans (Kp.alloc _ _) | with_reducible exact ((K11.out.trans (Kp.alloc _ _)).trans (Kp.alloc _ _)).trans (Kp.alloc _ _) | with_reducible exact K11.out.trans (Kp.drew _) | with_reducible exact K11.out.trans (Kp.drewN _ _))).trans kk)
    clear kk
    clear c0 c1 c2 c3
    obtain ⟨c0, c1, c2, c3⟩ := HB.out w12 K12.out
    go_wp2
    go_ret
    exact ⟨rfl, K00.out.trans K12.out⟩
  | true =>
    obtain ⟨rfl, hlt⟩ := KY rfl
    obtain ⟨rfl, rfl⟩ := PO rfl
    clear KY PO
    have HB := Lib.hid trivial
    go_enter Tryd.func3, Tryd.ntmps3
    go_wp2_with fail
    refine (AW.out _ (by first | with_reducible exact K0.out | with_reducible exact K0.out.trans (Kp.alloc _ _) | with_reducible exact (K0.out.trans (Kp.alloc _ _)).trans (Kp.alloc _ _) | with_reducible exact ((K0.out.trans (Kp.alloc _ _)).trans (Kp.alloc _ _)).trans (Kp.alloc _ _) | with_reducible exact K0.out.trans (Kp.drew _) | with_reducible exact K0.out.trans (Kp.drewN _ _))).mono ?_
    rintro e w1 ⟨rfl, kk⟩
    have K1 := Lib.hid ((show Kp W0 _ from (by first | with_reducible exact K0.out | with_reducible exact K0.out.trans (Kp.alloc _ _) | with_reducible exact (K0.out.trans (Kp.alloc _ _)).trans (Kp.alloc _ _) | with_reducible exact ((K0.out.trans (Kp.alloc _ _)).trans (Kp.alloc _ _)).trans (Kp.alloc _ _) | with_reducible exact K0.out.trans (Kp.drew _) | with_reducible exact K0.out.trans (Kp.drewN _ _))).trans kk)
    clear kk
    go_wp2_with fail
    refine (Fl.out _ (by first | with_reducible exact K1.out | with_reducible exact K1.out.trans (Kp.alloc _ _) | with_reducible exact (K1.out.trans (Kp.alloc _ _)).trans (Kp.alloc _ _) | with_reducible exact ((K1.out.trans (Kp.alloc _ _)).trans (Kp.alloc _ _)).trans (Kp.alloc _ _) | with_reducible exact K1.out.trans (Kp.drew _) | with_reducible exact K1.out.trans (Kp.drewN _ _))).mono ?_
    rintro e w2 ⟨rfl, kk⟩
    have K2 := Lib.hid ((show Kp W0 _ from (by first | with_reducible exact K1.out | with_reducible exact K1.out.trans (Kp.alloc _ _) | with_reducible exact (K1.out.trans (Kp.alloc _ _)).trans (Kp.alloc _ _) | with_reducible exact ((K1.out.trans (Kp.alloc _ _)).trans (Kp.alloc _ _)).trans (Kp.alloc _ _) | with_reducible exact K1.out.trans (Kp.drew _) | with_reducible exact K1.out.trans (Kp.drewN _ _))).trans kk)
    clear kk
    go_wp2_with fail
    refine (Fm.out _ (by first | with_reducible exact K2.out | with_reducible exact K2.out.trans (Kp.alloc _ _) | with_reducible exact (K2.out.trans (Kp.alloc _ _)).trans (Kp.alloc _ _) | with_reducible exact ((K2.out.trans (Kp.alloc _ _)).trans (Kp.alloc _ _)).trans (Kp.alloc _ _) | with_reducible exact K2.out.trans (Kp.drew _) | with_reducible exact K2.out.trans (Kp.drewN _ _))).mono ?_
    rintro e w3 ⟨rfl, kk⟩
    have K3 := Lib.hid ((show Kp W0 _ from (by first | with_reducible exact K2.out | with_reducible exact K2.out.trans (Kp.alloc _ _) | with_reducible exact (K2.out.trans (Kp.alloc _ _)).trans (Kp.alloc _ _) | with_reducible exact ((K2.out.trans (Kp.alloc _ _)).trans (Kp.alloc _ _)).trans (Kp.alloc _ _) | with_reducible exact K2.out.trans (Kp.drew _) | with_reducible exact K2.out.trans (Kp.drewN _ _))).trans kk)
    clear kk
    go_wp2_with fail
    refine (R1.out _ (by first | with_reducible exact K3.out | with_reducible exact K3.out.trans (Kp.alloc _ _) | with_reducible exact (K3.out.trans (Kp.alloc _ _)).trans (Kp.alloc _ _) | with_reducible exact ((K3.out.trans (Kp.alloc _ _)).trans (Kp.alloc _ _)).trans (Kp.alloc _ _) | with_reducible exact K3.out.trans (Kp.drew _) | with_reducible exact K3.out.trans (Kp.drewN _ _))).mono ?_
    rintro e w4 ⟨rfl, kk⟩
    have K4 := Lib.hid ((show Kp W0 _ from (by first | with_reducible exact K3.out | with_reducible exact K3.out.trans (Kp.alloc _ _) | with_reducible exact (K3.out.trans (Kp.alloc _ _)).trans (Kp.alloc _ _) | with_reducible exact ((K3.out.trans (Kp.alloc _ _)).trans (Kp.alloc _ _)).trans (Kp.alloc _ _) | with_reducible exact K3.out.trans (Kp.drew _) | with_reducible exact K3.out.trans (Kp.drewN _ _))).trans kk)
    clear kk
    obtain ⟨w5, hV⟩ : ∃ x, x = w4.alloc (.cells #[.int .i64 xa, .int .i64 xb] 26) := ⟨_, rfl⟩
    have ka : Kp w4 w5 := by rw [hV]; exact Kp.alloc _ _
    have hgq : w5.heap[w4.heap.size]? = some (.cells #[.int .i64 xa, .int .i64 xb] 26 (0, 0)) := by rw [hV]; exact heap_at _ _ _ rfl
    have q0 : w5.cell? ⟨w4.heap.size, 0, none⟩ = some (.int .i64 xa) := by simp [World.cell?, hgq]
    have q1 : w5.cell? ⟨w4.heap.size, 1, none⟩ = some (.int .i64 xb) := by simp [World.cell?, hgq]
    have HB2 := Lib.hid (fun w1 (k : Kp w5 w1) => show w1.cell? ⟨w4.heap.size, 0, none⟩ = some (.int .i64 xa) ∧ w1.cell? ⟨w4.heap.size, 1, none⟩ = some (.int .i64 xb) from ⟨cell_up k q0, cell_up k q1⟩)
    have K01 := Lib.hid (K00.out.trans (K4.out.trans ka))
    clear HB K00 hgq  q0 q1
    have HB := HB2
    have K00 := K01
    clear HB2 K01
    have K5 := Lib.hid (Kp.refl w5)
    have Hw5 := Lib.hid hV
    clear hV ka
    go_wp2_with fail
    rw [← Hw5.out]
    obtain ⟨c0, c1⟩ := HB.out w5 (Kp.refl _)
    refine (R2.out _ (K00.out.trans (by first | with_reducible exact K5.out | with_reducible exact K5.out.trans (Kp.alloc _ _) | with_reducible exact (K5.out.trans (Kp.alloc _ _)).trans (Kp.alloc _ _) | with_reducible exact ((K5.out.trans (Kp.alloc _ _)).trans (Kp.alloc _ _)).trans (Kp.alloc _ _) | with_reducible exact K5.out.trans (Kp.drew _) | with_reducible exact K5.out.trans (Kp.drewN _ _)))).mono ?_
    rintro e w6 ⟨rfl, kk⟩
    have K6 := Lib.hid ((show Kp w5 _ from (by first | with_reducible exact K5.out | with_reducible exact K5.out.trans (Kp.alloc _ _) | with_reducible exact (K5.out.trans (Kp.alloc _ _)).trans (Kp.alloc _ _) | with_reducible exact ((K5.out.trans (Kp.alloc _ _)).trans (Kp.alloc _ _)).trans (Kp.alloc _ _) | with_reducible exact K5.out.trans (Kp.drew _) | with_reducible exact K5.out.trans (Kp.drewN _ _))).trans kk)
    clear kk
    clear c0 c1
    obtain ⟨c0, c1⟩ := HB.out w6 K6.out
    obtain ⟨w7, hV⟩ : ∃ x, x = w6.alloc (.cells #[.int .i64 xc, .int .i64 xd] 26) := ⟨_, rfl⟩
    have ka : Kp w6 w7 := by rw [hV]; exact Kp.alloc _ _
    have hgq : w7.heap[w6.heap.size]? = some (.cells #[.int .i64 xc, .int .i64 xd] 26 (0, 0)) := by rw [hV]; exact heap_at _ _ _ rfl
    have q0 : w7.cell? ⟨w6.heap.size, 0, none⟩ = some (.int .i64 xc) := by simp [World.cell?, hgq]
    have q1 : w7.cell? ⟨w6.heap.size, 1, none⟩ = some (.int .i64 xd) := by simp [World.cell?, hgq]
    have HB2 := Lib.hid (fun w1 (k : Kp w7 w1) => show w1.cell? ⟨w4.heap.size, 0, none⟩ = some (.int .i64 xa) ∧ w1.cell? ⟨w4.heap.size, 1, none⟩ = some (.int .i64 xb) ∧ w1.cell? ⟨w6.heap.size, 0, none⟩ = some (.int .i64 xc) ∧ w1.cell? ⟨w6.heap.size, 1, none⟩ = some (.int .i64 xd) from ⟨(HB.out w1 (K6.out.trans (ka.trans k))).1, (HB.out w1 (K6.out.trans (ka.trans k))).2, cell_up k q0, cell_up k q1⟩)
    have K01 := Lib.hid (K00.out.trans (K6.out.trans ka))
    clear HB K00 hgq c0 c1 q0 q1
    have HB := HB2
    have K00 := K01
    clear HB2 K01
    have K7 := Lib.hid (Kp.refl w7)
    have Hw7 := Lib.hid hV
    clear hV ka
    go_wp2_with fail
    rw [← Hw7.out]
    obtain ⟨c0, c1, c2, c3⟩ := HB.out w7 (Kp.refl _)
    refine (R3.out _ (K00.out.trans (by first | with_reducible exact K7.out | with_reducible exact K7.out.trans (Kp.alloc _ _) | with_reducible exact (K7.out.trans (Kp.alloc _ _)).trans (Kp.alloc _ _) | with_reducible exact ((K7.out.trans (Kp.alloc _ _)).trans (Kp.alloc _ _)).trans (Kp.alloc _ _) | with_reducible exact K7.out.trans (Kp.drew _) | with_reducible exact K7.out.trans (Kp.drewN _ _)))).mono ?_
    rintro e w8 ⟨rfl, kk⟩
    have K8 := Lib.hid ((show Kp w7 _ from (by first | with_reducible exact K7.out | with_reducible exact K7.out.trans (Kp.alloc _ _) | with_reducible exact (K7.out.trans (Kp.alloc _ _)).trans (Kp.alloc _ _) | with_reducible exact ((K7.out.trans (Kp.alloc _ _)).trans (Kp.alloc _ _)).trans (Kp.alloc _ _) | with_reducible exact K7.out.trans (Kp.drew _) | with_reducible exact K7.out.trans (Kp.drewN _ _))).trans kk)
    clear kk
    clear c0 c1 c2 c3
    obtain ⟨c0, c1, c2, c3⟩ := HB.out w8 K8.out
    go_wp2_with fail
    refine (R4.out _ (K00.out.trans (by first | with_reducible exact K8.out | with_reducible exact K8.out.trans (Kp.alloc _ _) | with_reducible exact (K8.out.trans (Kp.alloc _ _)).trans (Kp.alloc _ _) | with_reducible exact ((K8.out.trans (Kp.alloc _ _)).trans (Kp.alloc _ _)).trans (Kp.alloc _ _) | with_reducible exact K8.out.trans (Kp.drew _) | with_reducible exact K8.out.trans (Kp.drewN _ _)))).mono ?_
    rintro e w9 ⟨rfl, kk⟩
    have K9 := Lib.hid ((show Kp w7 _ from (by first | with_reducible exact K8.out | with_reducible exact K8.out.trans (Kp.alloc _ _) | with_reducible exact (K8.out.trans (Kp.alloc _ _)).trans (Kp.alloc _ _) | with_reducible exact ((K8.out.trans (Kp.alloc _ _)).trans (Kp.alloc _ _)).trans (Kp.alloc _ _) | with_reducible exact K8.out.trans (Kp.drew _) | with_reducible exact K8.out.trans (Kp.drewN _ _))).trans kk)
    clear kk
    clear c0 c1 c2 c3
    obtain ⟨c0, c1, c2, c3⟩ := HB.out w9 K9.out
    go_wp2_with fail
    refine (R5.out _ (K00.out.trans (by first | with_reducible exact K9.out | with_reducible exact K9.out.trans (Kp.alloc _ _) | with_reducible exact (K9.out.trans (Kp.alloc _ _)).trans (Kp.alloc _ _) | with_reducible exact ((K9.out.trans (Kp.alloc _ _)).trans (Kp.alloc _ _)).trans (Kp.alloc _ _) | with_reducible exact K9.out.trans (Kp.drew _) | with_reducible exact K9.out.trans (Kp.drewN _ _)))).mono ?_
    rintro e w10 ⟨rfl, kk⟩
    have K10 := Lib.hid ((show Kp w7 _ from (by first | with_reducible exact K9.out | with_reducible exact K9.out.trans (Kp.alloc _ _) | with_reducible exact (K9.out.trans (Kp.alloc _ _)).trans (Kp.alloc _ _) | with_reducible exact ((K9.out.trans (Kp.alloc _ _)).trans (Kp.alloc _ _)).trans (Kp.alloc _ _) | with_reducible exact K9.out.trans (Kp.drew _) | with_reducible exact K9.out.trans (Kp.drewN _ _))).trans kk)
    clear kk
    clear c0 c1 c2 c3
    obtain ⟨c0, c1, c2, c3⟩ := HB.out w10 K10.out
    go_wp2_with fail
    refine (R6.out _ (K00.out.trans (by first | with_reducible exact K10.out | with_reducible exact K10.out.trans (Kp.alloc _ _) | with_reducible exact (K10.out.trans (Kp.alloc _ _)).trans (Kp.alloc _ _) | with_reducible exact ((K10.out.trans (Kp.alloc _ _)).trans (Kp.alloc _ _)).trans (Kp.alloc _ _) | with_reducible exact K10.out.trans (Kp.drew _) | with_reducible exact K10.out.trans (Kp.drewN _ _)))).mono ?_
    rintro e w11 ⟨rfl, kk⟩
    have K11 := Lib.hid ((show Kp w7 _ from (by first | with_reducible exact K10.out | with_reducible exact K10.out.trans (Kp.alloc _ _) | with_reducible exact (K10.out.trans (Kp.alloc _ _)).trans (Kp.alloc _ _) | with_reducible exact ((K10.out.trans (Kp.alloc _ _)).trans (Kp.alloc _ _)).trans (Kp.alloc _ _) | with_reducible exact K10.out.trans (Kp.drew _) | with_reducible exact K10.out.trans (Kp.drewN _ _))).trans kk)
    clear kk
    clear c0 c1 c2 c3
    obtain ⟨c0, c1, c2, c3⟩ := HB.out w11 K11.out
    go_wp2_with fail
    refine (R7.out _ (K00.out.trans (by first | with_reducible exact K11.out | with_reducible exact K11.out.trans (Kp.alloc _ _) | with_reducible exact (K11.out.trans (Kp.alloc _ _)).trans (Kp.alloc _ _) | with_reducible exact ((K11.out.trans (Kp.alloc _ _)).trans (Kp.alloc _ _)).trans (Kp.alloc _ _) | with_reducible exact K11.out.trans (Kp.drew _) | with_reducible exact K11.out.trans (Kp.drewN _ _)))).mono ?_
    rintro e w12 ⟨rfl, kk⟩
    have K12 := Lib.hid ((show Kp w7 _ from (by first | with_reducible exact K11.out | with_reducible exact K11.out.trans (Kp.alloc _ _) | with_reducible exact (K11.out.trans (Kp.alloc _ _)).trans (Kp.alloc _ _) | with_reducible exact ((K11.out.trans (Kp.alloc _ _)).trans (Kp.alloc _ _)).trans (Kp.alloc _ _) | with_reducible exact K11.out.trans (Kp.drew _) | with_reducible exact K11.out.trans (Kp.drewN _ _))).trans kk)
    clear kk
    clear c0 c1 c2 c3
    obtain ⟨c0, c1, c2, c3⟩ := HB.out w12 K12.out
    go_wp2_with fail
    refine (CK.out _).mono ?_
    rintro e w13 ⟨rfl, kk⟩
    have K13 := Lib.hid ((show Kp w7 _ from (by first | with_reducible exact K12.out | with_reducible exact K12.out.trans (Kp.alloc _ _) | with_reducible exact (K12.out.trans (Kp.alloc _ _)).trans (Kp.alloc _ _) | with_reducible exact ((K12.out.trans (Kp.alloc _ _)).trans (Kp.alloc _ _)).trans (Kp.alloc _ _) | with_reducible exact K12.out.trans (Kp.drew _) | with_reducible exact K12.out.trans (Kp.drewN _ _))).trans kk)
    clear kk
    clear c0 c1 c2 c3
    obtain ⟨c0, c1, c2, c3⟩ := HB.out w13 K13.out
    go_wp2
    go_ret
    exact ⟨rfl, K00.out.trans K13.out⟩
theorem orderKeys_walk (vl : Value) (l : List LF) (vm : Value) (m : List LF) (w : World) (rl : LeavesAt w vl l) (gl : ∀ f ∈ l, LeafG f) (rm : LeavesAt w vm m) (gm : ∀ f ∈ m, LeafG f) (T : Tabs w) :
    Calls Tryd.prog 3 #[vl, vm] w fun e w' => e = .returned (.bool true) ∧ Kp w w' := by
  rcases Bool.eq_false_or_eq_true (fewL l) with a | a
  · rcases Bool.eq_false_or_eq_true (fewL m) with b | b
    · rcases Bool.eq_false_or_eq_true (anyB l) with c | c
      · rcases Bool.eq_false_or_eq_true (anyB m) with d | d
        · exact okeys_tt vl l vm m w rl gl rm gm T a b c d
        · exact okeys_tf vl l vm m w rl gl rm gm T a b c d
      · rcases Bool.eq_false_or_eq_true (anyB m) with d | d
        · exact okeys_ft vl l vm m w rl gl rm gm T a b c d
        · exact okeys_ff vl l vm m w rl gl rm gm T a b c d
    · exact okeys_few1 vl l vm m w rl gl rm gm T a b
  · exact okeys_few0 vl l vm m w rl gl rm gm T a
end Go.Proofs.YtjjpnglilalnmaaDoor
