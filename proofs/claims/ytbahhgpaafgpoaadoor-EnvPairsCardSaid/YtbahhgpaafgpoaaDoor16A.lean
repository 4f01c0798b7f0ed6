/-
  Layer 16: the walk of EnvPairs.
-/
import Derived.Test.YtbahhgpaafgpoaaDoorGEnv
import Derived.LoopTactic
namespace Go.Proofs.YtbahhgpaafgpoaaDoor
open Go.RowKit
set_option linter.unusedVariables false
set_option linter.unusedSimpArgs false
/-- have the first ones no pairs? -/
def noneB (l : List LF) (k : Nat) : Bool := (l.take k).all fun f => emptyF (famR f)
theorem noneB_next {l : List LF} {k : Nat} (h : k < l.length) : noneB l (k + 1) = (noneB l k && emptyF (famR (lat l k))) := by
  unfold noneB
  rw [take_lat l k h, List.all_append]
  simp
theorem noneB_all (l : List LF) : noneB l l.length = !anyB l := by
  unfold noneB anyB fullB
  rw [List.take_length, List.not_any_eq_all_not]
  simp
set_option maxHeartbeats 16000000 in
set_option maxRecDepth 100000 in
theorem epairs_few (vl : Value) (l : List LF) (pS pE : Int) (w : World) (rl : LeavesAt w vl l) (gl : ∀ f ∈ l, LeafG f) (hp1 : -9223372036854775808 ≤ pS) (hp2 : pS ≤ 9223372036854775807) (hp3 : -9223372036854775808 ≤ pE) (hp4 : pE ≤ 9223372036854775807) (T : Tabs w) (hf : fewL l = false) :
    Calls Tryd.prog 6 #[vl, .agg #[.int .i64 pS, .int .i64 pE]] w fun e w' => e = .returned (.bool true) ∧ Kp w w' := by
  have RFW := Lib.hid (fun w1 (kk : Kp w w1) => fewL_any vl l w1 (rl.kp kk))
  rw [hf] at RFW
  obtain ⟨adl, cal, rfl⟩ := rl.slice
  obtain ⟨W0, hW⟩ : ∃ W0, W0 = w.alloc (.cells #[.int .i64 pS, .int .i64 pE] 26) := ⟨_, rfl⟩
  have K00 := Lib.hid (show Kp w W0 by rw [hW]; exact Kp.alloc _ _)
  have HB := Lib.hid (fun w1 (k : Kp W0 w1) => show w1.cell? ⟨w.heap.size, 0, none⟩ = some (.int .i64 pS) ∧ w1.cell? ⟨w.heap.size, 1, none⟩ = some (.int .i64 pE) from ⟨cell_up k (show W0.cell? ⟨w.heap.size, 0, none⟩ = some (.int .i64 pS) by rw [hW]; simp), cell_up k (show W0.cell? ⟨w.heap.size, 1, none⟩ = some (.int .i64 pE) by rw [hW]; simp)⟩)
  obtain ⟨c0, c1⟩ := HB.out W0 (Kp.refl _)
  have K0 := Lib.hid (Kp.refl W0)
  have HW := Lib.hid hW
  clear hW
  have AW := Lib.hid (fun w1 (kk : Kp W0 w1) => awake16 w1 (T.kp (K00.out.trans kk)))
  have FW := Lib.hid (fun w1 (kk : Kp W0 w1) => RFW.out w1 (K00.out.trans kk))
  clear rl gl T
  go_enter Tryd.func6, Tryd.ntmps6
  go_wp2_with fail
  rw [← HW.out]
  refine (AW.out _ (by first | with_reducible exact K0.out | with_reducible exact K0.out.trans (Kp.alloc _ _) | with_reducible exact (K0.out.trans (Kp.alloc _ _)).trans (Kp.alloc _ _) | with_reducible exact ((K0.out.trans (Kp.alloc _ _)).trans (Kp.alloc _ _)).trans (Kp.alloc _ _) | with_reducible exact K0.out.trans (Kp.drew _) | with_reducible exact K0.out.trans (Kp.drewN _ _))).mono ?_
  rintro e w1 ⟨rfl, kk⟩
  have K1 := Lib.hid ((show Kp W0 _ from (by first | with_reducible exact K0.out | with_reducible exact K0.out.trans (Kp.alloc _ _) | with_reducible exact (K0.out.trans (Kp.alloc _ _)).trans (Kp.alloc _ _) | with_reducible exact ((K0.out.trans (Kp.alloc _ _)).trans (Kp.alloc _ _)).trans (Kp.alloc _ _) | with_reducible exact K0.out.trans (Kp.drew _) | with_reducible exact K0.out.trans (Kp.drewN _ _))).trans kk)
  clear kk
  clear c0 c1
  obtain ⟨c0, c1⟩ := HB.out w1 K1.out
  go_wp2_with fail
  refine (FW.out _ (by first | with_reducible exact K1.out | with_reducible exact K1.out.trans (Kp.alloc _ _) | with_reducible exact (K1.out.trans (Kp.alloc _ _)).trans (Kp.alloc _ _) | with_reducible exact ((K1.out.trans (Kp.alloc _ _)).trans (Kp.alloc _ _)).trans (Kp.alloc _ _) | with_reducible exact K1.out.trans (Kp.drew _) | with_reducible exact K1.out.trans (Kp.drewN _ _))).mono ?_
  rintro e w2 ⟨rfl, kk⟩
  have K2 := Lib.hid ((show Kp W0 _ from (by first | with_reducible exact K1.out | with_reducible exact K1.out.trans (Kp.alloc _ _) | with_reducible exact (K1.out.trans (Kp.alloc _ _)).trans (Kp.alloc _ _) | with_reducible exact ((K1.out.trans (Kp.alloc _ _)).trans (Kp.alloc _ _)).trans (Kp.alloc _ _) | with_reducible exact K1.out.trans (Kp.drew _) | with_reducible exact K1.out.trans (Kp.drewN _ _))).trans kk)
  clear kk
  clear c0 c1
  obtain ⟨c0, c1⟩ := HB.out w2 K2.out
  go_wp2
  go_ret
  exact ⟨rfl, K00.out.trans K2.out⟩
set_option maxHeartbeats 16000000 in
set_option maxRecDepth 100000 in
theorem epairs_none (vl : Value) (l : List LF) (pS pE : Int) (w : World) (rl : LeavesAt w vl l) (gl : ∀ f ∈ l, LeafG f) (hp1 : -9223372036854775808 ≤ pS) (hp2 : pS ≤ 9223372036854775807) (hp3 : -9223372036854775808 ≤ pE) (hp4 : pE ≤ 9223372036854775807) (T : Tabs w) (hf : fewL l = true) (ha : anyB l = false) :
    Calls Tryd.prog 6 #[vl, .agg #[.int .i64 pS, .int .i64 pE]] w fun e w' => e = .returned (.bool true) ∧ Kp w w' := by
  have RFW := Lib.hid (fun w1 (kk : Kp w w1) => fewL_any vl l w1 (rl.kp kk))
  rw [hf] at RFW
  obtain ⟨hls, hn⟩ := fewL_ok hf gl
  have R1 := Lib.hid (fun w1 (kk : Kp w w1) => envEarliest_any vl l w1 (rl.kp kk) hls (T.kp kk))
  have R2 := Lib.hid (fun w1 (kk : Kp w w1) => envLatest_any vl l w1 (rl.kp kk) hls (T.kp kk))
  have R3 := Lib.hid (fun w1 (kk : Kp w w1) => envFirstEnd_any vl l w1 (rl.kp kk) hls (T.kp kk))
  have R4 := Lib.hid (fun w1 (kk : Kp w w1) => envLastStart_any vl l w1 (rl.kp kk) hls (T.kp kk))
  have RH := Lib.hid (fun w1 (kk : Kp w w1) => denHas_any vl l pS pE w1 (rl.kp kk) hls (T.kp kk) hp1 hp2 hp3 hp4)
  have NN := Lib.hid (fun k (h : k < l.length) => noneB_next h)
  have NA := Lib.hid (noneB_all l)
  have N0 := Lib.hid (show noneB l 0 = true from rfl)
  have HL := Lib.hid hls
  have HV := Lib.hid rl
  have TT := Lib.hid T
  have gh := @hasL_bound l pS pE
  rw [env_nil _ _ _ ha] at R1 R2 R3 R4
  rw [ha] at NA
  clear gh
  obtain ⟨adl, cal, rfl⟩ := rl.slice
  obtain ⟨W0, hW⟩ : ∃ W0, W0 = w.alloc (.cells #[.int .i64 pS, .int .i64 pE] 26) := ⟨_, rfl⟩
  have K00 := Lib.hid (show Kp w W0 by rw [hW]; exact Kp.alloc _ _)
  have HB := Lib.hid (fun w1 (k : Kp W0 w1) => show w1.cell? ⟨w.heap.size, 0, none⟩ = some (.int .i64 pS) ∧ w1.cell? ⟨w.heap.size, 1, none⟩ = some (.int .i64 pE) from ⟨cell_up k (show W0.cell? ⟨w.heap.size, 0, none⟩ = some (.int .i64 pS) by rw [hW]; simp), cell_up k (show W0.cell? ⟨w.heap.size, 1, none⟩ = some (.int .i64 pE) by rw [hW]; simp)⟩)
  obtain ⟨c0, c1⟩ := HB.out W0 (Kp.refl _)
  have K0 := Lib.hid (Kp.refl W0)
  have HW := Lib.hid hW
  clear hW
  have AW := Lib.hid (fun w1 (kk : Kp W0 w1) => awake16 w1 (T.kp (K00.out.trans kk)))
  have FW := Lib.hid (fun w1 (kk : Kp W0 w1) => RFW.out w1 (K00.out.trans kk))
  have C1 := Lib.hid (fun w1 (kk : Kp W0 w1) => R1.out w1 (K00.out.trans kk))
  have C2 := Lib.hid (fun w1 (kk : Kp W0 w1) => R2.out w1 (K00.out.trans kk))
  have C3 := Lib.hid (fun w1 (kk : Kp W0 w1) => R3.out w1 (K00.out.trans kk))
  have C4 := Lib.hid (fun w1 (kk : Kp W0 w1) => R4.out w1 (K00.out.trans kk))
  have CH := Lib.hid (fun w1 (kk : Kp W0 w1) => RH.out w1 (K00.out.trans kk))
  clear rl gl T R1 R2 R3 R4 RH RFW hls
  generalize noneB l = E at *
  go_enter Tryd.func6, Tryd.ntmps6
  go_wp2_with fail
  rw [← HW.out]
  refine (AW.out _ (by first | with_reducible exact K0.out | with_reducible exact K0.out.trans (Kp.alloc _ _) | with_reducible exact (K0.out.trans (Kp.alloc _ _)).trans (Kp.alloc _ _) | with_reducible exact ((K0.out.trans (Kp.alloc _ _)).trans (Kp.alloc _ _)).trans (Kp.alloc _ _) | with_reducible exact K0.out.trans (Kp.drew _) | with_reducible exact K0.out.trans (Kp.drewN _ _))).mono ?_
  rintro e w1 ⟨rfl, kk⟩
  have K1 := Lib.hid ((show Kp W0 _ from (by first | with_reducible exact K0.out | with_reducible exact K0.out.trans (Kp.alloc _ _) | with_reducible exact (K0.out.trans (Kp.alloc _ _)).trans (Kp.alloc _ _) | with_reducible exact ((K0.out.trans (Kp.alloc _ _)).trans (Kp.alloc _ _)).trans (Kp.alloc _ _) | with_reducible exact K0.out.trans (Kp.drew _) | with_reducible exact K0.out.trans (Kp.drewN _ _))).trans kk)
  clear kk
  clear c0 c1
  obtain ⟨c0, c1⟩ := HB.out w1 K1.out
  go_wp2_with fail
  refine (FW.out _ (by first | with_reducible exact K1.out | with_reducible exact K1.out.trans (Kp.alloc _ _) | with_reducible exact (K1.out.trans (Kp.alloc _ _)).trans (Kp.alloc _ _) | with_reducible exact ((K1.out.trans (Kp.alloc _ _)).trans (Kp.alloc _ _)).trans (Kp.alloc _ _) | with_reducible exact K1.out.trans (Kp.drew _) | with_reducible exact K1.out.trans (Kp.drewN _ _))).mono ?_
  rintro e w2 ⟨rfl, kk⟩
  have K2 := Lib.hid ((show Kp W0 _ from (by first | with_reducible exact K1.out | with_reducible exact K1.out.trans (Kp.alloc _ _) | with_reducible exact (K1.out.trans (Kp.alloc _ _)).trans (Kp.alloc _ _) | with_reducible exact ((K1.out.trans (Kp.alloc _ _)).trans (Kp.alloc _ _)).trans (Kp.alloc _ _) | with_reducible exact K1.out.trans (Kp.drew _) | with_reducible exact K1.out.trans (Kp.drewN _ _))).trans kk)
  clear kk
  clear c0 c1
  obtain ⟨c0, c1⟩ := HB.out w2 K2.out
  go_wp2_with fail
  refine (C1.out _ (by first | with_reducible exact K2.out | with_reducible exact K2.out.trans (Kp.alloc _ _) | with_reducible exact (K2.out.trans (Kp.alloc _ _)).trans (Kp.alloc _ _) | with_reducible exact ((K2.out.trans (Kp.alloc _ _)).trans (Kp.alloc _ _)).trans (Kp.alloc _ _) | with_reducible exact K2.out.trans (Kp.drew _) | with_reducible exact K2.out.trans (Kp.drewN _ _))).mono ?_
  rintro e w3 ⟨rfl, kk⟩
  have K3 := Lib.hid ((show Kp W0 _ from (by first | with_reducible exact K2.out | with_reducible exact K2.out.trans (Kp.alloc _ _) | with_reducible exact (K2.out.trans (Kp.alloc _ _)).trans (Kp.alloc _ _) | with_reducible exact ((K2.out.trans (Kp.alloc _ _)).trans (Kp.alloc _ _)).trans (Kp.alloc _ _) | with_reducible exact K2.out.trans (Kp.drew _) | with_reducible exact K2.out.trans (Kp.drewN _ _))).trans kk)
  clear kk
  clear c0 c1
  obtain ⟨c0, c1⟩ := HB.out w3 K3.out
  go_wp2_with fail
  refine (C2.out _ (by first | with_reducible exact K3.out | with_reducible exact K3.out.trans (Kp.alloc _ _) | with_reducible exact (K3.out.trans (Kp.alloc _ _)).trans (Kp.alloc _ _) | with_reducible exact ((K3.out.trans (Kp.alloc _ _)).trans (Kp.alloc _ _)).trans (Kp.alloc _ _) | with_reducible exact K3.out.trans (Kp.drew _) | with_reducible exact K3.out.trans (Kp.drewN _ _))).mono ?_
  rintro e w4 ⟨rfl, kk⟩
  have K4 := Lib.hid ((show Kp W0 _ from (by first | with_reducible exact K3.out | with_reducible exact K3.out.trans (Kp.alloc _ _) | with_reducible exact (K3.out.trans (Kp.alloc _ _)).trans (Kp.alloc _ _) | with_reducible exact ((K3.out.trans (Kp.alloc _ _)).trans (Kp.alloc _ _)).trans (Kp.alloc _ _) | with_reducible exact K3.out.trans (Kp.drew _) | with_reducible exact K3.out.trans (Kp.drewN _ _))).trans kk)
  clear kk
  clear c0 c1
  obtain ⟨c0, c1⟩ := HB.out w4 K4.out
  go_wp2_with fail
  refine (C3.out _ (by first | with_reducible exact K4.out | with_reducible exact K4.out.trans (Kp.alloc _ _) | with_reducible exact (K4.out.trans (Kp.alloc _ _)).trans (Kp.alloc _ _) | with_reducible exact ((K4.out.trans (Kp.alloc _ _)).trans (Kp.alloc _ _)).trans (Kp.alloc _ _) | with_reducible exact K4.out.trans (Kp.drew _) | with_reducible exact K4.out.trans (Kp.drewN _ _))).mono ?_
  rintro e w5 ⟨rfl, kk⟩
  have K5 := Lib.hid ((show Kp W0 _ from (by first | with_reducible exact K4.out | with_reducible exact K4.out.trans (Kp.alloc _ _) | with_reducible exact (K4.out.trans (Kp.alloc _ _)).trans (Kp.alloc _ _) | with_reducible exact ((K4.out.trans (Kp.alloc _ _)).trans (Kp.alloc _ _)).trans (Kp.alloc _ _) | with_reducible exact K4.out.trans (Kp.drew _) | with_reducible exact K4.out.trans (Kp.drewN _ _))).trans kk)
  clear kk
  clear c0 c1
  obtain ⟨c0, c1⟩ := HB.out w5 K5.out
  go_wp2_with fail
  refine (C4.out _ (by first | with_reducible exact K5.out | with_reducible exact K5.out.trans (Kp.alloc _ _) | with_reducible exact (K5.out.trans (Kp.alloc _ _)).trans (Kp.alloc _ _) | with_reducible exact ((K5.out.trans (Kp.alloc _ _)).trans (Kp.alloc _ _)).trans (Kp.alloc _ _) | with_reducible exact K5.out.trans (Kp.drew _) | with_reducible exact K5.out.trans (Kp.drewN _ _))).mono ?_
  rintro e w6 ⟨rfl, kk⟩
  have K6 := Lib.hid ((show Kp W0 _ from (by first | with_reducible exact K5.out | with_reducible exact K5.out.trans (Kp.alloc _ _) | with_reducible exact (K5.out.trans (Kp.alloc _ _)).trans (Kp.alloc _ _) | with_reducible exact ((K5.out.trans (Kp.alloc _ _)).trans (Kp.alloc _ _)).trans (Kp.alloc _ _) | with_reducible exact K5.out.trans (Kp.drew _) | with_reducible exact K5.out.trans (Kp.drewN _ _))).trans kk)
  clear kk
  clear c0 c1
  obtain ⟨c0, c1⟩ := HB.out w6 K6.out
  clear c0 c1
  go_wp2
  go_loopw [14, 15] (fun v i wr => ∃ k : Nat, k ≤ l.length ∧ i = .int .i64 k ∧ v = .bool (E k) ∧ Hid (Kp W0 wr)) (fun _ i _ => l.length - (intOf i).toNat)
  case atStart => exact ⟨0, Nat.zero_le _, rfl, by rw [N0.out], K6⟩
  case round =>
    obtain ⟨k, hk, rfl, rfl, J⟩ := hrel
    by_cases hlt : k < l.length
    · rcases HV.out.kp (K00.out.trans J.out) with ⟨_, _, _, e⟩ | ⟨b0, off, cap, ev, hc, hmx, hx⟩
      · rw [e] at hlt; simp at hlt
      cases ev
      obtain ⟨va, vb, d0, d1, d2, d3, ra, rb⟩ := hx k hlt
      have LOK := HL.out _ (lat_mem hlt)
      obtain ⟨f, hf⟩ : ∃ f, lat l k = f := ⟨_, rfl⟩
      rw [hf] at d0 d1 ra rb
      (try rw [hf] at LOK)
      obtain ⟨sp, u, a, b⟩ := f
      simp only at d0 d1 ra rb
      (try simp only at LOK)
      obtain ⟨aa, ca, rfl⟩ := ra.slice
      obtain ⟨ab, cb, rfl⟩ := rb.slice
      have HF := Lib.hid hf
      have z1 : (k : Int) < (l.length : Int) := by omega
      have z2 : (0 : Int) ≤ (k : Int) := by omega
      clear hx hc hmx hf
      have N := NN.out k hlt
      rw [HF.out] at N
      have ok : LeafOk wr ⟨sp, u, a, b⟩ _ _ := ⟨ra, rb, LOK.1, LOK.2.1, LOK.2.2.1, LOK.2.2.2⟩
      have C := Lib.hid (fun w1 (kk : Kp wr w1) => leafEmpty_any ⟨sp, u, a, b⟩ _ _ w1 (ok.kp kk) (TT.out.kp (K00.out.trans (J.out.trans kk))).2)
      simp only [leafV] at C
      generalize emptyF (famR ⟨sp, u, a, b⟩) = q at *
      have KR := Lib.hid (Kp.refl wr)
      have NH := Lib.hid N
      clear N ra rb ok
      cases hE : E k with
      | false =>
        have N2 := Lib.hid (show E (k + 1) = false by rw [NH.out, hE]; rfl)
        clear hE NH
        go_wp2
        go_roundw
        case rel => exact ⟨k + 1, by omega, by go_num, by rw [N2.out], J⟩
        case measure => simp [intOf]; omega
      | true =>
        have N2 := Lib.hid (show E (k + 1) = q by rw [NH.out, hE]; rfl)
        clear hE NH
        go_wp2_with fail
        refine (C.out _ (by first | with_reducible exact KR.out | with_reducible exact KR.out.trans (Kp.alloc _ _) | with_reducible exact (KR.out.trans (Kp.alloc _ _)).trans (Kp.alloc _ _) | with_reducible exact ((KR.out.trans (Kp.alloc _ _)).trans (Kp.alloc _ _)).trans (Kp.alloc _ _) | with_reducible exact KR.out.trans (Kp.drew _) | with_reducible exact KR.out.trans (Kp.drewN _ _))).mono ?_
        rintro e w1 ⟨rfl, kk⟩
        have J1 := Lib.hid (J.out.trans ((show Kp wr _ from (by first | with_reducible exact KR.out | with_reducible exact KR.out.trans (Kp.alloc _ _) | with_reducible exact (KR.out.trans (Kp.alloc _ _)).trans (Kp.alloc _ _) | with_reducible exact ((KR.out.trans (Kp.alloc _ _)).trans (Kp.alloc _ _)).trans (Kp.alloc _ _) | with_reducible exact KR.out.trans (Kp.drew _) | with_reducible exact KR.out.trans (Kp.drewN _ _))).trans kk))
        clear kk
        go_wp2
        go_roundw
        case rel => exact ⟨k + 1, by omega, by go_num, by rw [N2.out], J1⟩
        case measure => simp [intOf]; omega
    · obtain rfl : k = l.length := by omega
      have hE := NA.out
      rw [hE]
      obtain ⟨c0, c1⟩ := HB.out wr J.out
      go_wp2
      go_ret
      exact ⟨rfl, K00.out.trans J.out⟩
set_option maxHeartbeats 16000000 in
set_option maxRecDepth 100000 in
theorem epairs_some (vl : Value) (l : List LF) (pS pE : Int) (w : World) (rl : LeavesAt w vl l) (gl : ∀ f ∈ l, LeafG f) (hp1 : -9223372036854775808 ≤ pS) (hp2 : pS ≤ 9223372036854775807) (hp3 : -9223372036854775808 ≤ pE) (hp4 : pE ≤ 9223372036854775807) (T : Tabs w) (hf : fewL l = true) (ha : anyB l = true) :
    Calls Tryd.prog 6 #[vl, .agg #[.int .i64 pS, .int .i64 pE]] w fun e w' => e = .returned (.bool true) ∧ Kp w w' := by
  have RFW := Lib.hid (fun w1 (kk : Kp w w1) => fewL_any vl l w1 (rl.kp kk))
  rw [hf] at RFW
  obtain ⟨hls, hn⟩ := fewL_ok hf gl
  have R1 := Lib.hid (fun w1 (kk : Kp w w1) => envEarliest_any vl l w1 (rl.kp kk) hls (T.kp kk))
  have R2 := Lib.hid (fun w1 (kk : Kp w w1) => envLatest_any vl l w1 (rl.kp kk) hls (T.kp kk))
  have R3 := Lib.hid (fun w1 (kk : Kp w w1) => envFirstEnd_any vl l w1 (rl.kp kk) hls (T.kp kk))
  have R4 := Lib.hid (fun w1 (kk : Kp w w1) => envLastStart_any vl l w1 (rl.kp kk) hls (T.kp kk))
  have RH := Lib.hid (fun w1 (kk : Kp w w1) => denHas_any vl l pS pE w1 (rl.kp kk) hls (T.kp kk) hp1 hp2 hp3 hp4)
  have NN := Lib.hid (fun k (h : k < l.length) => noneB_next h)
  have NA := Lib.hid (noneB_all l)
  have N0 := Lib.hid (show noneB l 0 = true from rfl)
  have HL := Lib.hid hls
  have HV := Lib.hid rl
  have TT := Lib.hid T
  have gh := @hasL_bound l pS pE
  obtain ⟨a1, _, _⟩ := env_min dLS l ha
  obtain ⟨a2, _, _⟩ := env_max dGE l ha
  obtain ⟨a3, _, _⟩ := env_min dLE l ha
  obtain ⟨a4, _, _⟩ := env_max dGS l ha
  obtain ⟨o1, o2, o3, o4⟩ := env_order ha
  rw [a1] at R1
  rw [a2] at R2
  rw [a3] at R3
  rw [a4] at R4
  rw [ha] at NA
  generalize (envF dLS min l).1 = x1 at *
  generalize (envF dGE max l).1 = x2 at *
  generalize (envF dLE min l).1 = x3 at *
  generalize (envF dGS max l).1 = x4 at *
  generalize hasL l pS pE = hb at *
  have q1 : decide (x1 ≤ x4) = true := decide_eq_true o1
  have q2 : decide (x3 ≤ x2) = true := decide_eq_true o2
  have q3 : decide (x1 ≤ x3) = true := decide_eq_true o3
  have q4 : decide (x4 ≤ x2) = true := decide_eq_true o4
  have GH := Lib.hid (fun (h : hb = true) => (gh h).2)
  clear a1 a2 a3 a4 gh
  obtain ⟨adl, cal, rfl⟩ := rl.slice
  obtain ⟨W0, hW⟩ : ∃ W0, W0 = w.alloc (.cells #[.int .i64 pS, .int .i64 pE] 26) := ⟨_, rfl⟩
  have K00 := Lib.hid (show Kp w W0 by rw [hW]; exact Kp.alloc _ _)
  have HB := Lib.hid (fun w1 (k : Kp W0 w1) => show w1.cell? ⟨w.heap.size, 0, none⟩ = some (.int .i64 pS) ∧ w1.cell? ⟨w.heap.size, 1, none⟩ = some (.int .i64 pE) from ⟨cell_up k (show W0.cell? ⟨w.heap.size, 0, none⟩ = some (.int .i64 pS) by rw [hW]; simp), cell_up k (show W0.cell? ⟨w.heap.size, 1, none⟩ = some (.int .i64 pE) by rw [hW]; simp)⟩)
  obtain ⟨c0, c1⟩ := HB.out W0 (Kp.refl _)
  have K0 := Lib.hid (Kp.refl W0)
  have HW := Lib.hid hW
  clear hW
  have AW := Lib.hid (fun w1 (kk : Kp W0 w1) => awake16 w1 (T.kp (K00.out.trans kk)))
  have FW := Lib.hid (fun w1 (kk : Kp W0 w1) => RFW.out w1 (K00.out.trans kk))
  have C1 := Lib.hid (fun w1 (kk : Kp W0 w1) => R1.out w1 (K00.out.trans kk))
  have C2 := Lib.hid (fun w1 (kk : Kp W0 w1) => R2.out w1 (K00.out.trans kk))
  have C3 := Lib.hid (fun w1 (kk : Kp W0 w1) => R3.out w1 (K00.out.trans kk))
  have C4 := Lib.hid (fun w1 (kk : Kp W0 w1) => R4.out w1 (K00.out.trans kk))
  have CH := Lib.hid (fun w1 (kk : Kp W0 w1) => RH.out w1 (K00.out.trans kk))
  clear rl gl T R1 R2 R3 R4 RH RFW hls
  generalize noneB l = E at *
  go_enter Tryd.func6, Tryd.ntmps6
  go_wp2_with fail
  rw [← HW.out]
  refine (AW.out _ (by first | with_reducible exact K0.out | with_reducible exact K0.out.trans (Kp.alloc _ _) | with_reducible exact (K0.out.trans (Kp.alloc _ _)).trans (Kp.alloc _ _) | with_reducible exact ((K0.out.trans (Kp.alloc _ _)).trans (Kp.alloc _ _)).trans (Kp.alloc _ _) | with_reducible exact K0.out.trans (Kp.drew _) | with_reducible exact K0.out.trans (Kp.drewN _ _))).mono ?_
  rintro e w1 ⟨rfl, kk⟩
  have K1 := Lib.hid ((show Kp W0 _ from (by first | with_reducible exact K0.out | with_reducible exact K0.out.trans (Kp.alloc _ _) | with_reducible exact (K0.out.trans (Kp.alloc _ _)).trans (Kp.alloc _ _) | with_reducible exact ((K0.out.trans (Kp.alloc _ _)).trans (Kp.alloc _ _)).trans (Kp.alloc _ _) | with_reducible exact K0.out.trans (Kp.drew _) | with_reducible exact K0.out.trans (Kp.drewN _ _))).trans kk)
  clear kk
  clear c0 c1
  obtain ⟨c0, c1⟩ := HB.out w1 K1.out
  go_wp2_with fail
  refine (FW.out _ (by first | with_reducible exact K1.out | with_reducible exact K1.out.trans (Kp.alloc _ _) | with_reducible exact (K1.out.trans (Kp.alloc _ _)).trans (Kp.alloc _ _) | with_reducible exact ((K1.out.trans (Kp.alloc _ _)).trans (Kp.alloc _ _)).trans (Kp.alloc _ _) | with_reducible exact K1.out.trans (Kp.drew _) | with_reducible exact K1.out.trans (Kp.drewN _ _))).mono ?_
  rintro e w2 ⟨rfl, kk⟩
  have K2 := Lib.hid ((show Kp W0 _ from (by first | with_reducible exact K1.out | with_reducible exact K1.out.trans (Kp.alloc _ _) | with_reducible exact (K1.out.trans (Kp.alloc _ _)).trans (Kp.alloc _ _) | with_reducible exact ((K1.out.trans (Kp.alloc _ _)).trans (Kp.alloc _ _)).trans (Kp.alloc _ _) | with_reducible exact K1.out.trans (Kp.drew _) | with_reducible exact K1.out.trans (Kp.drewN _ _))).trans kk)
  clear kk
  clear c0 c1
  obtain ⟨c0, c1⟩ := HB.out w2 K2.out
  go_wp2_with fail
  refine (C1.out _ (by first | with_reducible exact K2.out | with_reducible exact K2.out.trans (Kp.alloc _ _) | with_reducible exact (K2.out.trans (Kp.alloc _ _)).trans (Kp.alloc _ _) | with_reducible exact ((K2.out.trans (Kp.alloc _ _)).trans (Kp.alloc _ _)).trans (Kp.alloc _ _) | with_reducible exact K2.out.trans (Kp.drew _) | with_reducible exact K2.out.trans (Kp.drewN _ _))).mono ?_
  rintro e w3 ⟨rfl, kk⟩
  have K3 := Lib.hid ((show Kp W0 _ from (by first | with_reducible exact K2.out | with_reducible exact K2.out.trans (Kp.alloc _ _) | with_reducible exact (K2.out.trans (Kp.alloc _ _)).trans (Kp.alloc _ _) | with_reducible exact ((K2.out.trans (Kp.alloc _ _)).trans (Kp.alloc _ _)).trans (Kp.alloc _ _) | with_reducible exact K2.out.trans (Kp.drew _) | with_reducible exact K2.out.trans (Kp.drewN _ _))).trans kk)
  clear kk
  clear c0 c1
  obtain ⟨c0, c1⟩ := HB.out w3 K3.out
  go_wp2_with fail
  refine (C2.out _ (by first | with_reducible exact K3.out | with_reducible exact K3.out.trans (Kp.alloc _ _) | with_reducible exact (K3.out.trans (Kp.alloc _ _)).trans (Kp.alloc _ _) | with_reducible exact ((K3.out.trans (Kp.alloc _ _)).trans (Kp.alloc _ _)).trans (Kp.alloc _ _) | with_reducible exact K3.out.trans (Kp.drew _) | with_reducible exact K3.out.trans (Kp.drewN _ _))).mono ?_
  rintro e w4 ⟨rfl, kk⟩
  have K4 := Lib.hid ((show Kp W0 _ from (by first | with_reducible exact K3.out | with_reducible exact K3.out.trans (Kp.alloc _ _) | with_reducible exact (K3.out.trans (Kp.alloc _ _)).trans (Kp.alloc _ _) | with_reducible exact ((K3.out.trans (Kp.alloc _ _)).trans (Kp.alloc _ _)).trans (Kp.alloc _ _) | with_reducible exact K3.out.trans (Kp.drew _) | with_reducible exact K3.out.trans (Kp.drewN _ _))).trans kk)
  clear kk
  clear c0 c1
  obtain ⟨c0, c1⟩ := HB.out w4 K4.out
  go_wp2_with fail
  refine (C3.out _ (by first | with_reducible exact K4.out | with_reducible exact K4.out.trans (Kp.alloc _ _) | with_reducible exact (K4.out.trans (Kp.alloc _ _)).trans (Kp.alloc _ _) | with_reducible exact ((K4.out.trans (Kp.alloc _ _)).trans (Kp.alloc _ _)).trans (Kp.alloc _ _) | with_reducible exact K4.out.trans (Kp.drew _) | with_reducible exact K4.out.trans (Kp.drewN _ _))).mono ?_
  rintro e w5 ⟨rfl, kk⟩
  have K5 := Lib.hid ((show Kp W0 _ from (by first | with_reducible exact K4.out | with_reducible exact K4.out.trans (Kp.alloc _ _) | with_reducible exact (K4.out.trans (Kp.alloc _ _)).trans (Kp.alloc _ _) | with_reducible exact ((K4.out.trans (Kp.alloc _ _)).trans (Kp.alloc _ _)).trans (Kp.alloc _ _) | with_reducible exact K4.out.trans (Kp.drew _) | with_reducible exact K4.out.trans (Kp.drewN _ _))).trans kk)
  clear kk
  clear c0 c1
  obtain ⟨c0, c1⟩ := HB.out w5 K5.out
  go_wp2_with fail
  refine (C4.out _ (by first | with_reducible exact K5.out | with_reducible exact K5.out.trans (Kp.alloc _ _) | with_reducible exact (K5.out.trans (Kp.alloc _ _)).trans (Kp.alloc _ _) | with_reducible exact ((K5.out.trans (Kp.alloc _ _)).trans (Kp.alloc _ _)).trans (Kp.alloc _ _) | with_reducible exact K5.out.trans (Kp.drew _) | with_reducible exact K5.out.trans (Kp.drewN _ _))).mono ?_
  rintro e w6 ⟨rfl, kk⟩
  have K6 := Lib.hid ((show Kp W0 _ from (by first | with_reducible exact K5.out | with_reducible exact K5.out.trans (Kp.alloc _ _) | with_reducible exact (K5.out.trans (Kp.alloc _ _)).trans (Kp.alloc _ _) | with_reducible exact ((K5.out.trans (Kp.alloc _ _)).trans (Kp.alloc _ _)).trans (Kp.alloc _ _) | with_reducible exact K5.out.trans (Kp.drew _) | with_reducible exact K5.out.trans (Kp.drewN _ _))).trans kk)
  clear kk
  clear c0 c1
  obtain ⟨c0, c1⟩ := HB.out w6 K6.out
  clear c0 c1
  go_wp2
  go_loopw [14, 15] (fun v i wr => ∃ k : Nat, k ≤ l.length ∧ i = .int .i64 k ∧ v = .bool (E k) ∧ Hid (Kp W0 wr)) (fun _ i _ => l.length - (intOf i).toNat)
  case atStart => exact ⟨0, Nat.zero_le _, rfl, by rw [N0.out], K6⟩
  case round =>
    obtain ⟨k, hk, rfl, rfl, J⟩ := hrel
    by_cases hlt : k < l.length
    · rcases HV.out.kp (K00.out.trans J.out) with ⟨_, _, _, e⟩ | ⟨b0, off, cap, ev, hc, hmx, hx⟩
      · rw [e] at hlt; simp at hlt
      cases ev
      obtain ⟨va, vb, d0, d1, d2, d3, ra, rb⟩ := hx k hlt
      have LOK := HL.out _ (lat_mem hlt)
      obtain ⟨f, hf⟩ : ∃ f, lat l k = f := ⟨_, rfl⟩
      rw [hf] at d0 d1 ra rb
      (try rw [hf] at LOK)
      obtain ⟨sp, u, a, b⟩ := f
      simp only at d0 d1 ra rb
      (try simp only at LOK)
      obtain ⟨aa, ca, rfl⟩ := ra.slice
      obtain ⟨ab, cb, rfl⟩ := rb.slice
      have HF := Lib.hid hf
      have z1 : (k : Int) < (l.length : Int) := by omega
      have z2 : (0 : Int) ≤ (k : Int) := by omega
      clear hx hc hmx hf
      have N := NN.out k hlt
      rw [HF.out] at N
      have ok : LeafOk wr ⟨sp, u, a, b⟩ _ _ := ⟨ra, rb, LOK.1, LOK.2.1, LOK.2.2.1, LOK.2.2.2⟩
      have C := Lib.hid (fun w1 (kk : Kp wr w1) => leafEmpty_any ⟨sp, u, a, b⟩ _ _ w1 (ok.kp kk) (TT.out.kp (K00.out.trans (J.out.trans kk))).2)
      simp only [leafV] at C
      generalize emptyF (famR ⟨sp, u, a, b⟩) = q at *
      have KR := Lib.hid (Kp.refl wr)
      have NH := Lib.hid N
      clear N ra rb ok
      cases hE : E k with
      | false =>
        have N2 := Lib.hid (show E (k + 1) = false by rw [NH.out, hE]; rfl)
        clear hE NH
        go_wp2
        go_roundw
        case rel => exact ⟨k + 1, by omega, by go_num, by rw [N2.out], J⟩
        case measure => simp [intOf]; omega
      | true =>
        have N2 := Lib.hid (show E (k + 1) = q by rw [NH.out, hE]; rfl)
        clear hE NH
        go_wp2_with fail
        refine (C.out _ (by first | with_reducible exact KR.out | with_reducible exact KR.out.trans (Kp.alloc _ _) | with_reducible exact (KR.out.trans (Kp.alloc _ _)).trans (Kp.alloc _ _) | with_reducible exact ((KR.out.trans (Kp.alloc _ _)).trans (Kp.alloc _ _)).trans (Kp.alloc _ _) | with_reducible exact KR.out.trans (Kp.drew _) | with_reducible exact KR.out.trans (Kp.drewN _ _))).mono ?_
        rintro e w1 ⟨rfl, kk⟩
        have J1 := Lib.hid (J.out.trans ((show Kp wr _ from (by first | with_reducible exact KR.out | with_reducible exact KR.out.trans (Kp.alloc _ _) | with_reducible exact (KR.out.trans (Kp.alloc _ _)).trans (Kp.alloc _ _) | with_reducible exact ((KR.out.trans (Kp.alloc _ _)).trans (Kp.alloc _ _)).trans (Kp.alloc _ _) | with_reducible exact KR.out.trans (Kp.drew _) | with_reducible exact KR.out.trans (Kp.drewN _ _))).trans kk))
        clear kk
        go_wp2
        go_roundw
        case rel => exact ⟨k + 1, by omega, by go_num, by rw [N2.out], J1⟩
        case measure => simp [intOf]; omega
    · obtain rfl : k = l.length := by omega
      have hE := NA.out
      rw [hE]
      have Kr := Lib.hid J.out
      obtain ⟨c0, c1⟩ := HB.out wr J.out
      cases hb with
      | false =>
        go_wp2_with fail
        refine (CH.out _ (by first | with_reducible exact Kr.out | with_reducible exact Kr.out.trans (Kp.alloc _ _) | with_reducible exact (Kr.out.trans (Kp.alloc _ _)).trans (Kp.alloc _ _) | with_reducible exact ((Kr.out.trans (Kp.alloc _ _)).trans (Kp.alloc _ _)).trans (Kp.alloc _ _) | with_reducible exact Kr.out.trans (Kp.drew _) | with_reducible exact Kr.out.trans (Kp.drewN _ _))).mono ?_
        rintro e w7 ⟨rfl, kk⟩
        have K7 := Lib.hid ((show Kp W0 _ from (by first | with_reducible exact Kr.out | with_reducible exact Kr.out.trans (Kp.alloc _ _) | with_reducible exact (Kr.out.trans (Kp.alloc _ _)).trans (Kp.alloc _ _) | with_reducible exact ((Kr.out.trans (Kp.alloc _ _)).trans (Kp.alloc _ _)).trans (Kp.alloc _ _) | with_reducible exact Kr.out.trans (Kp.drew _) | with_reducible exact Kr.out.trans (Kp.drewN _ _))).trans kk)
        clear kk c0 c1
        obtain ⟨c0, c1⟩ := HB.out w7 K7.out
        go_wp2
        go_ret
        exact ⟨rfl, K00.out.trans K7.out⟩
      | true =>
        obtain ⟨b1, b2, b3, b4⟩ := GH.out rfl
        have r1 : decide (pS < x1) = false := decide_eq_false (by omega)
        have r2 : decide (x2 < pE) = false := decide_eq_false (by omega)
        have r3 : decide (pE < x3) = false := decide_eq_false (by omega)
        have r4 : decide (x4 < pS) = false := decide_eq_false (by omega)
        clear GH
        go_wp2_with fail
        refine (CH.out _ (by first | with_reducible exact Kr.out | with_reducible exact Kr.out.trans (Kp.alloc _ _) | with_reducible exact (Kr.out.trans (Kp.alloc _ _)).trans (Kp.alloc _ _) | with_reducible exact ((Kr.out.trans (Kp.alloc _ _)).trans (Kp.alloc _ _)).trans (Kp.alloc _ _) | with_reducible exact Kr.out.trans (Kp.drew _) | with_reducible exact Kr.out.trans (Kp.drewN _ _))).mono ?_
        rintro e w7 ⟨rfl, kk⟩
        have K7 := Lib.hid ((show Kp W0 _ from (by first | with_reducible exact Kr.out | with_reducible exact Kr.out.trans (Kp.alloc _ _) | with_reducible exact (Kr.out.trans (Kp.alloc _ _)).trans (Kp.alloc _ _) | with_reducible exact ((Kr.out.trans (Kp.alloc _ _)).trans (Kp.alloc _ _)).trans (Kp.alloc _ _) | with_reducible exact Kr.out.trans (Kp.drew _) | with_reducible exact Kr.out.trans (Kp.drewN _ _))).trans kk)
        clear kk c0 c1
        obtain ⟨c0, c1⟩ := HB.out w7 K7.out
        go_wp2
        go_ret
        exact ⟨rfl, K00.out.trans K7.out⟩
theorem envPairs_walk (vl : Value) (l : List LF) (pS pE : Int) (w : World) (rl : LeavesAt w vl l) (gl : ∀ f ∈ l, LeafG f) (hp1 : -9223372036854775808 ≤ pS) (hp2 : pS ≤ 9223372036854775807) (hp3 : -9223372036854775808 ≤ pE) (hp4 : pE ≤ 9223372036854775807) (T : Tabs w) :
    Calls Tryd.prog 6 #[vl, .agg #[.int .i64 pS, .int .i64 pE]] w fun e w' => e = .returned (.bool true) ∧ Kp w w' := by
  rcases Bool.eq_false_or_eq_true (fewL l) with hf | hf
  · rcases Bool.eq_false_or_eq_true (anyB l) with ha | ha
    · exact epairs_some vl l pS pE w rl gl hp1 hp2 hp3 hp4 T hf ha
    · exact epairs_none vl l pS pE w rl gl hp1 hp2 hp3 hp4 T hf ha
  · exact epairs_few vl l pS pE w rl gl hp1 hp2 hp3 hp4 T hf
end Go.Proofs.YtbahhgpaafgpoaaDoor
