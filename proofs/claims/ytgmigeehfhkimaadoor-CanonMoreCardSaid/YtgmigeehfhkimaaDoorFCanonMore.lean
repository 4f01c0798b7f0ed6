/-
  Joined: L12D, LCanonMore.
-/
import Derived.Test.YtgmigeehfhkimaaDoorGCnB
import Derived.Test.YtgmigeehfhkimaaDoorGPrA
import Derived.LoopTactic
import Derived.Test.YtgmigeehfhkimaaDoorCards
import Derived.Test.YtgmigeehfhkimaaDoorTie
import Derived.WalkKit
import Derived.ProofKit
import Derived.OpenShut
import Derived.ShutString
import Derived.ChangeOld
import Derived.Below
import Derived.Test.YtgmigeehfhkimaaDoorGTrB
import Derived.Deep.DeepHandedRow
import Derived.Lib.LaidTab
import Derived.Carry
namespace Go.Proofs.YtgmigeehfhkimaaDoor
open Go.RowKit Go.Shelf
set_option linter.unusedVariables false
set_option linter.unusedSimpArgs false
set_option maxHeartbeats 16000000 in
set_option maxRecDepth 100000 in
theorem cmore_long (vl : Value) (l : List ND) (w : World) (hl : NodesAt w vl l) (T : TabSH w) (h20 : 20 < l.length) :
    Calls Tryd.prog 7 #[vl] w fun e w' => e = .returned (.bool true) ∧ Kp w w' := by
  have AW := Lib.hid (fun w1 (kk : Kp w w1) => awake12 w1 (T.kp kk))
  have OO := Lib.hid (fun w1 => oneOf_any vl l w1 hl.slice)
  have FW := Lib.hid (fun w1 (kk : Kp w w1) => rfewG_any (orN l) vl w1 (hl.kp kk))
  have SN := Lib.hid (fun w1 (kk : Kp w w1) => tSaneG_any (orN l) vl w1 (hl.kp kk) (T.kp kk))
  have lm := hl.len
  unfold maxLen at lm
  have g1 : decide ((l.length : Int) > 20) = true := decide_eq_true (by omega)
  clear T
  obtain ⟨adl, cal, rfl⟩ := hl.slice
  unfold orN pz ndV at *
  simp only [ND.k, ND.p, ND.a, ND.t, ND.l] at *
  obtain ⟨W0, hW⟩ : ∃ W0, W0 = w := ⟨_, rfl⟩
  subst hW
  have K00 := Lib.hid (Kp.refl W0)
  have K0 := Lib.hid (Kp.refl W0)
  have HB := Lib.hid True.intro
  go_enter Tryd.func7, Tryd.ntmps7
  go_wp2_with fail
  refine (AW.out _ (K00.out.trans (by first | with_reducible exact K0.out | with_reducible exact K0.out.trans (Kp.alloc _ _) | with_reducible exact (K0.out.trans (Kp.alloc _ _)).trans (Kp.alloc _ _) | with_reducible exact ((K0.out.trans (Kp.alloc _ _)).trans (Kp.alloc _ _)).trans (Kp.alloc _ _) | with_reducible exact K0.out.trans (Kp.drew _) | with_reducible exact K0.out.trans (Kp.drewN _ _)))).mono ?_
  rintro e w1 ⟨rfl, kk⟩
  have K1 := Lib.hid ((show Kp W0 _ from (by first | with_reducible exact K0.out | with_reducible exact K0.out.trans (Kp.alloc _ _) | with_reducible exact (K0.out.trans (Kp.alloc _ _)).trans (Kp.alloc _ _) | with_reducible exact ((K0.out.trans (Kp.alloc _ _)).trans (Kp.alloc _ _)).trans (Kp.alloc _ _) | with_reducible exact K0.out.trans (Kp.drew _) | with_reducible exact K0.out.trans (Kp.drewN _ _))).trans kk)
  clear kk
  go_wp2_with fail
  refine (OO.out _).mono ?_
  rintro e w2 ⟨rfl, kk⟩
  have K2 := Lib.hid ((show Kp W0 _ from (by first | with_reducible exact K1.out | with_reducible exact K1.out.trans (Kp.alloc _ _) | with_reducible exact (K1.out.trans (Kp.alloc _ _)).trans (Kp.alloc _ _) | with_reducible exact ((K1.out.trans (Kp.alloc _ _)).trans (Kp.alloc _ _)).trans (Kp.alloc _ _) | with_reducible exact K1.out.trans (Kp.drew _) | with_reducible exact K1.out.trans (Kp.drewN _ _))).trans kk)
  clear kk
  obtain ⟨w3, hV⟩ : ∃ x, x = w2.alloc (.cells #[.int .i64 2, .int .i64 0, .string ⟨#[]⟩, .string ⟨#[]⟩, .string ⟨#[]⟩, .bool false, .bool false, .slice adl l.length cal] 26) := ⟨_, rfl⟩
  have ka : Kp w2 w3 := by rw [hV]; exact Kp.alloc _ _
  have hgq : w3.heap[w2.heap.size]? = some (.cells #[.int .i64 2, .int .i64 0, .string ⟨#[]⟩, .string ⟨#[]⟩, .string ⟨#[]⟩, .bool false, .bool false, .slice adl l.length cal] 26 (0, 0)) := by rw [hV]; exact heap_at _ _ _ rfl
  have q0 : w3.cell? ⟨w2.heap.size, 0, none⟩ = some (.int .i64 2) := by simp [World.cell?, hgq]
  have q1 : w3.cell? ⟨w2.heap.size, 1, none⟩ = some (.int .i64 0) := by simp [World.cell?, hgq]
  have q2 : w3.cell? ⟨w2.heap.size, 2, none⟩ = some (.string ⟨#[]⟩) := by simp [World.cell?, hgq]
  have q3 : w3.cell? ⟨w2.heap.size, 3, none⟩ = some (.string ⟨#[]⟩) := by simp [World.cell?, hgq]
  have q4 : w3.cell? ⟨w2.heap.size, 4, none⟩ = some (.string ⟨#[]⟩) := by simp [World.cell?, hgq]
  have q5 : w3.cell? ⟨w2.heap.size, 5, none⟩ = some (.bool false) := by simp [World.cell?, hgq]
  have q6 : w3.cell? ⟨w2.heap.size, 6, none⟩ = some (.bool false) := by simp [World.cell?, hgq]
  have q7 : w3.cell? ⟨w2.heap.size, 7, none⟩ = some (.slice adl l.length cal) := by simp [World.cell?, hgq]
  have HB2 := Lib.hid (fun w1 (k : Kp w3 w1) => show w1.cell? ⟨w2.heap.size, 0, none⟩ = some (.int .i64 2) ∧ w1.cell? ⟨w2.heap.size, 1, none⟩ = some (.int .i64 0) ∧ w1.cell? ⟨w2.heap.size, 2, none⟩ = some (.string ⟨#[]⟩) ∧ w1.cell? ⟨w2.heap.size, 3, none⟩ = some (.string ⟨#[]⟩) ∧ w1.cell? ⟨w2.heap.size, 4, none⟩ = some (.string ⟨#[]⟩) ∧ w1.cell? ⟨w2.heap.size, 5, none⟩ = some (.bool false) ∧ w1.cell? ⟨w2.heap.size, 6, none⟩ = some (.bool false) ∧ w1.cell? ⟨w2.heap.size, 7, none⟩ = some (.slice adl l.length cal) from ⟨cell_up k q0, cell_up k q1, cell_up k q2, cell_up k q3, cell_up k q4, cell_up k q5, cell_up k q6, cell_up k q7⟩)
  have K01 := Lib.hid (K00.out.trans (K2.out.trans ka))
  clear HB K00 hgq  q0 q1 q2 q3 q4 q5 q6 q7
  have HB := HB2
  have K00 := K01
  clear HB2 K01
  have K3 := Lib.hid (Kp.refl w3)
  have Hw3 := Lib.hid hV
  clear hV ka
  go_wp2_with fail
  rw [← Hw3.out]
  obtain ⟨c0, c1, c2, c3, c4, c5, c6, c7⟩ := HB.out w3 (Kp.refl _)
  go_wp2
  go_ret
  exact ⟨rfl, K00.out.trans (by first | with_reducible exact K3.out | with_reducible exact K3.out.trans (Kp.alloc _ _) | with_reducible exact (K3.out.trans (Kp.alloc _ _)).trans (Kp.alloc _ _) | with_reducible exact ((K3.out.trans (Kp.alloc _ _)).trans (Kp.alloc _ _)).trans (Kp.alloc _ _) | with_reducible exact K3.out.trans (Kp.drew _) | with_reducible exact K3.out.trans (Kp.drewN _ _))⟩
set_option maxHeartbeats 16000000 in
set_option maxRecDepth 100000 in
theorem cmore_many (vl : Value) (l : List ND) (w : World) (hl : NodesAt w vl l) (T : TabSH w) (h20 : l.length ≤ 20) (hf : fewG (orN l) = false) :
    Calls Tryd.prog 7 #[vl] w fun e w' => e = .returned (.bool true) ∧ Kp w w' := by
  have AW := Lib.hid (fun w1 (kk : Kp w w1) => awake12 w1 (T.kp kk))
  have OO := Lib.hid (fun w1 => oneOf_any vl l w1 hl.slice)
  have FW := Lib.hid (fun w1 (kk : Kp w w1) => rfewG_any (orN l) vl w1 (hl.kp kk))
  have SN := Lib.hid (fun w1 (kk : Kp w w1) => tSaneG_any (orN l) vl w1 (hl.kp kk) (T.kp kk))
  have lm := hl.len
  unfold maxLen at lm
  have g1 : decide ((l.length : Int) > 20) = false := decide_eq_false (by omega)
  rw [hf] at FW
  clear T hf
  obtain ⟨adl, cal, rfl⟩ := hl.slice
  unfold orN pz ndV at *
  simp only [ND.k, ND.p, ND.a, ND.t, ND.l] at *
  obtain ⟨W0, hW⟩ : ∃ W0, W0 = w := ⟨_, rfl⟩
  subst hW
  have K00 := Lib.hid (Kp.refl W0)
  have K0 := Lib.hid (Kp.refl W0)
  have HB := Lib.hid True.intro
  go_enter Tryd.func7, Tryd.ntmps7
  go_wp2_with fail
  refine (AW.out _ (K00.out.trans (by first | with_reducible exact K0.out | with_reducible exact K0.out.trans (Kp.alloc _ _) | with_reducible exact (K0.out.trans (Kp.alloc _ _)).trans (Kp.alloc _ _) | with_reducible exact ((K0.out.trans (Kp.alloc _ _)).trans (Kp.alloc _ _)).trans (Kp.alloc _ _) | with_reducible exact K0.out.trans (Kp.drew _) | with_reducible exact K0.out.trans (Kp.drewN _ _)))).mono ?_
  rintro e w1 ⟨rfl, kk⟩
  have K1 := Lib.hid ((show Kp W0 _ from (by first | with_reducible exact K0.out | with_reducible exact K0.out.trans (Kp.alloc _ _) | with_reducible exact (K0.out.trans (Kp.alloc _ _)).trans (Kp.alloc _ _) | with_reducible exact ((K0.out.trans (Kp.alloc _ _)).trans (Kp.alloc _ _)).trans (Kp.alloc _ _) | with_reducible exact K0.out.trans (Kp.drew _) | with_reducible exact K0.out.trans (Kp.drewN _ _))).trans kk)
  clear kk
  go_wp2_with fail
  refine (OO.out _).mono ?_
  rintro e w2 ⟨rfl, kk⟩
  have K2 := Lib.hid ((show Kp W0 _ from (by first | with_reducible exact K1.out | with_reducible exact K1.out.trans (Kp.alloc _ _) | with_reducible exact (K1.out.trans (Kp.alloc _ _)).trans (Kp.alloc _ _) | with_reducible exact ((K1.out.trans (Kp.alloc _ _)).trans (Kp.alloc _ _)).trans (Kp.alloc _ _) | with_reducible exact K1.out.trans (Kp.drew _) | with_reducible exact K1.out.trans (Kp.drewN _ _))).trans kk)
  clear kk
  obtain ⟨w3, hV⟩ : ∃ x, x = w2.alloc (.cells #[.int .i64 2, .int .i64 0, .string ⟨#[]⟩, .string ⟨#[]⟩, .string ⟨#[]⟩, .bool false, .bool false, .slice adl l.length cal] 26) := ⟨_, rfl⟩
  have ka : Kp w2 w3 := by rw [hV]; exact Kp.alloc _ _
  have hgq : w3.heap[w2.heap.size]? = some (.cells #[.int .i64 2, .int .i64 0, .string ⟨#[]⟩, .string ⟨#[]⟩, .string ⟨#[]⟩, .bool false, .bool false, .slice adl l.length cal] 26 (0, 0)) := by rw [hV]; exact heap_at _ _ _ rfl
  have q0 : w3.cell? ⟨w2.heap.size, 0, none⟩ = some (.int .i64 2) := by simp [World.cell?, hgq]
  have q1 : w3.cell? ⟨w2.heap.size, 1, none⟩ = some (.int .i64 0) := by simp [World.cell?, hgq]
  have q2 : w3.cell? ⟨w2.heap.size, 2, none⟩ = some (.string ⟨#[]⟩) := by simp [World.cell?, hgq]
  have q3 : w3.cell? ⟨w2.heap.size, 3, none⟩ = some (.string ⟨#[]⟩) := by simp [World.cell?, hgq]
  have q4 : w3.cell? ⟨w2.heap.size, 4, none⟩ = some (.string ⟨#[]⟩) := by simp [World.cell?, hgq]
  have q5 : w3.cell? ⟨w2.heap.size, 5, none⟩ = some (.bool false) := by simp [World.cell?, hgq]
  have q6 : w3.cell? ⟨w2.heap.size, 6, none⟩ = some (.bool false) := by simp [World.cell?, hgq]
  have q7 : w3.cell? ⟨w2.heap.size, 7, none⟩ = some (.slice adl l.length cal) := by simp [World.cell?, hgq]
  have HB2 := Lib.hid (fun w1 (k : Kp w3 w1) => show w1.cell? ⟨w2.heap.size, 0, none⟩ = some (.int .i64 2) ∧ w1.cell? ⟨w2.heap.size, 1, none⟩ = some (.int .i64 0) ∧ w1.cell? ⟨w2.heap.size, 2, none⟩ = some (.string ⟨#[]⟩) ∧ w1.cell? ⟨w2.heap.size, 3, none⟩ = some (.string ⟨#[]⟩) ∧ w1.cell? ⟨w2.heap.size, 4, none⟩ = some (.string ⟨#[]⟩) ∧ w1.cell? ⟨w2.heap.size, 5, none⟩ = some (.bool false) ∧ w1.cell? ⟨w2.heap.size, 6, none⟩ = some (.bool false) ∧ w1.cell? ⟨w2.heap.size, 7, none⟩ = some (.slice adl l.length cal) from ⟨cell_up k q0, cell_up k q1, cell_up k q2, cell_up k q3, cell_up k q4, cell_up k q5, cell_up k q6, cell_up k q7⟩)
  have K01 := Lib.hid (K00.out.trans (K2.out.trans ka))
  clear HB K00 hgq  q0 q1 q2 q3 q4 q5 q6 q7
  have HB := HB2
  have K00 := K01
  clear HB2 K01
  have K3 := Lib.hid (Kp.refl w3)
  have Hw3 := Lib.hid hV
  clear hV ka
  go_wp2_with fail
  rw [← Hw3.out]
  obtain ⟨c0, c1, c2, c3, c4, c5, c6, c7⟩ := HB.out w3 (Kp.refl _)
  go_wp2_with fail
  refine (FW.out _ (K00.out.trans (by first | with_reducible exact K3.out | with_reducible exact K3.out.trans (Kp.alloc _ _) | with_reducible exact (K3.out.trans (Kp.alloc _ _)).trans (Kp.alloc _ _) | with_reducible exact ((K3.out.trans (Kp.alloc _ _)).trans (Kp.alloc _ _)).trans (Kp.alloc _ _) | with_reducible exact K3.out.trans (Kp.drew _) | with_reducible exact K3.out.trans (Kp.drewN _ _)))).mono ?_
  rintro e w4 ⟨rfl, kk⟩
  have K4 := Lib.hid ((show Kp w3 _ from (by first | with_reducible exact K3.out | with_reducible exact K3.out.trans (Kp.alloc _ _) | with_reducible exact (K3.out.trans (Kp.alloc _ _)).trans (Kp.alloc _ _) | with_reducible exact ((K3.out.trans (Kp.alloc _ _)).trans (Kp.alloc _ _)).trans (Kp.alloc _ _) | with_reducible exact K3.out.trans (Kp.drew _) | with_reducible exact K3.out.trans (Kp.drewN _ _))).trans kk)
  clear kk
  clear c0 c1 c2 c3 c4 c5 c6 c7
  obtain ⟨c0, c1, c2, c3, c4, c5, c6, c7⟩ := HB.out w4 K4.out
  go_wp2
  go_ret
  exact ⟨rfl, K00.out.trans K4.out⟩
set_option maxHeartbeats 16000000 in
set_option maxRecDepth 100000 in
theorem cmore_no (vl : Value) (l : List ND) (w : World) (hl : NodesAt w vl l) (T : TabSH w) (h20 : l.length ≤ 20) (hf : fewG (orN l) = true) (hs : saneN saneP (orN l) = false) :
    Calls Tryd.prog 7 #[vl] w fun e w' => e = .returned (.bool true) ∧ Kp w w' := by
  have AW := Lib.hid (fun w1 (kk : Kp w w1) => awake12 w1 (T.kp kk))
  have OO := Lib.hid (fun w1 => oneOf_any vl l w1 hl.slice)
  have FW := Lib.hid (fun w1 (kk : Kp w w1) => rfewG_any (orN l) vl w1 (hl.kp kk))
  have SN := Lib.hid (fun w1 (kk : Kp w w1) => tSaneG_any (orN l) vl w1 (hl.kp kk) (T.kp kk))
  have lm := hl.len
  unfold maxLen at lm
  have g1 : decide ((l.length : Int) > 20) = false := decide_eq_false (by omega)
  rw [hf] at FW
  rw [hs] at SN
  clear T hf hs
  obtain ⟨adl, cal, rfl⟩ := hl.slice
  unfold orN pz ndV at *
  simp only [ND.k, ND.p, ND.a, ND.t, ND.l] at *
  obtain ⟨W0, hW⟩ : ∃ W0, W0 = w := ⟨_, rfl⟩
  subst hW
  have K00 := Lib.hid (Kp.refl W0)
  have K0 := Lib.hid (Kp.refl W0)
  have HB := Lib.hid True.intro
  go_enter Tryd.func7, Tryd.ntmps7
  go_wp2_with fail
  refine (AW.out _ (K00.out.trans (by first | with_reducible exact K0.out | with_reducible exact K0.out.trans (Kp.alloc _ _) | with_reducible exact (K0.out.trans (Kp.alloc _ _)).trans (Kp.alloc _ _) | with_reducible exact ((K0.out.trans (Kp.alloc _ _)).trans (Kp.alloc _ _)).trans (Kp.alloc _ _) | with_reducible exact K0.out.trans (Kp.drew _) | with_reducible exact K0.out.trans (Kp.drewN _ _)))).mono ?_
  rintro e w1 ⟨rfl, kk⟩
  have K1 := Lib.hid ((show Kp W0 _ from (by first | with_reducible exact K0.out | with_reducible exact K0.out.trans (Kp.alloc _ _) | with_reducible exact (K0.out.trans (Kp.alloc _ _)).trans (Kp.alloc _ _) | with_reducible exact ((K0.out.trans (Kp.alloc _ _)).trans (Kp.alloc _ _)).trans (Kp.alloc _ _) | with_reducible exact K0.out.trans (Kp.drew _) | with_reducible exact K0.out.trans (Kp.drewN _ _))).trans kk)
  clear kk
  go_wp2_with fail
  refine (OO.out _).mono ?_
  rintro e w2 ⟨rfl, kk⟩
  have K2 := Lib.hid ((show Kp W0 _ from (by first | with_reducible exact K1.out | with_reducible exact K1.out.trans (Kp.alloc _ _) | with_reducible exact (K1.out.trans (Kp.alloc _ _)).trans (Kp.alloc _ _) | with_reducible exact ((K1.out.trans (Kp.alloc _ _)).trans (Kp.alloc _ _)).trans (Kp.alloc _ _) | with_reducible exact K1.out.trans (Kp.drew _) | with_reducible exact K1.out.trans (Kp.drewN _ _))).trans kk)
  clear kk
  obtain ⟨w3, hV⟩ : ∃ x, x = w2.alloc (.cells #[.int .i64 2, .int .i64 0, .string ⟨#[]⟩, .string ⟨#[]⟩, .string ⟨#[]⟩, .bool false, .bool false, .slice adl l.length cal] 26) := ⟨_, rfl⟩
  have ka : Kp w2 w3 := by rw [hV]; exact Kp.alloc _ _
  have hgq : w3.heap[w2.heap.size]? = some (.cells #[.int .i64 2, .int .i64 0, .string ⟨#[]⟩, .string ⟨#[]⟩, .string ⟨#[]⟩, .bool false, .bool false, .slice adl l.length cal] 26 (0, 0)) := by rw [hV]; exact heap_at _ _ _ rfl
  have q0 : w3.cell? ⟨w2.heap.size, 0, none⟩ = some (.int .i64 2) := by simp [World.cell?, hgq]
  have q1 : w3.cell? ⟨w2.heap.size, 1, none⟩ = some (.int .i64 0) := by simp [World.cell?, hgq]
  have q2 : w3.cell? ⟨w2.heap.size, 2, none⟩ = some (.string ⟨#[]⟩) := by simp [World.cell?, hgq]
  have q3 : w3.cell? ⟨w2.heap.size, 3, none⟩ = some (.string ⟨#[]⟩) := by simp [World.cell?, hgq]
  have q4 : w3.cell? ⟨w2.heap.size, 4, none⟩ = some (.string ⟨#[]⟩) := by simp [World.cell?, hgq]
  have q5 : w3.cell? ⟨w2.heap.size, 5, none⟩ = some (.bool false) := by simp [World.cell?, hgq]
  have q6 : w3.cell? ⟨w2.heap.size, 6, none⟩ = some (.bool false) := by simp [World.cell?, hgq]
  have q7 : w3.cell? ⟨w2.heap.size, 7, none⟩ = some (.slice adl l.length cal) := by simp [World.cell?, hgq]
  have HB2 := Lib.hid (fun w1 (k : Kp w3 w1) => show w1.cell? ⟨w2.heap.size, 0, none⟩ = some (.int .i64 2) ∧ w1.cell? ⟨w2.heap.size, 1, none⟩ = some (.int .i64 0) ∧ w1.cell? ⟨w2.heap.size, 2, none⟩ = some (.string ⟨#[]⟩) ∧ w1.cell? ⟨w2.heap.size, 3, none⟩ = some (.string ⟨#[]⟩) ∧ w1.cell? ⟨w2.heap.size, 4, none⟩ = some (.string ⟨#[]⟩) ∧ w1.cell? ⟨w2.heap.size, 5, none⟩ = some (.bool false) ∧ w1.cell? ⟨w2.heap.size, 6, none⟩ = some (.bool false) ∧ w1.cell? ⟨w2.heap.size, 7, none⟩ = some (.slice adl l.length cal) from ⟨cell_up k q0, cell_up k q1, cell_up k q2, cell_up k q3, cell_up k q4, cell_up k q5, cell_up k q6, cell_up k q7⟩)
  have K01 := Lib.hid (K00.out.trans (K2.out.trans ka))
  clear HB K00 hgq  q0 q1 q2 q3 q4 q5 q6 q7
  have HB := HB2
  have K00 := K01
  clear HB2 K01
  have K3 := Lib.hid (Kp.refl w3)
  have Hw3 := Lib.hid hV
  clear hV ka
  go_wp2_with fail
  rw [← Hw3.out]
  obtain ⟨c0, c1, c2, c3, c4, c5, c6, c7⟩ := HB.out w3 (Kp.refl _)
  go_wp2_with fail
  refine (FW.out _ (K00.out.trans (by first | with_reducible exact K3.out | with_reducible exact K3.out.trans (Kp.alloc _ _) | with_reducible exact (K3.out.trans (Kp.alloc _ _)).trans (Kp.alloc _ _) | with_reducible exact ((K3.out.trans (Kp.alloc _ _)).trans (Kp.alloc _ _)).trans (Kp.alloc _ _) | with_reducible exact K3.out.trans (Kp.drew _) | with_reducible exact K3.out.trans (Kp.drewN _ _)))).mono ?_
  rintro e w4 ⟨rfl, kk⟩
  have K4 := Lib.hid ((show Kp w3 _ from (by first | with_reducible exact K3.out | with_reducible exact K3.out.trans (Kp.alloc _ _) | with_reducible exact (K3.out.trans (Kp.alloc _ _)).trans (Kp.alloc _ _) | with_reducible exact ((K3.out.trans (Kp.alloc _ _)).trans (Kp.alloc _ _)).trans (Kp.alloc _ _) | with_reducible exact K3.out.trans (Kp.drew _) | with_reducible exact K3.out.trans (Kp.drewN _ _))).trans kk)
  clear kk
  clear c0 c1 c2 c3 c4 c5 c6 c7
  obtain ⟨c0, c1, c2, c3, c4, c5, c6, c7⟩ := HB.out w4 K4.out
  go_wp2_with fail
  refine (SN.out _ (K00.out.trans (by first | with_reducible exact K4.out | with_reducible exact K4.out.trans (Kp.alloc _ _) | with_reducible exact (K4.out.trans (Kp.alloc _ _)).trans (Kp.alloc _ _) | with_reducible exact ((K4.out.trans (Kp.alloc _ _)).trans (Kp.alloc _ _)).trans (Kp.alloc _ _) | with_reducible exact K4.out.trans (Kp.drew _) | with_reducible exact K4.out.trans (Kp.drewN _ _)))).mono ?_
  rintro e w5 ⟨rfl, kk⟩
  have K5 := Lib.hid ((show Kp w3 _ from (by first | with_reducible exact K4.out | with_reducible exact K4.out.trans (Kp.alloc _ _) | with_reducible exact (K4.out.trans (Kp.alloc _ _)).trans (Kp.alloc _ _) | with_reducible exact ((K4.out.trans (Kp.alloc _ _)).trans (Kp.alloc _ _)).trans (Kp.alloc _ _) | with_reducible exact K4.out.trans (Kp.drew _) | with_reducible exact K4.out.trans (Kp.drewN _ _))).trans kk)
  clear kk
  clear c0 c1 c2 c3 c4 c5 c6 c7
  obtain ⟨c0, c1, c2, c3, c4, c5, c6, c7⟩ := HB.out w5 K5.out
  go_wp2
  go_ret
  exact ⟨rfl, K00.out.trans K5.out⟩
abbrev moA0 : Oper := { dst := some 42, op := Go.Op.move (Go.Operand.tmp 0), type := 24, pos := "more.go:22", after := #[], guard := none }
abbrev moA1 : Oper := { dst := some 43, op := Go.Op.indexAddr 24 (Go.Operand.tmp 42) (Go.Operand.const (Go.Value.int Go.IntKind.i64 0)), type := 0, pos := "more.go:22", after := #[{ on := 0, ground := Go.Ground.data }], guard := none }
abbrev moA2 : Oper := { dst := some 44, op := Go.Op.load 26 (Go.Operand.tmp 43), type := 26, pos := "more.go:22", after := #[{ on := 1, ground := Go.Ground.data }], guard := none }
abbrev moA3 : Oper := { dst := some 45, op := Go.Op.load 26 (Go.Operand.tmp 4), type := 26, pos := "more.go:22", after := #[], guard := none }
abbrev moA4 : Oper := { dst := some 46, op := Go.Op.buildSlice 24 2 #[(0, Go.Operand.tmp 44), (1, Go.Operand.tmp 45)], type := 24, pos := "more.go:22", after := #[{ on := 2, ground := Go.Ground.data }, { on := 3, ground := Go.Ground.data }], guard := none }
abbrev moA5 : Oper := { dst := some 47, op := Go.Op.call { callee := Go.Callee.value (Go.Operand.func 19), args := #[Go.Operand.tmp 46], argTypes := #[24] }, type := 26, pos := "more.go:22", after := #[{ on := 4, ground := Go.Ground.data }], guard := none }
abbrev moA6 : Oper := { dst := some 8, op := Go.Op.alloc 26, type := 0, pos := "more.go:22", after := #[], guard := none }
abbrev moA7 : Oper := { dst := none, op := Go.Op.store 26 (Go.Operand.tmp 8) (Go.Operand.tmp 47), type := 0, pos := "more.go:22", after := #[{ on := 6, ground := Go.Ground.data }, { on := 5, ground := Go.Ground.data }, { on := 5, ground := Go.Ground.chain }, { on := 0, ground := Go.Ground.phase }, { on := 1, ground := Go.Ground.phase }, { on := 2, ground := Go.Ground.phase }, { on := 3, ground := Go.Ground.phase }, { on := 4, ground := Go.Ground.phase }, { on := 5, ground := Go.Ground.phase }, { on := 6, ground := Go.Ground.phase }], guard := none }
abbrev moB0 : Oper := { dst := some 48, op := Go.Op.move (Go.Operand.tmp 3), type := 4, pos := "more.go:23", after := #[], guard := none }
abbrev moB1 : Oper := { dst := some 49, op := Go.Op.move (Go.Operand.tmp 48), type := 4, pos := "more.go:23", after := #[{ on := 0, ground := Go.Ground.data }], guard := none }
abbrev moB2 : Oper := { dst := some 50, op := Go.Op.move (Go.Operand.tmp 5), type := 24, pos := "more.go:23", after := #[{ on := 1, ground := Go.Ground.guard }], guard := some (1, true) }
abbrev moB3 : Oper := { dst := some 51, op := Go.Op.call { callee := Go.Callee.value (Go.Operand.func 19), args := #[Go.Operand.tmp 50], argTypes := #[24] }, type := 26, pos := "more.go:23", after := #[{ on := 2, ground := Go.Ground.data }, { on := 1, ground := Go.Ground.chain }, { on := 1, ground := Go.Ground.guard }], guard := some (1, true) }
abbrev moB4 : Oper := { dst := some 52, op := Go.Op.call { callee := Go.Callee.value (Go.Operand.func 11), args := #[Go.Operand.tmp 51], argTypes := #[26] }, type := 26, pos := "more.go:23", after := #[{ on := 3, ground := Go.Ground.data }, { on := 3, ground := Go.Ground.chain }, { on := 1, ground := Go.Ground.guard }], guard := some (1, true) }
abbrev moB5 : Oper := { dst := some 53, op := Go.Op.load 26 (Go.Operand.tmp 7), type := 26, pos := "more.go:23", after := #[{ on := 1, ground := Go.Ground.guard }], guard := some (1, true) }
abbrev moB6 : Oper := { dst := some 54, op := Go.Op.call { callee := Go.Callee.value (Go.Operand.func 10), args := #[Go.Operand.tmp 52, Go.Operand.tmp 53], argTypes := #[26, 26] }, type := 4, pos := "more.go:23", after := #[{ on := 4, ground := Go.Ground.data }, { on := 5, ground := Go.Ground.data }, { on := 4, ground := Go.Ground.chain }, { on := 1, ground := Go.Ground.guard }], guard := some (1, true) }
abbrev moB7 : Oper := { dst := some 55, op := Go.Op.pick (Go.Operand.tmp 49) (Go.Operand.tmp 54) (Go.Operand.const (Go.Value.bool false)), type := 4, pos := "more.go:23", after := #[{ on := 1, ground := Go.Ground.data }, { on := 6, ground := Go.Ground.data }], guard := none }
abbrev moB8 : Oper := { dst := some 56, op := Go.Op.move (Go.Operand.tmp 55), type := 4, pos := "more.go:23", after := #[{ on := 7, ground := Go.Ground.data }, { on := 6, ground := Go.Ground.chain }], guard := none }
abbrev moB9 : Oper := { dst := some 57, op := Go.Op.load 26 (Go.Operand.tmp 8), type := 26, pos := "more.go:23", after := #[{ on := 8, ground := Go.Ground.guard }], guard := some (8, true) }
abbrev moB10 : Oper := { dst := some 58, op := Go.Op.call { callee := Go.Callee.value (Go.Operand.func 15), args := #[Go.Operand.tmp 57], argTypes := #[26] }, type := 4, pos := "more.go:23", after := #[{ on := 9, ground := Go.Ground.data }, { on := 8, ground := Go.Ground.chain }, { on := 8, ground := Go.Ground.guard }], guard := some (8, true) }
abbrev moB11 : Oper := { dst := some 59, op := Go.Op.unOp Go.UnOp.not 4 (Go.Operand.tmp 58), type := 4, pos := "more.go:23", after := #[{ on := 10, ground := Go.Ground.data }, { on := 8, ground := Go.Ground.guard }], guard := some (8, true) }
abbrev moB12 : Oper := { dst := some 60, op := Go.Op.move (Go.Operand.tmp 59), type := 4, pos := "more.go:23", after := #[{ on := 11, ground := Go.Ground.data }, { on := 10, ground := Go.Ground.chain }, { on := 8, ground := Go.Ground.guard }], guard := some (8, true) }
abbrev moB13 : Oper := { dst := some 61, op := Go.Op.load 26 (Go.Operand.tmp 8), type := 26, pos := "more.go:23", after := #[{ on := 12, ground := Go.Ground.guard }], guard := some (12, false) }
abbrev moB14 : Oper := { dst := some 62, op := Go.Op.call { callee := Go.Callee.value (Go.Operand.func 11), args := #[Go.Operand.tmp 61], argTypes := #[26] }, type := 26, pos := "more.go:23", after := #[{ on := 13, ground := Go.Ground.data }, { on := 12, ground := Go.Ground.chain }, { on := 12, ground := Go.Ground.guard }], guard := some (12, false) }
abbrev moB15 : Oper := { dst := some 63, op := Go.Op.load 26 (Go.Operand.tmp 7), type := 26, pos := "more.go:23", after := #[{ on := 12, ground := Go.Ground.guard }], guard := some (12, false) }
abbrev moB16 : Oper := { dst := some 64, op := Go.Op.call { callee := Go.Callee.value (Go.Operand.func 10), args := #[Go.Operand.tmp 62, Go.Operand.tmp 63], argTypes := #[26, 26] }, type := 4, pos := "more.go:23", after := #[{ on := 14, ground := Go.Ground.data }, { on := 15, ground := Go.Ground.data }, { on := 14, ground := Go.Ground.chain }, { on := 12, ground := Go.Ground.guard }], guard := some (12, false) }
abbrev moB17 : Oper := { dst := some 65, op := Go.Op.pick (Go.Operand.tmp 60) (Go.Operand.const (Go.Value.bool true)) (Go.Operand.tmp 64), type := 4, pos := "more.go:23", after := #[{ on := 12, ground := Go.Ground.data }, { on := 16, ground := Go.Ground.data }, { on := 8, ground := Go.Ground.guard }], guard := some (8, true) }
abbrev moB18 : Oper := { dst := some 66, op := Go.Op.pick (Go.Operand.tmp 56) (Go.Operand.tmp 65) (Go.Operand.const (Go.Value.bool false)), type := 4, pos := "more.go:23", after := #[{ on := 8, ground := Go.Ground.data }, { on := 17, ground := Go.Ground.data }], guard := none }
abbrev moB19 : Oper := { dst := some 2, op := Go.Op.assign (Go.Operand.tmp 66), type := 4, pos := "more.go:23", after := #[{ on := 18, ground := Go.Ground.data }, { on := 16, ground := Go.Ground.chain }, { on := 0, ground := Go.Ground.phase }, { on := 1, ground := Go.Ground.phase }, { on := 2, ground := Go.Ground.phase }, { on := 3, ground := Go.Ground.phase }, { on := 4, ground := Go.Ground.phase }, { on := 5, ground := Go.Ground.phase }, { on := 6, ground := Go.Ground.phase }, { on := 7, ground := Go.Ground.phase }, { on := 8, ground := Go.Ground.phase }, { on := 9, ground := Go.Ground.phase }, { on := 10, ground := Go.Ground.phase }, { on := 11, ground := Go.Ground.phase }, { on := 12, ground := Go.Ground.phase }, { on := 13, ground := Go.Ground.phase }, { on := 14, ground := Go.Ground.phase }, { on := 15, ground := Go.Ground.phase }, { on := 16, ground := Go.Ground.phase }, { on := 17, ground := Go.Ground.phase }, { on := 18, ground := Go.Ground.phase }], guard := none }
set_option maxHeartbeats 16000000 in
set_option maxRecDepth 100000 in
theorem cmore_yes1 (vl : Value) (l : List ND) (w : World) (hl : NodesAt w vl l) (T : TabSH w) (h20 : l.length ≤ 20) (hf : fewG (orN l) = true) (hs : saneN saneP (orN l) = true) (h2 : saneN saneP (orN [nth l 0, orN l]) = true) :
    Calls Tryd.prog 7 #[vl] w fun e w' => e = .returned (.bool true) ∧ Kp w w' := by
  have AW := Lib.hid (fun w1 (kk : Kp w w1) => awake12 w1 (T.kp kk))
  have OO := Lib.hid (fun w1 => oneOf_any vl l w1 hl.slice)
  have FW := Lib.hid (fun w1 (kk : Kp w w1) => rfewG_any (orN l) vl w1 (hl.kp kk))
  have SN := Lib.hid (fun w1 (kk : Kp w w1) => tSaneG_any (orN l) vl w1 (hl.kp kk) (T.kp kk))
  have lm := hl.len
  unfold maxLen at lm
  have g1 : decide ((l.length : Int) > 20) = false := decide_eq_false (by omega)
  rw [hf] at FW
  rw [hs] at SN
  have l1 := (orN_len hs).1
  have CN := Lib.hid (fun w1 (kk : Kp w w1) => ccan_any (orN l) vl w1 (hl.kp kk) (T.kp kk))
  rw [canF_yes hs] at CN
  have CF := Lib.hid (fun v w1 (h : NodesAt w1 v (l.map canN)) (kk : Kp w w1) => show Calls Tryd.prog 11 #[ndV (orN (l.map canN)) v] w1 _ from ccan_any (orN (l.map canN)) v w1 h (T.kp kk))
  rw [orN_each hs, canF_yes hs] at CF
  have SU := Lib.hid (fun v w1 (h : NodesAt w1 v [nth l 0, orN l]) (kk : Kp w w1) => show Calls Tryd.prog 15 #[ndV (orN [nth l 0, orN l]) v] w1 _ from tSaneG_any (orN [nth l 0, orN l]) v w1 h (T.kp kk))
  rw [h2] at SU
  have CU := Lib.hid (fun v w1 (h : NodesAt w1 v [nth l 0, orN l]) (kk : Kp w w1) => show Calls Tryd.prog 11 #[ndV (orN [nth l 0, orN l]) v] w1 _ from ccan_any (orN [nth l 0, orN l]) v w1 h (T.kp kk))
  rw [orN_two hs h2, canF_yes hs] at CU
  have c64 : cntN (canN (orN l)) ≤ 64 := by rw [← canF_yes hs]; exact canF_cnt _
  have SM := Lib.hid (fun v u w1 (hv : NodesAt w1 v (canN (orN l)).l) (hu : NodesAt w1 u (canN (orN l)).l) => tSame_any (canN (orN l)) (canN (orN l)) v u w1 hv hu (by omega))
  rw [same_refl] at SM
  have OE := Lib.hid (fun ad c w1 => oneOf_any (.slice ad l.length c) (l.map canN) w1 ⟨_, _, by rw [List.length_map]⟩)
  have OT := Lib.hid (fun ad c w1 => oneOf_any (.slice ad 2 c) [nth l 0, orN l] w1 ⟨_, _, rfl⟩)
  have SA := Lib.hid (fun i (hi : i < l.length) => (orN_sns hs).1 _ (nth_mem hi))
  have TL := Lib.hid (show l.take l.length = l from List.take_length)
  have TK := Lib.hid (fun i (hi : i < l.length) => show (l.take (i + 1)).map canN = (l.take i).map canN ++ [canN (nth l i)] by rw [nth_take hi, List.map_append]; rfl)
  have CE := Lib.hid (fun x v W w1 (h : NodesAt W v x.l) (kk : Kp W w1) (q : Kp w W) => ccan_own x v W w1 h kk (T.kp q))
  have HLW := Lib.hid hl
  have H00 : ∀ (W : World) (v : Value), NodesAt W v (nth l 0).l → ∀ ad c, NodesAt W (.slice ad l.length c) l → ∀ b, W.heap[b]? = some (.cells #[.int .i64 (nth l 0).k, .int .i64 (nth l 0).p.k, .string (nth l 0).p.y, .string (nth l 0).p.m, .string (nth l 0).p.d, .bool (nth l 0).a, .bool (nth l 0).t, v, .int .i64 2, .int .i64 0, .string ⟨#[]⟩, .string ⟨#[]⟩, .string ⟨#[]⟩, .bool false, .bool false, .slice ad l.length c] 26 (0, 0)) → NodesAt W (.slice (some ⟨b, 0, none⟩) 2 2) [nth l 0, orN l] := fun W v h ad c h2 b g => two_in (n := nth l 0) (m := orN l) g h h2
  have H2N := Lib.hid H00
  clear T hf c64 H00
  generalize canN (orN l) = c0 at *
  obtain ⟨k0, pk0, y0, m0, s0, a0, t0, r0, rfl⟩ := nd_dest c0
  clear hs h2
  obtain ⟨adl, cal, rfl⟩ := hl.slice
  unfold orN pz ndV at *
  simp only [ND.k, ND.p, ND.a, ND.t, ND.l] at *
  obtain ⟨W0, hW⟩ : ∃ W0, W0 = w := ⟨_, rfl⟩
  subst hW
  have K00 := Lib.hid (Kp.refl W0)
  have K0 := Lib.hid (Kp.refl W0)
  have HB := Lib.hid True.intro
  go_enter Tryd.func7, Tryd.ntmps7
  go_wp2_with fail
  refine (AW.out _ (K00.out.trans (by first | with_reducible exact K0.out | with_reducible exact K0.out.trans (Kp.alloc _ _) | with_reducible exact (K0.out.trans (Kp.alloc _ _)).trans (Kp.alloc _ _) | with_reducible exact ((K0.out.trans (Kp.alloc _ _)).trans (Kp.alloc _ _)).trans (Kp.alloc _ _) | with_reducible exact K0.out.trans (Kp.drew _) | with_reducible exact K0.out.trans (Kp.drewN _ _)))).mono ?_
  rintro e w1 ⟨rfl, kk⟩
  have K1 := Lib.hid ((show Kp W0 _ from (by first | with_reducible exact K0.out | with_reducible exact K0.out.trans (Kp.alloc _ _) | with_reducible exact (K0.out.trans (Kp.alloc _ _)).trans (Kp.alloc _ _) | with_reducible exact ((K0.out.trans (Kp.alloc _ _)).trans (Kp.alloc _ _)).trans (Kp.alloc _ _) | with_reducible exact K0.out.trans (Kp.drew _) | with_reducible exact K0.out.trans (Kp.drewN _ _))).trans kk)
  clear kk
  go_wp2_with fail
  refine (OO.out _).mono ?_
  rintro e w2 ⟨rfl, kk⟩
  have K2 := Lib.hid ((show Kp W0 _ from (by first | with_reducible exact K1.out | with_reducible exact K1.out.trans (Kp.alloc _ _) | with_reducible exact (K1.out.trans (Kp.alloc _ _)).trans (Kp.alloc _ _) | with_reducible exact ((K1.out.trans (Kp.alloc _ _)).trans (Kp.alloc _ _)).trans (Kp.alloc _ _) | with_reducible exact K1.out.trans (Kp.drew _) | with_reducible exact K1.out.trans (Kp.drewN _ _))).trans kk)
  clear kk
  obtain ⟨w3, hV⟩ : ∃ x, x = w2.alloc (.cells #[.int .i64 2, .int .i64 0, .string ⟨#[]⟩, .string ⟨#[]⟩, .string ⟨#[]⟩, .bool false, .bool false, .slice adl l.length cal] 26) := ⟨_, rfl⟩
  have ka : Kp w2 w3 := by rw [hV]; exact Kp.alloc _ _
  have hgq : w3.heap[w2.heap.size]? = some (.cells #[.int .i64 2, .int .i64 0, .string ⟨#[]⟩, .string ⟨#[]⟩, .string ⟨#[]⟩, .bool false, .bool false, .slice adl l.length cal] 26 (0, 0)) := by rw [hV]; exact heap_at _ _ _ rfl
  have q0 : w3.cell? ⟨w2.heap.size, 0, none⟩ = some (.int .i64 2) := by simp [World.cell?, hgq]
  have q1 : w3.cell? ⟨w2.heap.size, 1, none⟩ = some (.int .i64 0) := by simp [World.cell?, hgq]
  have q2 : w3.cell? ⟨w2.heap.size, 2, none⟩ = some (.string ⟨#[]⟩) := by simp [World.cell?, hgq]
  have q3 : w3.cell? ⟨w2.heap.size, 3, none⟩ = some (.string ⟨#[]⟩) := by simp [World.cell?, hgq]
  have q4 : w3.cell? ⟨w2.heap.size, 4, none⟩ = some (.string ⟨#[]⟩) := by simp [World.cell?, hgq]
  have q5 : w3.cell? ⟨w2.heap.size, 5, none⟩ = some (.bool false) := by simp [World.cell?, hgq]
  have q6 : w3.cell? ⟨w2.heap.size, 6, none⟩ = some (.bool false) := by simp [World.cell?, hgq]
  have q7 : w3.cell? ⟨w2.heap.size, 7, none⟩ = some (.slice adl l.length cal) := by simp [World.cell?, hgq]
  have HB2 := Lib.hid (fun w1 (k : Kp w3 w1) => show w1.cell? ⟨w2.heap.size, 0, none⟩ = some (.int .i64 2) ∧ w1.cell? ⟨w2.heap.size, 1, none⟩ = some (.int .i64 0) ∧ w1.cell? ⟨w2.heap.size, 2, none⟩ = some (.string ⟨#[]⟩) ∧ w1.cell? ⟨w2.heap.size, 3, none⟩ = some (.string ⟨#[]⟩) ∧ w1.cell? ⟨w2.heap.size, 4, none⟩ = some (.string ⟨#[]⟩) ∧ w1.cell? ⟨w2.heap.size, 5, none⟩ = some (.bool false) ∧ w1.cell? ⟨w2.heap.size, 6, none⟩ = some (.bool false) ∧ w1.cell? ⟨w2.heap.size, 7, none⟩ = some (.slice adl l.length cal) from ⟨cell_up k q0, cell_up k q1, cell_up k q2, cell_up k q3, cell_up k q4, cell_up k q5, cell_up k q6, cell_up k q7⟩)
  have K01 := Lib.hid (K00.out.trans (K2.out.trans ka))
  clear HB K00 hgq  q0 q1 q2 q3 q4 q5 q6 q7
  have HB := HB2
  have K00 := K01
  clear HB2 K01
  have K3 := Lib.hid (Kp.refl w3)
  have Hw3 := Lib.hid hV
  clear hV ka
  go_wp2_with fail
  rw [← Hw3.out]
  obtain ⟨c0, c1, c2, c3, c4, c5, c6, c7⟩ := HB.out w3 (Kp.refl _)
  go_wp2_with fail
  refine (FW.out _ (K00.out.trans (by first | with_reducible exact K3.out | with_reducible exact K3.out.trans (Kp.alloc _ _) | with_reducible exact (K3.out.trans (Kp.alloc _ _)).trans (Kp.alloc _ _) | with_reducible exact ((K3.out.trans (Kp.alloc _ _)).trans (Kp.alloc _ _)).trans (Kp.alloc _ _) | with_reducible exact K3.out.trans (Kp.drew _) | with_reducible exact K3.out.trans (Kp.drewN _ _)))).mono ?_
  rintro e w4 ⟨rfl, kk⟩
  have K4 := Lib.hid ((show Kp w3 _ from (by first | with_reducible exact K3.out | with_reducible exact K3.out.trans (Kp.alloc _ _) | with_reducible exact (K3.out.trans (Kp.alloc _ _)).trans (Kp.alloc _ _) | with_reducible exact ((K3.out.trans (Kp.alloc _ _)).trans (Kp.alloc _ _)).trans (Kp.alloc _ _) | with_reducible exact K3.out.trans (Kp.drew _) | with_reducible exact K3.out.trans (Kp.drewN _ _))).trans kk)
  clear kk
  clear c0 c1 c2 c3 c4 c5 c6 c7
  obtain ⟨c0, c1, c2, c3, c4, c5, c6, c7⟩ := HB.out w4 K4.out
  go_wp2_with fail
  refine (SN.out _ (K00.out.trans (by first | with_reducible exact K4.out | with_reducible exact K4.out.trans (Kp.alloc _ _) | with_reducible exact (K4.out.trans (Kp.alloc _ _)).trans (Kp.alloc _ _) | with_reducible exact ((K4.out.trans (Kp.alloc _ _)).trans (Kp.alloc _ _)).trans (Kp.alloc _ _) | with_reducible exact K4.out.trans (Kp.drew _) | with_reducible exact K4.out.trans (Kp.drewN _ _)))).mono ?_
  rintro e w5 ⟨rfl, kk⟩
  have K5 := Lib.hid ((show Kp w3 _ from (by first | with_reducible exact K4.out | with_reducible exact K4.out.trans (Kp.alloc _ _) | with_reducible exact (K4.out.trans (Kp.alloc _ _)).trans (Kp.alloc _ _) | with_reducible exact ((K4.out.trans (Kp.alloc _ _)).trans (Kp.alloc _ _)).trans (Kp.alloc _ _) | with_reducible exact K4.out.trans (Kp.drew _) | with_reducible exact K4.out.trans (Kp.drewN _ _))).trans kk)
  clear kk
  clear c0 c1 c2 c3 c4 c5 c6 c7
  obtain ⟨c0, c1, c2, c3, c4, c5, c6, c7⟩ := HB.out w5 K5.out
  obtain ⟨i0, hi, hz0, hz1, hz2⟩ := info_parts infoNode
  clear c0 c1 c2 c3 c4 c5 c6 c7
  go_wp2
  go_loopw [5, 6] (fun s i ws => ∃ (j : Nat) (ms : List NV), j ≤ l.length ∧ i = .int .i64 j ∧ Hid (ms.map Prod.fst = (l.take j).map canN) ∧ Hid (EachR w5 ws s ms) ∧ Hid (ws.ownsRow w5.heap.size 26 8 s ms.length (cellsN ms)) ∧ Hid (Kp w5 ws)) (fun _ i _ => l.length - (intOf i).toNat)
  case atStart => exact ⟨0, [], Nat.zero_le _, rfl, Lib.hid (by rw [List.take_zero]; rfl), Lib.hid (fun p hp => by cases hp), Lib.hid (World.ownsRow_nil _ _ _ _), Lib.hid (Kp.refl w5)⟩
  case round =>
    obtain ⟨j, ms, hj, rfl, MJ, RJ, OJ, KJ⟩ := hrel
    obtain ⟨sad, scp, rfl⟩ := own_slice8 OJ.out
    have NL := Lib.hid (show ms.length = j by have a := congrArg List.length MJ.out; rw [List.length_map, List.length_map, List.length_take] at a; omega)
    by_cases hlt : j < l.length
    · have kw5 : Kp W0 w5 := K00.out.trans K5.out
      obtain ⟨bk, off, vi, eva, hrow, hsub⟩ := (HLW.out.kp kw5).get hlt
      subst eva
      have hrow := hrow.kp KJ.out
      have IX := CE.out (nth l j) vi w5 wr hsub KJ.out kw5
      rw [canF_yes (SA.out j hlt)] at IX
      have tk := TK.out j hlt
      obtain ⟨x, hx⟩ : ∃ x, nth l j = x := ⟨_, rfl⟩
      rw [hx] at hrow hsub IX tk
      obtain ⟨c, hcx⟩ : ∃ c, canN x = c := ⟨_, rfl⟩
      rw [hcx] at IX tk
      have TJ := Lib.hid tk
      clear tk hx hcx kw5
      obtain ⟨k1, pk1, y1, m1, s1, a1, t1, l1', rfl⟩ := nd_dest x
      obtain ⟨k2, pk2, y2, m2, s2, a2, t2, l2, rfl⟩ := nd_dest c
      unfold RowN at hrow
      simp only [ND.k, ND.p, ND.a, ND.t, ND.l] at hrow hsub
      obtain ⟨ad1, cp1, rfl⟩ := hsub.slice
      (try unfold ndV at IX)
      (try simp only [ND.k, ND.p, ND.a, ND.t, ND.l] at IX)
      (try dsimp only at IX)
      obtain ⟨n1, hn1⟩ : ∃ n, l1'.length = n := ⟨_, rfl⟩
      rw [hn1] at hrow IX
      obtain ⟨e0, e1, e2, e3, e4, e5, e6, e7⟩ := hrow
      have IXH := Lib.hid IX
      have z1 : (j : Int) < (l.length : Int) := by omega
      have z3 : (0 : Int) ≤ (j : Int) := by omega
      have HLT := Lib.hid hlt
      have hbk := World.block_lt_of_cell? _ _ e0
      simp only at hbk
      have LTJ := Lib.hid (fun q (hq : (Value.slice sad ms.length scp).ownBlock = some q) => (OJ.out.lt q hq).2)
      clear hsub IX hn1
      go_wp2_with fail
      refine IXH.out.mono ?_
      rintro e w8 ⟨v8, rfl, hc8, k8⟩
      obtain ⟨ad8, n8, cp8, hv8⟩ : ∃ ad n cp, v8 = .slice ad n cp := by obtain ⟨a, b, e⟩ := (hc8.nodes (KJ.out.trans k8)).slice; exact ⟨a, _, b, e⟩
      subst hv8
      have kv := Kp.alloc w8 (.cells #[.int .i64 k2, .int .i64 pk2, .string y2, .string m2, .string s2, .bool a2, .bool t2, .slice ad8 n8 cp8] 26)
      have HC9 := Lib.hid (hc8.kp kv)
      have K9 := Lib.hid (KJ.out.trans (k8.trans kv))
      have O9 := Lib.hid (own_kp OJ.out (k8.trans kv))
      have E9 := Lib.hid (RJ.out.go (k8.trans kv))
      have BJ := Lib.hid (Below.size KJ.out)
      have SR9 := Lib.hid (one_srcN (w := w8) rfl (.mk k2 ⟨pk2, y2, m2, s2⟩ a2 t2 l2) (.slice ad8 n8 cp8) 26)
      simp only [ND.k, ND.p, ND.a, ND.t] at SR9
      have L9 := Lib.hid (cellsN_length [((.mk k2 ⟨pk2, y2, m2, s2⟩ a2 t2 l2 : ND), Value.slice ad8 n8 cp8)])
      have ONE9 := Lib.hid (cellsN_one (w := w8) (show ReadsN w8 [((.mk k2 ⟨pk2, y2, m2, s2⟩ a2 t2 l2 : ND), Value.slice ad8 n8 cp8)] from fun p hp => by rw [List.mem_singleton.1 hp]; exact hc8.nodes (KJ.out.trans k8)))
      clear hc8 k8 e0 e1 e2 e3 e4 e5 e6 e7 kv
      go_wp2_with (at_builtin; refine Hid.out ?_)
      refine Lib.hid ?_
      refine wpList_app rfl (.tmp 32) (.tmp 38) 24 rfl w5.heap.size 26 i0 (.agg #[.int .i64 0, .int .i64 0, .string ⟨#[]⟩, .string ⟨#[]⟩, .string ⟨#[]⟩, .bool false, .bool false, .slice none 0 0]) 8 96 Tryd.underlying24 hi hz0 hz1 hz2 rfl (by decide) _ _ _ rfl O9.out _ _ _ rfl SR9.out L9.out ONE9.out (by have a := NL.out; unfold maxLen; omega) (by have a := NL.out; omega) (Below.size K9.out) ?_
      intro va wa owna growa ata
      have KE := Lib.hid (K9.out.grown growa (fun j hj => (O9.out.lt j hj).1))
      have EE := Lib.hid (E9.out.add HC9.out BJ.out LTJ.out growa ata)
      have O8 := Lib.hid owna
      clear growa ata owna
      go_wp2
      go_roundw
      case rel => exact ⟨j + 1, _, HLT.out, by go_num, Lib.hid (by rw [List.map_append, MJ.out, TJ.out]; rfl), EE, Lib.hid (by rw [List.length_append, cellsN_append]; exact O8.out), KE⟩
      case measure => have := HLT.out; simp [intOf]; omega
    · obtain rfl : j = l.length := by omega
      have mj := MJ.out
      rw [TL.out] at mj
      have nw := nodesAt_own OJ.out (RJ.out.reads KJ.out)
      rw [mj, NL.out] at nw
      have NW := Lib.hid nw
      have KR := Lib.hid (K5.out.trans KJ.out)
      rw [NL.out]
      clear mj nw
      obtain ⟨c0, c1, c2, c3, c4, c5, c6, c7⟩ := HB.out wr KR.out
      go_wp2_with fail
      refine (CN.out _ (K00.out.trans KR.out)).mono ?_
      rintro e w6 ⟨v6, rfl, hn6, kk⟩
      have K6 := Lib.hid (KR.out.trans kk)
      have NW6 := Lib.hid (NW.out.kp kk)
      have NV6 := Lib.hid hn6
      obtain ⟨ad6, cp6, rfl⟩ := hn6.slice
      clear kk hn6 c0 c1 c2 c3 c4 c5 c6 c7
      obtain ⟨c0, c1, c2, c3, c4, c5, c6, c7⟩ := HB.out w6 K6.out
      obtain ⟨w7, hV⟩ : ∃ x, x = w6.alloc (.cells #[.int .i64 k0, .int .i64 pk0, .string y0, .string m0, .string s0, .bool a0, .bool t0, .slice ad6 r0.length cp6] 26) := ⟨_, rfl⟩
      have ka : Kp w6 w7 := by rw [hV]; exact Kp.alloc _ _
      have hgq : w7.heap[w6.heap.size]? = some (.cells #[.int .i64 k0, .int .i64 pk0, .string y0, .string m0, .string s0, .bool a0, .bool t0, .slice ad6 r0.length cp6] 26 (0, 0)) := by rw [hV]; exact heap_at _ _ _ rfl
      have q0 : w7.cell? ⟨w6.heap.size, 0, none⟩ = some (.int .i64 k0) := by simp [World.cell?, hgq]
      have q1 : w7.cell? ⟨w6.heap.size, 1, none⟩ = some (.int .i64 pk0) := by simp [World.cell?, hgq]
      have q2 : w7.cell? ⟨w6.heap.size, 2, none⟩ = some (.string y0) := by simp [World.cell?, hgq]
      have q3 : w7.cell? ⟨w6.heap.size, 3, none⟩ = some (.string m0) := by simp [World.cell?, hgq]
      have q4 : w7.cell? ⟨w6.heap.size, 4, none⟩ = some (.string s0) := by simp [World.cell?, hgq]
      have q5 : w7.cell? ⟨w6.heap.size, 5, none⟩ = some (.bool a0) := by simp [World.cell?, hgq]
      have q6 : w7.cell? ⟨w6.heap.size, 6, none⟩ = some (.bool t0) := by simp [World.cell?, hgq]
      have q7 : w7.cell? ⟨w6.heap.size, 7, none⟩ = some (.slice ad6 r0.length cp6) := by simp [World.cell?, hgq]
      have HB2 := Lib.hid (fun w1 (k : Kp w7 w1) => show w1.cell? ⟨w2.heap.size, 0, none⟩ = some (.int .i64 2) ∧ w1.cell? ⟨w2.heap.size, 1, none⟩ = some (.int .i64 0) ∧ w1.cell? ⟨w2.heap.size, 2, none⟩ = some (.string ⟨#[]⟩) ∧ w1.cell? ⟨w2.heap.size, 3, none⟩ = some (.string ⟨#[]⟩) ∧ w1.cell? ⟨w2.heap.size, 4, none⟩ = some (.string ⟨#[]⟩) ∧ w1.cell? ⟨w2.heap.size, 5, none⟩ = some (.bool false) ∧ w1.cell? ⟨w2.heap.size, 6, none⟩ = some (.bool false) ∧ w1.cell? ⟨w2.heap.size, 7, none⟩ = some (.slice adl l.length cal) ∧ w1.cell? ⟨w6.heap.size, 0, none⟩ = some (.int .i64 k0) ∧ w1.cell? ⟨w6.heap.size, 1, none⟩ = some (.int .i64 pk0) ∧ w1.cell? ⟨w6.heap.size, 2, none⟩ = some (.string y0) ∧ w1.cell? ⟨w6.heap.size, 3, none⟩ = some (.string m0) ∧ w1.cell? ⟨w6.heap.size, 4, none⟩ = some (.string s0) ∧ w1.cell? ⟨w6.heap.size, 5, none⟩ = some (.bool a0) ∧ w1.cell? ⟨w6.heap.size, 6, none⟩ = some (.bool t0) ∧ w1.cell? ⟨w6.heap.size, 7, none⟩ = some (.slice ad6 r0.length cp6) from ⟨(HB.out w1 (K6.out.trans (ka.trans k))).1, (HB.out w1 (K6.out.trans (ka.trans k))).2.1, (HB.out w1 (K6.out.trans (ka.trans k))).2.2.1, (HB.out w1 (K6.out.trans (ka.trans k))).2.2.2.1, (HB.out w1 (K6.out.trans (ka.trans k))).2.2.2.2.1, (HB.out w1 (K6.out.trans (ka.trans k))).2.2.2.2.2.1, (HB.out w1 (K6.out.trans (ka.trans k))).2.2.2.2.2.2.1, (HB.out w1 (K6.out.trans (ka.trans k))).2.2.2.2.2.2.2, cell_up k q0, cell_up k q1, cell_up k q2, cell_up k q3, cell_up k q4, cell_up k q5, cell_up k q6, cell_up k q7⟩)
      have K01 := Lib.hid (K00.out.trans (K6.out.trans ka))
      have NW7 := Lib.hid (NW6.out.kp ka)
      have NV7 := Lib.hid (NV6.out.kp ka)
      clear HB K00 hgq c0 c1 c2 c3 c4 c5 c6 c7 q0 q1 q2 q3 q4 q5 q6 q7
      have HB := HB2
      have K00 := K01
      clear HB2 K01
      have K7 := Lib.hid (Kp.refl w7)
      have Hw7 := Lib.hid hV
      clear hV ka
      go_wp2_with fail
      rw [← Hw7.out]
      obtain ⟨c0, c1, c2, c3, c4, c5, c6, c7, c8, c9, c10, c11, c12, c13, c14, c15⟩ := HB.out w7 (Kp.refl _)
      have HL7 := Lib.hid (HLW.out.kp K00.out)
      obtain ⟨b0, o0, v0, ev0, hrow, hsub⟩ := HL7.out.get (i := 0) l1
      subst ev0
      have z9 : (0 : Int) < (l.length : Int) := by omega
      have z8 : 0 < l.length := l1
      have H2M := Lib.hid (fun W (kk : Kp w7 W) b g => H2N.out W v0 (hsub.kp kk) (some ⟨b0, o0, none⟩) cal (HL7.out.kp kk) b g)
      clear H2N
      generalize nth l 0 = x at *
      obtain ⟨k1, pk1, y1, m1, s1, a1, t1, l1', rfl⟩ := nd_dest x
      obtain ⟨ad1, cp1, rfl⟩ := hsub.slice
      unfold RowN at hrow
      simp only [ND.k, ND.p, ND.a, ND.t, ND.l, Nat.zero_mul, Nat.add_zero] at hrow
      (try simp only [ND.k, ND.p, ND.a, ND.t, ND.l] at H2M)
      (try dsimp only at H2M)
      obtain ⟨n1, hn1⟩ : ∃ n, l1'.length = n := ⟨_, rfl⟩
      rw [hn1] at hrow H2M
      obtain ⟨e0, e1, e2, e3, e4, e5, e6, e7⟩ := hrow
      clear hsub hn1
      have KS := Lib.hid (fun w' (kq : Kp w7 w') => show w'.cell? ⟨w2.heap.size, 0, none⟩ = some (.int .i64 2) ∧ w'.cell? ⟨w2.heap.size, 1, none⟩ = some (.int .i64 0) ∧ w'.cell? ⟨w2.heap.size, 2, none⟩ = some (.string ⟨#[]⟩) ∧ w'.cell? ⟨w2.heap.size, 3, none⟩ = some (.string ⟨#[]⟩) ∧ w'.cell? ⟨w2.heap.size, 4, none⟩ = some (.string ⟨#[]⟩) ∧ w'.cell? ⟨w2.heap.size, 5, none⟩ = some (.bool false) ∧ w'.cell? ⟨w2.heap.size, 6, none⟩ = some (.bool false) ∧ w'.cell? ⟨w2.heap.size, 7, none⟩ = some (.slice (some ⟨b0, o0, none⟩) l.length cal) ∧ w'.cell? ⟨w6.heap.size, 0, none⟩ = some (.int .i64 k0) ∧ w'.cell? ⟨w6.heap.size, 1, none⟩ = some (.int .i64 pk0) ∧ w'.cell? ⟨w6.heap.size, 2, none⟩ = some (.string y0) ∧ w'.cell? ⟨w6.heap.size, 3, none⟩ = some (.string m0) ∧ w'.cell? ⟨w6.heap.size, 4, none⟩ = some (.string s0) ∧ w'.cell? ⟨w6.heap.size, 5, none⟩ = some (.bool a0) ∧ w'.cell? ⟨w6.heap.size, 6, none⟩ = some (.bool t0) ∧ w'.cell? ⟨w6.heap.size, 7, none⟩ = some (.slice ad6 r0.length cp6) ∧ w'.cell? ⟨b0, o0, none⟩ = some (.int .i64 k1) ∧ w'.cell? ⟨b0, o0 + 1, none⟩ = some (.int .i64 pk1) ∧ w'.cell? ⟨b0, o0 + 2, none⟩ = some (.string y1) ∧ w'.cell? ⟨b0, o0 + 3, none⟩ = some (.string m1) ∧ w'.cell? ⟨b0, o0 + 4, none⟩ = some (.string s1) ∧ w'.cell? ⟨b0, o0 + 5, none⟩ = some (.bool a1) ∧ w'.cell? ⟨b0, o0 + 6, none⟩ = some (.bool t1) ∧ w'.cell? ⟨b0, o0 + 7, none⟩ = some (.slice ad1 n1 cp1) ∧ Kp w7 w' from ⟨(HB.out w' kq).1, (HB.out w' kq).2.1, (HB.out w' kq).2.2.1, (HB.out w' kq).2.2.2.1, (HB.out w' kq).2.2.2.2.1, (HB.out w' kq).2.2.2.2.2.1, (HB.out w' kq).2.2.2.2.2.2.1, (HB.out w' kq).2.2.2.2.2.2.2.1, (HB.out w' kq).2.2.2.2.2.2.2.2.1, (HB.out w' kq).2.2.2.2.2.2.2.2.2.1, (HB.out w' kq).2.2.2.2.2.2.2.2.2.2.1, (HB.out w' kq).2.2.2.2.2.2.2.2.2.2.2.1, (HB.out w' kq).2.2.2.2.2.2.2.2.2.2.2.2.1, (HB.out w' kq).2.2.2.2.2.2.2.2.2.2.2.2.2.1, (HB.out w' kq).2.2.2.2.2.2.2.2.2.2.2.2.2.2.1, (HB.out w' kq).2.2.2.2.2.2.2.2.2.2.2.2.2.2.2, cell_up kq e0, cell_up kq e1, cell_up kq e2, cell_up kq e3, cell_up kq e4, cell_up kq e5, cell_up kq e6, cell_up kq e7, kq⟩)
      have k77 : Kp w7 w7 := Kp.refl _
      (try go_wp2_with fail)
      refine wp_region_held_drew (S := fun w' => w'.cell? ⟨w2.heap.size, 0, none⟩ = some (.int .i64 2) ∧ w'.cell? ⟨w2.heap.size, 1, none⟩ = some (.int .i64 0) ∧ w'.cell? ⟨w2.heap.size, 2, none⟩ = some (.string ⟨#[]⟩) ∧ w'.cell? ⟨w2.heap.size, 3, none⟩ = some (.string ⟨#[]⟩) ∧ w'.cell? ⟨w2.heap.size, 4, none⟩ = some (.string ⟨#[]⟩) ∧ w'.cell? ⟨w2.heap.size, 5, none⟩ = some (.bool false) ∧ w'.cell? ⟨w2.heap.size, 6, none⟩ = some (.bool false) ∧ w'.cell? ⟨w2.heap.size, 7, none⟩ = some (.slice (some ⟨b0, o0, none⟩) l.length cal) ∧ w'.cell? ⟨w6.heap.size, 0, none⟩ = some (.int .i64 k0) ∧ w'.cell? ⟨w6.heap.size, 1, none⟩ = some (.int .i64 pk0) ∧ w'.cell? ⟨w6.heap.size, 2, none⟩ = some (.string y0) ∧ w'.cell? ⟨w6.heap.size, 3, none⟩ = some (.string m0) ∧ w'.cell? ⟨w6.heap.size, 4, none⟩ = some (.string s0) ∧ w'.cell? ⟨w6.heap.size, 5, none⟩ = some (.bool a0) ∧ w'.cell? ⟨w6.heap.size, 6, none⟩ = some (.bool t0) ∧ w'.cell? ⟨w6.heap.size, 7, none⟩ = some (.slice ad6 r0.length cp6) ∧ w'.cell? ⟨b0, o0, none⟩ = some (.int .i64 k1) ∧ w'.cell? ⟨b0, o0 + 1, none⟩ = some (.int .i64 pk1) ∧ w'.cell? ⟨b0, o0 + 2, none⟩ = some (.string y1) ∧ w'.cell? ⟨b0, o0 + 3, none⟩ = some (.string m1) ∧ w'.cell? ⟨b0, o0 + 4, none⟩ = some (.string s1) ∧ w'.cell? ⟨b0, o0 + 5, none⟩ = some (.bool a1) ∧ w'.cell? ⟨b0, o0 + 6, none⟩ = some (.bool t1) ∧ w'.cell? ⟨b0, o0 + 7, none⟩ = some (.slice ad1 n1 cp1) ∧ Kp w7 w') (by kernel_rfl) ?_ (fun hHeld0 => ?_)
      · (try dsimp only); exact KS.out _ (by first | with_reducible exact k77 | ((repeat (first | with_reducible refine Kp.trans ?_ (Kp.drew _) | with_reducible refine Kp.trans ?_ (Kp.alloc _ _))); with_reducible exact k77))
      refine tkW (v := ?_) 0 moA0 rfl (by kernel_rfl) (by kernel_rfl) (by kernel_rfl) (fun _ _ _ h => h) (by rfl) ?_ (by assumption) ?_
      rotate_left
      · intro w hSw; (try dsimp only at hSw); go_simp; (try with_reducible rfl)
      (try simp only [Act.put, moA0, List.setIfInBounds_toArray, List.set_cons_zero, List.set_cons_succ])
      refine tkW (v := ?_) 1 moA1 rfl (by kernel_rfl) (by kernel_rfl) (by kernel_rfl) (fun _ _ _ h => h) (by rfl) ?_ (by assumption) ?_
      rotate_left
      · intro w hSw; (try dsimp only at hSw); go_simp; (try with_reducible rfl)
      (try simp only [Act.put, moA1, List.setIfInBounds_toArray, List.set_cons_zero, List.set_cons_succ])
      refine tkW (v := ?_) 2 moA2 rfl (by kernel_rfl) (by kernel_rfl) (by kernel_rfl) (fun _ _ _ h => h) (by rfl) ?_ (by assumption) ?_
      rotate_left
      · intro w hSw; (try dsimp only at hSw); go_simp; (try with_reducible rfl)
      (try simp only [Act.put, moA2, List.setIfInBounds_toArray, List.set_cons_zero, List.set_cons_succ])
      refine tkW (v := ?_) 3 moA3 rfl (by kernel_rfl) (by kernel_rfl) (by kernel_rfl) (fun _ _ _ h => h) (by rfl) ?_ (by assumption) ?_
      rotate_left
      · intro w hSw; (try dsimp only at hSw); go_simp; (try with_reducible rfl)
      (try simp only [Act.put, moA3, List.setIfInBounds_toArray, List.set_cons_zero, List.set_cons_succ])
      refine tkE2 4 6 moA4 moA6 rfl rfl (by kernel_rfl) (fun K hK => ?_) (fun K hK => ?_)
      · go_simp
        skip
        (try go_wp2_with fail)
        refine hK.out _ _ ?_ (fun hHeld1 => ?_)
        · (try dsimp only); exact KS.out _ (by first | with_reducible exact k77 | ((repeat (first | with_reducible refine Kp.trans ?_ (Kp.drew _) | with_reducible refine Kp.trans ?_ (Kp.alloc _ _))); with_reducible exact k77))
        clear hK K hHeld0
        (try simp only [Act.put, moA4, List.setIfInBounds_toArray, List.set_cons_zero, List.set_cons_succ])
        refine tkE2 5 6 moA5 moA6 rfl rfl (by kernel_rfl) (fun K hK => ?_) (fun K hK => ?_)
        · go_simp
          (refine (OT.out _ _ _).mono ?_; rintro e wo ⟨rfl, kq1⟩; have gR : wo.heap[w7.heap.size]? = some (.cells #[.int .i64 k1, .int .i64 pk1, .string y1, .string m1, .string s1, .bool a1, .bool t1, .slice ad1 n1 cp1, .int .i64 2, .int .i64 0, .string ⟨#[]⟩, .string ⟨#[]⟩, .string ⟨#[]⟩, .bool false, .bool false, .slice (some ⟨b0, o0, none⟩) l.length cal] 26 (0, 0)) := heap_block kq1 (by (repeat (first | with_reducible exact heap_at _ _ _ (by first | rfl | simp) | with_reducible refine heap_block (Kp.drew _) ?_ | with_reducible refine heap_block (Kp.alloc _ _) ?_))); have kwo : Kp w7 wo := Kp.trans (show Kp w7 _ from (by first | with_reducible exact k77 | ((repeat (first | with_reducible refine Kp.trans ?_ (Kp.drew _) | with_reducible refine Kp.trans ?_ (Kp.alloc _ _))); with_reducible exact k77))) kq1; clear kq1)
          (try go_wp2_with fail)
          refine hK.out _ _ ?_ (fun hHeld2 => ?_)
          · (try dsimp only); exact KS.out _ (by first | with_reducible exact kwo | ((repeat (first | with_reducible refine Kp.trans ?_ (Kp.drew _) | with_reducible refine Kp.trans ?_ (Kp.alloc _ _))); with_reducible exact kwo))
          clear hK K hHeld1
          (try simp only [Act.put, moA5, List.setIfInBounds_toArray, List.set_cons_zero, List.set_cons_succ])
          refine tkE 6 moA6 rfl (by kernel_rfl) (fun K hK => ?_)
          go_simp
          skip
          (try go_wp2_with fail)
          refine hK.out _ _ ?_ (fun hHeld3 => ?_)
          · (try dsimp only); exact KS.out _ (by first | with_reducible exact kwo | ((repeat (first | with_reducible refine Kp.trans ?_ (Kp.drew _) | with_reducible refine Kp.trans ?_ (Kp.alloc _ _))); with_reducible exact kwo))
          clear hK K hHeld2
          (try simp only [Act.put, moA6, List.setIfInBounds_toArray, List.set_cons_zero, List.set_cons_succ])
          refine tkE 7 moA7 rfl (by kernel_rfl) (fun K hK => ?_)
          (obtain ⟨F, hF⟩ : ∃ x, x = wo.alloc (.cells #[.int .i64 2, .int .i64 0, .string ⟨#[]⟩, .string ⟨#[]⟩, .string ⟨#[]⟩, .bool false, .bool false, .slice (some ⟨w7.heap.size, 0, none⟩) 2 2] 26) := ⟨_, rfl⟩; have kf : Kp wo F := (by rw [hF]; exact Kp.alloc _ _); have kF : Kp w7 F := kwo.trans kf; have gF : F.heap[wo.heap.size]? = some (.cells #[.int .i64 2, .int .i64 0, .string ⟨#[]⟩, .string ⟨#[]⟩, .string ⟨#[]⟩, .bool false, .bool false, .slice (some ⟨w7.heap.size, 0, none⟩) 2 2] 26 (0, 0)) := (by rw [hF]; exact heap_at _ _ _ rfl); have NT := Lib.hid (H2M.out F kF _ (heap_block kf gR)); have HF := Lib.hid hF; clear hF kf)
          (try go_wp2_with fail)
          refine hK.out _ _ ?_ (fun hHeld4 => ?_)
          · (try dsimp only); (try rw [← HF.out]); exact KS.out _ (by first | with_reducible exact kF | ((repeat (first | with_reducible refine Kp.trans ?_ (Kp.drew _) | with_reducible refine Kp.trans ?_ (Kp.alloc _ _))); with_reducible exact kF))
          clear hK K hHeld3
          (try simp only [Act.put, moA7, List.setIfInBounds_toArray, List.set_cons_zero, List.set_cons_succ])
          refine wpAnyH_done (by kernel_rfl) ?_ _
          rw [← HF.out]
          have kf0 : Kp F F := Kp.refl _
          have NWF := Lib.hid (NW7.out.kp kF)
          have NVF := Lib.hid (NV7.out.kp kF)
          have KF := Lib.hid (K00.out.trans kF)
          have KT := Lib.hid (fun w' (kq : Kp F w') => show w'.cell? ⟨wo.heap.size, 0, none⟩ = some (.int .i64 2) ∧ w'.cell? ⟨wo.heap.size, 1, none⟩ = some (.int .i64 0) ∧ w'.cell? ⟨wo.heap.size, 2, none⟩ = some (.string ⟨#[]⟩) ∧ w'.cell? ⟨wo.heap.size, 3, none⟩ = some (.string ⟨#[]⟩) ∧ w'.cell? ⟨wo.heap.size, 4, none⟩ = some (.string ⟨#[]⟩) ∧ w'.cell? ⟨wo.heap.size, 5, none⟩ = some (.bool false) ∧ w'.cell? ⟨wo.heap.size, 6, none⟩ = some (.bool false) ∧ w'.cell? ⟨wo.heap.size, 7, none⟩ = some (.slice (some ⟨w7.heap.size, 0, none⟩) 2 2) ∧ w'.cell? ⟨w2.heap.size, 0, none⟩ = some (.int .i64 2) ∧ w'.cell? ⟨w2.heap.size, 1, none⟩ = some (.int .i64 0) ∧ w'.cell? ⟨w2.heap.size, 2, none⟩ = some (.string ⟨#[]⟩) ∧ w'.cell? ⟨w2.heap.size, 3, none⟩ = some (.string ⟨#[]⟩) ∧ w'.cell? ⟨w2.heap.size, 4, none⟩ = some (.string ⟨#[]⟩) ∧ w'.cell? ⟨w2.heap.size, 5, none⟩ = some (.bool false) ∧ w'.cell? ⟨w2.heap.size, 6, none⟩ = some (.bool false) ∧ w'.cell? ⟨w2.heap.size, 7, none⟩ = some (.slice (some ⟨b0, o0, none⟩) l.length cal) ∧ w'.cell? ⟨w6.heap.size, 0, none⟩ = some (.int .i64 k0) ∧ w'.cell? ⟨w6.heap.size, 1, none⟩ = some (.int .i64 pk0) ∧ w'.cell? ⟨w6.heap.size, 2, none⟩ = some (.string y0) ∧ w'.cell? ⟨w6.heap.size, 3, none⟩ = some (.string m0) ∧ w'.cell? ⟨w6.heap.size, 4, none⟩ = some (.string s0) ∧ w'.cell? ⟨w6.heap.size, 5, none⟩ = some (.bool a0) ∧ w'.cell? ⟨w6.heap.size, 6, none⟩ = some (.bool t0) ∧ w'.cell? ⟨w6.heap.size, 7, none⟩ = some (.slice ad6 r0.length cp6) ∧ Kp F w' from ⟨(row8 (heap_block kq gF)).1, (row8 (heap_block kq gF)).2.1, (row8 (heap_block kq gF)).2.2.1, (row8 (heap_block kq gF)).2.2.2.1, (row8 (heap_block kq gF)).2.2.2.2.1, (row8 (heap_block kq gF)).2.2.2.2.2.1, (row8 (heap_block kq gF)).2.2.2.2.2.2.1, (row8 (heap_block kq gF)).2.2.2.2.2.2.2, (HB.out w' (kF.trans kq)).1, (HB.out w' (kF.trans kq)).2.1, (HB.out w' (kF.trans kq)).2.2.1, (HB.out w' (kF.trans kq)).2.2.2.1, (HB.out w' (kF.trans kq)).2.2.2.2.1, (HB.out w' (kF.trans kq)).2.2.2.2.2.1, (HB.out w' (kF.trans kq)).2.2.2.2.2.2.1, (HB.out w' (kF.trans kq)).2.2.2.2.2.2.2.1, (HB.out w' (kF.trans kq)).2.2.2.2.2.2.2.2.1, (HB.out w' (kF.trans kq)).2.2.2.2.2.2.2.2.2.1, (HB.out w' (kF.trans kq)).2.2.2.2.2.2.2.2.2.2.1, (HB.out w' (kF.trans kq)).2.2.2.2.2.2.2.2.2.2.2.1, (HB.out w' (kF.trans kq)).2.2.2.2.2.2.2.2.2.2.2.2.1, (HB.out w' (kF.trans kq)).2.2.2.2.2.2.2.2.2.2.2.2.2.1, (HB.out w' (kF.trans kq)).2.2.2.2.2.2.2.2.2.2.2.2.2.2.1, (HB.out w' (kF.trans kq)).2.2.2.2.2.2.2.2.2.2.2.2.2.2.2, kq⟩)
          clear gF kF
          (try go_wp2_with fail)
          refine wp_region_held_drew (S := fun w' => w'.cell? ⟨wo.heap.size, 0, none⟩ = some (.int .i64 2) ∧ w'.cell? ⟨wo.heap.size, 1, none⟩ = some (.int .i64 0) ∧ w'.cell? ⟨wo.heap.size, 2, none⟩ = some (.string ⟨#[]⟩) ∧ w'.cell? ⟨wo.heap.size, 3, none⟩ = some (.string ⟨#[]⟩) ∧ w'.cell? ⟨wo.heap.size, 4, none⟩ = some (.string ⟨#[]⟩) ∧ w'.cell? ⟨wo.heap.size, 5, none⟩ = some (.bool false) ∧ w'.cell? ⟨wo.heap.size, 6, none⟩ = some (.bool false) ∧ w'.cell? ⟨wo.heap.size, 7, none⟩ = some (.slice (some ⟨w7.heap.size, 0, none⟩) 2 2) ∧ w'.cell? ⟨w2.heap.size, 0, none⟩ = some (.int .i64 2) ∧ w'.cell? ⟨w2.heap.size, 1, none⟩ = some (.int .i64 0) ∧ w'.cell? ⟨w2.heap.size, 2, none⟩ = some (.string ⟨#[]⟩) ∧ w'.cell? ⟨w2.heap.size, 3, none⟩ = some (.string ⟨#[]⟩) ∧ w'.cell? ⟨w2.heap.size, 4, none⟩ = some (.string ⟨#[]⟩) ∧ w'.cell? ⟨w2.heap.size, 5, none⟩ = some (.bool false) ∧ w'.cell? ⟨w2.heap.size, 6, none⟩ = some (.bool false) ∧ w'.cell? ⟨w2.heap.size, 7, none⟩ = some (.slice (some ⟨b0, o0, none⟩) l.length cal) ∧ w'.cell? ⟨w6.heap.size, 0, none⟩ = some (.int .i64 k0) ∧ w'.cell? ⟨w6.heap.size, 1, none⟩ = some (.int .i64 pk0) ∧ w'.cell? ⟨w6.heap.size, 2, none⟩ = some (.string y0) ∧ w'.cell? ⟨w6.heap.size, 3, none⟩ = some (.string m0) ∧ w'.cell? ⟨w6.heap.size, 4, none⟩ = some (.string s0) ∧ w'.cell? ⟨w6.heap.size, 5, none⟩ = some (.bool a0) ∧ w'.cell? ⟨w6.heap.size, 6, none⟩ = some (.bool t0) ∧ w'.cell? ⟨w6.heap.size, 7, none⟩ = some (.slice ad6 r0.length cp6) ∧ Kp F w') (by kernel_rfl) ?_ (fun hHeld0 => ?_)
          · (try dsimp only); exact KT.out _ (by first | with_reducible exact kf0 | ((repeat (first | with_reducible refine Kp.trans ?_ (Kp.drew _) | with_reducible refine Kp.trans ?_ (Kp.alloc _ _))); with_reducible exact kf0))
          refine tkW (v := ?_) 0 moB0 rfl (by kernel_rfl) (by kernel_rfl) (by kernel_rfl) (fun _ _ _ h => h) (by rfl) ?_ (by assumption) ?_
          rotate_left
          · intro w hSw; (try dsimp only at hSw); go_simp; (try with_reducible rfl)
          (try simp only [Act.put, moB0, List.setIfInBounds_toArray, List.set_cons_zero, List.set_cons_succ])
          refine tkW (v := ?_) 1 moB1 rfl (by kernel_rfl) (by kernel_rfl) (by kernel_rfl) (fun _ _ _ h => h) (by rfl) ?_ (by assumption) ?_
          rotate_left
          · intro w hSw; (try dsimp only at hSw); go_simp; (try with_reducible rfl)
          (try simp only [Act.put, moB1, List.setIfInBounds_toArray, List.set_cons_zero, List.set_cons_succ])
          refine tkW (v := ?_) 2 moB2 rfl (by kernel_rfl) (by kernel_rfl) (by kernel_rfl) (fun _ _ _ h => h) (by rfl) ?_ (by assumption) ?_
          rotate_left
          · intro w hSw; (try dsimp only at hSw); go_simp; (try with_reducible rfl)
          (try simp only [Act.put, moB2, List.setIfInBounds_toArray, List.set_cons_zero, List.set_cons_succ])
          refine tkW (v := ?_) 5 moB5 rfl (by kernel_rfl) (by kernel_rfl) (by kernel_rfl) (fun _ _ _ h => h) (by rfl) ?_ (by assumption) ?_
          rotate_left
          · intro w hSw; (try dsimp only at hSw); go_simp; (try with_reducible rfl)
          (try simp only [Act.put, moB5, List.setIfInBounds_toArray, List.set_cons_zero, List.set_cons_succ])
          refine tkE 3 moB3 rfl (by kernel_rfl) (fun K hK => ?_)
          go_simp
          (refine (OE.out _ _ _).mono ?_; rintro e wp ⟨rfl, kq1⟩; have kwp : Kp F _ := Kp.trans (show Kp F _ from (by first | with_reducible exact kf0 | ((repeat (first | with_reducible refine Kp.trans ?_ (Kp.drew _) | with_reducible refine Kp.trans ?_ (Kp.alloc _ _))); with_reducible exact kf0))) kq1; clear kq1)
          (try go_wp2_with fail)
          refine hK.out _ _ ?_ (fun hHeld1 => ?_)
          · (try dsimp only); exact KT.out _ (by first | with_reducible exact kwp | ((repeat (first | with_reducible refine Kp.trans ?_ (Kp.drew _) | with_reducible refine Kp.trans ?_ (Kp.alloc _ _))); with_reducible exact kwp))
          clear hK K hHeld0
          (try simp only [Act.put, moB3, List.setIfInBounds_toArray, List.set_cons_zero, List.set_cons_succ])
          refine tkE 4 moB4 rfl (by kernel_rfl) (fun K hK => ?_)
          go_simp
          (refine (CF.out _ _ (NWF.out.kp (by first | with_reducible exact kwp | ((repeat (first | with_reducible refine Kp.trans ?_ (Kp.drew _) | with_reducible refine Kp.trans ?_ (Kp.alloc _ _))); with_reducible exact kwp))) (KF.out.trans (by first | with_reducible exact kwp | ((repeat (first | with_reducible refine Kp.trans ?_ (Kp.drew _) | with_reducible refine Kp.trans ?_ (Kp.alloc _ _))); with_reducible exact kwp)))).mono ?_; rintro e wq ⟨v9, rfl, h9, kq1⟩; have kwq : Kp F _ := Kp.trans (show Kp F _ from (by first | with_reducible exact kwp | ((repeat (first | with_reducible refine Kp.trans ?_ (Kp.drew _) | with_reducible refine Kp.trans ?_ (Kp.alloc _ _))); with_reducible exact kwp))) kq1; clear kq1; have N9 := Lib.hid h9; obtain ⟨ad9, cp9, rfl⟩ := h9.slice; clear h9)
          (try go_wp2_with fail)
          refine hK.out _ _ ?_ (fun hHeld2 => ?_)
          · (try dsimp only); exact KT.out _ (by first | with_reducible exact kwq | ((repeat (first | with_reducible refine Kp.trans ?_ (Kp.drew _) | with_reducible refine Kp.trans ?_ (Kp.alloc _ _))); with_reducible exact kwq))
          clear hK K hHeld1
          (try simp only [Act.put, moB4, List.setIfInBounds_toArray, List.set_cons_zero, List.set_cons_succ])
          refine tkE 6 moB6 rfl (by kernel_rfl) (fun K hK => ?_)
          go_simp
          (refine (SM.out _ _ _ (N9.out.kp (by first | with_reducible exact (Kp.refl wq) | ((repeat (first | with_reducible refine Kp.trans ?_ (Kp.drew _) | with_reducible refine Kp.trans ?_ (Kp.alloc _ _))); with_reducible exact (Kp.refl wq)))) (NVF.out.kp (by first | with_reducible exact kwq | ((repeat (first | with_reducible refine Kp.trans ?_ (Kp.drew _) | with_reducible refine Kp.trans ?_ (Kp.alloc _ _))); with_reducible exact kwq)))).mono ?_; rintro e wt ⟨rfl, kq1⟩; have kwt : Kp F _ := Kp.trans (show Kp F _ from (by first | with_reducible exact kwq | ((repeat (first | with_reducible refine Kp.trans ?_ (Kp.drew _) | with_reducible refine Kp.trans ?_ (Kp.alloc _ _))); with_reducible exact kwq))) kq1; clear kq1)
          (try go_wp2_with fail)
          refine hK.out _ _ ?_ (fun hHeld3 => ?_)
          · (try dsimp only); exact KT.out _ (by first | with_reducible exact kwt | ((repeat (first | with_reducible refine Kp.trans ?_ (Kp.drew _) | with_reducible refine Kp.trans ?_ (Kp.alloc _ _))); with_reducible exact kwt))
          clear hK K hHeld2
          (try simp only [Act.put, moB6, List.setIfInBounds_toArray, List.set_cons_zero, List.set_cons_succ])
          refine tkW (v := ?_) 7 moB7 rfl (by kernel_rfl) (by kernel_rfl) (by kernel_rfl) (fun _ _ _ h => h) (by rfl) ?_ (by assumption) ?_
          rotate_left
          · intro w hSw; (try dsimp only at hSw); go_simp; (try with_reducible rfl)
          (try simp only [Act.put, moB7, List.setIfInBounds_toArray, List.set_cons_zero, List.set_cons_succ])
          refine tkW (v := ?_) 8 moB8 rfl (by kernel_rfl) (by kernel_rfl) (by kernel_rfl) (fun _ _ _ h => h) (by rfl) ?_ (by assumption) ?_
          rotate_left
          · intro w hSw; (try dsimp only at hSw); go_simp; (try with_reducible rfl)
          (try simp only [Act.put, moB8, List.setIfInBounds_toArray, List.set_cons_zero, List.set_cons_succ])
          refine tkW (v := ?_) 9 moB9 rfl (by kernel_rfl) (by kernel_rfl) (by kernel_rfl) (fun _ _ _ h => h) (by rfl) ?_ (by assumption) ?_
          rotate_left
          · intro w hSw; (try dsimp only at hSw); go_simp; (try with_reducible rfl)
          (try simp only [Act.put, moB9, List.setIfInBounds_toArray, List.set_cons_zero, List.set_cons_succ])
          refine tkE 10 moB10 rfl (by kernel_rfl) (fun K hK => ?_)
          go_simp
          (refine (SU.out _ _ (NT.out.kp (by first | with_reducible exact kwt | ((repeat (first | with_reducible refine Kp.trans ?_ (Kp.drew _) | with_reducible refine Kp.trans ?_ (Kp.alloc _ _))); with_reducible exact kwt))) (KF.out.trans (by first | with_reducible exact kwt | ((repeat (first | with_reducible refine Kp.trans ?_ (Kp.drew _) | with_reducible refine Kp.trans ?_ (Kp.alloc _ _))); with_reducible exact kwt)))).mono ?_; rintro e wu ⟨rfl, kq1⟩; have kwu : Kp F _ := Kp.trans (show Kp F _ from (by first | with_reducible exact kwt | ((repeat (first | with_reducible refine Kp.trans ?_ (Kp.drew _) | with_reducible refine Kp.trans ?_ (Kp.alloc _ _))); with_reducible exact kwt))) kq1; clear kq1)
          (try go_wp2_with fail)
          refine hK.out _ _ ?_ (fun hHeld4 => ?_)
          · (try dsimp only); exact KT.out _ (by first | with_reducible exact kwu | ((repeat (first | with_reducible refine Kp.trans ?_ (Kp.drew _) | with_reducible refine Kp.trans ?_ (Kp.alloc _ _))); with_reducible exact kwu))
          clear hK K hHeld3
          (try simp only [Act.put, moB10, List.setIfInBounds_toArray, List.set_cons_zero, List.set_cons_succ])
          refine tkW (v := ?_) 11 moB11 rfl (by kernel_rfl) (by kernel_rfl) (by kernel_rfl) (fun _ _ _ h => h) (by rfl) ?_ (by assumption) ?_
          rotate_left
          · intro w hSw; (try dsimp only at hSw); go_simp; (try with_reducible rfl)
          (try simp only [Act.put, moB11, List.setIfInBounds_toArray, List.set_cons_zero, List.set_cons_succ])
          refine tkW (v := ?_) 12 moB12 rfl (by kernel_rfl) (by kernel_rfl) (by kernel_rfl) (fun _ _ _ h => h) (by rfl) ?_ (by assumption) ?_
          rotate_left
          · intro w hSw; (try dsimp only at hSw); go_simp; (try with_reducible rfl)
          (try simp only [Act.put, moB12, List.setIfInBounds_toArray, List.set_cons_zero, List.set_cons_succ])
          refine tkW (v := ?_) 13 moB13 rfl (by kernel_rfl) (by kernel_rfl) (by kernel_rfl) (fun _ _ _ h => h) (by rfl) ?_ (by assumption) ?_
          rotate_left
          · intro w hSw; (try dsimp only at hSw); go_simp; (try with_reducible rfl)
          (try simp only [Act.put, moB13, List.setIfInBounds_toArray, List.set_cons_zero, List.set_cons_succ])
          refine tkW (v := ?_) 15 moB15 rfl (by kernel_rfl) (by kernel_rfl) (by kernel_rfl) (fun _ _ _ h => h) (by rfl) ?_ (by assumption) ?_
          rotate_left
          · intro w hSw; (try dsimp only at hSw); go_simp; (try with_reducible rfl)
          (try simp only [Act.put, moB15, List.setIfInBounds_toArray, List.set_cons_zero, List.set_cons_succ])
          refine tkE 14 moB14 rfl (by kernel_rfl) (fun K hK => ?_)
          go_simp
          (refine (CU.out _ _ (NT.out.kp (by first | with_reducible exact kwu | ((repeat (first | with_reducible refine Kp.trans ?_ (Kp.drew _) | with_reducible refine Kp.trans ?_ (Kp.alloc _ _))); with_reducible exact kwu))) (KF.out.trans (by first | with_reducible exact kwu | ((repeat (first | with_reducible refine Kp.trans ?_ (Kp.drew _) | with_reducible refine Kp.trans ?_ (Kp.alloc _ _))); with_reducible exact kwu)))).mono ?_; rintro e wv ⟨v10, rfl, h10, kq1⟩; have kwv : Kp F _ := Kp.trans (show Kp F _ from (by first | with_reducible exact kwu | ((repeat (first | with_reducible refine Kp.trans ?_ (Kp.drew _) | with_reducible refine Kp.trans ?_ (Kp.alloc _ _))); with_reducible exact kwu))) kq1; clear kq1; have N10 := Lib.hid h10; obtain ⟨ad10, cp10, rfl⟩ := h10.slice; clear h10)
          (try go_wp2_with fail)
          refine hK.out _ _ ?_ (fun hHeld5 => ?_)
          · (try dsimp only); exact KT.out _ (by first | with_reducible exact kwv | ((repeat (first | with_reducible refine Kp.trans ?_ (Kp.drew _) | with_reducible refine Kp.trans ?_ (Kp.alloc _ _))); with_reducible exact kwv))
          clear hK K hHeld4
          (try simp only [Act.put, moB14, List.setIfInBounds_toArray, List.set_cons_zero, List.set_cons_succ])
          refine tkE 16 moB16 rfl (by kernel_rfl) (fun K hK => ?_)
          go_simp
          (refine (SM.out _ _ _ (N10.out.kp (by first | with_reducible exact (Kp.refl wv) | ((repeat (first | with_reducible refine Kp.trans ?_ (Kp.drew _) | with_reducible refine Kp.trans ?_ (Kp.alloc _ _))); with_reducible exact (Kp.refl wv)))) (NVF.out.kp (by first | with_reducible exact kwv | ((repeat (first | with_reducible refine Kp.trans ?_ (Kp.drew _) | with_reducible refine Kp.trans ?_ (Kp.alloc _ _))); with_reducible exact kwv)))).mono ?_; rintro e wx ⟨rfl, kq1⟩; have kwx : Kp F _ := Kp.trans (show Kp F _ from (by first | with_reducible exact kwv | ((repeat (first | with_reducible refine Kp.trans ?_ (Kp.drew _) | with_reducible refine Kp.trans ?_ (Kp.alloc _ _))); with_reducible exact kwv))) kq1; clear kq1)
          (try go_wp2_with fail)
          refine hK.out _ _ ?_ (fun hHeld6 => ?_)
          · (try dsimp only); exact KT.out _ (by first | with_reducible exact kwx | ((repeat (first | with_reducible refine Kp.trans ?_ (Kp.drew _) | with_reducible refine Kp.trans ?_ (Kp.alloc _ _))); with_reducible exact kwx))
          clear hK K hHeld5
          (try simp only [Act.put, moB16, List.setIfInBounds_toArray, List.set_cons_zero, List.set_cons_succ])
          refine tkW (v := ?_) 17 moB17 rfl (by kernel_rfl) (by kernel_rfl) (by kernel_rfl) (fun _ _ _ h => h) (by rfl) ?_ (by assumption) ?_
          rotate_left
          · intro w hSw; (try dsimp only at hSw); go_simp; (try with_reducible rfl)
          (try simp only [Act.put, moB17, List.setIfInBounds_toArray, List.set_cons_zero, List.set_cons_succ])
          refine tkW (v := ?_) 18 moB18 rfl (by kernel_rfl) (by kernel_rfl) (by kernel_rfl) (fun _ _ _ h => h) (by rfl) ?_ (by assumption) ?_
          rotate_left
          · intro w hSw; (try dsimp only at hSw); go_simp; (try with_reducible rfl)
          (try simp only [Act.put, moB18, List.setIfInBounds_toArray, List.set_cons_zero, List.set_cons_succ])
          refine tkW (v := ?_) 19 moB19 rfl (by kernel_rfl) (by kernel_rfl) (by kernel_rfl) (fun _ _ _ h => h) (by rfl) ?_ (by assumption) ?_
          rotate_left
          · intro w hSw; (try dsimp only at hSw); go_simp; (try with_reducible rfl)
          (try simp only [Act.put, moB19, List.setIfInBounds_toArray, List.set_cons_zero, List.set_cons_succ])
          refine wpAnyH_done (by kernel_rfl) ?_ _
          go_wp2
          go_ret
          exact ⟨rfl, KF.out.trans kwx⟩
        · go_simp
          skip
          (try go_wp2_with fail)
          refine hK.out _ _ ?_ (fun hHeld2 => ?_)
          · (try dsimp only); exact KS.out _ (by first | with_reducible exact k77 | ((repeat (first | with_reducible refine Kp.trans ?_ (Kp.drew _) | with_reducible refine Kp.trans ?_ (Kp.alloc _ _))); with_reducible exact k77))
          clear hK K hHeld1
          (try simp only [Act.put, moA6, List.setIfInBounds_toArray, List.set_cons_zero, List.set_cons_succ])
          refine tkE 5 moA5 rfl (by kernel_rfl) (fun K hK => ?_)
          go_simp
          (refine (OT.out _ _ _).mono ?_; rintro e wo ⟨rfl, kq1⟩; have gR : wo.heap[w7.heap.size]? = some (.cells #[.int .i64 k1, .int .i64 pk1, .string y1, .string m1, .string s1, .bool a1, .bool t1, .slice ad1 n1 cp1, .int .i64 2, .int .i64 0, .string ⟨#[]⟩, .string ⟨#[]⟩, .string ⟨#[]⟩, .bool false, .bool false, .slice (some ⟨b0, o0, none⟩) l.length cal] 26 (0, 0)) := heap_block kq1 (by (repeat (first | with_reducible exact heap_at _ _ _ (by first | rfl | simp) | with_reducible refine heap_block (Kp.drew _) ?_ | with_reducible refine heap_block (Kp.alloc _ _) ?_))); have gB : wo.heap[w7.heap.size + 1]? = some (.cells #[.int .i64 0, .int .i64 0, .string ⟨#[]⟩, .string ⟨#[]⟩, .string ⟨#[]⟩, .bool false, .bool false, .slice none 0 0] 26 (0, 0)) := heap_block kq1 (by (repeat (first | with_reducible exact heap_at _ _ _ (by first | rfl | simp) | with_reducible refine heap_block (Kp.drew _) ?_ | with_reducible refine heap_block (Kp.alloc _ _) ?_))); have kwo : Kp w7 wo := Kp.trans (show Kp w7 _ from (by first | with_reducible exact k77 | ((repeat (first | with_reducible refine Kp.trans ?_ (Kp.drew _) | with_reducible refine Kp.trans ?_ (Kp.alloc _ _))); with_reducible exact k77))) kq1; clear kq1)
          (try go_wp2_with fail)
          refine hK.out _ _ ?_ (fun hHeld3 => ?_)
          · (try dsimp only); exact KS.out _ (by first | with_reducible exact kwo | ((repeat (first | with_reducible refine Kp.trans ?_ (Kp.drew _) | with_reducible refine Kp.trans ?_ (Kp.alloc _ _))); with_reducible exact kwo))
          clear hK K hHeld2
          (try simp only [Act.put, moA5, List.setIfInBounds_toArray, List.set_cons_zero, List.set_cons_succ])
          refine tkE 7 moA7 rfl (by kernel_rfl) (fun K hK => ?_)
          (obtain ⟨x0, x1, x2, x3, x4, x5, x6, x7⟩ := row8 gB; have z_0 : wo.frozen? ⟨w7.heap.size + 1, 0, none⟩ = false := (by simp [World.frozen?, gB]); have z_1 : wo.frozen? ⟨w7.heap.size + 1, 1, none⟩ = false := (by simp [World.frozen?, gB]); have z_2 : wo.frozen? ⟨w7.heap.size + 1, 2, none⟩ = false := (by simp [World.frozen?, gB]); have z_3 : wo.frozen? ⟨w7.heap.size + 1, 3, none⟩ = false := (by simp [World.frozen?, gB]); have z_4 : wo.frozen? ⟨w7.heap.size + 1, 4, none⟩ = false := (by simp [World.frozen?, gB]); have z_5 : wo.frozen? ⟨w7.heap.size + 1, 5, none⟩ = false := (by simp [World.frozen?, gB]); have z_6 : wo.frozen? ⟨w7.heap.size + 1, 6, none⟩ = false := (by simp [World.frozen?, gB]); have z_7 : wo.frozen? ⟨w7.heap.size + 1, 7, none⟩ = false := (by simp [World.frozen?, gB]); obtain ⟨F, hF⟩ : ∃ x, x = ((((((((wo.setCell ⟨w7.heap.size + 1, 0, none⟩ (.int .i64 2)).setCell ⟨w7.heap.size + 1, 1, none⟩ (.int .i64 0)).setCell ⟨w7.heap.size + 1, 2, none⟩ (.string ⟨#[]⟩)).setCell ⟨w7.heap.size + 1, 3, none⟩ (.string ⟨#[]⟩)).setCell ⟨w7.heap.size + 1, 4, none⟩ (.string ⟨#[]⟩)).setCell ⟨w7.heap.size + 1, 5, none⟩ (.bool false)).setCell ⟨w7.heap.size + 1, 6, none⟩ (.bool false)).setCell ⟨w7.heap.size + 1, 7, none⟩ (.slice (some ⟨w7.heap.size, 0, none⟩) 2 2)) := ⟨_, rfl⟩; have kF : Kp w7 F := (by rw [hF]; exact kp_sets (by omega) [.int .i64 2, .int .i64 0, .string ⟨#[]⟩, .string ⟨#[]⟩, .string ⟨#[]⟩, .bool false, .bool false, .slice (some ⟨w7.heap.size, 0, none⟩) 2 2] 0 kwo); have gF : F.heap[w7.heap.size + 1]? = some (.cells #[.int .i64 2, .int .i64 0, .string ⟨#[]⟩, .string ⟨#[]⟩, .string ⟨#[]⟩, .bool false, .bool false, .slice (some ⟨w7.heap.size, 0, none⟩) 2 2] 26 (0, 0)) := (by rw [hF]; exact set8 (.int .i64 2) (.int .i64 0) (.string ⟨#[]⟩) (.string ⟨#[]⟩) (.string ⟨#[]⟩) (.bool false) (.bool false) (.slice (some ⟨w7.heap.size, 0, none⟩) 2 2) gB); have NT := Lib.hid (H2M.out F kF _ ((show F.heap[w7.heap.size]? = wo.heap[w7.heap.size]? by rw [hF]; exact sets_other (by omega) [.int .i64 2, .int .i64 0, .string ⟨#[]⟩, .string ⟨#[]⟩, .string ⟨#[]⟩, .bool false, .bool false, .slice (some ⟨w7.heap.size, 0, none⟩) 2 2] 0).trans gR)); have HF := Lib.hid hF; clear hF)
          (try go_wp2_with fail)
          refine hK.out _ _ ?_ (fun hHeld4 => ?_)
          · (try dsimp only); (try rw [← HF.out]); exact KS.out _ (by first | with_reducible exact kF | ((repeat (first | with_reducible refine Kp.trans ?_ (Kp.drew _) | with_reducible refine Kp.trans ?_ (Kp.alloc _ _))); with_reducible exact kF))
          clear hK K hHeld3
          (try simp only [Act.put, moA7, List.setIfInBounds_toArray, List.set_cons_zero, List.set_cons_succ])
          refine wpAnyH_done (by kernel_rfl) ?_ _
          rw [← HF.out]
          have kf0 : Kp F F := Kp.refl _
          have NWF := Lib.hid (NW7.out.kp kF)
          have NVF := Lib.hid (NV7.out.kp kF)
          have KF := Lib.hid (K00.out.trans kF)
          have KT := Lib.hid (fun w' (kq : Kp F w') => show w'.cell? ⟨w7.heap.size + 1, 0, none⟩ = some (.int .i64 2) ∧ w'.cell? ⟨w7.heap.size + 1, 1, none⟩ = some (.int .i64 0) ∧ w'.cell? ⟨w7.heap.size + 1, 2, none⟩ = some (.string ⟨#[]⟩) ∧ w'.cell? ⟨w7.heap.size + 1, 3, none⟩ = some (.string ⟨#[]⟩) ∧ w'.cell? ⟨w7.heap.size + 1, 4, none⟩ = some (.string ⟨#[]⟩) ∧ w'.cell? ⟨w7.heap.size + 1, 5, none⟩ = some (.bool false) ∧ w'.cell? ⟨w7.heap.size + 1, 6, none⟩ = some (.bool false) ∧ w'.cell? ⟨w7.heap.size + 1, 7, none⟩ = some (.slice (some ⟨w7.heap.size, 0, none⟩) 2 2) ∧ w'.cell? ⟨w2.heap.size, 0, none⟩ = some (.int .i64 2) ∧ w'.cell? ⟨w2.heap.size, 1, none⟩ = some (.int .i64 0) ∧ w'.cell? ⟨w2.heap.size, 2, none⟩ = some (.string ⟨#[]⟩) ∧ w'.cell? ⟨w2.heap.size, 3, none⟩ = some (.string ⟨#[]⟩) ∧ w'.cell? ⟨w2.heap.size, 4, none⟩ = some (.string ⟨#[]⟩) ∧ w'.cell? ⟨w2.heap.size, 5, none⟩ = some (.bool false) ∧ w'.cell? ⟨w2.heap.size, 6, none⟩ = some (.bool false) ∧ w'.cell? ⟨w2.heap.size, 7, none⟩ = some (.slice (some ⟨b0, o0, none⟩) l.length cal) ∧ w'.cell? ⟨w6.heap.size, 0, none⟩ = some (.int .i64 k0) ∧ w'.cell? ⟨w6.heap.size, 1, none⟩ = some (.int .i64 pk0) ∧ w'.cell? ⟨w6.heap.size, 2, none⟩ = some (.string y0) ∧ w'.cell? ⟨w6.heap.size, 3, none⟩ = some (.string m0) ∧ w'.cell? ⟨w6.heap.size, 4, none⟩ = some (.string s0) ∧ w'.cell? ⟨w6.heap.size, 5, none⟩ = some (.bool a0) ∧ w'.cell? ⟨w6.heap.size, 6, none⟩ = some (.bool t0) ∧ w'.cell? ⟨w6.heap.size, 7, none⟩ = some (.slice ad6 r0.length cp6) ∧ Kp F w' from ⟨(row8 (heap_block kq gF)).1, (row8 (heap_block kq gF)).2.1, (row8 (heap_block kq gF)).2.2.1, (row8 (heap_block kq gF)).2.2.2.1, (row8 (heap_block kq gF)).2.2.2.2.1, (row8 (heap_block kq gF)).2.2.2.2.2.1, (row8 (heap_block kq gF)).2.2.2.2.2.2.1, (row8 (heap_block kq gF)).2.2.2.2.2.2.2, (HB.out w' (kF.trans kq)).1, (HB.out w' (kF.trans kq)).2.1, (HB.out w' (kF.trans kq)).2.2.1, (HB.out w' (kF.trans kq)).2.2.2.1, (HB.out w' (kF.trans kq)).2.2.2.2.1, (HB.out w' (kF.trans kq)).2.2.2.2.2.1, (HB.out w' (kF.trans kq)).2.2.2.2.2.2.1, (HB.out w' (kF.trans kq)).2.2.2.2.2.2.2.1, (HB.out w' (kF.trans kq)).2.2.2.2.2.2.2.2.1, (HB.out w' (kF.trans kq)).2.2.2.2.2.2.2.2.2.1, (HB.out w' (kF.trans kq)).2.2.2.2.2.2.2.2.2.2.1, (HB.out w' (kF.trans kq)).2.2.2.2.2.2.2.2.2.2.2.1, (HB.out w' (kF.trans kq)).2.2.2.2.2.2.2.2.2.2.2.2.1, (HB.out w' (kF.trans kq)).2.2.2.2.2.2.2.2.2.2.2.2.2.1, (HB.out w' (kF.trans kq)).2.2.2.2.2.2.2.2.2.2.2.2.2.2.1, (HB.out w' (kF.trans kq)).2.2.2.2.2.2.2.2.2.2.2.2.2.2.2, kq⟩)
          clear gF kF
          (try go_wp2_with fail)
          refine wp_region_held_drew (S := fun w' => w'.cell? ⟨w7.heap.size + 1, 0, none⟩ = some (.int .i64 2) ∧ w'.cell? ⟨w7.heap.size + 1, 1, none⟩ = some (.int .i64 0) ∧ w'.cell? ⟨w7.heap.size + 1, 2, none⟩ = some (.string ⟨#[]⟩) ∧ w'.cell? ⟨w7.heap.size + 1, 3, none⟩ = some (.string ⟨#[]⟩) ∧ w'.cell? ⟨w7.heap.size + 1, 4, none⟩ = some (.string ⟨#[]⟩) ∧ w'.cell? ⟨w7.heap.size + 1, 5, none⟩ = some (.bool false) ∧ w'.cell? ⟨w7.heap.size + 1, 6, none⟩ = some (.bool false) ∧ w'.cell? ⟨w7.heap.size + 1, 7, none⟩ = some (.slice (some ⟨w7.heap.size, 0, none⟩) 2 2) ∧ w'.cell? ⟨w2.heap.size, 0, none⟩ = some (.int .i64 2) ∧ w'.cell? ⟨w2.heap.size, 1, none⟩ = some (.int .i64 0) ∧ w'.cell? ⟨w2.heap.size, 2, none⟩ = some (.string ⟨#[]⟩) ∧ w'.cell? ⟨w2.heap.size, 3, none⟩ = some (.string ⟨#[]⟩) ∧ w'.cell? ⟨w2.heap.size, 4, none⟩ = some (.string ⟨#[]⟩) ∧ w'.cell? ⟨w2.heap.size, 5, none⟩ = some (.bool false) ∧ w'.cell? ⟨w2.heap.size, 6, none⟩ = some (.bool false) ∧ w'.cell? ⟨w2.heap.size, 7, none⟩ = some (.slice (some ⟨b0, o0, none⟩) l.length cal) ∧ w'.cell? ⟨w6.heap.size, 0, none⟩ = some (.int .i64 k0) ∧ w'.cell? ⟨w6.heap.size, 1, none⟩ = some (.int .i64 pk0) ∧ w'.cell? ⟨w6.heap.size, 2, none⟩ = some (.string y0) ∧ w'.cell? ⟨w6.heap.size, 3, none⟩ = some (.string m0) ∧ w'.cell? ⟨w6.heap.size, 4, none⟩ = some (.string s0) ∧ w'.cell? ⟨w6.heap.size, 5, none⟩ = some (.bool a0) ∧ w'.cell? ⟨w6.heap.size, 6, none⟩ = some (.bool t0) ∧ w'.cell? ⟨w6.heap.size, 7, none⟩ = some (.slice ad6 r0.length cp6) ∧ Kp F w') (by kernel_rfl) ?_ (fun hHeld0 => ?_)
          · (try dsimp only); exact KT.out _ (by first | with_reducible exact kf0 | ((repeat (first | with_reducible refine Kp.trans ?_ (Kp.drew _) | with_reducible refine Kp.trans ?_ (Kp.alloc _ _))); with_reducible exact kf0))
          refine tkW (v := ?_) 0 moB0 rfl (by kernel_rfl) (by kernel_rfl) (by kernel_rfl) (fun _ _ _ h => h) (by rfl) ?_ (by assumption) ?_
          rotate_left
          · intro w hSw; (try dsimp only at hSw); go_simp; (try with_reducible rfl)
          (try simp only [Act.put, moB0, List.setIfInBounds_toArray, List.set_cons_zero, List.set_cons_succ])
          refine tkW (v := ?_) 1 moB1 rfl (by kernel_rfl) (by kernel_rfl) (by kernel_rfl) (fun _ _ _ h => h) (by rfl) ?_ (by assumption) ?_
          rotate_left
          · intro w hSw; (try dsimp only at hSw); go_simp; (try with_reducible rfl)
          (try simp only [Act.put, moB1, List.setIfInBounds_toArray, List.set_cons_zero, List.set_cons_succ])
          refine tkW (v := ?_) 2 moB2 rfl (by kernel_rfl) (by kernel_rfl) (by kernel_rfl) (fun _ _ _ h => h) (by rfl) ?_ (by assumption) ?_
          rotate_left
          · intro w hSw; (try dsimp only at hSw); go_simp; (try with_reducible rfl)
          (try simp only [Act.put, moB2, List.setIfInBounds_toArray, List.set_cons_zero, List.set_cons_succ])
          refine tkW (v := ?_) 5 moB5 rfl (by kernel_rfl) (by kernel_rfl) (by kernel_rfl) (fun _ _ _ h => h) (by rfl) ?_ (by assumption) ?_
          rotate_left
          · intro w hSw; (try dsimp only at hSw); go_simp; (try with_reducible rfl)
          (try simp only [Act.put, moB5, List.setIfInBounds_toArray, List.set_cons_zero, List.set_cons_succ])
          refine tkE 3 moB3 rfl (by kernel_rfl) (fun K hK => ?_)
          go_simp
          (refine (OE.out _ _ _).mono ?_; rintro e wp ⟨rfl, kq1⟩; have kwp : Kp F _ := Kp.trans (show Kp F _ from (by first | with_reducible exact kf0 | ((repeat (first | with_reducible refine Kp.trans ?_ (Kp.drew _) | with_reducible refine Kp.trans ?_ (Kp.alloc _ _))); with_reducible exact kf0))) kq1; clear kq1)
          (try go_wp2_with fail)
          refine hK.out _ _ ?_ (fun hHeld1 => ?_)
          · (try dsimp only); exact KT.out _ (by first | with_reducible exact kwp | ((repeat (first | with_reducible refine Kp.trans ?_ (Kp.drew _) | with_reducible refine Kp.trans ?_ (Kp.alloc _ _))); with_reducible exact kwp))
          clear hK K hHeld0
          (try simp only [Act.put, moB3, List.setIfInBounds_toArray, List.set_cons_zero, List.set_cons_succ])
          refine tkE 4 moB4 rfl (by kernel_rfl) (fun K hK => ?_)
          go_simp
          (refine (CF.out _ _ (NWF.out.kp (by first | with_reducible exact kwp | ((repeat (first | with_reducible refine Kp.trans ?_ (Kp.drew _) | with_reducible refine Kp.trans ?_ (Kp.alloc _ _))); with_reducible exact kwp))) (KF.out.trans (by first | with_reducible exact kwp | ((repeat (first | with_reducible refine Kp.trans ?_ (Kp.drew _) | with_reducible refine Kp.trans ?_ (Kp.alloc _ _))); with_reducible exact kwp)))).mono ?_; rintro e wq ⟨v9, rfl, h9, kq1⟩; have kwq : Kp F _ := Kp.trans (show Kp F _ from (by first | with_reducible exact kwp | ((repeat (first | with_reducible refine Kp.trans ?_ (Kp.drew _) | with_reducible refine Kp.trans ?_ (Kp.alloc _ _))); with_reducible exact kwp))) kq1; clear kq1; have N9 := Lib.hid h9; obtain ⟨ad9, cp9, rfl⟩ := h9.slice; clear h9)
          (try go_wp2_with fail)
          refine hK.out _ _ ?_ (fun hHeld2 => ?_)
          · (try dsimp only); exact KT.out _ (by first | with_reducible exact kwq | ((repeat (first | with_reducible refine Kp.trans ?_ (Kp.drew _) | with_reducible refine Kp.trans ?_ (Kp.alloc _ _))); with_reducible exact kwq))
          clear hK K hHeld1
          (try simp only [Act.put, moB4, List.setIfInBounds_toArray, List.set_cons_zero, List.set_cons_succ])
          refine tkE 6 moB6 rfl (by kernel_rfl) (fun K hK => ?_)
          go_simp
          (refine (SM.out _ _ _ (N9.out.kp (by first | with_reducible exact (Kp.refl wq) | ((repeat (first | with_reducible refine Kp.trans ?_ (Kp.drew _) | with_reducible refine Kp.trans ?_ (Kp.alloc _ _))); with_reducible exact (Kp.refl wq)))) (NVF.out.kp (by first | with_reducible exact kwq | ((repeat (first | with_reducible refine Kp.trans ?_ (Kp.drew _) | with_reducible refine Kp.trans ?_ (Kp.alloc _ _))); with_reducible exact kwq)))).mono ?_; rintro e wt ⟨rfl, kq1⟩; have kwt : Kp F _ := Kp.trans (show Kp F _ from (by first | with_reducible exact kwq | ((repeat (first | with_reducible refine Kp.trans ?_ (Kp.drew _) | with_reducible refine Kp.trans ?_ (Kp.alloc _ _))); with_reducible exact kwq))) kq1; clear kq1)
          (try go_wp2_with fail)
          refine hK.out _ _ ?_ (fun hHeld3 => ?_)
          · (try dsimp only); exact KT.out _ (by first | with_reducible exact kwt | ((repeat (first | with_reducible refine Kp.trans ?_ (Kp.drew _) | with_reducible refine Kp.trans ?_ (Kp.alloc _ _))); with_reducible exact kwt))
          clear hK K hHeld2
          (try simp only [Act.put, moB6, List.setIfInBounds_toArray, List.set_cons_zero, List.set_cons_succ])
          refine tkW (v := ?_) 7 moB7 rfl (by kernel_rfl) (by kernel_rfl) (by kernel_rfl) (fun _ _ _ h => h) (by rfl) ?_ (by assumption) ?_
          rotate_left
          · intro w hSw; (try dsimp only at hSw); go_simp; (try with_reducible rfl)
          (try simp only [Act.put, moB7, List.setIfInBounds_toArray, List.set_cons_zero, List.set_cons_succ])
          refine tkW (v := ?_) 8 moB8 rfl (by kernel_rfl) (by kernel_rfl) (by kernel_rfl) (fun _ _ _ h => h) (by rfl) ?_ (by assumption) ?_
          rotate_left
          · intro w hSw; (try dsimp only at hSw); go_simp; (try with_reducible rfl)
          (try simp only [Act.put, moB8, List.setIfInBounds_toArray, List.set_cons_zero, List.set_cons_succ])
          refine tkW (v := ?_) 9 moB9 rfl (by kernel_rfl) (by kernel_rfl) (by kernel_rfl) (fun _ _ _ h => h) (by rfl) ?_ (by assumption) ?_
          rotate_left
          · intro w hSw; (try dsimp only at hSw); go_simp; (try with_reducible rfl)
          (try simp only [Act.put, moB9, List.setIfInBounds_toArray, List.set_cons_zero, List.set_cons_succ])
          refine tkE 10 moB10 rfl (by kernel_rfl) (fun K hK => ?_)
          go_simp
          (refine (SU.out _ _ (NT.out.kp (by first | with_reducible exact kwt | ((repeat (first | with_reducible refine Kp.trans ?_ (Kp.drew _) | with_reducible refine Kp.trans ?_ (Kp.alloc _ _))); with_reducible exact kwt))) (KF.out.trans (by first | with_reducible exact kwt | ((repeat (first | with_reducible refine Kp.trans ?_ (Kp.drew _) | with_reducible refine Kp.trans ?_ (Kp.alloc _ _))); with_reducible exact kwt)))).mono ?_; rintro e wu ⟨rfl, kq1⟩; have kwu : Kp F _ := Kp.trans (show Kp F _ from (by first | with_reducible exact kwt | ((repeat (first | with_reducible refine Kp.trans ?_ (Kp.drew _) | with_reducible refine Kp.trans ?_ (Kp.alloc _ _))); with_reducible exact kwt))) kq1; clear kq1)
          (try go_wp2_with fail)
          refine hK.out _ _ ?_ (fun hHeld4 => ?_)
          · (try dsimp only); exact KT.out _ (by first | with_reducible exact kwu | ((repeat (first | with_reducible refine Kp.trans ?_ (Kp.drew _) | with_reducible refine Kp.trans ?_ (Kp.alloc _ _))); with_reducible exact kwu))
          clear hK K hHeld3
          (try simp only [Act.put, moB10, List.setIfInBounds_toArray, List.set_cons_zero, List.set_cons_succ])
          refine tkW (v := ?_) 11 moB11 rfl (by kernel_rfl) (by kernel_rfl) (by kernel_rfl) (fun _ _ _ h => h) (by rfl) ?_ (by assumption) ?_
          rotate_left
          · intro w hSw; (try dsimp only at hSw); go_simp; (try with_reducible rfl)
          (try simp only [Act.put, moB11, List.setIfInBounds_toArray, List.set_cons_zero, List.set_cons_succ])
          refine tkW (v := ?_) 12 moB12 rfl (by kernel_rfl) (by kernel_rfl) (by kernel_rfl) (fun _ _ _ h => h) (by rfl) ?_ (by assumption) ?_
          rotate_left
          · intro w hSw; (try dsimp only at hSw); go_simp; (try with_reducible rfl)
          (try simp only [Act.put, moB12, List.setIfInBounds_toArray, List.set_cons_zero, List.set_cons_succ])
          refine tkW (v := ?_) 13 moB13 rfl (by kernel_rfl) (by kernel_rfl) (by kernel_rfl) (fun _ _ _ h => h) (by rfl) ?_ (by assumption) ?_
          rotate_left
          · intro w hSw; (try dsimp only at hSw); go_simp; (try with_reducible rfl)
          (try simp only [Act.put, moB13, List.setIfInBounds_toArray, List.set_cons_zero, List.set_cons_succ])
          refine tkW (v := ?_) 15 moB15 rfl (by kernel_rfl) (by kernel_rfl) (by kernel_rfl) (fun _ _ _ h => h) (by rfl) ?_ (by assumption) ?_
          rotate_left
          · intro w hSw; (try dsimp only at hSw); go_simp; (try with_reducible rfl)
          (try simp only [Act.put, moB15, List.setIfInBounds_toArray, List.set_cons_zero, List.set_cons_succ])
          refine tkE 14 moB14 rfl (by kernel_rfl) (fun K hK => ?_)
          go_simp
          (refine (CU.out _ _ (NT.out.kp (by first | with_reducible exact kwu | ((repeat (first | with_reducible refine Kp.trans ?_ (Kp.drew _) | with_reducible refine Kp.trans ?_ (Kp.alloc _ _))); with_reducible exact kwu))) (KF.out.trans (by first | with_reducible exact kwu | ((repeat (first | with_reducible refine Kp.trans ?_ (Kp.drew _) | with_reducible refine Kp.trans ?_ (Kp.alloc _ _))); with_reducible exact kwu)))).mono ?_; rintro e wv ⟨v10, rfl, h10, kq1⟩; have kwv : Kp F _ := Kp.trans (show Kp F _ from (by first | with_reducible exact kwu | ((repeat (first | with_reducible refine Kp.trans ?_ (Kp.drew _) | with_reducible refine Kp.trans ?_ (Kp.alloc _ _))); with_reducible exact kwu))) kq1; clear kq1; have N10 := Lib.hid h10; obtain ⟨ad10, cp10, rfl⟩ := h10.slice; clear h10)
          (try go_wp2_with fail)
          refine hK.out _ _ ?_ (fun hHeld5 => ?_)
          · (try dsimp only); exact KT.out _ (by first | with_reducible exact kwv | ((repeat (first | with_reducible refine Kp.trans ?_ (Kp.drew _) | with_reducible refine Kp.trans ?_ (Kp.alloc _ _))); with_reducible exact kwv))
          clear hK K hHeld4
          (try simp only [Act.put, moB14, List.setIfInBounds_toArray, List.set_cons_zero, List.set_cons_succ])
          refine tkE 16 moB16 rfl (by kernel_rfl) (fun K hK => ?_)
          go_simp
          (refine (SM.out _ _ _ (N10.out.kp (by first | with_reducible exact (Kp.refl wv) | ((repeat (first | with_reducible refine Kp.trans ?_ (Kp.drew _) | with_reducible refine Kp.trans ?_ (Kp.alloc _ _))); with_reducible exact (Kp.refl wv)))) (NVF.out.kp (by first | with_reducible exact kwv | ((repeat (first | with_reducible refine Kp.trans ?_ (Kp.drew _) | with_reducible refine Kp.trans ?_ (Kp.alloc _ _))); with_reducible exact kwv)))).mono ?_; rintro e wx ⟨rfl, kq1⟩; have kwx : Kp F _ := Kp.trans (show Kp F _ from (by first | with_reducible exact kwv | ((repeat (first | with_reducible refine Kp.trans ?_ (Kp.drew _) | with_reducible refine Kp.trans ?_ (Kp.alloc _ _))); with_reducible exact kwv))) kq1; clear kq1)
          (try go_wp2_with fail)
          refine hK.out _ _ ?_ (fun hHeld6 => ?_)
          · (try dsimp only); exact KT.out _ (by first | with_reducible exact kwx | ((repeat (first | with_reducible refine Kp.trans ?_ (Kp.drew _) | with_reducible refine Kp.trans ?_ (Kp.alloc _ _))); with_reducible exact kwx))
          clear hK K hHeld5
          (try simp only [Act.put, moB16, List.setIfInBounds_toArray, List.set_cons_zero, List.set_cons_succ])
          refine tkW (v := ?_) 17 moB17 rfl (by kernel_rfl) (by kernel_rfl) (by kernel_rfl) (fun _ _ _ h => h) (by rfl) ?_ (by assumption) ?_
          rotate_left
          · intro w hSw; (try dsimp only at hSw); go_simp; (try with_reducible rfl)
          (try simp only [Act.put, moB17, List.setIfInBounds_toArray, List.set_cons_zero, List.set_cons_succ])
          refine tkW (v := ?_) 18 moB18 rfl (by kernel_rfl) (by kernel_rfl) (by kernel_rfl) (fun _ _ _ h => h) (by rfl) ?_ (by assumption) ?_
          rotate_left
          · intro w hSw; (try dsimp only at hSw); go_simp; (try with_reducible rfl)
          (try simp only [Act.put, moB18, List.setIfInBounds_toArray, List.set_cons_zero, List.set_cons_succ])
          refine tkW (v := ?_) 19 moB19 rfl (by kernel_rfl) (by kernel_rfl) (by kernel_rfl) (fun _ _ _ h => h) (by rfl) ?_ (by assumption) ?_
          rotate_left
          · intro w hSw; (try dsimp only at hSw); go_simp; (try with_reducible rfl)
          (try simp only [Act.put, moB19, List.setIfInBounds_toArray, List.set_cons_zero, List.set_cons_succ])
          refine wpAnyH_done (by kernel_rfl) ?_ _
          go_wp2
          go_ret
          exact ⟨rfl, KF.out.trans kwx⟩
      · go_simp
        skip
        (try go_wp2_with fail)
        refine hK.out _ _ ?_ (fun hHeld1 => ?_)
        · (try dsimp only); exact KS.out _ (by first | with_reducible exact k77 | ((repeat (first | with_reducible refine Kp.trans ?_ (Kp.drew _) | with_reducible refine Kp.trans ?_ (Kp.alloc _ _))); with_reducible exact k77))
        clear hK K hHeld0
        (try simp only [Act.put, moA6, List.setIfInBounds_toArray, List.set_cons_zero, List.set_cons_succ])
        refine tkE 4 moA4 rfl (by kernel_rfl) (fun K hK => ?_)
        go_simp
        skip
        (try go_wp2_with fail)
        refine hK.out _ _ ?_ (fun hHeld2 => ?_)
        · (try dsimp only); exact KS.out _ (by first | with_reducible exact k77 | ((repeat (first | with_reducible refine Kp.trans ?_ (Kp.drew _) | with_reducible refine Kp.trans ?_ (Kp.alloc _ _))); with_reducible exact k77))
        clear hK K hHeld1
        (try simp only [Act.put, moA4, List.setIfInBounds_toArray, List.set_cons_zero, List.set_cons_succ])
        refine tkE 5 moA5 rfl (by kernel_rfl) (fun K hK => ?_)
        go_simp
        (refine (OT.out _ _ _).mono ?_; rintro e wo ⟨rfl, kq1⟩; have gR : wo.heap[w7.heap.size + 1]? = some (.cells #[.int .i64 k1, .int .i64 pk1, .string y1, .string m1, .string s1, .bool a1, .bool t1, .slice ad1 n1 cp1, .int .i64 2, .int .i64 0, .string ⟨#[]⟩, .string ⟨#[]⟩, .string ⟨#[]⟩, .bool false, .bool false, .slice (some ⟨b0, o0, none⟩) l.length cal] 26 (0, 0)) := heap_block kq1 (by (repeat (first | with_reducible exact heap_at _ _ _ (by first | rfl | simp) | with_reducible refine heap_block (Kp.drew _) ?_ | with_reducible refine heap_block (Kp.alloc _ _) ?_))); have gB : wo.heap[w7.heap.size]? = some (.cells #[.int .i64 0, .int .i64 0, .string ⟨#[]⟩, .string ⟨#[]⟩, .string ⟨#[]⟩, .bool false, .bool false, .slice none 0 0] 26 (0, 0)) := heap_block kq1 (by (repeat (first | with_reducible exact heap_at _ _ _ (by first | rfl | simp) | with_reducible refine heap_block (Kp.drew _) ?_ | with_reducible refine heap_block (Kp.alloc _ _) ?_))); have kwo : Kp w7 wo := Kp.trans (show Kp w7 _ from (by first | with_reducible exact k77 | ((repeat (first | with_reducible refine Kp.trans ?_ (Kp.drew _) | with_reducible refine Kp.trans ?_ (Kp.alloc _ _))); with_reducible exact k77))) kq1; clear kq1)
        (try go_wp2_with fail)
        refine hK.out _ _ ?_ (fun hHeld3 => ?_)
        · (try dsimp only); exact KS.out _ (by first | with_reducible exact kwo | ((repeat (first | with_reducible refine Kp.trans ?_ (Kp.drew _) | with_reducible refine Kp.trans ?_ (Kp.alloc _ _))); with_reducible exact kwo))
        clear hK K hHeld2
        (try simp only [Act.put, moA5, List.setIfInBounds_toArray, List.set_cons_zero, List.set_cons_succ])
        refine tkE 7 moA7 rfl (by kernel_rfl) (fun K hK => ?_)
        (obtain ⟨x0, x1, x2, x3, x4, x5, x6, x7⟩ := row8 gB; have z_0 : wo.frozen? ⟨w7.heap.size, 0, none⟩ = false := (by simp [World.frozen?, gB]); have z_1 : wo.frozen? ⟨w7.heap.size, 1, none⟩ = false := (by simp [World.frozen?, gB]); have z_2 : wo.frozen? ⟨w7.heap.size, 2, none⟩ = false := (by simp [World.frozen?, gB]); have z_3 : wo.frozen? ⟨w7.heap.size, 3, none⟩ = false := (by simp [World.frozen?, gB]); have z_4 : wo.frozen? ⟨w7.heap.size, 4, none⟩ = false := (by simp [World.frozen?, gB]); have z_5 : wo.frozen? ⟨w7.heap.size, 5, none⟩ = false := (by simp [World.frozen?, gB]); have z_6 : wo.frozen? ⟨w7.heap.size, 6, none⟩ = false := (by simp [World.frozen?, gB]); have z_7 : wo.frozen? ⟨w7.heap.size, 7, none⟩ = false := (by simp [World.frozen?, gB]); obtain ⟨F, hF⟩ : ∃ x, x = ((((((((wo.setCell ⟨w7.heap.size, 0, none⟩ (.int .i64 2)).setCell ⟨w7.heap.size, 1, none⟩ (.int .i64 0)).setCell ⟨w7.heap.size, 2, none⟩ (.string ⟨#[]⟩)).setCell ⟨w7.heap.size, 3, none⟩ (.string ⟨#[]⟩)).setCell ⟨w7.heap.size, 4, none⟩ (.string ⟨#[]⟩)).setCell ⟨w7.heap.size, 5, none⟩ (.bool false)).setCell ⟨w7.heap.size, 6, none⟩ (.bool false)).setCell ⟨w7.heap.size, 7, none⟩ (.slice (some ⟨w7.heap.size + 1, 0, none⟩) 2 2)) := ⟨_, rfl⟩; have kF : Kp w7 F := (by rw [hF]; exact kp_sets (by omega) [.int .i64 2, .int .i64 0, .string ⟨#[]⟩, .string ⟨#[]⟩, .string ⟨#[]⟩, .bool false, .bool false, .slice (some ⟨w7.heap.size + 1, 0, none⟩) 2 2] 0 kwo); have gF : F.heap[w7.heap.size]? = some (.cells #[.int .i64 2, .int .i64 0, .string ⟨#[]⟩, .string ⟨#[]⟩, .string ⟨#[]⟩, .bool false, .bool false, .slice (some ⟨w7.heap.size + 1, 0, none⟩) 2 2] 26 (0, 0)) := (by rw [hF]; exact set8 (.int .i64 2) (.int .i64 0) (.string ⟨#[]⟩) (.string ⟨#[]⟩) (.string ⟨#[]⟩) (.bool false) (.bool false) (.slice (some ⟨w7.heap.size + 1, 0, none⟩) 2 2) gB); have NT := Lib.hid (H2M.out F kF _ ((show F.heap[w7.heap.size + 1]? = wo.heap[w7.heap.size + 1]? by rw [hF]; exact sets_other (by omega) [.int .i64 2, .int .i64 0, .string ⟨#[]⟩, .string ⟨#[]⟩, .string ⟨#[]⟩, .bool false, .bool false, .slice (some ⟨w7.heap.size + 1, 0, none⟩) 2 2] 0).trans gR)); have HF := Lib.hid hF; clear hF)
        (try go_wp2_with fail)
        refine hK.out _ _ ?_ (fun hHeld4 => ?_)
        · (try dsimp only); (try rw [← HF.out]); exact KS.out _ (by first | with_reducible exact kF | ((repeat (first | with_reducible refine Kp.trans ?_ (Kp.drew _) | with_reducible refine Kp.trans ?_ (Kp.alloc _ _))); with_reducible exact kF))
        clear hK K hHeld3
        (try simp only [Act.put, moA7, List.setIfInBounds_toArray, List.set_cons_zero, List.set_cons_succ])
        refine wpAnyH_done (by kernel_rfl) ?_ _
        rw [← HF.out]
        have kf0 : Kp F F := Kp.refl _
        have NWF := Lib.hid (NW7.out.kp kF)
        have NVF := Lib.hid (NV7.out.kp kF)
        have KF := Lib.hid (K00.out.trans kF)
        have KT := Lib.hid (fun w' (kq : Kp F w') => show w'.cell? ⟨w7.heap.size, 0, none⟩ = some (.int .i64 2) ∧ w'.cell? ⟨w7.heap.size, 1, none⟩ = some (.int .i64 0) ∧ w'.cell? ⟨w7.heap.size, 2, none⟩ = some (.string ⟨#[]⟩) ∧ w'.cell? ⟨w7.heap.size, 3, none⟩ = some (.string ⟨#[]⟩) ∧ w'.cell? ⟨w7.heap.size, 4, none⟩ = some (.string ⟨#[]⟩) ∧ w'.cell? ⟨w7.heap.size, 5, none⟩ = some (.bool false) ∧ w'.cell? ⟨w7.heap.size, 6, none⟩ = some (.bool false) ∧ w'.cell? ⟨w7.heap.size, 7, none⟩ = some (.slice (some ⟨w7.heap.size + 1, 0, none⟩) 2 2) ∧ w'.cell? ⟨w2.heap.size, 0, none⟩ = some (.int .i64 2) ∧ w'.cell? ⟨w2.heap.size, 1, none⟩ = some (.int .i64 0) ∧ w'.cell? ⟨w2.heap.size, 2, none⟩ = some (.string ⟨#[]⟩) ∧ w'.cell? ⟨w2.heap.size, 3, none⟩ = some (.string ⟨#[]⟩) ∧ w'.cell? ⟨w2.heap.size, 4, none⟩ = some (.string ⟨#[]⟩) ∧ w'.cell? ⟨w2.heap.size, 5, none⟩ = some (.bool false) ∧ w'.cell? ⟨w2.heap.size, 6, none⟩ = some (.bool false) ∧ w'.cell? ⟨w2.heap.size, 7, none⟩ = some (.slice (some ⟨b0, o0, none⟩) l.length cal) ∧ w'.cell? ⟨w6.heap.size, 0, none⟩ = some (.int .i64 k0) ∧ w'.cell? ⟨w6.heap.size, 1, none⟩ = some (.int .i64 pk0) ∧ w'.cell? ⟨w6.heap.size, 2, none⟩ = some (.string y0) ∧ w'.cell? ⟨w6.heap.size, 3, none⟩ = some (.string m0) ∧ w'.cell? ⟨w6.heap.size, 4, none⟩ = some (.string s0) ∧ w'.cell? ⟨w6.heap.size, 5, none⟩ = some (.bool a0) ∧ w'.cell? ⟨w6.heap.size, 6, none⟩ = some (.bool t0) ∧ w'.cell? ⟨w6.heap.size, 7, none⟩ = some (.slice ad6 r0.length cp6) ∧ Kp F w' from ⟨(row8 (heap_block kq gF)).1, (row8 (heap_block kq gF)).2.1, (row8 (heap_block kq gF)).2.2.1, (row8 (heap_block kq gF)).2.2.2.1, (row8 (heap_block kq gF)).2.2.2.2.1, (row8 (heap_block kq gF)).2.2.2.2.2.1, (row8 (heap_block kq gF)).2.2.2.2.2.2.1, (row8 (heap_block kq gF)).2.2.2.2.2.2.2, (HB.out w' (kF.trans kq)).1, (HB.out w' (kF.trans kq)).2.1, (HB.out w' (kF.trans kq)).2.2.1, (HB.out w' (kF.trans kq)).2.2.2.1, (HB.out w' (kF.trans kq)).2.2.2.2.1, (HB.out w' (kF.trans kq)).2.2.2.2.2.1, (HB.out w' (kF.trans kq)).2.2.2.2.2.2.1, (HB.out w' (kF.trans kq)).2.2.2.2.2.2.2.1, (HB.out w' (kF.trans kq)).2.2.2.2.2.2.2.2.1, (HB.out w' (kF.trans kq)).2.2.2.2.2.2.2.2.2.1, (HB.out w' (kF.trans kq)).2.2.2.2.2.2.2.2.2.2.1, (HB.out w' (kF.trans kq)).2.2.2.2.2.2.2.2.2.2.2.1, (HB.out w' (kF.trans kq)).2.2.2.2.2.2.2.2.2.2.2.2.1, (HB.out w' (kF.trans kq)).2.2.2.2.2.2.2.2.2.2.2.2.2.1, (HB.out w' (kF.trans kq)).2.2.2.2.2.2.2.2.2.2.2.2.2.2.1, (HB.out w' (kF.trans kq)).2.2.2.2.2.2.2.2.2.2.2.2.2.2.2, kq⟩)
        clear gF kF
        (try go_wp2_with fail)
        refine wp_region_held_drew (S := fun w' => w'.cell? ⟨w7.heap.size, 0, none⟩ = some (.int .i64 2) ∧ w'.cell? ⟨w7.heap.size, 1, none⟩ = some (.int .i64 0) ∧ w'.cell? ⟨w7.heap.size, 2, none⟩ = some (.string ⟨#[]⟩) ∧ w'.cell? ⟨w7.heap.size, 3, none⟩ = some (.string ⟨#[]⟩) ∧ w'.cell? ⟨w7.heap.size, 4, none⟩ = some (.string ⟨#[]⟩) ∧ w'.cell? ⟨w7.heap.size, 5, none⟩ = some (.bool false) ∧ w'.cell? ⟨w7.heap.size, 6, none⟩ = some (.bool false) ∧ w'.cell? ⟨w7.heap.size, 7, none⟩ = some (.slice (some ⟨w7.heap.size + 1, 0, none⟩) 2 2) ∧ w'.cell? ⟨w2.heap.size, 0, none⟩ = some (.int .i64 2) ∧ w'.cell? ⟨w2.heap.size, 1, none⟩ = some (.int .i64 0) ∧ w'.cell? ⟨w2.heap.size, 2, none⟩ = some (.string ⟨#[]⟩) ∧ w'.cell? ⟨w2.heap.size, 3, none⟩ = some (.string ⟨#[]⟩) ∧ w'.cell? ⟨w2.heap.size, 4, none⟩ = some (.string ⟨#[]⟩) ∧ w'.cell? ⟨w2.heap.size, 5, none⟩ = some (.bool false) ∧ w'.cell? ⟨w2.heap.size, 6, none⟩ = some (.bool false) ∧ w'.cell? ⟨w2.heap.size, 7, none⟩ = some (.slice (some ⟨b0, o0, none⟩) l.length cal) ∧ w'.cell? ⟨w6.heap.size, 0, none⟩ = some (.int .i64 k0) ∧ w'.cell? ⟨w6.heap.size, 1, none⟩ = some (.int .i64 pk0) ∧ w'.cell? ⟨w6.heap.size, 2, none⟩ = some (.string y0) ∧ w'.cell? ⟨w6.heap.size, 3, none⟩ = some (.string m0) ∧ w'.cell? ⟨w6.heap.size, 4, none⟩ = some (.string s0) ∧ w'.cell? ⟨w6.heap.size, 5, none⟩ = some (.bool a0) ∧ w'.cell? ⟨w6.heap.size, 6, none⟩ = some (.bool t0) ∧ w'.cell? ⟨w6.heap.size, 7, none⟩ = some (.slice ad6 r0.length cp6) ∧ Kp F w') (by kernel_rfl) ?_ (fun hHeld0 => ?_)
        · (try dsimp only); exact KT.out _ (by first | with_reducible exact kf0 | ((repeat (first | with_reducible refine Kp.trans ?_ (Kp.drew _) | with_reducible refine Kp.trans ?_ (Kp.alloc _ _))); with_reducible exact kf0))
        refine tkW (v := ?_) 0 moB0 rfl (by kernel_rfl) (by kernel_rfl) (by kernel_rfl) (fun _ _ _ h => h) (by rfl) ?_ (by assumption) ?_
        rotate_left
        · intro w hSw; (try dsimp only at hSw); go_simp; (try with_reducible rfl)
        (try simp only [Act.put, moB0, List.setIfInBounds_toArray, List.set_cons_zero, List.set_cons_succ])
        refine tkW (v := ?_) 1 moB1 rfl (by kernel_rfl) (by kernel_rfl) (by kernel_rfl) (fun _ _ _ h => h) (by rfl) ?_ (by assumption) ?_
        rotate_left
        · intro w hSw; (try dsimp only at hSw); go_simp; (try with_reducible rfl)
        (try simp only [Act.put, moB1, List.setIfInBounds_toArray, List.set_cons_zero, List.set_cons_succ])
        refine tkW (v := ?_) 2 moB2 rfl (by kernel_rfl) (by kernel_rfl) (by kernel_rfl) (fun _ _ _ h => h) (by rfl) ?_ (by assumption) ?_
        rotate_left
        · intro w hSw; (try dsimp only at hSw); go_simp; (try with_reducible rfl)
        (try simp only [Act.put, moB2, List.setIfInBounds_toArray, List.set_cons_zero, List.set_cons_succ])
        refine tkW (v := ?_) 5 moB5 rfl (by kernel_rfl) (by kernel_rfl) (by kernel_rfl) (fun _ _ _ h => h) (by rfl) ?_ (by assumption) ?_
        rotate_left
        · intro w hSw; (try dsimp only at hSw); go_simp; (try with_reducible rfl)
        (try simp only [Act.put, moB5, List.setIfInBounds_toArray, List.set_cons_zero, List.set_cons_succ])
        refine tkE 3 moB3 rfl (by kernel_rfl) (fun K hK => ?_)
        go_simp
        (refine (OE.out _ _ _).mono ?_; rintro e wp ⟨rfl, kq1⟩; have kwp : Kp F _ := Kp.trans (show Kp F _ from (by first | with_reducible exact kf0 | ((repeat (first | with_reducible refine Kp.trans ?_ (Kp.drew _) | with_reducible refine Kp.trans ?_ (Kp.alloc _ _))); with_reducible exact kf0))) kq1; clear kq1)
        (try go_wp2_with fail)
        refine hK.out _ _ ?_ (fun hHeld1 => ?_)
        · (try dsimp only); exact KT.out _ (by first | with_reducible exact kwp | ((repeat (first | with_reducible refine Kp.trans ?_ (Kp.drew _) | with_reducible refine Kp.trans ?_ (Kp.alloc _ _))); with_reducible exact kwp))
        clear hK K hHeld0
        (try simp only [Act.put, moB3, List.setIfInBounds_toArray, List.set_cons_zero, List.set_cons_succ])
        refine tkE 4 moB4 rfl (by kernel_rfl) (fun K hK => ?_)
        go_simp
        (refine (CF.out _ _ (NWF.out.kp (by first | with_reducible exact kwp | ((repeat (first | with_reducible refine Kp.trans ?_ (Kp.drew _) | with_reducible refine Kp.trans ?_ (Kp.alloc _ _))); with_reducible exact kwp))) (KF.out.trans (by first | with_reducible exact kwp | ((repeat (first | with_reducible refine Kp.trans ?_ (Kp.drew _) | with_reducible refine Kp.trans ?_ (Kp.alloc _ _))); with_reducible exact kwp)))).mono ?_; rintro e wq ⟨v9, rfl, h9, kq1⟩; have kwq : Kp F _ := Kp.trans (show Kp F _ from (by first | with_reducible exact kwp | ((repeat (first | with_reducible refine Kp.trans ?_ (Kp.drew _) | with_reducible refine Kp.trans ?_ (Kp.alloc _ _))); with_reducible exact kwp))) kq1; clear kq1; have N9 := Lib.hid h9; obtain ⟨ad9, cp9, rfl⟩ := h9.slice; clear h9)
        (try go_wp2_with fail)
        refine hK.out _ _ ?_ (fun hHeld2 => ?_)
        · (try dsimp only); exact KT.out _ (by first | with_reducible exact kwq | ((repeat (first | with_reducible refine Kp.trans ?_ (Kp.drew _) | with_reducible refine Kp.trans ?_ (Kp.alloc _ _))); with_reducible exact kwq))
        clear hK K hHeld1
        (try simp only [Act.put, moB4, List.setIfInBounds_toArray, List.set_cons_zero, List.set_cons_succ])
        refine tkE 6 moB6 rfl (by kernel_rfl) (fun K hK => ?_)
        go_simp
        (refine (SM.out _ _ _ (N9.out.kp (by first | with_reducible exact (Kp.refl wq) | ((repeat (first | with_reducible refine Kp.trans ?_ (Kp.drew _) | with_reducible refine Kp.trans ?_ (Kp.alloc _ _))); with_reducible exact (Kp.refl wq)))) (NVF.out.kp (by first | with_reducible exact kwq | ((repeat (first | with_reducible refine Kp.trans ?_ (Kp.drew _) | with_reducible refine Kp.trans ?_ (Kp.alloc _ _))); with_reducible exact kwq)))).mono ?_; rintro e wt ⟨rfl, kq1⟩; have kwt : Kp F _ := Kp.trans (show Kp F _ from (by first | with_reducible exact kwq | ((repeat (first | with_reducible refine Kp.trans ?_ (Kp.drew _) | with_reducible refine Kp.trans ?_ (Kp.alloc _ _))); with_reducible exact kwq))) kq1; clear kq1)
        (try go_wp2_with fail)
        refine hK.out _ _ ?_ (fun hHeld3 => ?_)
        · (try dsimp only); exact KT.out _ (by first | with_reducible exact kwt | ((repeat (first | with_reducible refine Kp.trans ?_ (Kp.drew _) | with_reducible refine Kp.trans ?_ (Kp.alloc _ _))); with_reducible exact kwt))
        clear hK K hHeld2
        (try simp only [Act.put, moB6, List.setIfInBounds_toArray, List.set_cons_zero, List.set_cons_succ])
        refine tkW (v := ?_) 7 moB7 rfl (by kernel_rfl) (by kernel_rfl) (by kernel_rfl) (fun _ _ _ h => h) (by rfl) ?_ (by assumption) ?_
        rotate_left
        · intro w hSw; (try dsimp only at hSw); go_simp; (try with_reducible rfl)
        (try simp only [Act.put, moB7, List.setIfInBounds_toArray, List.set_cons_zero, List.set_cons_succ])
        refine tkW (v := ?_) 8 moB8 rfl (by kernel_rfl) (by kernel_rfl) (by kernel_rfl) (fun _ _ _ h => h) (by rfl) ?_ (by assumption) ?_
        rotate_left
        · intro w hSw; (try dsimp only at hSw); go_simp; (try with_reducible rfl)
        (try simp only [Act.put, moB8, List.setIfInBounds_toArray, List.set_cons_zero, List.set_cons_succ])
        refine tkW (v := ?_) 9 moB9 rfl (by kernel_rfl) (by kernel_rfl) (by kernel_rfl) (fun _ _ _ h => h) (by rfl) ?_ (by assumption) ?_
        rotate_left
        · intro w hSw; (try dsimp only at hSw); go_simp; (try with_reducible rfl)
        (try simp only [Act.put, moB9, List.setIfInBounds_toArray, List.set_cons_zero, List.set_cons_succ])
        refine tkE 10 moB10 rfl (by kernel_rfl) (fun K hK => ?_)
        go_simp
        (refine (SU.out _ _ (NT.out.kp (by first | with_reducible exact kwt | ((repeat (first | with_reducible refine Kp.trans ?_ (Kp.drew _) | with_reducible refine Kp.trans ?_ (Kp.alloc _ _))); with_reducible exact kwt))) (KF.out.trans (by first | with_reducible exact kwt | ((repeat (first | with_reducible refine Kp.trans ?_ (Kp.drew _) | with_reducible refine Kp.trans ?_ (Kp.alloc _ _))); with_reducible exact kwt)))).mono ?_; rintro e wu ⟨rfl, kq1⟩; have kwu : Kp F _ := Kp.trans (show Kp F _ from (by first | with_reducible exact kwt | ((repeat (first | with_reducible refine Kp.trans ?_ (Kp.drew _) | with_reducible refine Kp.trans ?_ (Kp.alloc _ _))); with_reducible exact kwt))) kq1; clear kq1)
        (try go_wp2_with fail)
        refine hK.out _ _ ?_ (fun hHeld4 => ?_)
        · (try dsimp only); exact KT.out _ (by first | with_reducible exact kwu | ((repeat (first | with_reducible refine Kp.trans ?_ (Kp.drew _) | with_reducible refine Kp.trans ?_ (Kp.alloc _ _))); with_reducible exact kwu))
        clear hK K hHeld3
        (try simp only [Act.put, moB10, List.setIfInBounds_toArray, List.set_cons_zero, List.set_cons_succ])
        refine tkW (v := ?_) 11 moB11 rfl (by kernel_rfl) (by kernel_rfl) (by kernel_rfl) (fun _ _ _ h => h) (by rfl) ?_ (by assumption) ?_
        rotate_left
        · intro w hSw; (try dsimp only at hSw); go_simp; (try with_reducible rfl)
        (try simp only [Act.put, moB11, List.setIfInBounds_toArray, List.set_cons_zero, List.set_cons_succ])
        refine tkW (v := ?_) 12 moB12 rfl (by kernel_rfl) (by kernel_rfl) (by kernel_rfl) (fun _ _ _ h => h) (by rfl) ?_ (by assumption) ?_
        rotate_left
        · intro w hSw; (try dsimp only at hSw); go_simp; (try with_reducible rfl)
        (try simp only [Act.put, moB12, List.setIfInBounds_toArray, List.set_cons_zero, List.set_cons_succ])
        refine tkW (v := ?_) 13 moB13 rfl (by kernel_rfl) (by kernel_rfl) (by kernel_rfl) (fun _ _ _ h => h) (by rfl) ?_ (by assumption) ?_
        rotate_left
        · intro w hSw; (try dsimp only at hSw); go_simp; (try with_reducible rfl)
        (try simp only [Act.put, moB13, List.setIfInBounds_toArray, List.set_cons_zero, List.set_cons_succ])
        refine tkW (v := ?_) 15 moB15 rfl (by kernel_rfl) (by kernel_rfl) (by kernel_rfl) (fun _ _ _ h => h) (by rfl) ?_ (by assumption) ?_
        rotate_left
        · intro w hSw; (try dsimp only at hSw); go_simp; (try with_reducible rfl)
        (try simp only [Act.put, moB15, List.setIfInBounds_toArray, List.set_cons_zero, List.set_cons_succ])
        refine tkE 14 moB14 rfl (by kernel_rfl) (fun K hK => ?_)
        go_simp
        (refine (CU.out _ _ (NT.out.kp (by first | with_reducible exact kwu | ((repeat (first | with_reducible refine Kp.trans ?_ (Kp.drew _) | with_reducible refine Kp.trans ?_ (Kp.alloc _ _))); with_reducible exact kwu))) (KF.out.trans (by first | with_reducible exact kwu | ((repeat (first | with_reducible refine Kp.trans ?_ (Kp.drew _) | with_reducible refine Kp.trans ?_ (Kp.alloc _ _))); with_reducible exact kwu)))).mono ?_; rintro e wv ⟨v10, rfl, h10, kq1⟩; have kwv : Kp F _ := Kp.trans (show Kp F _ from (by first | with_reducible exact kwu | ((repeat (first | with_reducible refine Kp.trans ?_ (Kp.drew _) | with_reducible refine Kp.trans ?_ (Kp.alloc _ _))); with_reducible exact kwu))) kq1; clear kq1; have N10 := Lib.hid h10; obtain ⟨ad10, cp10, rfl⟩ := h10.slice; clear h10)
        (try go_wp2_with fail)
        refine hK.out _ _ ?_ (fun hHeld5 => ?_)
        · (try dsimp only); exact KT.out _ (by first | with_reducible exact kwv | ((repeat (first | with_reducible refine Kp.trans ?_ (Kp.drew _) | with_reducible refine Kp.trans ?_ (Kp.alloc _ _))); with_reducible exact kwv))
        clear hK K hHeld4
        (try simp only [Act.put, moB14, List.setIfInBounds_toArray, List.set_cons_zero, List.set_cons_succ])
        refine tkE 16 moB16 rfl (by kernel_rfl) (fun K hK => ?_)
        go_simp
        (refine (SM.out _ _ _ (N10.out.kp (by first | with_reducible exact (Kp.refl wv) | ((repeat (first | with_reducible refine Kp.trans ?_ (Kp.drew _) | with_reducible refine Kp.trans ?_ (Kp.alloc _ _))); with_reducible exact (Kp.refl wv)))) (NVF.out.kp (by first | with_reducible exact kwv | ((repeat (first | with_reducible refine Kp.trans ?_ (Kp.drew _) | with_reducible refine Kp.trans ?_ (Kp.alloc _ _))); with_reducible exact kwv)))).mono ?_; rintro e wx ⟨rfl, kq1⟩; have kwx : Kp F _ := Kp.trans (show Kp F _ from (by first | with_reducible exact kwv | ((repeat (first | with_reducible refine Kp.trans ?_ (Kp.drew _) | with_reducible refine Kp.trans ?_ (Kp.alloc _ _))); with_reducible exact kwv))) kq1; clear kq1)
        (try go_wp2_with fail)
        refine hK.out _ _ ?_ (fun hHeld6 => ?_)
        · (try dsimp only); exact KT.out _ (by first | with_reducible exact kwx | ((repeat (first | with_reducible refine Kp.trans ?_ (Kp.drew _) | with_reducible refine Kp.trans ?_ (Kp.alloc _ _))); with_reducible exact kwx))
        clear hK K hHeld5
        (try simp only [Act.put, moB16, List.setIfInBounds_toArray, List.set_cons_zero, List.set_cons_succ])
        refine tkW (v := ?_) 17 moB17 rfl (by kernel_rfl) (by kernel_rfl) (by kernel_rfl) (fun _ _ _ h => h) (by rfl) ?_ (by assumption) ?_
        rotate_left
        · intro w hSw; (try dsimp only at hSw); go_simp; (try with_reducible rfl)
        (try simp only [Act.put, moB17, List.setIfInBounds_toArray, List.set_cons_zero, List.set_cons_succ])
        refine tkW (v := ?_) 18 moB18 rfl (by kernel_rfl) (by kernel_rfl) (by kernel_rfl) (fun _ _ _ h => h) (by rfl) ?_ (by assumption) ?_
        rotate_left
        · intro w hSw; (try dsimp only at hSw); go_simp; (try with_reducible rfl)
        (try simp only [Act.put, moB18, List.setIfInBounds_toArray, List.set_cons_zero, List.set_cons_succ])
        refine tkW (v := ?_) 19 moB19 rfl (by kernel_rfl) (by kernel_rfl) (by kernel_rfl) (fun _ _ _ h => h) (by rfl) ?_ (by assumption) ?_
        rotate_left
        · intro w hSw; (try dsimp only at hSw); go_simp; (try with_reducible rfl)
        (try simp only [Act.put, moB19, List.setIfInBounds_toArray, List.set_cons_zero, List.set_cons_succ])
        refine wpAnyH_done (by kernel_rfl) ?_ _
        go_wp2
        go_ret
        exact ⟨rfl, KF.out.trans kwx⟩
set_option maxHeartbeats 16000000 in
set_option maxRecDepth 100000 in
theorem cmore_yes0 (vl : Value) (l : List ND) (w : World) (hl : NodesAt w vl l) (T : TabSH w) (h20 : l.length ≤ 20) (hf : fewG (orN l) = true) (hs : saneN saneP (orN l) = true) (h2 : saneN saneP (orN [nth l 0, orN l]) = false) :
    Calls Tryd.prog 7 #[vl] w fun e w' => e = .returned (.bool true) ∧ Kp w w' := by
  have AW := Lib.hid (fun w1 (kk : Kp w w1) => awake12 w1 (T.kp kk))
  have OO := Lib.hid (fun w1 => oneOf_any vl l w1 hl.slice)
  have FW := Lib.hid (fun w1 (kk : Kp w w1) => rfewG_any (orN l) vl w1 (hl.kp kk))
  have SN := Lib.hid (fun w1 (kk : Kp w w1) => tSaneG_any (orN l) vl w1 (hl.kp kk) (T.kp kk))
  have lm := hl.len
  unfold maxLen at lm
  have g1 : decide ((l.length : Int) > 20) = false := decide_eq_false (by omega)
  rw [hf] at FW
  rw [hs] at SN
  have l1 := (orN_len hs).1
  have CN := Lib.hid (fun w1 (kk : Kp w w1) => ccan_any (orN l) vl w1 (hl.kp kk) (T.kp kk))
  rw [canF_yes hs] at CN
  have CF := Lib.hid (fun v w1 (h : NodesAt w1 v (l.map canN)) (kk : Kp w w1) => show Calls Tryd.prog 11 #[ndV (orN (l.map canN)) v] w1 _ from ccan_any (orN (l.map canN)) v w1 h (T.kp kk))
  rw [orN_each hs, canF_yes hs] at CF
  have SU := Lib.hid (fun v w1 (h : NodesAt w1 v [nth l 0, orN l]) (kk : Kp w w1) => show Calls Tryd.prog 15 #[ndV (orN [nth l 0, orN l]) v] w1 _ from tSaneG_any (orN [nth l 0, orN l]) v w1 h (T.kp kk))
  rw [h2] at SU
  have c64 : cntN (canN (orN l)) ≤ 64 := by rw [← canF_yes hs]; exact canF_cnt _
  have SM := Lib.hid (fun v u w1 (hv : NodesAt w1 v (canN (orN l)).l) (hu : NodesAt w1 u (canN (orN l)).l) => tSame_any (canN (orN l)) (canN (orN l)) v u w1 hv hu (by omega))
  rw [same_refl] at SM
  have OE := Lib.hid (fun ad c w1 => oneOf_any (.slice ad l.length c) (l.map canN) w1 ⟨_, _, by rw [List.length_map]⟩)
  have OT := Lib.hid (fun ad c w1 => oneOf_any (.slice ad 2 c) [nth l 0, orN l] w1 ⟨_, _, rfl⟩)
  have SA := Lib.hid (fun i (hi : i < l.length) => (orN_sns hs).1 _ (nth_mem hi))
  have TL := Lib.hid (show l.take l.length = l from List.take_length)
  have TK := Lib.hid (fun i (hi : i < l.length) => show (l.take (i + 1)).map canN = (l.take i).map canN ++ [canN (nth l i)] by rw [nth_take hi, List.map_append]; rfl)
  have CE := Lib.hid (fun x v W w1 (h : NodesAt W v x.l) (kk : Kp W w1) (q : Kp w W) => ccan_own x v W w1 h kk (T.kp q))
  have HLW := Lib.hid hl
  have H00 : ∀ (W : World) (v : Value), NodesAt W v (nth l 0).l → ∀ ad c, NodesAt W (.slice ad l.length c) l → ∀ b, W.heap[b]? = some (.cells #[.int .i64 (nth l 0).k, .int .i64 (nth l 0).p.k, .string (nth l 0).p.y, .string (nth l 0).p.m, .string (nth l 0).p.d, .bool (nth l 0).a, .bool (nth l 0).t, v, .int .i64 2, .int .i64 0, .string ⟨#[]⟩, .string ⟨#[]⟩, .string ⟨#[]⟩, .bool false, .bool false, .slice ad l.length c] 26 (0, 0)) → NodesAt W (.slice (some ⟨b, 0, none⟩) 2 2) [nth l 0, orN l] := fun W v h ad c h2 b g => two_in (n := nth l 0) (m := orN l) g h h2
  have H2N := Lib.hid H00
  clear T hf c64 H00
  generalize canN (orN l) = c0 at *
  obtain ⟨k0, pk0, y0, m0, s0, a0, t0, r0, rfl⟩ := nd_dest c0
  clear hs h2
  obtain ⟨adl, cal, rfl⟩ := hl.slice
  unfold orN pz ndV at *
  simp only [ND.k, ND.p, ND.a, ND.t, ND.l] at *
  obtain ⟨W0, hW⟩ : ∃ W0, W0 = w := ⟨_, rfl⟩
  subst hW
  have K00 := Lib.hid (Kp.refl W0)
  have K0 := Lib.hid (Kp.refl W0)
  have HB := Lib.hid True.intro
  go_enter Tryd.func7, Tryd.ntmps7
  go_wp2_with fail
  refine (AW.out _ (K00.out.trans (by first | with_reducible exact K0.out | with_reducible exact K0.out.trans (Kp.alloc _ _) | with_reducible exact (K0.out.trans (Kp.alloc _ _)).trans (Kp.alloc _ _) | with_reducible exact ((K0.out.trans (Kp.alloc _ _)).trans (Kp.alloc _ _)).trans (Kp.alloc _ _) | with_reducible exact K0.out.trans (Kp.drew _) | with_reducible exact K0.out.trans (Kp.drewN _ _)))).mono ?_
  rintro e w1 ⟨rfl, kk⟩
  have K1 := Lib.hid ((show Kp W0 _ from (by first | with_reducible exact K0.out | with_reducible exact K0.out.trans (Kp.alloc _ _) | with_reducible exact (K0.out.trans (Kp.alloc _ _)).trans (Kp.alloc _ _) | with_reducible exact ((K0.out.trans (Kp.alloc _ _)).trans (Kp.alloc _ _)).trans (Kp.alloc _ _) | with_reducible exact K0.out.trans (Kp.drew _) | with_reducible exact K0.out.trans (Kp.drewN _ _))).trans kk)
  clear kk
  go_wp2_with fail
  refine (OO.out _).mono ?_
  rintro e w2 ⟨rfl, kk⟩
  have K2 := Lib.hid ((show Kp W0 _ from (by first | with_reducible exact K1.out | with_reducible exact K1.out.trans (Kp.alloc _ _) | with_reducible exact (K1.out.trans (Kp.alloc _ _)).trans (Kp.alloc _ _) | with_reducible exact ((K1.out.trans (Kp.alloc _ _)).trans (Kp.alloc _ _)).trans (Kp.alloc _ _) | with_reducible exact K1.out.trans (Kp.drew _) | with_reducible exact K1.out.trans (Kp.drewN _ _))).trans kk)
  clear kk
  obtain ⟨w3, hV⟩ : ∃ x, x = w2.alloc (.cells #[.int .i64 2, .int .i64 0, .string ⟨#[]⟩, .string ⟨#[]⟩, .string ⟨#[]⟩, .bool false, .bool false, .slice adl l.length cal] 26) := ⟨_, rfl⟩
  have ka : Kp w2 w3 := by rw [hV]; exact Kp.alloc _ _
  have hgq : w3.heap[w2.heap.size]? = some (.cells #[.int .i64 2, .int .i64 0, .string ⟨#[]⟩, .string ⟨#[]⟩, .string ⟨#[]⟩, .bool false, .bool false, .slice adl l.length cal] 26 (0, 0)) := by rw [hV]; exact heap_at _ _ _ rfl
  have q0 : w3.cell? ⟨w2.heap.size, 0, none⟩ = some (.int .i64 2) := by simp [World.cell?, hgq]
  have q1 : w3.cell? ⟨w2.heap.size, 1, none⟩ = some (.int .i64 0) := by simp [World.cell?, hgq]
  have q2 : w3.cell? ⟨w2.heap.size, 2, none⟩ = some (.string ⟨#[]⟩) := by simp [World.cell?, hgq]
  have q3 : w3.cell? ⟨w2.heap.size, 3, none⟩ = some (.string ⟨#[]⟩) := by simp [World.cell?, hgq]
  have q4 : w3.cell? ⟨w2.heap.size, 4, none⟩ = some (.string ⟨#[]⟩) := by simp [World.cell?, hgq]
  have q5 : w3.cell? ⟨w2.heap.size, 5, none⟩ = some (.bool false) := by simp [World.cell?, hgq]
  have q6 : w3.cell? ⟨w2.heap.size, 6, none⟩ = some (.bool false) := by simp [World.cell?, hgq]
  have q7 : w3.cell? ⟨w2.heap.size, 7, none⟩ = some (.slice adl l.length cal) := by simp [World.cell?, hgq]
  have HB2 := Lib.hid (fun w1 (k : Kp w3 w1) => show w1.cell? ⟨w2.heap.size, 0, none⟩ = some (.int .i64 2) ∧ w1.cell? ⟨w2.heap.size, 1, none⟩ = some (.int .i64 0) ∧ w1.cell? ⟨w2.heap.size, 2, none⟩ = some (.string ⟨#[]⟩) ∧ w1.cell? ⟨w2.heap.size, 3, none⟩ = some (.string ⟨#[]⟩) ∧ w1.cell? ⟨w2.heap.size, 4, none⟩ = some (.string ⟨#[]⟩) ∧ w1.cell? ⟨w2.heap.size, 5, none⟩ = some (.bool false) ∧ w1.cell? ⟨w2.heap.size, 6, none⟩ = some (.bool false) ∧ w1.cell? ⟨w2.heap.size, 7, none⟩ = some (.slice adl l.length cal) from ⟨cell_up k q0, cell_up k q1, cell_up k q2, cell_up k q3, cell_up k q4, cell_up k q5, cell_up k q6, cell_up k q7⟩)
  have K01 := Lib.hid (K00.out.trans (K2.out.trans ka))
  clear HB K00 hgq  q0 q1 q2 q3 q4 q5 q6 q7
  have HB := HB2
  have K00 := K01
  clear HB2 K01
  have K3 := Lib.hid (Kp.refl w3)
  have Hw3 := Lib.hid hV
  clear hV ka
  go_wp2_with fail
  rw [← Hw3.out]
  obtain ⟨c0, c1, c2, c3, c4, c5, c6, c7⟩ := HB.out w3 (Kp.refl _)
  go_wp2_with fail
  refine (FW.out _ (K00.out.trans (by first | with_reducible exact K3.out | with_reducible exact K3.out.trans (Kp.alloc _ _) | with_reducible exact (K3.out.trans (Kp.alloc _ _)).trans (Kp.alloc _ _) | with_reducible exact ((K3.out.trans (Kp.alloc _ _)).trans (Kp.alloc _ _)).trans (Kp.alloc _ _) | with_reducible exact K3.out.trans (Kp.drew _) | with_reducible exact K3.out.trans (Kp.drewN _ _)))).mono ?_
  rintro e w4 ⟨rfl, kk⟩
  have K4 := Lib.hid ((show Kp w3 _ from (by first | with_reducible exact K3.out | with_reducible exact K3.out.trans (Kp.alloc _ _) | with_reducible exact (K3.out.trans (Kp.alloc _ _)).trans (Kp.alloc _ _) | with_reducible exact ((K3.out.trans (Kp.alloc _ _)).trans (Kp.alloc _ _)).trans (Kp.alloc _ _) | with_reducible exact K3.out.trans (Kp.drew _) | with_reducible exact K3.out.trans (Kp.drewN _ _))).trans kk)
  clear kk
  clear c0 c1 c2 c3 c4 c5 c6 c7
  obtain ⟨c0, c1, c2, c3, c4, c5, c6, c7⟩ := HB.out w4 K4.out
  go_wp2_with fail
  refine (SN.out _ (K00.out.trans (by first | with_reducible exact K4.out | with_reducible exact K4.out.trans (Kp.alloc _ _) | with_reducible exact (K4.out.trans (Kp.alloc _ _)).trans (Kp.alloc _ _) | with_reducible exact ((K4.out.trans (Kp.alloc _ _)).trans (Kp.alloc _ _)).trans (Kp.alloc _ _) | with_reducible exact K4.out.trans (Kp.drew _) | with_reducible exact K4.out.trans (Kp.drewN _ _)))).mono ?_
  rintro e w5 ⟨rfl, kk⟩
  have K5 := Lib.hid ((show Kp w3 _ from (by first | with_reducible exact K4.out | with_reducible exact K4.out.trans (Kp.alloc _ _) | with_reducible exact (K4.out.trans (Kp.alloc _ _)).trans (Kp.alloc _ _) | with_reducible exact ((K4.out.trans (Kp.alloc _ _)).trans (Kp.alloc _ _)).trans (Kp.alloc _ _) | with_reducible exact K4.out.trans (Kp.drew _) | with_reducible exact K4.out.trans (Kp.drewN _ _))).trans kk)
  clear kk
  clear c0 c1 c2 c3 c4 c5 c6 c7
  obtain ⟨c0, c1, c2, c3, c4, c5, c6, c7⟩ := HB.out w5 K5.out
  obtain ⟨i0, hi, hz0, hz1, hz2⟩ := info_parts infoNode
  clear c0 c1 c2 c3 c4 c5 c6 c7
  go_wp2
  go_loopw [5, 6] (fun s i ws => ∃ (j : Nat) (ms : List NV), j ≤ l.length ∧ i = .int .i64 j ∧ Hid (ms.map Prod.fst = (l.take j).map canN) ∧ Hid (EachR w5 ws s ms) ∧ Hid (ws.ownsRow w5.heap.size 26 8 s ms.length (cellsN ms)) ∧ Hid (Kp w5 ws)) (fun _ i _ => l.length - (intOf i).toNat)
  case atStart => exact ⟨0, [], Nat.zero_le _, rfl, Lib.hid (by rw [List.take_zero]; rfl), Lib.hid (fun p hp => by cases hp), Lib.hid (World.ownsRow_nil _ _ _ _), Lib.hid (Kp.refl w5)⟩
  case round =>
    obtain ⟨j, ms, hj, rfl, MJ, RJ, OJ, KJ⟩ := hrel
    obtain ⟨sad, scp, rfl⟩ := own_slice8 OJ.out
    have NL := Lib.hid (show ms.length = j by have a := congrArg List.length MJ.out; rw [List.length_map, List.length_map, List.length_take] at a; omega)
    by_cases hlt : j < l.length
    · have kw5 : Kp W0 w5 := K00.out.trans K5.out
      obtain ⟨bk, off, vi, eva, hrow, hsub⟩ := (HLW.out.kp kw5).get hlt
      subst eva
      have hrow := hrow.kp KJ.out
      have IX := CE.out (nth l j) vi w5 wr hsub KJ.out kw5
      rw [canF_yes (SA.out j hlt)] at IX
      have tk := TK.out j hlt
      obtain ⟨x, hx⟩ : ∃ x, nth l j = x := ⟨_, rfl⟩
      rw [hx] at hrow hsub IX tk
      obtain ⟨c, hcx⟩ : ∃ c, canN x = c := ⟨_, rfl⟩
      rw [hcx] at IX tk
      have TJ := Lib.hid tk
      clear tk hx hcx kw5
      obtain ⟨k1, pk1, y1, m1, s1, a1, t1, l1', rfl⟩ := nd_dest x
      obtain ⟨k2, pk2, y2, m2, s2, a2, t2, l2, rfl⟩ := nd_dest c
      unfold RowN at hrow
      simp only [ND.k, ND.p, ND.a, ND.t, ND.l] at hrow hsub
      obtain ⟨ad1, cp1, rfl⟩ := hsub.slice
      (try unfold ndV at IX)
      (try simp only [ND.k, ND.p, ND.a, ND.t, ND.l] at IX)
      (try dsimp only at IX)
      obtain ⟨n1, hn1⟩ : ∃ n, l1'.length = n := ⟨_, rfl⟩
      rw [hn1] at hrow IX
      obtain ⟨e0, e1, e2, e3, e4, e5, e6, e7⟩ := hrow
      have IXH := Lib.hid IX
      have z1 : (j : Int) < (l.length : Int) := by omega
      have z3 : (0 : Int) ≤ (j : Int) := by omega
      have HLT := Lib.hid hlt
      have hbk := World.block_lt_of_cell? _ _ e0
      simp only at hbk
      have LTJ := Lib.hid (fun q (hq : (Value.slice sad ms.length scp).ownBlock = some q) => (OJ.out.lt q hq).2)
      clear hsub IX hn1
      go_wp2_with fail
      refine IXH.out.mono ?_
      rintro e w8 ⟨v8, rfl, hc8, k8⟩
      obtain ⟨ad8, n8, cp8, hv8⟩ : ∃ ad n cp, v8 = .slice ad n cp := by obtain ⟨a, b, e⟩ := (hc8.nodes (KJ.out.trans k8)).slice; exact ⟨a, _, b, e⟩
      subst hv8
      have kv := Kp.alloc w8 (.cells #[.int .i64 k2, .int .i64 pk2, .string y2, .string m2, .string s2, .bool a2, .bool t2, .slice ad8 n8 cp8] 26)
      have HC9 := Lib.hid (hc8.kp kv)
      have K9 := Lib.hid (KJ.out.trans (k8.trans kv))
      have O9 := Lib.hid (own_kp OJ.out (k8.trans kv))
      have E9 := Lib.hid (RJ.out.go (k8.trans kv))
      have BJ := Lib.hid (Below.size KJ.out)
      have SR9 := Lib.hid (one_srcN (w := w8) rfl (.mk k2 ⟨pk2, y2, m2, s2⟩ a2 t2 l2) (.slice ad8 n8 cp8) 26)
      simp only [ND.k, ND.p, ND.a, ND.t] at SR9
      have L9 := Lib.hid (cellsN_length [((.mk k2 ⟨pk2, y2, m2, s2⟩ a2 t2 l2 : ND), Value.slice ad8 n8 cp8)])
      have ONE9 := Lib.hid (cellsN_one (w := w8) (show ReadsN w8 [((.mk k2 ⟨pk2, y2, m2, s2⟩ a2 t2 l2 : ND), Value.slice ad8 n8 cp8)] from fun p hp => by rw [List.mem_singleton.1 hp]; exact hc8.nodes (KJ.out.trans k8)))
      clear hc8 k8 e0 e1 e2 e3 e4 e5 e6 e7 kv
      go_wp2_with (at_builtin; refine Hid.out ?_)
      refine Lib.hid ?_
      refine wpList_app rfl (.tmp 32) (.tmp 38) 24 rfl w5.heap.size 26 i0 (.agg #[.int .i64 0, .int .i64 0, .string ⟨#[]⟩, .string ⟨#[]⟩, .string ⟨#[]⟩, .bool false, .bool false, .slice none 0 0]) 8 96 Tryd.underlying24 hi hz0 hz1 hz2 rfl (by decide) _ _ _ rfl O9.out _ _ _ rfl SR9.out L9.out ONE9.out (by have a := NL.out; unfold maxLen; omega) (by have a := NL.out; omega) (Below.size K9.out) ?_
      intro va wa owna growa ata
      have KE := Lib.hid (K9.out.grown growa (fun j hj => (O9.out.lt j hj).1))
      have EE := Lib.hid (E9.out.add HC9.out BJ.out LTJ.out growa ata)
      have O8 := Lib.hid owna
      clear growa ata owna
      go_wp2
      go_roundw
      case rel => exact ⟨j + 1, _, HLT.out, by go_num, Lib.hid (by rw [List.map_append, MJ.out, TJ.out]; rfl), EE, Lib.hid (by rw [List.length_append, cellsN_append]; exact O8.out), KE⟩
      case measure => have := HLT.out; simp [intOf]; omega
    · obtain rfl : j = l.length := by omega
      have mj := MJ.out
      rw [TL.out] at mj
      have nw := nodesAt_own OJ.out (RJ.out.reads KJ.out)
      rw [mj, NL.out] at nw
      have NW := Lib.hid nw
      have KR := Lib.hid (K5.out.trans KJ.out)
      rw [NL.out]
      clear mj nw
      obtain ⟨c0, c1, c2, c3, c4, c5, c6, c7⟩ := HB.out wr KR.out
      go_wp2_with fail
      refine (CN.out _ (K00.out.trans KR.out)).mono ?_
      rintro e w6 ⟨v6, rfl, hn6, kk⟩
      have K6 := Lib.hid (KR.out.trans kk)
      have NW6 := Lib.hid (NW.out.kp kk)
      have NV6 := Lib.hid hn6
      obtain ⟨ad6, cp6, rfl⟩ := hn6.slice
      clear kk hn6 c0 c1 c2 c3 c4 c5 c6 c7
      obtain ⟨c0, c1, c2, c3, c4, c5, c6, c7⟩ := HB.out w6 K6.out
      obtain ⟨w7, hV⟩ : ∃ x, x = w6.alloc (.cells #[.int .i64 k0, .int .i64 pk0, .string y0, .string m0, .string s0, .bool a0, .bool t0, .slice ad6 r0.length cp6] 26) := ⟨_, rfl⟩
      have ka : Kp w6 w7 := by rw [hV]; exact Kp.alloc _ _
      have hgq : w7.heap[w6.heap.size]? = some (.cells #[.int .i64 k0, .int .i64 pk0, .string y0, .string m0, .string s0, .bool a0, .bool t0, .slice ad6 r0.length cp6] 26 (0, 0)) := by rw [hV]; exact heap_at _ _ _ rfl
      have q0 : w7.cell? ⟨w6.heap.size, 0, none⟩ = some (.int .i64 k0) := by simp [World.cell?, hgq]
      have q1 : w7.cell? ⟨w6.heap.size, 1, none⟩ = some (.int .i64 pk0) := by simp [World.cell?, hgq]
      have q2 : w7.cell? ⟨w6.heap.size, 2, none⟩ = some (.string y0) := by simp [World.cell?, hgq]
      have q3 : w7.cell? ⟨w6.heap.size, 3, none⟩ = some (.string m0) := by simp [World.cell?, hgq]
      have q4 : w7.cell? ⟨w6.heap.size, 4, none⟩ = some (.string s0) := by simp [World.cell?, hgq]
      have q5 : w7.cell? ⟨w6.heap.size, 5, none⟩ = some (.bool a0) := by simp [World.cell?, hgq]
      have q6 : w7.cell? ⟨w6.heap.size, 6, none⟩ = some (.bool t0) := by simp [World.cell?, hgq]
      have q7 : w7.cell? ⟨w6.heap.size, 7, none⟩ = some (.slice ad6 r0.length cp6) := by simp [World.cell?, hgq]
      have HB2 := Lib.hid (fun w1 (k : Kp w7 w1) => show w1.cell? ⟨w2.heap.size, 0, none⟩ = some (.int .i64 2) ∧ w1.cell? ⟨w2.heap.size, 1, none⟩ = some (.int .i64 0) ∧ w1.cell? ⟨w2.heap.size, 2, none⟩ = some (.string ⟨#[]⟩) ∧ w1.cell? ⟨w2.heap.size, 3, none⟩ = some (.string ⟨#[]⟩) ∧ w1.cell? ⟨w2.heap.size, 4, none⟩ = some (.string ⟨#[]⟩) ∧ w1.cell? ⟨w2.heap.size, 5, none⟩ = some (.bool false) ∧ w1.cell? ⟨w2.heap.size, 6, none⟩ = some (.bool false) ∧ w1.cell? ⟨w2.heap.size, 7, none⟩ = some (.slice adl l.length cal) ∧ w1.cell? ⟨w6.heap.size, 0, none⟩ = some (.int .i64 k0) ∧ w1.cell? ⟨w6.heap.size, 1, none⟩ = some (.int .i64 pk0) ∧ w1.cell? ⟨w6.heap.size, 2, none⟩ = some (.string y0) ∧ w1.cell? ⟨w6.heap.size, 3, none⟩ = some (.string m0) ∧ w1.cell? ⟨w6.heap.size, 4, none⟩ = some (.string s0) ∧ w1.cell? ⟨w6.heap.size, 5, none⟩ = some (.bool a0) ∧ w1.cell? ⟨w6.heap.size, 6, none⟩ = some (.bool t0) ∧ w1.cell? ⟨w6.heap.size, 7, none⟩ = some (.slice ad6 r0.length cp6) from ⟨(HB.out w1 (K6.out.trans (ka.trans k))).1, (HB.out w1 (K6.out.trans (ka.trans k))).2.1, (HB.out w1 (K6.out.trans (ka.trans k))).2.2.1, (HB.out w1 (K6.out.trans (ka.trans k))).2.2.2.1, (HB.out w1 (K6.out.trans (ka.trans k))).2.2.2.2.1, (HB.out w1 (K6.out.trans (ka.trans k))).2.2.2.2.2.1, (HB.out w1 (K6.out.trans (ka.trans k))).2.2.2.2.2.2.1, (HB.out w1 (K6.out.trans (ka.trans k))).2.2.2.2.2.2.2, cell_up k q0, cell_up k q1, cell_up k q2, cell_up k q3, cell_up k q4, cell_up k q5, cell_up k q6, cell_up k q7⟩)
      have K01 := Lib.hid (K00.out.trans (K6.out.trans ka))
      have NW7 := Lib.hid (NW6.out.kp ka)
      have NV7 := Lib.hid (NV6.out.kp ka)
      clear HB K00 hgq c0 c1 c2 c3 c4 c5 c6 c7 q0 q1 q2 q3 q4 q5 q6 q7
      have HB := HB2
      have K00 := K01
      clear HB2 K01
      have K7 := Lib.hid (Kp.refl w7)
      have Hw7 := Lib.hid hV
      clear hV ka
      go_wp2_with fail
      rw [← Hw7.out]
      obtain ⟨c0, c1, c2, c3, c4, c5, c6, c7, c8, c9, c10, c11, c12, c13, c14, c15⟩ := HB.out w7 (Kp.refl _)
      have HL7 := Lib.hid (HLW.out.kp K00.out)
      obtain ⟨b0, o0, v0, ev0, hrow, hsub⟩ := HL7.out.get (i := 0) l1
      subst ev0
      have z9 : (0 : Int) < (l.length : Int) := by omega
      have z8 : 0 < l.length := l1
      have H2M := Lib.hid (fun W (kk : Kp w7 W) b g => H2N.out W v0 (hsub.kp kk) (some ⟨b0, o0, none⟩) cal (HL7.out.kp kk) b g)
      clear H2N
      generalize nth l 0 = x at *
      obtain ⟨k1, pk1, y1, m1, s1, a1, t1, l1', rfl⟩ := nd_dest x
      obtain ⟨ad1, cp1, rfl⟩ := hsub.slice
      unfold RowN at hrow
      simp only [ND.k, ND.p, ND.a, ND.t, ND.l, Nat.zero_mul, Nat.add_zero] at hrow
      (try simp only [ND.k, ND.p, ND.a, ND.t, ND.l] at H2M)
      (try dsimp only at H2M)
      obtain ⟨n1, hn1⟩ : ∃ n, l1'.length = n := ⟨_, rfl⟩
      rw [hn1] at hrow H2M
      obtain ⟨e0, e1, e2, e3, e4, e5, e6, e7⟩ := hrow
      clear hsub hn1
      have KS := Lib.hid (fun w' (kq : Kp w7 w') => show w'.cell? ⟨w2.heap.size, 0, none⟩ = some (.int .i64 2) ∧ w'.cell? ⟨w2.heap.size, 1, none⟩ = some (.int .i64 0) ∧ w'.cell? ⟨w2.heap.size, 2, none⟩ = some (.string ⟨#[]⟩) ∧ w'.cell? ⟨w2.heap.size, 3, none⟩ = some (.string ⟨#[]⟩) ∧ w'.cell? ⟨w2.heap.size, 4, none⟩ = some (.string ⟨#[]⟩) ∧ w'.cell? ⟨w2.heap.size, 5, none⟩ = some (.bool false) ∧ w'.cell? ⟨w2.heap.size, 6, none⟩ = some (.bool false) ∧ w'.cell? ⟨w2.heap.size, 7, none⟩ = some (.slice (some ⟨b0, o0, none⟩) l.length cal) ∧ w'.cell? ⟨w6.heap.size, 0, none⟩ = some (.int .i64 k0) ∧ w'.cell? ⟨w6.heap.size, 1, none⟩ = some (.int .i64 pk0) ∧ w'.cell? ⟨w6.heap.size, 2, none⟩ = some (.string y0) ∧ w'.cell? ⟨w6.heap.size, 3, none⟩ = some (.string m0) ∧ w'.cell? ⟨w6.heap.size, 4, none⟩ = some (.string s0) ∧ w'.cell? ⟨w6.heap.size, 5, none⟩ = some (.bool a0) ∧ w'.cell? ⟨w6.heap.size, 6, none⟩ = some (.bool t0) ∧ w'.cell? ⟨w6.heap.size, 7, none⟩ = some (.slice ad6 r0.length cp6) ∧ w'.cell? ⟨b0, o0, none⟩ = some (.int .i64 k1) ∧ w'.cell? ⟨b0, o0 + 1, none⟩ = some (.int .i64 pk1) ∧ w'.cell? ⟨b0, o0 + 2, none⟩ = some (.string y1) ∧ w'.cell? ⟨b0, o0 + 3, none⟩ = some (.string m1) ∧ w'.cell? ⟨b0, o0 + 4, none⟩ = some (.string s1) ∧ w'.cell? ⟨b0, o0 + 5, none⟩ = some (.bool a1) ∧ w'.cell? ⟨b0, o0 + 6, none⟩ = some (.bool t1) ∧ w'.cell? ⟨b0, o0 + 7, none⟩ = some (.slice ad1 n1 cp1) ∧ Kp w7 w' from ⟨(HB.out w' kq).1, (HB.out w' kq).2.1, (HB.out w' kq).2.2.1, (HB.out w' kq).2.2.2.1, (HB.out w' kq).2.2.2.2.1, (HB.out w' kq).2.2.2.2.2.1, (HB.out w' kq).2.2.2.2.2.2.1, (HB.out w' kq).2.2.2.2.2.2.2.1, (HB.out w' kq).2.2.2.2.2.2.2.2.1, (HB.out w' kq).2.2.2.2.2.2.2.2.2.1, (HB.out w' kq).2.2.2.2.2.2.2.2.2.2.1, (HB.out w' kq).2.2.2.2.2.2.2.2.2.2.2.1, (HB.out w' kq).2.2.2.2.2.2.2.2.2.2.2.2.1, (HB.out w' kq).2.2.2.2.2.2.2.2.2.2.2.2.2.1, (HB.out w' kq).2.2.2.2.2.2.2.2.2.2.2.2.2.2.1, (HB.out w' kq).2.2.2.2.2.2.2.2.2.2.2.2.2.2.2, cell_up kq e0, cell_up kq e1, cell_up kq e2, cell_up kq e3, cell_up kq e4, cell_up kq e5, cell_up kq e6, cell_up kq e7, kq⟩)
      have k77 : Kp w7 w7 := Kp.refl _
      (try go_wp2_with fail)
      refine wp_region_held_drew (S := fun w' => w'.cell? ⟨w2.heap.size, 0, none⟩ = some (.int .i64 2) ∧ w'.cell? ⟨w2.heap.size, 1, none⟩ = some (.int .i64 0) ∧ w'.cell? ⟨w2.heap.size, 2, none⟩ = some (.string ⟨#[]⟩) ∧ w'.cell? ⟨w2.heap.size, 3, none⟩ = some (.string ⟨#[]⟩) ∧ w'.cell? ⟨w2.heap.size, 4, none⟩ = some (.string ⟨#[]⟩) ∧ w'.cell? ⟨w2.heap.size, 5, none⟩ = some (.bool false) ∧ w'.cell? ⟨w2.heap.size, 6, none⟩ = some (.bool false) ∧ w'.cell? ⟨w2.heap.size, 7, none⟩ = some (.slice (some ⟨b0, o0, none⟩) l.length cal) ∧ w'.cell? ⟨w6.heap.size, 0, none⟩ = some (.int .i64 k0) ∧ w'.cell? ⟨w6.heap.size, 1, none⟩ = some (.int .i64 pk0) ∧ w'.cell? ⟨w6.heap.size, 2, none⟩ = some (.string y0) ∧ w'.cell? ⟨w6.heap.size, 3, none⟩ = some (.string m0) ∧ w'.cell? ⟨w6.heap.size, 4, none⟩ = some (.string s0) ∧ w'.cell? ⟨w6.heap.size, 5, none⟩ = some (.bool a0) ∧ w'.cell? ⟨w6.heap.size, 6, none⟩ = some (.bool t0) ∧ w'.cell? ⟨w6.heap.size, 7, none⟩ = some (.slice ad6 r0.length cp6) ∧ w'.cell? ⟨b0, o0, none⟩ = some (.int .i64 k1) ∧ w'.cell? ⟨b0, o0 + 1, none⟩ = some (.int .i64 pk1) ∧ w'.cell? ⟨b0, o0 + 2, none⟩ = some (.string y1) ∧ w'.cell? ⟨b0, o0 + 3, none⟩ = some (.string m1) ∧ w'.cell? ⟨b0, o0 + 4, none⟩ = some (.string s1) ∧ w'.cell? ⟨b0, o0 + 5, none⟩ = some (.bool a1) ∧ w'.cell? ⟨b0, o0 + 6, none⟩ = some (.bool t1) ∧ w'.cell? ⟨b0, o0 + 7, none⟩ = some (.slice ad1 n1 cp1) ∧ Kp w7 w') (by kernel_rfl) ?_ (fun hHeld0 => ?_)
      · (try dsimp only); exact KS.out _ (by first | with_reducible exact k77 | ((repeat (first | with_reducible refine Kp.trans ?_ (Kp.drew _) | with_reducible refine Kp.trans ?_ (Kp.alloc _ _))); with_reducible exact k77))
      refine tkW (v := ?_) 0 moA0 rfl (by kernel_rfl) (by kernel_rfl) (by kernel_rfl) (fun _ _ _ h => h) (by rfl) ?_ (by assumption) ?_
      rotate_left
      · intro w hSw; (try dsimp only at hSw); go_simp; (try with_reducible rfl)
      (try simp only [Act.put, moA0, List.setIfInBounds_toArray, List.set_cons_zero, List.set_cons_succ])
      refine tkW (v := ?_) 1 moA1 rfl (by kernel_rfl) (by kernel_rfl) (by kernel_rfl) (fun _ _ _ h => h) (by rfl) ?_ (by assumption) ?_
      rotate_left
      · intro w hSw; (try dsimp only at hSw); go_simp; (try with_reducible rfl)
      (try simp only [Act.put, moA1, List.setIfInBounds_toArray, List.set_cons_zero, List.set_cons_succ])
      refine tkW (v := ?_) 2 moA2 rfl (by kernel_rfl) (by kernel_rfl) (by kernel_rfl) (fun _ _ _ h => h) (by rfl) ?_ (by assumption) ?_
      rotate_left
      · intro w hSw; (try dsimp only at hSw); go_simp; (try with_reducible rfl)
      (try simp only [Act.put, moA2, List.setIfInBounds_toArray, List.set_cons_zero, List.set_cons_succ])
      refine tkW (v := ?_) 3 moA3 rfl (by kernel_rfl) (by kernel_rfl) (by kernel_rfl) (fun _ _ _ h => h) (by rfl) ?_ (by assumption) ?_
      rotate_left
      · intro w hSw; (try dsimp only at hSw); go_simp; (try with_reducible rfl)
      (try simp only [Act.put, moA3, List.setIfInBounds_toArray, List.set_cons_zero, List.set_cons_succ])
      refine tkE2 4 6 moA4 moA6 rfl rfl (by kernel_rfl) (fun K hK => ?_) (fun K hK => ?_)
      · go_simp
        skip
        (try go_wp2_with fail)
        refine hK.out _ _ ?_ (fun hHeld1 => ?_)
        · (try dsimp only); exact KS.out _ (by first | with_reducible exact k77 | ((repeat (first | with_reducible refine Kp.trans ?_ (Kp.drew _) | with_reducible refine Kp.trans ?_ (Kp.alloc _ _))); with_reducible exact k77))
        clear hK K hHeld0
        (try simp only [Act.put, moA4, List.setIfInBounds_toArray, List.set_cons_zero, List.set_cons_succ])
        refine tkE2 5 6 moA5 moA6 rfl rfl (by kernel_rfl) (fun K hK => ?_) (fun K hK => ?_)
        · go_simp
          (refine (OT.out _ _ _).mono ?_; rintro e wo ⟨rfl, kq1⟩; have gR : wo.heap[w7.heap.size]? = some (.cells #[.int .i64 k1, .int .i64 pk1, .string y1, .string m1, .string s1, .bool a1, .bool t1, .slice ad1 n1 cp1, .int .i64 2, .int .i64 0, .string ⟨#[]⟩, .string ⟨#[]⟩, .string ⟨#[]⟩, .bool false, .bool false, .slice (some ⟨b0, o0, none⟩) l.length cal] 26 (0, 0)) := heap_block kq1 (by (repeat (first | with_reducible exact heap_at _ _ _ (by first | rfl | simp) | with_reducible refine heap_block (Kp.drew _) ?_ | with_reducible refine heap_block (Kp.alloc _ _) ?_))); have kwo : Kp w7 wo := Kp.trans (show Kp w7 _ from (by first | with_reducible exact k77 | ((repeat (first | with_reducible refine Kp.trans ?_ (Kp.drew _) | with_reducible refine Kp.trans ?_ (Kp.alloc _ _))); with_reducible exact k77))) kq1; clear kq1)
          (try go_wp2_with fail)
          refine hK.out _ _ ?_ (fun hHeld2 => ?_)
          · (try dsimp only); exact KS.out _ (by first | with_reducible exact kwo | ((repeat (first | with_reducible refine Kp.trans ?_ (Kp.drew _) | with_reducible refine Kp.trans ?_ (Kp.alloc _ _))); with_reducible exact kwo))
          clear hK K hHeld1
          (try simp only [Act.put, moA5, List.setIfInBounds_toArray, List.set_cons_zero, List.set_cons_succ])
          refine tkE 6 moA6 rfl (by kernel_rfl) (fun K hK => ?_)
          go_simp
          skip
          (try go_wp2_with fail)
          refine hK.out _ _ ?_ (fun hHeld3 => ?_)
          · (try dsimp only); exact KS.out _ (by first | with_reducible exact kwo | ((repeat (first | with_reducible refine Kp.trans ?_ (Kp.drew _) | with_reducible refine Kp.trans ?_ (Kp.alloc _ _))); with_reducible exact kwo))
          clear hK K hHeld2
          (try simp only [Act.put, moA6, List.setIfInBounds_toArray, List.set_cons_zero, List.set_cons_succ])
          refine tkE 7 moA7 rfl (by kernel_rfl) (fun K hK => ?_)
          (obtain ⟨F, hF⟩ : ∃ x, x = wo.alloc (.cells #[.int .i64 2, .int .i64 0, .string ⟨#[]⟩, .string ⟨#[]⟩, .string ⟨#[]⟩, .bool false, .bool false, .slice (some ⟨w7.heap.size, 0, none⟩) 2 2] 26) := ⟨_, rfl⟩; have kf : Kp wo F := (by rw [hF]; exact Kp.alloc _ _); have kF : Kp w7 F := kwo.trans kf; have gF : F.heap[wo.heap.size]? = some (.cells #[.int .i64 2, .int .i64 0, .string ⟨#[]⟩, .string ⟨#[]⟩, .string ⟨#[]⟩, .bool false, .bool false, .slice (some ⟨w7.heap.size, 0, none⟩) 2 2] 26 (0, 0)) := (by rw [hF]; exact heap_at _ _ _ rfl); have NT := Lib.hid (H2M.out F kF _ (heap_block kf gR)); have HF := Lib.hid hF; clear hF kf)
          (try go_wp2_with fail)
          refine hK.out _ _ ?_ (fun hHeld4 => ?_)
          · (try dsimp only); (try rw [← HF.out]); exact KS.out _ (by first | with_reducible exact kF | ((repeat (first | with_reducible refine Kp.trans ?_ (Kp.drew _) | with_reducible refine Kp.trans ?_ (Kp.alloc _ _))); with_reducible exact kF))
          clear hK K hHeld3
          (try simp only [Act.put, moA7, List.setIfInBounds_toArray, List.set_cons_zero, List.set_cons_succ])
          refine wpAnyH_done (by kernel_rfl) ?_ _
          rw [← HF.out]
          have kf0 : Kp F F := Kp.refl _
          have NWF := Lib.hid (NW7.out.kp kF)
          have NVF := Lib.hid (NV7.out.kp kF)
          have KF := Lib.hid (K00.out.trans kF)
          have KT := Lib.hid (fun w' (kq : Kp F w') => show w'.cell? ⟨wo.heap.size, 0, none⟩ = some (.int .i64 2) ∧ w'.cell? ⟨wo.heap.size, 1, none⟩ = some (.int .i64 0) ∧ w'.cell? ⟨wo.heap.size, 2, none⟩ = some (.string ⟨#[]⟩) ∧ w'.cell? ⟨wo.heap.size, 3, none⟩ = some (.string ⟨#[]⟩) ∧ w'.cell? ⟨wo.heap.size, 4, none⟩ = some (.string ⟨#[]⟩) ∧ w'.cell? ⟨wo.heap.size, 5, none⟩ = some (.bool false) ∧ w'.cell? ⟨wo.heap.size, 6, none⟩ = some (.bool false) ∧ w'.cell? ⟨wo.heap.size, 7, none⟩ = some (.slice (some ⟨w7.heap.size, 0, none⟩) 2 2) ∧ w'.cell? ⟨w2.heap.size, 0, none⟩ = some (.int .i64 2) ∧ w'.cell? ⟨w2.heap.size, 1, none⟩ = some (.int .i64 0) ∧ w'.cell? ⟨w2.heap.size, 2, none⟩ = some (.string ⟨#[]⟩) ∧ w'.cell? ⟨w2.heap.size, 3, none⟩ = some (.string ⟨#[]⟩) ∧ w'.cell? ⟨w2.heap.size, 4, none⟩ = some (.string ⟨#[]⟩) ∧ w'.cell? ⟨w2.heap.size, 5, none⟩ = some (.bool false) ∧ w'.cell? ⟨w2.heap.size, 6, none⟩ = some (.bool false) ∧ w'.cell? ⟨w2.heap.size, 7, none⟩ = some (.slice (some ⟨b0, o0, none⟩) l.length cal) ∧ w'.cell? ⟨w6.heap.size, 0, none⟩ = some (.int .i64 k0) ∧ w'.cell? ⟨w6.heap.size, 1, none⟩ = some (.int .i64 pk0) ∧ w'.cell? ⟨w6.heap.size, 2, none⟩ = some (.string y0) ∧ w'.cell? ⟨w6.heap.size, 3, none⟩ = some (.string m0) ∧ w'.cell? ⟨w6.heap.size, 4, none⟩ = some (.string s0) ∧ w'.cell? ⟨w6.heap.size, 5, none⟩ = some (.bool a0) ∧ w'.cell? ⟨w6.heap.size, 6, none⟩ = some (.bool t0) ∧ w'.cell? ⟨w6.heap.size, 7, none⟩ = some (.slice ad6 r0.length cp6) ∧ Kp F w' from ⟨(row8 (heap_block kq gF)).1, (row8 (heap_block kq gF)).2.1, (row8 (heap_block kq gF)).2.2.1, (row8 (heap_block kq gF)).2.2.2.1, (row8 (heap_block kq gF)).2.2.2.2.1, (row8 (heap_block kq gF)).2.2.2.2.2.1, (row8 (heap_block kq gF)).2.2.2.2.2.2.1, (row8 (heap_block kq gF)).2.2.2.2.2.2.2, (HB.out w' (kF.trans kq)).1, (HB.out w' (kF.trans kq)).2.1, (HB.out w' (kF.trans kq)).2.2.1, (HB.out w' (kF.trans kq)).2.2.2.1, (HB.out w' (kF.trans kq)).2.2.2.2.1, (HB.out w' (kF.trans kq)).2.2.2.2.2.1, (HB.out w' (kF.trans kq)).2.2.2.2.2.2.1, (HB.out w' (kF.trans kq)).2.2.2.2.2.2.2.1, (HB.out w' (kF.trans kq)).2.2.2.2.2.2.2.2.1, (HB.out w' (kF.trans kq)).2.2.2.2.2.2.2.2.2.1, (HB.out w' (kF.trans kq)).2.2.2.2.2.2.2.2.2.2.1, (HB.out w' (kF.trans kq)).2.2.2.2.2.2.2.2.2.2.2.1, (HB.out w' (kF.trans kq)).2.2.2.2.2.2.2.2.2.2.2.2.1, (HB.out w' (kF.trans kq)).2.2.2.2.2.2.2.2.2.2.2.2.2.1, (HB.out w' (kF.trans kq)).2.2.2.2.2.2.2.2.2.2.2.2.2.2.1, (HB.out w' (kF.trans kq)).2.2.2.2.2.2.2.2.2.2.2.2.2.2.2, kq⟩)
          clear gF kF
          (try go_wp2_with fail)
          refine wp_region_held_drew (S := fun w' => w'.cell? ⟨wo.heap.size, 0, none⟩ = some (.int .i64 2) ∧ w'.cell? ⟨wo.heap.size, 1, none⟩ = some (.int .i64 0) ∧ w'.cell? ⟨wo.heap.size, 2, none⟩ = some (.string ⟨#[]⟩) ∧ w'.cell? ⟨wo.heap.size, 3, none⟩ = some (.string ⟨#[]⟩) ∧ w'.cell? ⟨wo.heap.size, 4, none⟩ = some (.string ⟨#[]⟩) ∧ w'.cell? ⟨wo.heap.size, 5, none⟩ = some (.bool false) ∧ w'.cell? ⟨wo.heap.size, 6, none⟩ = some (.bool false) ∧ w'.cell? ⟨wo.heap.size, 7, none⟩ = some (.slice (some ⟨w7.heap.size, 0, none⟩) 2 2) ∧ w'.cell? ⟨w2.heap.size, 0, none⟩ = some (.int .i64 2) ∧ w'.cell? ⟨w2.heap.size, 1, none⟩ = some (.int .i64 0) ∧ w'.cell? ⟨w2.heap.size, 2, none⟩ = some (.string ⟨#[]⟩) ∧ w'.cell? ⟨w2.heap.size, 3, none⟩ = some (.string ⟨#[]⟩) ∧ w'.cell? ⟨w2.heap.size, 4, none⟩ = some (.string ⟨#[]⟩) ∧ w'.cell? ⟨w2.heap.size, 5, none⟩ = some (.bool false) ∧ w'.cell? ⟨w2.heap.size, 6, none⟩ = some (.bool false) ∧ w'.cell? ⟨w2.heap.size, 7, none⟩ = some (.slice (some ⟨b0, o0, none⟩) l.length cal) ∧ w'.cell? ⟨w6.heap.size, 0, none⟩ = some (.int .i64 k0) ∧ w'.cell? ⟨w6.heap.size, 1, none⟩ = some (.int .i64 pk0) ∧ w'.cell? ⟨w6.heap.size, 2, none⟩ = some (.string y0) ∧ w'.cell? ⟨w6.heap.size, 3, none⟩ = some (.string m0) ∧ w'.cell? ⟨w6.heap.size, 4, none⟩ = some (.string s0) ∧ w'.cell? ⟨w6.heap.size, 5, none⟩ = some (.bool a0) ∧ w'.cell? ⟨w6.heap.size, 6, none⟩ = some (.bool t0) ∧ w'.cell? ⟨w6.heap.size, 7, none⟩ = some (.slice ad6 r0.length cp6) ∧ Kp F w') (by kernel_rfl) ?_ (fun hHeld0 => ?_)
          · (try dsimp only); exact KT.out _ (by first | with_reducible exact kf0 | ((repeat (first | with_reducible refine Kp.trans ?_ (Kp.drew _) | with_reducible refine Kp.trans ?_ (Kp.alloc _ _))); with_reducible exact kf0))
          refine tkW (v := ?_) 0 moB0 rfl (by kernel_rfl) (by kernel_rfl) (by kernel_rfl) (fun _ _ _ h => h) (by rfl) ?_ (by assumption) ?_
          rotate_left
          · intro w hSw; (try dsimp only at hSw); go_simp; (try with_reducible rfl)
          (try simp only [Act.put, moB0, List.setIfInBounds_toArray, List.set_cons_zero, List.set_cons_succ])
          refine tkW (v := ?_) 1 moB1 rfl (by kernel_rfl) (by kernel_rfl) (by kernel_rfl) (fun _ _ _ h => h) (by rfl) ?_ (by assumption) ?_
          rotate_left
          · intro w hSw; (try dsimp only at hSw); go_simp; (try with_reducible rfl)
          (try simp only [Act.put, moB1, List.setIfInBounds_toArray, List.set_cons_zero, List.set_cons_succ])
          refine tkW (v := ?_) 2 moB2 rfl (by kernel_rfl) (by kernel_rfl) (by kernel_rfl) (fun _ _ _ h => h) (by rfl) ?_ (by assumption) ?_
          rotate_left
          · intro w hSw; (try dsimp only at hSw); go_simp; (try with_reducible rfl)
          (try simp only [Act.put, moB2, List.setIfInBounds_toArray, List.set_cons_zero, List.set_cons_succ])
          refine tkW (v := ?_) 5 moB5 rfl (by kernel_rfl) (by kernel_rfl) (by kernel_rfl) (fun _ _ _ h => h) (by rfl) ?_ (by assumption) ?_
          rotate_left
          · intro w hSw; (try dsimp only at hSw); go_simp; (try with_reducible rfl)
          (try simp only [Act.put, moB5, List.setIfInBounds_toArray, List.set_cons_zero, List.set_cons_succ])
          refine tkE 3 moB3 rfl (by kernel_rfl) (fun K hK => ?_)
          go_simp
          (refine (OE.out _ _ _).mono ?_; rintro e wp ⟨rfl, kq1⟩; have kwp : Kp F _ := Kp.trans (show Kp F _ from (by first | with_reducible exact kf0 | ((repeat (first | with_reducible refine Kp.trans ?_ (Kp.drew _) | with_reducible refine Kp.trans ?_ (Kp.alloc _ _))); with_reducible exact kf0))) kq1; clear kq1)
          (try go_wp2_with fail)
          refine hK.out _ _ ?_ (fun hHeld1 => ?_)
          · (try dsimp only); exact KT.out _ (by first | with_reducible exact kwp | ((repeat (first | with_reducible refine Kp.trans ?_ (Kp.drew _) | with_reducible refine Kp.trans ?_ (Kp.alloc _ _))); with_reducible exact kwp))
          clear hK K hHeld0
          (try simp only [Act.put, moB3, List.setIfInBounds_toArray, List.set_cons_zero, List.set_cons_succ])
          refine tkE 4 moB4 rfl (by kernel_rfl) (fun K hK => ?_)
          go_simp
          (refine (CF.out _ _ (NWF.out.kp (by first | with_reducible exact kwp | ((repeat (first | with_reducible refine Kp.trans ?_ (Kp.drew _) | with_reducible refine Kp.trans ?_ (Kp.alloc _ _))); with_reducible exact kwp))) (KF.out.trans (by first | with_reducible exact kwp | ((repeat (first | with_reducible refine Kp.trans ?_ (Kp.drew _) | with_reducible refine Kp.trans ?_ (Kp.alloc _ _))); with_reducible exact kwp)))).mono ?_; rintro e wq ⟨v9, rfl, h9, kq1⟩; have kwq : Kp F _ := Kp.trans (show Kp F _ from (by first | with_reducible exact kwp | ((repeat (first | with_reducible refine Kp.trans ?_ (Kp.drew _) | with_reducible refine Kp.trans ?_ (Kp.alloc _ _))); with_reducible exact kwp))) kq1; clear kq1; have N9 := Lib.hid h9; obtain ⟨ad9, cp9, rfl⟩ := h9.slice; clear h9)
          (try go_wp2_with fail)
          refine hK.out _ _ ?_ (fun hHeld2 => ?_)
          · (try dsimp only); exact KT.out _ (by first | with_reducible exact kwq | ((repeat (first | with_reducible refine Kp.trans ?_ (Kp.drew _) | with_reducible refine Kp.trans ?_ (Kp.alloc _ _))); with_reducible exact kwq))
          clear hK K hHeld1
          (try simp only [Act.put, moB4, List.setIfInBounds_toArray, List.set_cons_zero, List.set_cons_succ])
          refine tkE 6 moB6 rfl (by kernel_rfl) (fun K hK => ?_)
          go_simp
          (refine (SM.out _ _ _ (N9.out.kp (by first | with_reducible exact (Kp.refl wq) | ((repeat (first | with_reducible refine Kp.trans ?_ (Kp.drew _) | with_reducible refine Kp.trans ?_ (Kp.alloc _ _))); with_reducible exact (Kp.refl wq)))) (NVF.out.kp (by first | with_reducible exact kwq | ((repeat (first | with_reducible refine Kp.trans ?_ (Kp.drew _) | with_reducible refine Kp.trans ?_ (Kp.alloc _ _))); with_reducible exact kwq)))).mono ?_; rintro e wt ⟨rfl, kq1⟩; have kwt : Kp F _ := Kp.trans (show Kp F _ from (by first | with_reducible exact kwq | ((repeat (first | with_reducible refine Kp.trans ?_ (Kp.drew _) | with_reducible refine Kp.trans ?_ (Kp.alloc _ _))); with_reducible exact kwq))) kq1; clear kq1)
          (try go_wp2_with fail)
          refine hK.out _ _ ?_ (fun hHeld3 => ?_)
          · (try dsimp only); exact KT.out _ (by first | with_reducible exact kwt | ((repeat (first | with_reducible refine Kp.trans ?_ (Kp.drew _) | with_reducible refine Kp.trans ?_ (Kp.alloc _ _))); with_reducible exact kwt))
          clear hK K hHeld2
          (try simp only [Act.put, moB6, List.setIfInBounds_toArray, List.set_cons_zero, List.set_cons_succ])
          refine tkW (v := ?_) 7 moB7 rfl (by kernel_rfl) (by kernel_rfl) (by kernel_rfl) (fun _ _ _ h => h) (by rfl) ?_ (by assumption) ?_
          rotate_left
          · intro w hSw; (try dsimp only at hSw); go_simp; (try with_reducible rfl)
          (try simp only [Act.put, moB7, List.setIfInBounds_toArray, List.set_cons_zero, List.set_cons_succ])
          refine tkW (v := ?_) 8 moB8 rfl (by kernel_rfl) (by kernel_rfl) (by kernel_rfl) (fun _ _ _ h => h) (by rfl) ?_ (by assumption) ?_
          rotate_left
          · intro w hSw; (try dsimp only at hSw); go_simp; (try with_reducible rfl)
          (try simp only [Act.put, moB8, List.setIfInBounds_toArray, List.set_cons_zero, List.set_cons_succ])
          refine tkW (v := ?_) 9 moB9 rfl (by kernel_rfl) (by kernel_rfl) (by kernel_rfl) (fun _ _ _ h => h) (by rfl) ?_ (by assumption) ?_
          rotate_left
          · intro w hSw; (try dsimp only at hSw); go_simp; (try with_reducible rfl)
          (try simp only [Act.put, moB9, List.setIfInBounds_toArray, List.set_cons_zero, List.set_cons_succ])
          refine tkE 10 moB10 rfl (by kernel_rfl) (fun K hK => ?_)
          go_simp
          (refine (SU.out _ _ (NT.out.kp (by first | with_reducible exact kwt | ((repeat (first | with_reducible refine Kp.trans ?_ (Kp.drew _) | with_reducible refine Kp.trans ?_ (Kp.alloc _ _))); with_reducible exact kwt))) (KF.out.trans (by first | with_reducible exact kwt | ((repeat (first | with_reducible refine Kp.trans ?_ (Kp.drew _) | with_reducible refine Kp.trans ?_ (Kp.alloc _ _))); with_reducible exact kwt)))).mono ?_; rintro e wu ⟨rfl, kq1⟩; have kwu : Kp F _ := Kp.trans (show Kp F _ from (by first | with_reducible exact kwt | ((repeat (first | with_reducible refine Kp.trans ?_ (Kp.drew _) | with_reducible refine Kp.trans ?_ (Kp.alloc _ _))); with_reducible exact kwt))) kq1; clear kq1)
          (try go_wp2_with fail)
          refine hK.out _ _ ?_ (fun hHeld4 => ?_)
          · (try dsimp only); exact KT.out _ (by first | with_reducible exact kwu | ((repeat (first | with_reducible refine Kp.trans ?_ (Kp.drew _) | with_reducible refine Kp.trans ?_ (Kp.alloc _ _))); with_reducible exact kwu))
          clear hK K hHeld3
          (try simp only [Act.put, moB10, List.setIfInBounds_toArray, List.set_cons_zero, List.set_cons_succ])
          refine tkW (v := ?_) 11 moB11 rfl (by kernel_rfl) (by kernel_rfl) (by kernel_rfl) (fun _ _ _ h => h) (by rfl) ?_ (by assumption) ?_
          rotate_left
          · intro w hSw; (try dsimp only at hSw); go_simp; (try with_reducible rfl)
          (try simp only [Act.put, moB11, List.setIfInBounds_toArray, List.set_cons_zero, List.set_cons_succ])
          refine tkW (v := ?_) 12 moB12 rfl (by kernel_rfl) (by kernel_rfl) (by kernel_rfl) (fun _ _ _ h => h) (by rfl) ?_ (by assumption) ?_
          rotate_left
          · intro w hSw; (try dsimp only at hSw); go_simp; (try with_reducible rfl)
          (try simp only [Act.put, moB12, List.setIfInBounds_toArray, List.set_cons_zero, List.set_cons_succ])
          refine tkU 13 moB13 rfl (by kernel_rfl) (by kernel_rfl) (by kernel_rfl) (fun _ _ _ h => h) (by rfl) (by assumption) ?_
          (try simp only [Act.put, moB13, List.setIfInBounds_toArray, List.set_cons_zero, List.set_cons_succ])
          refine tkU 14 moB14 rfl (by kernel_rfl) (by kernel_rfl) (by kernel_rfl) (fun _ _ _ h => h) (by rfl) (by assumption) ?_
          (try simp only [Act.put, moB14, List.setIfInBounds_toArray, List.set_cons_zero, List.set_cons_succ])
          refine tkU 15 moB15 rfl (by kernel_rfl) (by kernel_rfl) (by kernel_rfl) (fun _ _ _ h => h) (by rfl) (by assumption) ?_
          (try simp only [Act.put, moB15, List.setIfInBounds_toArray, List.set_cons_zero, List.set_cons_succ])
          refine tkU 16 moB16 rfl (by kernel_rfl) (by kernel_rfl) (by kernel_rfl) (fun _ _ _ h => h) (by rfl) (by assumption) ?_
          (try simp only [Act.put, moB16, List.setIfInBounds_toArray, List.set_cons_zero, List.set_cons_succ])
          refine tkW (v := ?_) 17 moB17 rfl (by kernel_rfl) (by kernel_rfl) (by kernel_rfl) (fun _ _ _ h => h) (by rfl) ?_ (by assumption) ?_
          rotate_left
          · intro w hSw; (try dsimp only at hSw); go_simp; (try with_reducible rfl)
          (try simp only [Act.put, moB17, List.setIfInBounds_toArray, List.set_cons_zero, List.set_cons_succ])
          refine tkW (v := ?_) 18 moB18 rfl (by kernel_rfl) (by kernel_rfl) (by kernel_rfl) (fun _ _ _ h => h) (by rfl) ?_ (by assumption) ?_
          rotate_left
          · intro w hSw; (try dsimp only at hSw); go_simp; (try with_reducible rfl)
          (try simp only [Act.put, moB18, List.setIfInBounds_toArray, List.set_cons_zero, List.set_cons_succ])
          refine tkW (v := ?_) 19 moB19 rfl (by kernel_rfl) (by kernel_rfl) (by kernel_rfl) (fun _ _ _ h => h) (by rfl) ?_ (by assumption) ?_
          rotate_left
          · intro w hSw; (try dsimp only at hSw); go_simp; (try with_reducible rfl)
          (try simp only [Act.put, moB19, List.setIfInBounds_toArray, List.set_cons_zero, List.set_cons_succ])
          refine wpAnyH_done (by kernel_rfl) ?_ _
          go_wp2
          go_ret
          exact ⟨rfl, KF.out.trans kwu⟩
        · go_simp
          skip
          (try go_wp2_with fail)
          refine hK.out _ _ ?_ (fun hHeld2 => ?_)
          · (try dsimp only); exact KS.out _ (by first | with_reducible exact k77 | ((repeat (first | with_reducible refine Kp.trans ?_ (Kp.drew _) | with_reducible refine Kp.trans ?_ (Kp.alloc _ _))); with_reducible exact k77))
          clear hK K hHeld1
          (try simp only [Act.put, moA6, List.setIfInBounds_toArray, List.set_cons_zero, List.set_cons_succ])
          refine tkE 5 moA5 rfl (by kernel_rfl) (fun K hK => ?_)
          go_simp
          (refine (OT.out _ _ _).mono ?_; rintro e wo ⟨rfl, kq1⟩; have gR : wo.heap[w7.heap.size]? = some (.cells #[.int .i64 k1, .int .i64 pk1, .string y1, .string m1, .string s1, .bool a1, .bool t1, .slice ad1 n1 cp1, .int .i64 2, .int .i64 0, .string ⟨#[]⟩, .string ⟨#[]⟩, .string ⟨#[]⟩, .bool false, .bool false, .slice (some ⟨b0, o0, none⟩) l.length cal] 26 (0, 0)) := heap_block kq1 (by (repeat (first | with_reducible exact heap_at _ _ _ (by first | rfl | simp) | with_reducible refine heap_block (Kp.drew _) ?_ | with_reducible refine heap_block (Kp.alloc _ _) ?_))); have gB : wo.heap[w7.heap.size + 1]? = some (.cells #[.int .i64 0, .int .i64 0, .string ⟨#[]⟩, .string ⟨#[]⟩, .string ⟨#[]⟩, .bool false, .bool false, .slice none 0 0] 26 (0, 0)) := heap_block kq1 (by (repeat (first | with_reducible exact heap_at _ _ _ (by first | rfl | simp) | with_reducible refine heap_block (Kp.drew _) ?_ | with_reducible refine heap_block (Kp.alloc _ _) ?_))); have kwo : Kp w7 wo := Kp.trans (show Kp w7 _ from (by first | with_reducible exact k77 | ((repeat (first | with_reducible refine Kp.trans ?_ (Kp.drew _) | with_reducible refine Kp.trans ?_ (Kp.alloc _ _))); with_reducible exact k77))) kq1; clear kq1)
          (try go_wp2_with fail)
          refine hK.out _ _ ?_ (fun hHeld3 => ?_)
          · (try dsimp only); exact KS.out _ (by first | with_reducible exact kwo | ((repeat (first | with_reducible refine Kp.trans ?_ (Kp.drew _) | with_reducible refine Kp.trans ?_ (Kp.alloc _ _))); with_reducible exact kwo))
          clear hK K hHeld2
          (try simp only [Act.put, moA5, List.setIfInBounds_toArray, List.set_cons_zero, List.set_cons_succ])
          refine tkE 7 moA7 rfl (by kernel_rfl) (fun K hK => ?_)
          (obtain ⟨x0, x1, x2, x3, x4, x5, x6, x7⟩ := row8 gB; have z_0 : wo.frozen? ⟨w7.heap.size + 1, 0, none⟩ = false := (by simp [World.frozen?, gB]); have z_1 : wo.frozen? ⟨w7.heap.size + 1, 1, none⟩ = false := (by simp [World.frozen?, gB]); have z_2 : wo.frozen? ⟨w7.heap.size + 1, 2, none⟩ = false := (by simp [World.frozen?, gB]); have z_3 : wo.frozen? ⟨w7.heap.size + 1, 3, none⟩ = false := (by simp [World.frozen?, gB]); have z_4 : wo.frozen? ⟨w7.heap.size + 1, 4, none⟩ = false := (by simp [World.frozen?, gB]); have z_5 : wo.frozen? ⟨w7.heap.size + 1, 5, none⟩ = false := (by simp [World.frozen?, gB]); have z_6 : wo.frozen? ⟨w7.heap.size + 1, 6, none⟩ = false := (by simp [World.frozen?, gB]); have z_7 : wo.frozen? ⟨w7.heap.size + 1, 7, none⟩ = false := (by simp [World.frozen?, gB]); obtain ⟨F, hF⟩ : ∃ x, x = ((((((((wo.setCell ⟨w7.heap.size + 1, 0, none⟩ (.int .i64 2)).setCell ⟨w7.heap.size + 1, 1, none⟩ (.int .i64 0)).setCell ⟨w7.heap.size + 1, 2, none⟩ (.string ⟨#[]⟩)).setCell ⟨w7.heap.size + 1, 3, none⟩ (.string ⟨#[]⟩)).setCell ⟨w7.heap.size + 1, 4, none⟩ (.string ⟨#[]⟩)).setCell ⟨w7.heap.size + 1, 5, none⟩ (.bool false)).setCell ⟨w7.heap.size + 1, 6, none⟩ (.bool false)).setCell ⟨w7.heap.size + 1, 7, none⟩ (.slice (some ⟨w7.heap.size, 0, none⟩) 2 2)) := ⟨_, rfl⟩; have kF : Kp w7 F := (by rw [hF]; exact kp_sets (by omega) [.int .i64 2, .int .i64 0, .string ⟨#[]⟩, .string ⟨#[]⟩, .string ⟨#[]⟩, .bool false, .bool false, .slice (some ⟨w7.heap.size, 0, none⟩) 2 2] 0 kwo); have gF : F.heap[w7.heap.size + 1]? = some (.cells #[.int .i64 2, .int .i64 0, .string ⟨#[]⟩, .string ⟨#[]⟩, .string ⟨#[]⟩, .bool false, .bool false, .slice (some ⟨w7.heap.size, 0, none⟩) 2 2] 26 (0, 0)) := (by rw [hF]; exact set8 (.int .i64 2) (.int .i64 0) (.string ⟨#[]⟩) (.string ⟨#[]⟩) (.string ⟨#[]⟩) (.bool false) (.bool false) (.slice (some ⟨w7.heap.size, 0, none⟩) 2 2) gB); have NT := Lib.hid (H2M.out F kF _ ((show F.heap[w7.heap.size]? = wo.heap[w7.heap.size]? by rw [hF]; exact sets_other (by omega) [.int .i64 2, .int .i64 0, .string ⟨#[]⟩, .string ⟨#[]⟩, .string ⟨#[]⟩, .bool false, .bool false, .slice (some ⟨w7.heap.size, 0, none⟩) 2 2] 0).trans gR)); have HF := Lib.hid hF; clear hF)
          (try go_wp2_with fail)
          refine hK.out _ _ ?_ (fun hHeld4 => ?_)
          · (try dsimp only); (try rw [← HF.out]); exact KS.out _ (by first | with_reducible exact kF | ((repeat (first | with_reducible refine Kp.trans ?_ (Kp.drew _) | with_reducible refine Kp.trans ?_ (Kp.alloc _ _))); with_reducible exact kF))
          clear hK K hHeld3
          (try simp only [Act.put, moA7, List.setIfInBounds_toArray, List.set_cons_zero, List.set_cons_succ])
          refine wpAnyH_done (by kernel_rfl) ?_ _
          rw [← HF.out]
          have kf0 : Kp F F := Kp.refl _
          have NWF := Lib.hid (NW7.out.kp kF)
          have NVF := Lib.hid (NV7.out.kp kF)
          have KF := Lib.hid (K00.out.trans kF)
          have KT := Lib.hid (fun w' (kq : Kp F w') => show w'.cell? ⟨w7.heap.size + 1, 0, none⟩ = some (.int .i64 2) ∧ w'.cell? ⟨w7.heap.size + 1, 1, none⟩ = some (.int .i64 0) ∧ w'.cell? ⟨w7.heap.size + 1, 2, none⟩ = some (.string ⟨#[]⟩) ∧ w'.cell? ⟨w7.heap.size + 1, 3, none⟩ = some (.string ⟨#[]⟩) ∧ w'.cell? ⟨w7.heap.size + 1, 4, none⟩ = some (.string ⟨#[]⟩) ∧ w'.cell? ⟨w7.heap.size + 1, 5, none⟩ = some (.bool false) ∧ w'.cell? ⟨w7.heap.size + 1, 6, none⟩ = some (.bool false) ∧ w'.cell? ⟨w7.heap.size + 1, 7, none⟩ = some (.slice (some ⟨w7.heap.size, 0, none⟩) 2 2) ∧ w'.cell? ⟨w2.heap.size, 0, none⟩ = some (.int .i64 2) ∧ w'.cell? ⟨w2.heap.size, 1, none⟩ = some (.int .i64 0) ∧ w'.cell? ⟨w2.heap.size, 2, none⟩ = some (.string ⟨#[]⟩) ∧ w'.cell? ⟨w2.heap.size, 3, none⟩ = some (.string ⟨#[]⟩) ∧ w'.cell? ⟨w2.heap.size, 4, none⟩ = some (.string ⟨#[]⟩) ∧ w'.cell? ⟨w2.heap.size, 5, none⟩ = some (.bool false) ∧ w'.cell? ⟨w2.heap.size, 6, none⟩ = some (.bool false) ∧ w'.cell? ⟨w2.heap.size, 7, none⟩ = some (.slice (some ⟨b0, o0, none⟩) l.length cal) ∧ w'.cell? ⟨w6.heap.size, 0, none⟩ = some (.int .i64 k0) ∧ w'.cell? ⟨w6.heap.size, 1, none⟩ = some (.int .i64 pk0) ∧ w'.cell? ⟨w6.heap.size, 2, none⟩ = some (.string y0) ∧ w'.cell? ⟨w6.heap.size, 3, none⟩ = some (.string m0) ∧ w'.cell? ⟨w6.heap.size, 4, none⟩ = some (.string s0) ∧ w'.cell? ⟨w6.heap.size, 5, none⟩ = some (.bool a0) ∧ w'.cell? ⟨w6.heap.size, 6, none⟩ = some (.bool t0) ∧ w'.cell? ⟨w6.heap.size, 7, none⟩ = some (.slice ad6 r0.length cp6) ∧ Kp F w' from ⟨(row8 (heap_block kq gF)).1, (row8 (heap_block kq gF)).2.1, (row8 (heap_block kq gF)).2.2.1, (row8 (heap_block kq gF)).2.2.2.1, (row8 (heap_block kq gF)).2.2.2.2.1, (row8 (heap_block kq gF)).2.2.2.2.2.1, (row8 (heap_block kq gF)).2.2.2.2.2.2.1, (row8 (heap_block kq gF)).2.2.2.2.2.2.2, (HB.out w' (kF.trans kq)).1, (HB.out w' (kF.trans kq)).2.1, (HB.out w' (kF.trans kq)).2.2.1, (HB.out w' (kF.trans kq)).2.2.2.1, (HB.out w' (kF.trans kq)).2.2.2.2.1, (HB.out w' (kF.trans kq)).2.2.2.2.2.1, (HB.out w' (kF.trans kq)).2.2.2.2.2.2.1, (HB.out w' (kF.trans kq)).2.2.2.2.2.2.2.1, (HB.out w' (kF.trans kq)).2.2.2.2.2.2.2.2.1, (HB.out w' (kF.trans kq)).2.2.2.2.2.2.2.2.2.1, (HB.out w' (kF.trans kq)).2.2.2.2.2.2.2.2.2.2.1, (HB.out w' (kF.trans kq)).2.2.2.2.2.2.2.2.2.2.2.1, (HB.out w' (kF.trans kq)).2.2.2.2.2.2.2.2.2.2.2.2.1, (HB.out w' (kF.trans kq)).2.2.2.2.2.2.2.2.2.2.2.2.2.1, (HB.out w' (kF.trans kq)).2.2.2.2.2.2.2.2.2.2.2.2.2.2.1, (HB.out w' (kF.trans kq)).2.2.2.2.2.2.2.2.2.2.2.2.2.2.2, kq⟩)
          clear gF kF
          (try go_wp2_with fail)
          refine wp_region_held_drew (S := fun w' => w'.cell? ⟨w7.heap.size + 1, 0, none⟩ = some (.int .i64 2) ∧ w'.cell? ⟨w7.heap.size + 1, 1, none⟩ = some (.int .i64 0) ∧ w'.cell? ⟨w7.heap.size + 1, 2, none⟩ = some (.string ⟨#[]⟩) ∧ w'.cell? ⟨w7.heap.size + 1, 3, none⟩ = some (.string ⟨#[]⟩) ∧ w'.cell? ⟨w7.heap.size + 1, 4, none⟩ = some (.string ⟨#[]⟩) ∧ w'.cell? ⟨w7.heap.size + 1, 5, none⟩ = some (.bool false) ∧ w'.cell? ⟨w7.heap.size + 1, 6, none⟩ = some (.bool false) ∧ w'.cell? ⟨w7.heap.size + 1, 7, none⟩ = some (.slice (some ⟨w7.heap.size, 0, none⟩) 2 2) ∧ w'.cell? ⟨w2.heap.size, 0, none⟩ = some (.int .i64 2) ∧ w'.cell? ⟨w2.heap.size, 1, none⟩ = some (.int .i64 0) ∧ w'.cell? ⟨w2.heap.size, 2, none⟩ = some (.string ⟨#[]⟩) ∧ w'.cell? ⟨w2.heap.size, 3, none⟩ = some (.string ⟨#[]⟩) ∧ w'.cell? ⟨w2.heap.size, 4, none⟩ = some (.string ⟨#[]⟩) ∧ w'.cell? ⟨w2.heap.size, 5, none⟩ = some (.bool false) ∧ w'.cell? ⟨w2.heap.size, 6, none⟩ = some (.bool false) ∧ w'.cell? ⟨w2.heap.size, 7, none⟩ = some (.slice (some ⟨b0, o0, none⟩) l.length cal) ∧ w'.cell? ⟨w6.heap.size, 0, none⟩ = some (.int .i64 k0) ∧ w'.cell? ⟨w6.heap.size, 1, none⟩ = some (.int .i64 pk0) ∧ w'.cell? ⟨w6.heap.size, 2, none⟩ = some (.string y0) ∧ w'.cell? ⟨w6.heap.size, 3, none⟩ = some (.string m0) ∧ w'.cell? ⟨w6.heap.size, 4, none⟩ = some (.string s0) ∧ w'.cell? ⟨w6.heap.size, 5, none⟩ = some (.bool a0) ∧ w'.cell? ⟨w6.heap.size, 6, none⟩ = some (.bool t0) ∧ w'.cell? ⟨w6.heap.size, 7, none⟩ = some (.slice ad6 r0.length cp6) ∧ Kp F w') (by kernel_rfl) ?_ (fun hHeld0 => ?_)
          · (try dsimp only); exact KT.out _ (by first | with_reducible exact kf0 | ((repeat (first | with_reducible refine Kp.trans ?_ (Kp.drew _) | with_reducible refine Kp.trans ?_ (Kp.alloc _ _))); with_reducible exact kf0))
          refine tkW (v := ?_) 0 moB0 rfl (by kernel_rfl) (by kernel_rfl) (by kernel_rfl) (fun _ _ _ h => h) (by rfl) ?_ (by assumption) ?_
          rotate_left
          · intro w hSw; (try dsimp only at hSw); go_simp; (try with_reducible rfl)
          (try simp only [Act.put, moB0, List.setIfInBounds_toArray, List.set_cons_zero, List.set_cons_succ])
          refine tkW (v := ?_) 1 moB1 rfl (by kernel_rfl) (by kernel_rfl) (by kernel_rfl) (fun _ _ _ h => h) (by rfl) ?_ (by assumption) ?_
          rotate_left
          · intro w hSw; (try dsimp only at hSw); go_simp; (try with_reducible rfl)
          (try simp only [Act.put, moB1, List.setIfInBounds_toArray, List.set_cons_zero, List.set_cons_succ])
          refine tkW (v := ?_) 2 moB2 rfl (by kernel_rfl) (by kernel_rfl) (by kernel_rfl) (fun _ _ _ h => h) (by rfl) ?_ (by assumption) ?_
          rotate_left
          · intro w hSw; (try dsimp only at hSw); go_simp; (try with_reducible rfl)
          (try simp only [Act.put, moB2, List.setIfInBounds_toArray, List.set_cons_zero, List.set_cons_succ])
          refine tkW (v := ?_) 5 moB5 rfl (by kernel_rfl) (by kernel_rfl) (by kernel_rfl) (fun _ _ _ h => h) (by rfl) ?_ (by assumption) ?_
          rotate_left
          · intro w hSw; (try dsimp only at hSw); go_simp; (try with_reducible rfl)
          (try simp only [Act.put, moB5, List.setIfInBounds_toArray, List.set_cons_zero, List.set_cons_succ])
          refine tkE 3 moB3 rfl (by kernel_rfl) (fun K hK => ?_)
          go_simp
          (refine (OE.out _ _ _).mono ?_; rintro e wp ⟨rfl, kq1⟩; have kwp : Kp F _ := Kp.trans (show Kp F _ from (by first | with_reducible exact kf0 | ((repeat (first | with_reducible refine Kp.trans ?_ (Kp.drew _) | with_reducible refine Kp.trans ?_ (Kp.alloc _ _))); with_reducible exact kf0))) kq1; clear kq1)
          (try go_wp2_with fail)
          refine hK.out _ _ ?_ (fun hHeld1 => ?_)
          · (try dsimp only); exact KT.out _ (by first | with_reducible exact kwp | ((repeat (first | with_reducible refine Kp.trans ?_ (Kp.drew _) | with_reducible refine Kp.trans ?_ (Kp.alloc _ _))); with_reducible exact kwp))
          clear hK K hHeld0
          (try simp only [Act.put, moB3, List.setIfInBounds_toArray, List.set_cons_zero, List.set_cons_succ])
          refine tkE 4 moB4 rfl (by kernel_rfl) (fun K hK => ?_)
          go_simp
          (refine (CF.out _ _ (NWF.out.kp (by first | with_reducible exact kwp | ((repeat (first | with_reducible refine Kp.trans ?_ (Kp.drew _) | with_reducible refine Kp.trans ?_ (Kp.alloc _ _))); with_reducible exact kwp))) (KF.out.trans (by first | with_reducible exact kwp | ((repeat (first | with_reducible refine Kp.trans ?_ (Kp.drew _) | with_reducible refine Kp.trans ?_ (Kp.alloc _ _))); with_reducible exact kwp)))).mono ?_; rintro e wq ⟨v9, rfl, h9, kq1⟩; have kwq : Kp F _ := Kp.trans (show Kp F _ from (by first | with_reducible exact kwp | ((repeat (first | with_reducible refine Kp.trans ?_ (Kp.drew _) | with_reducible refine Kp.trans ?_ (Kp.alloc _ _))); with_reducible exact kwp))) kq1; clear kq1; have N9 := Lib.hid h9; obtain ⟨ad9, cp9, rfl⟩ := h9.slice; clear h9)
          (try go_wp2_with fail)
          refine hK.out _ _ ?_ (fun hHeld2 => ?_)
          · (try dsimp only); exact KT.out _ (by first | with_reducible exact kwq | ((repeat (first | with_reducible refine Kp.trans ?_ (Kp.drew _) | with_reducible refine Kp.trans ?_ (Kp.alloc _ _))); with_reducible exact kwq))
          clear hK K hHeld1
          (try simp only [Act.put, moB4, List.setIfInBounds_toArray, List.set_cons_zero, List.set_cons_succ])
          refine tkE 6 moB6 rfl (by kernel_rfl) (fun K hK => ?_)
          go_simp
          (refine (SM.out _ _ _ (N9.out.kp (by first | with_reducible exact (Kp.refl wq) | ((repeat (first | with_reducible refine Kp.trans ?_ (Kp.drew _) | with_reducible refine Kp.trans ?_ (Kp.alloc _ _))); with_reducible exact (Kp.refl wq)))) (NVF.out.kp (by first | with_reducible exact kwq | ((repeat (first | with_reducible refine Kp.trans ?_ (Kp.drew _) | with_reducible refine Kp.trans ?_ (Kp.alloc _ _))); with_reducible exact kwq)))).mono ?_; rintro e wt ⟨rfl, kq1⟩; have kwt : Kp F _ := Kp.trans (show Kp F _ from (by first | with_reducible exact kwq | ((repeat (first | with_reducible refine Kp.trans ?_ (Kp.drew _) | with_reducible refine Kp.trans ?_ (Kp.alloc _ _))); with_reducible exact kwq))) kq1; clear kq1)
          (try go_wp2_with fail)
          refine hK.out _ _ ?_ (fun hHeld3 => ?_)
          · (try dsimp only); exact KT.out _ (by first | with_reducible exact kwt | ((repeat (first | with_reducible refine Kp.trans ?_ (Kp.drew _) | with_reducible refine Kp.trans ?_ (Kp.alloc _ _))); with_reducible exact kwt))
          clear hK K hHeld2
          (try simp only [Act.put, moB6, List.setIfInBounds_toArray, List.set_cons_zero, List.set_cons_succ])
          refine tkW (v := ?_) 7 moB7 rfl (by kernel_rfl) (by kernel_rfl) (by kernel_rfl) (fun _ _ _ h => h) (by rfl) ?_ (by assumption) ?_
          rotate_left
          · intro w hSw; (try dsimp only at hSw); go_simp; (try with_reducible rfl)
          (try simp only [Act.put, moB7, List.setIfInBounds_toArray, List.set_cons_zero, List.set_cons_succ])
          refine tkW (v := ?_) 8 moB8 rfl (by kernel_rfl) (by kernel_rfl) (by kernel_rfl) (fun _ _ _ h => h) (by rfl) ?_ (by assumption) ?_
          rotate_left
          · intro w hSw; (try dsimp only at hSw); go_simp; (try with_reducible rfl)
          (try simp only [Act.put, moB8, List.setIfInBounds_toArray, List.set_cons_zero, List.set_cons_succ])
          refine tkW (v := ?_) 9 moB9 rfl (by kernel_rfl) (by kernel_rfl) (by kernel_rfl) (fun _ _ _ h => h) (by rfl) ?_ (by assumption) ?_
          rotate_left
          · intro w hSw; (try dsimp only at hSw); go_simp; (try with_reducible rfl)
          (try simp only [Act.put, moB9, List.setIfInBounds_toArray, List.set_cons_zero, List.set_cons_succ])
          refine tkE 10 moB10 rfl (by kernel_rfl) (fun K hK => ?_)
          go_simp
          (refine (SU.out _ _ (NT.out.kp (by first | with_reducible exact kwt | ((repeat (first | with_reducible refine Kp.trans ?_ (Kp.drew _) | with_reducible refine Kp.trans ?_ (Kp.alloc _ _))); with_reducible exact kwt))) (KF.out.trans (by first | with_reducible exact kwt | ((repeat (first | with_reducible refine Kp.trans ?_ (Kp.drew _) | with_reducible refine Kp.trans ?_ (Kp.alloc _ _))); with_reducible exact kwt)))).mono ?_; rintro e wu ⟨rfl, kq1⟩; have kwu : Kp F _ := Kp.trans (show Kp F _ from (by first | with_reducible exact kwt | ((repeat (first | with_reducible refine Kp.trans ?_ (Kp.drew _) | with_reducible refine Kp.trans ?_ (Kp.alloc _ _))); with_reducible exact kwt))) kq1; clear kq1)
          (try go_wp2_with fail)
          refine hK.out _ _ ?_ (fun hHeld4 => ?_)
          · (try dsimp only); exact KT.out _ (by first | with_reducible exact kwu | ((repeat (first | with_reducible refine Kp.trans ?_ (Kp.drew _) | with_reducible refine Kp.trans ?_ (Kp.alloc _ _))); with_reducible exact kwu))
          clear hK K hHeld3
          (try simp only [Act.put, moB10, List.setIfInBounds_toArray, List.set_cons_zero, List.set_cons_succ])
          refine tkW (v := ?_) 11 moB11 rfl (by kernel_rfl) (by kernel_rfl) (by kernel_rfl) (fun _ _ _ h => h) (by rfl) ?_ (by assumption) ?_
          rotate_left
          · intro w hSw; (try dsimp only at hSw); go_simp; (try with_reducible rfl)
          (try simp only [Act.put, moB11, List.setIfInBounds_toArray, List.set_cons_zero, List.set_cons_succ])
          refine tkW (v := ?_) 12 moB12 rfl (by kernel_rfl) (by kernel_rfl) (by kernel_rfl) (fun _ _ _ h => h) (by rfl) ?_ (by assumption) ?_
          rotate_left
          · intro w hSw; (try dsimp only at hSw); go_simp; (try with_reducible rfl)
          (try simp only [Act.put, moB12, List.setIfInBounds_toArray, List.set_cons_zero, List.set_cons_succ])
          refine tkU 13 moB13 rfl (by kernel_rfl) (by kernel_rfl) (by kernel_rfl) (fun _ _ _ h => h) (by rfl) (by assumption) ?_
          (try simp only [Act.put, moB13, List.setIfInBounds_toArray, List.set_cons_zero, List.set_cons_succ])
          refine tkU 14 moB14 rfl (by kernel_rfl) (by kernel_rfl) (by kernel_rfl) (fun _ _ _ h => h) (by rfl) (by assumption) ?_
          (try simp only [Act.put, moB14, List.setIfInBounds_toArray, List.set_cons_zero, List.set_cons_succ])
          refine tkU 15 moB15 rfl (by kernel_rfl) (by kernel_rfl) (by kernel_rfl) (fun _ _ _ h => h) (by rfl) (by assumption) ?_
          (try simp only [Act.put, moB15, List.setIfInBounds_toArray, List.set_cons_zero, List.set_cons_succ])
          refine tkU 16 moB16 rfl (by kernel_rfl) (by kernel_rfl) (by kernel_rfl) (fun _ _ _ h => h) (by rfl) (by assumption) ?_
          (try simp only [Act.put, moB16, List.setIfInBounds_toArray, List.set_cons_zero, List.set_cons_succ])
          refine tkW (v := ?_) 17 moB17 rfl (by kernel_rfl) (by kernel_rfl) (by kernel_rfl) (fun _ _ _ h => h) (by rfl) ?_ (by assumption) ?_
          rotate_left
          · intro w hSw; (try dsimp only at hSw); go_simp; (try with_reducible rfl)
          (try simp only [Act.put, moB17, List.setIfInBounds_toArray, List.set_cons_zero, List.set_cons_succ])
          refine tkW (v := ?_) 18 moB18 rfl (by kernel_rfl) (by kernel_rfl) (by kernel_rfl) (fun _ _ _ h => h) (by rfl) ?_ (by assumption) ?_
          rotate_left
          · intro w hSw; (try dsimp only at hSw); go_simp; (try with_reducible rfl)
          (try simp only [Act.put, moB18, List.setIfInBounds_toArray, List.set_cons_zero, List.set_cons_succ])
          refine tkW (v := ?_) 19 moB19 rfl (by kernel_rfl) (by kernel_rfl) (by kernel_rfl) (fun _ _ _ h => h) (by rfl) ?_ (by assumption) ?_
          rotate_left
          · intro w hSw; (try dsimp only at hSw); go_simp; (try with_reducible rfl)
          (try simp only [Act.put, moB19, List.setIfInBounds_toArray, List.set_cons_zero, List.set_cons_succ])
          refine wpAnyH_done (by kernel_rfl) ?_ _
          go_wp2
          go_ret
          exact ⟨rfl, KF.out.trans kwu⟩
      · go_simp
        skip
        (try go_wp2_with fail)
        refine hK.out _ _ ?_ (fun hHeld1 => ?_)
        · (try dsimp only); exact KS.out _ (by first | with_reducible exact k77 | ((repeat (first | with_reducible refine Kp.trans ?_ (Kp.drew _) | with_reducible refine Kp.trans ?_ (Kp.alloc _ _))); with_reducible exact k77))
        clear hK K hHeld0
        (try simp only [Act.put, moA6, List.setIfInBounds_toArray, List.set_cons_zero, List.set_cons_succ])
        refine tkE 4 moA4 rfl (by kernel_rfl) (fun K hK => ?_)
        go_simp
        skip
        (try go_wp2_with fail)
        refine hK.out _ _ ?_ (fun hHeld2 => ?_)
        · (try dsimp only); exact KS.out _ (by first | with_reducible exact k77 | ((repeat (first | with_reducible refine Kp.trans ?_ (Kp.drew _) | with_reducible refine Kp.trans ?_ (Kp.alloc _ _))); with_reducible exact k77))
        clear hK K hHeld1
        (try simp only [Act.put, moA4, List.setIfInBounds_toArray, List.set_cons_zero, List.set_cons_succ])
        refine tkE 5 moA5 rfl (by kernel_rfl) (fun K hK => ?_)
        go_simp
        (refine (OT.out _ _ _).mono ?_; rintro e wo ⟨rfl, kq1⟩; have gR : wo.heap[w7.heap.size + 1]? = some (.cells #[.int .i64 k1, .int .i64 pk1, .string y1, .string m1, .string s1, .bool a1, .bool t1, .slice ad1 n1 cp1, .int .i64 2, .int .i64 0, .string ⟨#[]⟩, .string ⟨#[]⟩, .string ⟨#[]⟩, .bool false, .bool false, .slice (some ⟨b0, o0, none⟩) l.length cal] 26 (0, 0)) := heap_block kq1 (by (repeat (first | with_reducible exact heap_at _ _ _ (by first | rfl | simp) | with_reducible refine heap_block (Kp.drew _) ?_ | with_reducible refine heap_block (Kp.alloc _ _) ?_))); have gB : wo.heap[w7.heap.size]? = some (.cells #[.int .i64 0, .int .i64 0, .string ⟨#[]⟩, .string ⟨#[]⟩, .string ⟨#[]⟩, .bool false, .bool false, .slice none 0 0] 26 (0, 0)) := heap_block kq1 (by (repeat (first | with_reducible exact heap_at _ _ _ (by first | rfl | simp) | with_reducible refine heap_block (Kp.drew _) ?_ | with_reducible refine heap_block (Kp.alloc _ _) ?_))); have kwo : Kp w7 wo := Kp.trans (show Kp w7 _ from (by first | with_reducible exact k77 | ((repeat (first | with_reducible refine Kp.trans ?_ (Kp.drew _) | with_reducible refine Kp.trans ?_ (Kp.alloc _ _))); with_reducible exact k77))) kq1; clear kq1)
        (try go_wp2_with fail)
        refine hK.out _ _ ?_ (fun hHeld3 => ?_)
        · (try dsimp only); exact KS.out _ (by first | with_reducible exact kwo | ((repeat (first | with_reducible refine Kp.trans ?_ (Kp.drew _) | with_reducible refine Kp.trans ?_ (Kp.alloc _ _))); with_reducible exact kwo))
        clear hK K hHeld2
        (try simp only [Act.put, moA5, List.setIfInBounds_toArray, List.set_cons_zero, List.set_cons_succ])
        refine tkE 7 moA7 rfl (by kernel_rfl) (fun K hK => ?_)
        (obtain ⟨x0, x1, x2, x3, x4, x5, x6, x7⟩ := row8 gB; have z_0 : wo.frozen? ⟨w7.heap.size, 0, none⟩ = false := (by simp [World.frozen?, gB]); have z_1 : wo.frozen? ⟨w7.heap.size, 1, none⟩ = false := (by simp [World.frozen?, gB]); have z_2 : wo.frozen? ⟨w7.heap.size, 2, none⟩ = false := (by simp [World.frozen?, gB]); have z_3 : wo.frozen? ⟨w7.heap.size, 3, none⟩ = false := (by simp [World.frozen?, gB]); have z_4 : wo.frozen? ⟨w7.heap.size, 4, none⟩ = false := (by simp [World.frozen?, gB]); have z_5 : wo.frozen? ⟨w7.heap.size, 5, none⟩ = false := (by simp [World.frozen?, gB]); have z_6 : wo.frozen? ⟨w7.heap.size, 6, none⟩ = false := (by simp [World.frozen?, gB]); have z_7 : wo.frozen? ⟨w7.heap.size, 7, none⟩ = false := (by simp [World.frozen?, gB]); obtain ⟨F, hF⟩ : ∃ x, x = ((((((((wo.setCell ⟨w7.heap.size, 0, none⟩ (.int .i64 2)).setCell ⟨w7.heap.size, 1, none⟩ (.int .i64 0)).setCell ⟨w7.heap.size, 2, none⟩ (.string ⟨#[]⟩)).setCell ⟨w7.heap.size, 3, none⟩ (.string ⟨#[]⟩)).setCell ⟨w7.heap.size, 4, none⟩ (.string ⟨#[]⟩)).setCell ⟨w7.heap.size, 5, none⟩ (.bool false)).setCell ⟨w7.heap.size, 6, none⟩ (.bool false)).setCell ⟨w7.heap.size, 7, none⟩ (.slice (some ⟨w7.heap.size + 1, 0, none⟩) 2 2)) := ⟨_, rfl⟩; have kF : Kp w7 F := (by rw [hF]; exact kp_sets (by omega) [.int .i64 2, .int .i64 0, .string ⟨#[]⟩, .string ⟨#[]⟩, .string ⟨#[]⟩, .bool false, .bool false, .slice (some ⟨w7.heap.size + 1, 0, none⟩) 2 2] 0 kwo); have gF : F.heap[w7.heap.size]? = some (.cells #[.int .i64 2, .int .i64 0, .string ⟨#[]⟩, .string ⟨#[]⟩, .string ⟨#[]⟩, .bool false, .bool false, .slice (some ⟨w7.heap.size + 1, 0, none⟩) 2 2] 26 (0, 0)) := (by rw [hF]; exact set8 (.int .i64 2) (.int .i64 0) (.string ⟨#[]⟩) (.string ⟨#[]⟩) (.string ⟨#[]⟩) (.bool false) (.bool false) (.slice (some ⟨w7.heap.size + 1, 0, none⟩) 2 2) gB); have NT := Lib.hid (H2M.out F kF _ ((show F.heap[w7.heap.size + 1]? = wo.heap[w7.heap.size + 1]? by rw [hF]; exact sets_other (by omega) [.int .i64 2, .int .i64 0, .string ⟨#[]⟩, .string ⟨#[]⟩, .string ⟨#[]⟩, .bool false, .bool false, .slice (some ⟨w7.heap.size + 1, 0, none⟩) 2 2] 0).trans gR)); have HF := Lib.hid hF; clear hF)
        (try go_wp2_with fail)
        refine hK.out _ _ ?_ (fun hHeld4 => ?_)
        · (try dsimp only); (try rw [← HF.out]); exact KS.out _ (by first | with_reducible exact kF | ((repeat (first | with_reducible refine Kp.trans ?_ (Kp.drew _) | with_reducible refine Kp.trans ?_ (Kp.alloc _ _))); with_reducible exact kF))
        clear hK K hHeld3
        (try simp only [Act.put, moA7, List.setIfInBounds_toArray, List.set_cons_zero, List.set_cons_succ])
        refine wpAnyH_done (by kernel_rfl) ?_ _
        rw [← HF.out]
        have kf0 : Kp F F := Kp.refl _
        have NWF := Lib.hid (NW7.out.kp kF)
        have NVF := Lib.hid (NV7.out.kp kF)
        have KF := Lib.hid (K00.out.trans kF)
        have KT := Lib.hid (fun w' (kq : Kp F w') => show w'.cell? ⟨w7.heap.size, 0, none⟩ = some (.int .i64 2) ∧ w'.cell? ⟨w7.heap.size, 1, none⟩ = some (.int .i64 0) ∧ w'.cell? ⟨w7.heap.size, 2, none⟩ = some (.string ⟨#[]⟩) ∧ w'.cell? ⟨w7.heap.size, 3, none⟩ = some (.string ⟨#[]⟩) ∧ w'.cell? ⟨w7.heap.size, 4, none⟩ = some (.string ⟨#[]⟩) ∧ w'.cell? ⟨w7.heap.size, 5, none⟩ = some (.bool false) ∧ w'.cell? ⟨w7.heap.size, 6, none⟩ = some (.bool false) ∧ w'.cell? ⟨w7.heap.size, 7, none⟩ = some (.slice (some ⟨w7.heap.size + 1, 0, none⟩) 2 2) ∧ w'.cell? ⟨w2.heap.size, 0, none⟩ = some (.int .i64 2) ∧ w'.cell? ⟨w2.heap.size, 1, none⟩ = some (.int .i64 0) ∧ w'.cell? ⟨w2.heap.size, 2, none⟩ = some (.string ⟨#[]⟩) ∧ w'.cell? ⟨w2.heap.size, 3, none⟩ = some (.string ⟨#[]⟩) ∧ w'.cell? ⟨w2.heap.size, 4, none⟩ = some (.string ⟨#[]⟩) ∧ w'.cell? ⟨w2.heap.size, 5, none⟩ = some (.bool false) ∧ w'.cell? ⟨w2.heap.size, 6, none⟩ = some (.bool false) ∧ w'.cell? ⟨w2.heap.size, 7, none⟩ = some (.slice (some ⟨b0, o0, none⟩) l.length cal) ∧ w'.cell? ⟨w6.heap.size, 0, none⟩ = some (.int .i64 k0) ∧ w'.cell? ⟨w6.heap.size, 1, none⟩ = some (.int .i64 pk0) ∧ w'.cell? ⟨w6.heap.size, 2, none⟩ = some (.string y0) ∧ w'.cell? ⟨w6.heap.size, 3, none⟩ = some (.string m0) ∧ w'.cell? ⟨w6.heap.size, 4, none⟩ = some (.string s0) ∧ w'.cell? ⟨w6.heap.size, 5, none⟩ = some (.bool a0) ∧ w'.cell? ⟨w6.heap.size, 6, none⟩ = some (.bool t0) ∧ w'.cell? ⟨w6.heap.size, 7, none⟩ = some (.slice ad6 r0.length cp6) ∧ Kp F w' from ⟨(row8 (heap_block kq gF)).1, (row8 (heap_block kq gF)).2.1, (row8 (heap_block kq gF)).2.2.1, (row8 (heap_block kq gF)).2.2.2.1, (row8 (heap_block kq gF)).2.2.2.2.1, (row8 (heap_block kq gF)).2.2.2.2.2.1, (row8 (heap_block kq gF)).2.2.2.2.2.2.1, (row8 (heap_block kq gF)).2.2.2.2.2.2.2, (HB.out w' (kF.trans kq)).1, (HB.out w' (kF.trans kq)).2.1, (HB.out w' (kF.trans kq)).2.2.1, (HB.out w' (kF.trans kq)).2.2.2.1, (HB.out w' (kF.trans kq)).2.2.2.2.1, (HB.out w' (kF.trans kq)).2.2.2.2.2.1, (HB.out w' (kF.trans kq)).2.2.2.2.2.2.1, (HB.out w' (kF.trans kq)).2.2.2.2.2.2.2.1, (HB.out w' (kF.trans kq)).2.2.2.2.2.2.2.2.1, (HB.out w' (kF.trans kq)).2.2.2.2.2.2.2.2.2.1, (HB.out w' (kF.trans kq)).2.2.2.2.2.2.2.2.2.2.1, (HB.out w' (kF.trans kq)).2.2.2.2.2.2.2.2.2.2.2.1, (HB.out w' (kF.trans kq)).2.2.2.2.2.2.2.2.2.2.2.2.1, (HB.out w' (kF.trans kq)).2.2.2.2.2.2.2.2.2.2.2.2.2.1, (HB.out w' (kF.trans kq)).2.2.2.2.2.2.2.2.2.2.2.2.2.2.1, (HB.out w' (kF.trans kq)).2.2.2.2.2.2.2.2.2.2.2.2.2.2.2, kq⟩)
        clear gF kF
        (try go_wp2_with fail)
        refine wp_region_held_drew (S := fun w' => w'.cell? ⟨w7.heap.size, 0, none⟩ = some (.int .i64 2) ∧ w'.cell? ⟨w7.heap.size, 1, none⟩ = some (.int .i64 0) ∧ w'.cell? ⟨w7.heap.size, 2, none⟩ = some (.string ⟨#[]⟩) ∧ w'.cell? ⟨w7.heap.size, 3, none⟩ = some (.string ⟨#[]⟩) ∧ w'.cell? ⟨w7.heap.size, 4, none⟩ = some (.string ⟨#[]⟩) ∧ w'.cell? ⟨w7.heap.size, 5, none⟩ = some (.bool false) ∧ w'.cell? ⟨w7.heap.size, 6, none⟩ = some (.bool false) ∧ w'.cell? ⟨w7.heap.size, 7, none⟩ = some (.slice (some ⟨w7.heap.size + 1, 0, none⟩) 2 2) ∧ w'.cell? ⟨w2.heap.size, 0, none⟩ = some (.int .i64 2) ∧ w'.cell? ⟨w2.heap.size, 1, none⟩ = some (.int .i64 0) ∧ w'.cell? ⟨w2.heap.size, 2, none⟩ = some (.string ⟨#[]⟩) ∧ w'.cell? ⟨w2.heap.size, 3, none⟩ = some (.string ⟨#[]⟩) ∧ w'.cell? ⟨w2.heap.size, 4, none⟩ = some (.string ⟨#[]⟩) ∧ w'.cell? ⟨w2.heap.size, 5, none⟩ = some (.bool false) ∧ w'.cell? ⟨w2.heap.size, 6, none⟩ = some (.bool false) ∧ w'.cell? ⟨w2.heap.size, 7, none⟩ = some (.slice (some ⟨b0, o0, none⟩) l.length cal) ∧ w'.cell? ⟨w6.heap.size, 0, none⟩ = some (.int .i64 k0) ∧ w'.cell? ⟨w6.heap.size, 1, none⟩ = some (.int .i64 pk0) ∧ w'.cell? ⟨w6.heap.size, 2, none⟩ = some (.string y0) ∧ w'.cell? ⟨w6.heap.size, 3, none⟩ = some (.string m0) ∧ w'.cell? ⟨w6.heap.size, 4, none⟩ = some (.string s0) ∧ w'.cell? ⟨w6.heap.size, 5, none⟩ = some (.bool a0) ∧ w'.cell? ⟨w6.heap.size, 6, none⟩ = some (.bool t0) ∧ w'.cell? ⟨w6.heap.size, 7, none⟩ = some (.slice ad6 r0.length cp6) ∧ Kp F w') (by kernel_rfl) ?_ (fun hHeld0 => ?_)
        · (try dsimp only); exact KT.out _ (by first | with_reducible exact kf0 | ((repeat (first | with_reducible refine Kp.trans ?_ (Kp.drew _) | with_reducible refine Kp.trans ?_ (Kp.alloc _ _))); with_reducible exact kf0))
        refine tkW (v := ?_) 0 moB0 rfl (by kernel_rfl) (by kernel_rfl) (by kernel_rfl) (fun _ _ _ h => h) (by rfl) ?_ (by assumption) ?_
        rotate_left
        · intro w hSw; (try dsimp only at hSw); go_simp; (try with_reducible rfl)
        (try simp only [Act.put, moB0, List.setIfInBounds_toArray, List.set_cons_zero, List.set_cons_succ])
        refine tkW (v := ?_) 1 moB1 rfl (by kernel_rfl) (by kernel_rfl) (by kernel_rfl) (fun _ _ _ h => h) (by rfl) ?_ (by assumption) ?_
        rotate_left
        · intro w hSw; (try dsimp only at hSw); go_simp; (try with_reducible rfl)
        (try simp only [Act.put, moB1, List.setIfInBounds_toArray, List.set_cons_zero, List.set_cons_succ])
        refine tkW (v := ?_) 2 moB2 rfl (by kernel_rfl) (by kernel_rfl) (by kernel_rfl) (fun _ _ _ h => h) (by rfl) ?_ (by assumption) ?_
        rotate_left
        · intro w hSw; (try dsimp only at hSw); go_simp; (try with_reducible rfl)
        (try simp only [Act.put, moB2, List.setIfInBounds_toArray, List.set_cons_zero, List.set_cons_succ])
        refine tkW (v := ?_) 5 moB5 rfl (by kernel_rfl) (by kernel_rfl) (by kernel_rfl) (fun _ _ _ h => h) (by rfl) ?_ (by assumption) ?_
        rotate_left
        · intro w hSw; (try dsimp only at hSw); go_simp; (try with_reducible rfl)
        (try simp only [Act.put, moB5, List.setIfInBounds_toArray, List.set_cons_zero, List.set_cons_succ])
        refine tkE 3 moB3 rfl (by kernel_rfl) (fun K hK => ?_)
        go_simp
        (refine (OE.out _ _ _).mono ?_; rintro e wp ⟨rfl, kq1⟩; have kwp : Kp F _ := Kp.trans (show Kp F _ from (by first | with_reducible exact kf0 | ((repeat (first | with_reducible refine Kp.trans ?_ (Kp.drew _) | with_reducible refine Kp.trans ?_ (Kp.alloc _ _))); with_reducible exact kf0))) kq1; clear kq1)
        (try go_wp2_with fail)
        refine hK.out _ _ ?_ (fun hHeld1 => ?_)
        · (try dsimp only); exact KT.out _ (by first | with_reducible exact kwp | ((repeat (first | with_reducible refine Kp.trans ?_ (Kp.drew _) | with_reducible refine Kp.trans ?_ (Kp.alloc _ _))); with_reducible exact kwp))
        clear hK K hHeld0
        (try simp only [Act.put, moB3, List.setIfInBounds_toArray, List.set_cons_zero, List.set_cons_succ])
        refine tkE 4 moB4 rfl (by kernel_rfl) (fun K hK => ?_)
        go_simp
        (refine (CF.out _ _ (NWF.out.kp (by first | with_reducible exact kwp | ((repeat (first | with_reducible refine Kp.trans ?_ (Kp.drew _) | with_reducible refine Kp.trans ?_ (Kp.alloc _ _))); with_reducible exact kwp))) (KF.out.trans (by first | with_reducible exact kwp | ((repeat (first | with_reducible refine Kp.trans ?_ (Kp.drew _) | with_reducible refine Kp.trans ?_ (Kp.alloc _ _))); with_reducible exact kwp)))).mono ?_; rintro e wq ⟨v9, rfl, h9, kq1⟩; have kwq : Kp F _ := Kp.trans (show Kp F _ from (by first | with_reducible exact kwp | ((repeat (first | with_reducible refine Kp.trans ?_ (Kp.drew _) | with_reducible refine Kp.trans ?_ (Kp.alloc _ _))); with_reducible exact kwp))) kq1; clear kq1; have N9 := Lib.hid h9; obtain ⟨ad9, cp9, rfl⟩ := h9.slice; clear h9)
        (try go_wp2_with fail)
        refine hK.out _ _ ?_ (fun hHeld2 => ?_)
        · (try dsimp only); exact KT.out _ (by first | with_reducible exact kwq | ((repeat (first | with_reducible refine Kp.trans ?_ (Kp.drew _) | with_reducible refine Kp.trans ?_ (Kp.alloc _ _))); with_reducible exact kwq))
        clear hK K hHeld1
        (try simp only [Act.put, moB4, List.setIfInBounds_toArray, List.set_cons_zero, List.set_cons_succ])
        refine tkE 6 moB6 rfl (by kernel_rfl) (fun K hK => ?_)
        go_simp
        (refine (SM.out _ _ _ (N9.out.kp (by first | with_reducible exact (Kp.refl wq) | ((repeat (first | with_reducible refine Kp.trans ?_ (Kp.drew _) | with_reducible refine Kp.trans ?_ (Kp.alloc _ _))); with_reducible exact (Kp.refl wq)))) (NVF.out.kp (by first | with_reducible exact kwq | ((repeat (first | with_reducible refine Kp.trans ?_ (Kp.drew _) | with_reducible refine Kp.trans ?_ (Kp.alloc _ _))); with_reducible exact kwq)))).mono ?_; rintro e wt ⟨rfl, kq1⟩; have kwt : Kp F _ := Kp.trans (show Kp F _ from (by first | with_reducible exact kwq | ((repeat (first | with_reducible refine Kp.trans ?_ (Kp.drew _) | with_reducible refine Kp.trans ?_ (Kp.alloc _ _))); with_reducible exact kwq))) kq1; clear kq1)
        (try go_wp2_with fail)
        refine hK.out _ _ ?_ (fun hHeld3 => ?_)
        · (try dsimp only); exact KT.out _ (by first | with_reducible exact kwt | ((repeat (first | with_reducible refine Kp.trans ?_ (Kp.drew _) | with_reducible refine Kp.trans ?_ (Kp.alloc _ _))); with_reducible exact kwt))
        clear hK K hHeld2
        (try simp only [Act.put, moB6, List.setIfInBounds_toArray, List.set_cons_zero, List.set_cons_succ])
        refine tkW (v := ?_) 7 moB7 rfl (by kernel_rfl) (by kernel_rfl) (by kernel_rfl) (fun _ _ _ h => h) (by rfl) ?_ (by assumption) ?_
        rotate_left
        · intro w hSw; (try dsimp only at hSw); go_simp; (try with_reducible rfl)
        (try simp only [Act.put, moB7, List.setIfInBounds_toArray, List.set_cons_zero, List.set_cons_succ])
        refine tkW (v := ?_) 8 moB8 rfl (by kernel_rfl) (by kernel_rfl) (by kernel_rfl) (fun _ _ _ h => h) (by rfl) ?_ (by assumption) ?_
        rotate_left
        · intro w hSw; (try dsimp only at hSw); go_simp; (try with_reducible rfl)
        (try simp only [Act.put, moB8, List.setIfInBounds_toArray, List.set_cons_zero, List.set_cons_succ])
        refine tkW (v := ?_) 9 moB9 rfl (by kernel_rfl) (by kernel_rfl) (by kernel_rfl) (fun _ _ _ h => h) (by rfl) ?_ (by assumption) ?_
        rotate_left
        · intro w hSw; (try dsimp only at hSw); go_simp; (try with_reducible rfl)
        (try simp only [Act.put, moB9, List.setIfInBounds_toArray, List.set_cons_zero, List.set_cons_succ])
        refine tkE 10 moB10 rfl (by kernel_rfl) (fun K hK => ?_)
        go_simp
        (refine (SU.out _ _ (NT.out.kp (by first | with_reducible exact kwt | ((repeat (first | with_reducible refine Kp.trans ?_ (Kp.drew _) | with_reducible refine Kp.trans ?_ (Kp.alloc _ _))); with_reducible exact kwt))) (KF.out.trans (by first | with_reducible exact kwt | ((repeat (first | with_reducible refine Kp.trans ?_ (Kp.drew _) | with_reducible refine Kp.trans ?_ (Kp.alloc _ _))); with_reducible exact kwt)))).mono ?_; rintro e wu ⟨rfl, kq1⟩; have kwu : Kp F _ := Kp.trans (show Kp F _ from (by first | with_reducible exact kwt | ((repeat (first | with_reducible refine Kp.trans ?_ (Kp.drew _) | with_reducible refine Kp.trans ?_ (Kp.alloc _ _))); with_reducible exact kwt))) kq1; clear kq1)
        (try go_wp2_with fail)
        refine hK.out _ _ ?_ (fun hHeld4 => ?_)
        · (try dsimp only); exact KT.out _ (by first | with_reducible exact kwu | ((repeat (first | with_reducible refine Kp.trans ?_ (Kp.drew _) | with_reducible refine Kp.trans ?_ (Kp.alloc _ _))); with_reducible exact kwu))
        clear hK K hHeld3
        (try simp only [Act.put, moB10, List.setIfInBounds_toArray, List.set_cons_zero, List.set_cons_succ])
        refine tkW (v := ?_) 11 moB11 rfl (by kernel_rfl) (by kernel_rfl) (by kernel_rfl) (fun _ _ _ h => h) (by rfl) ?_ (by assumption) ?_
        rotate_left
        · intro w hSw; (try dsimp only at hSw); go_simp; (try with_reducible rfl)
        (try simp only [Act.put, moB11, List.setIfInBounds_toArray, List.set_cons_zero, List.set_cons_succ])
        refine tkW (v := ?_) 12 moB12 rfl (by kernel_rfl) (by kernel_rfl) (by kernel_rfl) (fun _ _ _ h => h) (by rfl) ?_ (by assumption) ?_
        rotate_left
        · intro w hSw; (try dsimp only at hSw); go_simp; (try with_reducible rfl)
        (try simp only [Act.put, moB12, List.setIfInBounds_toArray, List.set_cons_zero, List.set_cons_succ])
        refine tkU 13 moB13 rfl (by kernel_rfl) (by kernel_rfl) (by kernel_rfl) (fun _ _ _ h => h) (by rfl) (by assumption) ?_
        (try simp only [Act.put, moB13, List.setIfInBounds_toArray, List.set_cons_zero, List.set_cons_succ])
        refine tkU 14 moB14 rfl (by kernel_rfl) (by kernel_rfl) (by kernel_rfl) (fun _ _ _ h => h) (by rfl) (by assumption) ?_
        (try simp only [Act.put, moB14, List.setIfInBounds_toArray, List.set_cons_zero, List.set_cons_succ])
        refine tkU 15 moB15 rfl (by kernel_rfl) (by kernel_rfl) (by kernel_rfl) (fun _ _ _ h => h) (by rfl) (by assumption) ?_
        (try simp only [Act.put, moB15, List.setIfInBounds_toArray, List.set_cons_zero, List.set_cons_succ])
        refine tkU 16 moB16 rfl (by kernel_rfl) (by kernel_rfl) (by kernel_rfl) (fun _ _ _ h => h) (by rfl) (by assumption) ?_
        (try simp only [Act.put, moB16, List.setIfInBounds_toArray, List.set_cons_zero, List.set_cons_succ])
        refine tkW (v := ?_) 17 moB17 rfl (by kernel_rfl) (by kernel_rfl) (by kernel_rfl) (fun _ _ _ h => h) (by rfl) ?_ (by assumption) ?_
        rotate_left
        · intro w hSw; (try dsimp only at hSw); go_simp; (try with_reducible rfl)
        (try simp only [Act.put, moB17, List.setIfInBounds_toArray, List.set_cons_zero, List.set_cons_succ])
        refine tkW (v := ?_) 18 moB18 rfl (by kernel_rfl) (by kernel_rfl) (by kernel_rfl) (fun _ _ _ h => h) (by rfl) ?_ (by assumption) ?_
        rotate_left
        · intro w hSw; (try dsimp only at hSw); go_simp; (try with_reducible rfl)
        (try simp only [Act.put, moB18, List.setIfInBounds_toArray, List.set_cons_zero, List.set_cons_succ])
        refine tkW (v := ?_) 19 moB19 rfl (by kernel_rfl) (by kernel_rfl) (by kernel_rfl) (fun _ _ _ h => h) (by rfl) ?_ (by assumption) ?_
        rotate_left
        · intro w hSw; (try dsimp only at hSw); go_simp; (try with_reducible rfl)
        (try simp only [Act.put, moB19, List.setIfInBounds_toArray, List.set_cons_zero, List.set_cons_succ])
        refine wpAnyH_done (by kernel_rfl) ?_ _
        go_wp2
        go_ret
        exact ⟨rfl, KF.out.trans kwu⟩
theorem cmore_walk (vl : Value) (l : List ND) (w : World) (hl : NodesAt w vl l) (T : TabSH w) :
    Calls Tryd.prog 7 #[vl] w fun e w' => e = .returned (.bool true) ∧ Kp w w' := by
  by_cases h20 : l.length ≤ 20
  · rcases Bool.eq_false_or_eq_true (fewG (orN l)) with hf | hf
    · rcases Bool.eq_false_or_eq_true (saneN saneP (orN l)) with hs | hs
      · rcases Bool.eq_false_or_eq_true (saneN saneP (orN [nth l 0, orN l])) with h2 | h2
        · exact cmore_yes1 vl l w hl T h20 hf hs h2
        · exact cmore_yes0 vl l w hl T h20 hf hs h2
      · exact cmore_no vl l w hl T h20 hf hs
    · exact cmore_many vl l w hl T h20 hf
  · exact cmore_long vl l w hl T (by omega)
end Go.Proofs.YtgmigeehfhkimaaDoor

namespace Go.Proofs.YtgmigeehfhkimaaDoor.lawCanonMore
open Go.ChangeShapes Go.WideShapes Go.ChangeAt Go.RowKit
open Go.ChangeMaps (open_string shut_string)
set_option linter.unusedVariables false

theorem own : ownKnob Tryd.prog.godebug = none := by kernel_rfl
theorem laidOut : laidOutB Tryd.prog = true := by kernel_rfl

/-- A world for the witness: the settled one, each table holding what its initialiser lays. -/
noncomputable def laidWorld (os : Os) : World :=
  { World.holding Tryd.prog os ⟨#[], #[], []⟩ with heap := ((World.holding Tryd.prog os ⟨#[], #[], []⟩).heap.modify 0 fun
      | .cells _ t frozen => .cells #[.int .i64 4, .int .i64 2, .int .i64 2, .int .i64 12, .string ⟨#[]⟩, .int .i64 4, .int .i64 2, .int .i64 0, .int .i64 12, .string ⟨#[]⟩, .int .i64 4, .int .i64 1, .int .i64 0, .int .i64 4, .string ⟨#[]⟩, .int .i64 4, .int .i64 0, .int .i64 0, .int .i64 0, .string ⟨#[]⟩, .int .i64 3, .int .i64 0, .int .i64 0, .int .i64 0, .string ⟨#[100]⟩, .int .i64 2, .int .i64 0, .int .i64 0, .int .i64 0, .string ⟨#[99]⟩] t frozen
      | o => o) }
theorem laid_met (os : Os) : laidMet Tryd.prog Rows.canonMoreRow.laid ((laidWorld os).forCall (fun _ _ => 0) ⟨#[], #[.slice none 0 0], []⟩).memory :=
  laidMet_of_run' 8 (by kernel_rfl) (by kernel_rfl)
theorem reads (os : Os) {H : Type} (enc : TypeId × Value → H) : ∃ places, DataW.whole enc Tryd.prog ((laidWorld os).forCall (fun _ _ => 0) ⟨#[], #[.slice none 0 0], []⟩).memory Tryd.f7.params.toList Rows.canonMoreSpec.vars false (#[.slice none 0 0] : Array Value).toList 8 = some ([.nil], [], places) :=
  ⟨[], by kernel_rfl⟩

set_option maxRecDepth 100000 in
theorem contract (H : Type) (enc : TypeId × Value → H) (W : World) (base : Nat) (args : Array Value) (ds gs : List (DataW H)) (before : List MemPlace)
    (hval : ∀ (j : Nat) t v, Tryd.f7.params[j]? = some t → args[j]? = some v → Value.okWide Tryd.prog W .any base t v)
    (hW : DataW.Whole enc Tryd.prog Tryd.f7.params.toList Rows.canonMoreSpec.vars false W args.toList ds gs before) (hL : laidMetH Tryd.prog Rows.canonMoreRow.laid W) :
    Calls Tryd.prog 7 args W fun e W' => ∃ v, e = .returned v ∧ Rows.canonMoreSpec.post enc Tryd.prog Tryd.f7 false true false false W args v W' := by
  have hW' := hW
  have hltA : ∀ x ∈ before, x.block < W.heap.size := fun x hx => by simpa using hW'.lt x hx
  obtain ⟨p, q, hA0, hV, rfl, hfz, hnd⟩ := hW
  have hA : DataW.TrodAll enc Tryd.prog W 0 (fun _ => true) true Tryd.f7.params.toList args.toList ds p := hA0
  rw [Tryd.params7] at hA hval
  obtain ⟨v0, vs0, d0, ds0, p0, q0, hargs, rfl, rfl, h0, r0⟩ := trodAll_cons hA
  obtain ⟨rfl, rfl, rfl⟩ := trodAll_nil r0
  obtain rfl : args = #[v0] := by cases args; simp_all
  obtain ⟨rfl, rfl⟩ := trodVars_none hV
  have hk0 := h0
  obtain ⟨l0, hn0, gn0, wg0⟩ := open_nodes (hval 0 24 v0 rfl rfl) h0
  clear hA0
  simp only [List.append_nil] at hW'
  refine (cmore_walk v0 l0 W hn0 (tabs_of1 hL)).mono fun e W' ⟨he, hg⟩ => ?_
  subst he
  have bel : Below W.heap.size W W' := hg
  exact ⟨_, rfl, _, _, _, [], _, [], hW', trodAll_mk1 (shut_bool Tryd.underlying4 _), (trodAll_cons_mk (Below.trod laidOut (by kernel_rfl) (of_decide_eq_true (by kernel_rfl)) hk0 bel (fun x hx => hltA x (by simp [hx]))) trodAll_mk0), rfl, bel.frame _, fun h => by cases h⟩

set_option maxRecDepth 100000 in
theorem lifted (os : Os) (started : os.Started) (H : Type) (enc : TypeId × Value → H) (F : Stop.Interp) :
    ReturnsInHanded {} Tryd.checked os 7 .any ((OpenSpec.ofChange Rows.canonMoreSpec).preRow enc Tryd.prog Tryd.f7 Rows.canonMoreRow.domain false Rows.canonMoreRow.laid) (((OpenSpec.ofChange Rows.canonMoreSpec).at F).post enc Tryd.prog Tryd.f7 false true false false) := by
  obtain ⟨places, hx⟩ := reads os enc
  refine returnsInHanded_of_row (C := Tryd.checked) (s := OpenSpec.ofChange Rows.canonMoreSpec) own started (by kernel_rfl) Tryd.func7
    (witness_row_at (enc := enc) (C := Tryd.checked) false (laidWorld os) #[.slice none 0 0] rfl (by kernel_rfl) (by kernel_rfl) (by kernel_rfl)
      (OpenSpec.preRow_of_cond 8 hx (by kernel_rfl) (fun k hk => by cases hk) (by kernel_rfl) (laid_met os))) ?_
  intro W base args ds gs before hval hW _ hcond _ hL _ _
  exact contract H enc W base args ds gs before hval hW hL

theorem said : Rows.CanonMoreSaid :=
  OpenClaim.holds_of_cond 7 Tryd.f7 rfl rfl rfl rfl rfl rfl rfl ⟨rfl, rfl, rfl, rfl, rfl⟩ rfl rfl rfl rfl rfl (by kernel_rfl) Tryd.func7 (by kernel_rfl)
    (of_decide_eq_true (by kernel_rfl)) (by unfold Func.isWrapper; first | (rw [if_pos (by decide +kernel)]; kernel_rfl) | (rw [if_neg (by decide +kernel)]; exact ⟨rfl, rfl⟩))
    (fun os started H enc _ F => by rw [OpenClaim.pre_eq_preRow]; exact lifted os started H enc F)

theorem plain (f : FuncId) (fn : Func) (hf : Tryd.pinned.checked.prog.funcNamed "lustrum/lustrumlaw12.CanonMore" = some f) (hfn : Tryd.pinned.checked.prog.funcs[f]? = some fn) :
    true = Tryd.pinned.checked.prog.looks [] ∧ ∀ (j : Nat) t, fn.params[j]? = some t → Tryd.pinned.checked.prog.wantsStandIn t = false := by
  obtain rfl : f = 7 := Option.some.inj ((show Tryd.prog.funcNamed "lustrum/lustrumlaw12.CanonMore" = some 7 by kernel_rfl).symm.trans hf) |>.symm
  obtain rfl : fn = Tryd.f7 := (Option.some.inj (Tryd.func7.symm.trans hfn)).symm
  refine ⟨by kernel_rfl, fun j t ht => ?_⟩
  rw [Tryd.params7] at ht
  have hm := Array.mem_of_getElem? ht
  have ho : t = 24 := by first | simpa using hm | (simp at hm; rcases hm with h <;> simp [h])
  subst ho
  exact (show Tryd.prog.wantsStandIn 24 = false by kernel_rfl)

/-- THE CARD. -/
theorem proved : Rows.CanonMoreCardSaid :=
  Claim7.holds_tied_plain_at .later [] _ _ _ _ said (fun _ h => by cases h) (by kernel_rfl) (fun _ h => by cases h) canonMore_row_tie rfl ⟨rfl, rfl⟩ (by kernel_rfl) rfl plain (by kernel_rfl)
#print axioms proved
end Go.Proofs.YtgmigeehfhkimaaDoor.lawCanonMore
