/-
  Joined: L12E, LCanonOrder.
-/
import Derived.Test.YtgmigeehfhkimaaDoorGCnB
import Derived.Test.YtgmigeehfhkimaaDoorGPrA
import Derived.LoopTactic
import Derived.Test.YtgmigeehfhkimaaDoorCards
import Derived.Test.YtgmigeehfhkimaaDoorTie
import Derived.WalkKit
import Derived.ProofKit
import Derived.OpenShut
import Derived.ShutString
import Derived.ChangeOld
import Derived.Below
import Derived.Test.YtgmigeehfhkimaaDoorGTrB
import Derived.Deep.DeepHandedRow
import Derived.Lib.LaidTab
import Derived.Carry
namespace Go.Proofs.YtgmigeehfhkimaaDoor
open Go.RowKit Go.Shelf
set_option linter.unusedVariables false
set_option linter.unusedSimpArgs false
section
variable {P : Program} {ops : Array Oper} {Q : Exit → Act → World → Prop} {md : Region.Mode} {S : World → Prop} {fuel : Nat} {listed : Array Bool} {a : Act} {w : World}
theorem tkV {v : Value} (i : Nat) (oi : Oper) (hy : ∀ w, S w → (execOp a.eval oi).run P w = .ok (.value v) w) (h : wpAnyH P md ops Q S fuel (listed.setIfInBounds i true) (a.put oi.dst v) w)
    (hi : ops[i]? = some oi := by rfl) (hs : Region.noSelect ops = true := by kernel_rfl) (hf : Region.free md ops listed i = true := by kernel_rfl) (hr : (Region.ready md ops listed).contains i = true := by kernel_rfl)
    (hQ : ∀ c a w, Q (.panic c) (a.put oi.dst v) w → Q (.panic c) a w := by exact fun _ _ _ h => h) (hw : Region.wanted oi (yielded ops a.tmps) = true := by rfl) (hS : S w := by assumption) : wpAnyH P md ops Q S (fuel + 1) listed a w :=
  tkW i oi hi hs hf hr hQ hw hy hS h
theorem tkN (i : Nat) (oi : Oper) (h : wpAnyH P md ops Q S fuel (listed.setIfInBounds i true) (a.put oi.dst undef) w)
    (hi : ops[i]? = some oi := by rfl) (hs : Region.noSelect ops = true := by kernel_rfl) (hf : Region.free md ops listed i = true := by kernel_rfl) (hr : (Region.ready md ops listed).contains i = true := by kernel_rfl)
    (hQ : ∀ c a w, Q (.panic c) (a.put oi.dst undef) w → Q (.panic c) a w := by exact fun _ _ _ h => h) (hw : Region.wanted oi (yielded ops a.tmps) = false := by rfl) (hS : S w := by assumption) : wpAnyH P md ops Q S (fuel + 1) listed a w :=
  tkU i oi hi hs hf hr hQ hw hS h
end
theorem xA {α : Type} (l : List α) (i : Nat) (x : α) : l.toArray.setIfInBounds i x = (l.set i x).toArray := List.setIfInBounds_toArray ..
theorem xB {α : Type} (l : List α) (a b : α) : (a :: l).set 0 b = b :: l := rfl
theorem xC {α : Type} (l : List α) (n : Nat) (a b : α) : (a :: l).set (n + 1) b = a :: l.set n b := rfl
theorem rev_take {l : List ND} {j q : Nat} (h : q + j + 1 = l.length) : l.reverse.take (j + 1) = l.reverse.take j ++ [nth l q] := by
  have hj : j < l.reverse.length := by rw [List.length_reverse]; omega
  rw [nth_take hj]
  congr 2
  unfold nth
  rw [List.getD_eq_getElem?_getD, List.getD_eq_getElem?_getD, List.getElem?_reverse (by omega)]
  congr 2
  omega
set_option maxHeartbeats 16000000 in
set_option maxRecDepth 100000 in
theorem corder_long (vl : Value) (l : List ND) (w : World) (hl : NodesAt w vl l) (T : TabSH w) (h20 : 20 < l.length) :
    Calls Tryd.prog 5 #[vl] w fun e w' => e = .returned (.bool true) ∧ Kp w w' := by
  have AW := Lib.hid (fun w1 (kk : Kp w w1) => awake12 w1 (T.kp kk))
  have OO := Lib.hid (fun w1 => oneOf_any vl l w1 hl.slice)
  have FW := Lib.hid (fun w1 (kk : Kp w w1) => rfewG_any (orN l) vl w1 (hl.kp kk))
  have SN := Lib.hid (fun w1 (kk : Kp w w1) => tSaneG_any (orN l) vl w1 (hl.kp kk) (T.kp kk))
  have lm := hl.len
  unfold maxLen at lm
  have g1 : decide ((l.length : Int) > 20) = true := decide_eq_true (by omega)
  clear T
  obtain ⟨adl, cal, rfl⟩ := hl.slice
  unfold orN pz ndV at *
  simp only [ND.k, ND.p, ND.a, ND.t, ND.l] at *
  obtain ⟨W0, hW⟩ : ∃ W0, W0 = w := ⟨_, rfl⟩
  subst hW
  have K00 := Lib.hid (Kp.refl W0)
  have K0 := Lib.hid (Kp.refl W0)
  have HB := Lib.hid True.intro
  go_enter Tryd.func5, Tryd.ntmps5
  go_wp2_with fail
  refine (AW.out _ (K00.out.trans (by first | with_reducible exact K0.out | with_reducible exact K0.out.trans (Kp.alloc _ _) | with_reducible exact (K0.out.trans (Kp.alloc _ _)).trans (Kp.alloc _ _) | with_reducible exact ((K0.out.trans (Kp.alloc _ _)).trans (Kp.alloc _ _)).trans (Kp.alloc _ _) | with_reducible exact K0.out.trans (Kp.drew _) | with_reducible exact K0.out.trans (Kp.drewN _ _)))).mono ?_
  rintro e w1 ⟨rfl, kk⟩
  have K1 := Lib.hid ((show Kp W0 _ from (by first | with_reducible exact K0.out | with_reducible exact K0.out.trans (Kp.alloc _ _) | with_reducible exact (K0.out.trans (Kp.alloc _ _)).trans (Kp.alloc _ _) | with_reducible exact ((K0.out.trans (Kp.alloc _ _)).trans (Kp.alloc _ _)).trans (Kp.alloc _ _) | with_reducible exact K0.out.trans (Kp.drew _) | with_reducible exact K0.out.trans (Kp.drewN _ _))).trans kk)
  clear kk
  go_wp2_with fail
  refine (OO.out _).mono ?_
  rintro e w2 ⟨rfl, kk⟩
  have K2 := Lib.hid ((show Kp W0 _ from (by first | with_reducible exact K1.out | with_reducible exact K1.out.trans (Kp.alloc _ _) | with_reducible exact (K1.out.trans (Kp.alloc _ _)).trans (Kp.alloc _ _) | with_reducible exact ((K1.out.trans (Kp.alloc _ _)).trans (Kp.alloc _ _)).trans (Kp.alloc _ _) | with_reducible exact K1.out.trans (Kp.drew _) | with_reducible exact K1.out.trans (Kp.drewN _ _))).trans kk)
  clear kk
  obtain ⟨w3, hV⟩ : ∃ x, x = w2.alloc (.cells #[.int .i64 2, .int .i64 0, .string ⟨#[]⟩, .string ⟨#[]⟩, .string ⟨#[]⟩, .bool false, .bool false, .slice adl l.length cal] 26) := ⟨_, rfl⟩
  have ka : Kp w2 w3 := by rw [hV]; exact Kp.alloc _ _
  have hgq : w3.heap[w2.heap.size]? = some (.cells #[.int .i64 2, .int .i64 0, .string ⟨#[]⟩, .string ⟨#[]⟩, .string ⟨#[]⟩, .bool false, .bool false, .slice adl l.length cal] 26 (0, 0)) := by rw [hV]; exact heap_at _ _ _ rfl
  have q0 : w3.cell? ⟨w2.heap.size, 0, none⟩ = some (.int .i64 2) := by simp [World.cell?, hgq]
  have q1 : w3.cell? ⟨w2.heap.size, 1, none⟩ = some (.int .i64 0) := by simp [World.cell?, hgq]
  have q2 : w3.cell? ⟨w2.heap.size, 2, none⟩ = some (.string ⟨#[]⟩) := by simp [World.cell?, hgq]
  have q3 : w3.cell? ⟨w2.heap.size, 3, none⟩ = some (.string ⟨#[]⟩) := by simp [World.cell?, hgq]
  have q4 : w3.cell? ⟨w2.heap.size, 4, none⟩ = some (.string ⟨#[]⟩) := by simp [World.cell?, hgq]
  have q5 : w3.cell? ⟨w2.heap.size, 5, none⟩ = some (.bool false) := by simp [World.cell?, hgq]
  have q6 : w3.cell? ⟨w2.heap.size, 6, none⟩ = some (.bool false) := by simp [World.cell?, hgq]
  have q7 : w3.cell? ⟨w2.heap.size, 7, none⟩ = some (.slice adl l.length cal) := by simp [World.cell?, hgq]
  have HB2 := Lib.hid (fun w1 (k : Kp w3 w1) => show w1.cell? ⟨w2.heap.size, 0, none⟩ = some (.int .i64 2) ∧ w1.cell? ⟨w2.heap.size, 1, none⟩ = some (.int .i64 0) ∧ w1.cell? ⟨w2.heap.size, 2, none⟩ = some (.string ⟨#[]⟩) ∧ w1.cell? ⟨w2.heap.size, 3, none⟩ = some (.string ⟨#[]⟩) ∧ w1.cell? ⟨w2.heap.size, 4, none⟩ = some (.string ⟨#[]⟩) ∧ w1.cell? ⟨w2.heap.size, 5, none⟩ = some (.bool false) ∧ w1.cell? ⟨w2.heap.size, 6, none⟩ = some (.bool false) ∧ w1.cell? ⟨w2.heap.size, 7, none⟩ = some (.slice adl l.length cal) from ⟨cell_up k q0, cell_up k q1, cell_up k q2, cell_up k q3, cell_up k q4, cell_up k q5, cell_up k q6, cell_up k q7⟩)
  have K01 := Lib.hid (K00.out.trans (K2.out.trans ka))
  clear HB K00 hgq  q0 q1 q2 q3 q4 q5 q6 q7
  have HB := HB2
  have K00 := K01
  clear HB2 K01
  have K3 := Lib.hid (Kp.refl w3)
  have Hw3 := Lib.hid hV
  clear hV ka
  go_wp2_with fail
  rw [← Hw3.out]
  obtain ⟨c0, c1, c2, c3, c4, c5, c6, c7⟩ := HB.out w3 (Kp.refl _)
  go_wp2
  go_ret
  exact ⟨rfl, K00.out.trans (by first | with_reducible exact K3.out | with_reducible exact K3.out.trans (Kp.alloc _ _) | with_reducible exact (K3.out.trans (Kp.alloc _ _)).trans (Kp.alloc _ _) | with_reducible exact ((K3.out.trans (Kp.alloc _ _)).trans (Kp.alloc _ _)).trans (Kp.alloc _ _) | with_reducible exact K3.out.trans (Kp.drew _) | with_reducible exact K3.out.trans (Kp.drewN _ _))⟩
set_option maxHeartbeats 16000000 in
set_option maxRecDepth 100000 in
theorem corder_many (vl : Value) (l : List ND) (w : World) (hl : NodesAt w vl l) (T : TabSH w) (h20 : l.length ≤ 20) (hf : fewG (orN l) = false) :
    Calls Tryd.prog 5 #[vl] w fun e w' => e = .returned (.bool true) ∧ Kp w w' := by
  have AW := Lib.hid (fun w1 (kk : Kp w w1) => awake12 w1 (T.kp kk))
  have OO := Lib.hid (fun w1 => oneOf_any vl l w1 hl.slice)
  have FW := Lib.hid (fun w1 (kk : Kp w w1) => rfewG_any (orN l) vl w1 (hl.kp kk))
  have SN := Lib.hid (fun w1 (kk : Kp w w1) => tSaneG_any (orN l) vl w1 (hl.kp kk) (T.kp kk))
  have lm := hl.len
  unfold maxLen at lm
  have g1 : decide ((l.length : Int) > 20) = false := decide_eq_false (by omega)
  rw [hf] at FW
  clear T hf
  obtain ⟨adl, cal, rfl⟩ := hl.slice
  unfold orN pz ndV at *
  simp only [ND.k, ND.p, ND.a, ND.t, ND.l] at *
  obtain ⟨W0, hW⟩ : ∃ W0, W0 = w := ⟨_, rfl⟩
  subst hW
  have K00 := Lib.hid (Kp.refl W0)
  have K0 := Lib.hid (Kp.refl W0)
  have HB := Lib.hid True.intro
  go_enter Tryd.func5, Tryd.ntmps5
  go_wp2_with fail
  refine (AW.out _ (K00.out.trans (by first | with_reducible exact K0.out | with_reducible exact K0.out.trans (Kp.alloc _ _) | with_reducible exact (K0.out.trans (Kp.alloc _ _)).trans (Kp.alloc _ _) | with_reducible exact ((K0.out.trans (Kp.alloc _ _)).trans (Kp.alloc _ _)).trans (Kp.alloc _ _) | with_reducible exact K0.out.trans (Kp.drew _) | with_reducible exact K0.out.trans (Kp.drewN _ _)))).mono ?_
  rintro e w1 ⟨rfl, kk⟩
  have K1 := Lib.hid ((show Kp W0 _ from (by first | with_reducible exact K0.out | with_reducible exact K0.out.trans (Kp.alloc _ _) | with_reducible exact (K0.out.trans (Kp.alloc _ _)).trans (Kp.alloc _ _) | with_reducible exact ((K0.out.trans (Kp.alloc _ _)).trans (Kp.alloc _ _)).trans (Kp.alloc _ _) | with_reducible exact K0.out.trans (Kp.drew _) | with_reducible exact K0.out.trans (Kp.drewN _ _))).trans kk)
  clear kk
  go_wp2_with fail
  refine (OO.out _).mono ?_
  rintro e w2 ⟨rfl, kk⟩
  have K2 := Lib.hid ((show Kp W0 _ from (by first | with_reducible exact K1.out | with_reducible exact K1.out.trans (Kp.alloc _ _) | with_reducible exact (K1.out.trans (Kp.alloc _ _)).trans (Kp.alloc _ _) | with_reducible exact ((K1.out.trans (Kp.alloc _ _)).trans (Kp.alloc _ _)).trans (Kp.alloc _ _) | with_reducible exact K1.out.trans (Kp.drew _) | with_reducible exact K1.out.trans (Kp.drewN _ _))).trans kk)
  clear kk
  obtain ⟨w3, hV⟩ : ∃ x, x = w2.alloc (.cells #[.int .i64 2, .int .i64 0, .string ⟨#[]⟩, .string ⟨#[]⟩, .string ⟨#[]⟩, .bool false, .bool false, .slice adl l.length cal] 26) := ⟨_, rfl⟩
  have ka : Kp w2 w3 := by rw [hV]; exact Kp.alloc _ _
  have hgq : w3.heap[w2.heap.size]? = some (.cells #[.int .i64 2, .int .i64 0, .string ⟨#[]⟩, .string ⟨#[]⟩, .string ⟨#[]⟩, .bool false, .bool false, .slice adl l.length cal] 26 (0, 0)) := by rw [hV]; exact heap_at _ _ _ rfl
  have q0 : w3.cell? ⟨w2.heap.size, 0, none⟩ = some (.int .i64 2) := by simp [World.cell?, hgq]
  have q1 : w3.cell? ⟨w2.heap.size, 1, none⟩ = some (.int .i64 0) := by simp [World.cell?, hgq]
  have q2 : w3.cell? ⟨w2.heap.size, 2, none⟩ = some (.string ⟨#[]⟩) := by simp [World.cell?, hgq]
  have q3 : w3.cell? ⟨w2.heap.size, 3, none⟩ = some (.string ⟨#[]⟩) := by simp [World.cell?, hgq]
  have q4 : w3.cell? ⟨w2.heap.size, 4, none⟩ = some (.string ⟨#[]⟩) := by simp [World.cell?, hgq]
  have q5 : w3.cell? ⟨w2.heap.size, 5, none⟩ = some (.bool false) := by simp [World.cell?, hgq]
  have q6 : w3.cell? ⟨w2.heap.size, 6, none⟩ = some (.bool false) := by simp [World.cell?, hgq]
  have q7 : w3.cell? ⟨w2.heap.size, 7, none⟩ = some (.slice adl l.length cal) := by simp [World.cell?, hgq]
  have HB2 := Lib.hid (fun w1 (k : Kp w3 w1) => show w1.cell? ⟨w2.heap.size, 0, none⟩ = some (.int .i64 2) ∧ w1.cell? ⟨w2.heap.size, 1, none⟩ = some (.int .i64 0) ∧ w1.cell? ⟨w2.heap.size, 2, none⟩ = some (.string ⟨#[]⟩) ∧ w1.cell? ⟨w2.heap.size, 3, none⟩ = some (.string ⟨#[]⟩) ∧ w1.cell? ⟨w2.heap.size, 4, none⟩ = some (.string ⟨#[]⟩) ∧ w1.cell? ⟨w2.heap.size, 5, none⟩ = some (.bool false) ∧ w1.cell? ⟨w2.heap.size, 6, none⟩ = some (.bool false) ∧ w1.cell? ⟨w2.heap.size, 7, none⟩ = some (.slice adl l.length cal) from ⟨cell_up k q0, cell_up k q1, cell_up k q2, cell_up k q3, cell_up k q4, cell_up k q5, cell_up k q6, cell_up k q7⟩)
  have K01 := Lib.hid (K00.out.trans (K2.out.trans ka))
  clear HB K00 hgq  q0 q1 q2 q3 q4 q5 q6 q7
  have HB := HB2
  have K00 := K01
  clear HB2 K01
  have K3 := Lib.hid (Kp.refl w3)
  have Hw3 := Lib.hid hV
  clear hV ka
  go_wp2_with fail
  rw [← Hw3.out]
  obtain ⟨c0, c1, c2, c3, c4, c5, c6, c7⟩ := HB.out w3 (Kp.refl _)
  go_wp2_with fail
  refine (FW.out _ (K00.out.trans (by first | with_reducible exact K3.out | with_reducible exact K3.out.trans (Kp.alloc _ _) | with_reducible exact (K3.out.trans (Kp.alloc _ _)).trans (Kp.alloc _ _) | with_reducible exact ((K3.out.trans (Kp.alloc _ _)).trans (Kp.alloc _ _)).trans (Kp.alloc _ _) | with_reducible exact K3.out.trans (Kp.drew _) | with_reducible exact K3.out.trans (Kp.drewN _ _)))).mono ?_
  rintro e w4 ⟨rfl, kk⟩
  have K4 := Lib.hid ((show Kp w3 _ from (by first | with_reducible exact K3.out | with_reducible exact K3.out.trans (Kp.alloc _ _) | with_reducible exact (K3.out.trans (Kp.alloc _ _)).trans (Kp.alloc _ _) | with_reducible exact ((K3.out.trans (Kp.alloc _ _)).trans (Kp.alloc _ _)).trans (Kp.alloc _ _) | with_reducible exact K3.out.trans (Kp.drew _) | with_reducible exact K3.out.trans (Kp.drewN _ _))).trans kk)
  clear kk
  clear c0 c1 c2 c3 c4 c5 c6 c7
  obtain ⟨c0, c1, c2, c3, c4, c5, c6, c7⟩ := HB.out w4 K4.out
  go_wp2
  go_ret
  exact ⟨rfl, K00.out.trans K4.out⟩
set_option maxHeartbeats 16000000 in
set_option maxRecDepth 100000 in
theorem corder_no (vl : Value) (l : List ND) (w : World) (hl : NodesAt w vl l) (T : TabSH w) (h20 : l.length ≤ 20) (hf : fewG (orN l) = true) (hs : saneN saneP (orN l) = false) :
    Calls Tryd.prog 5 #[vl] w fun e w' => e = .returned (.bool true) ∧ Kp w w' := by
  have AW := Lib.hid (fun w1 (kk : Kp w w1) => awake12 w1 (T.kp kk))
  have OO := Lib.hid (fun w1 => oneOf_any vl l w1 hl.slice)
  have FW := Lib.hid (fun w1 (kk : Kp w w1) => rfewG_any (orN l) vl w1 (hl.kp kk))
  have SN := Lib.hid (fun w1 (kk : Kp w w1) => tSaneG_any (orN l) vl w1 (hl.kp kk) (T.kp kk))
  have lm := hl.len
  unfold maxLen at lm
  have g1 : decide ((l.length : Int) > 20) = false := decide_eq_false (by omega)
  rw [hf] at FW
  rw [hs] at SN
  clear T hf hs
  obtain ⟨adl, cal, rfl⟩ := hl.slice
  unfold orN pz ndV at *
  simp only [ND.k, ND.p, ND.a, ND.t, ND.l] at *
  obtain ⟨W0, hW⟩ : ∃ W0, W0 = w := ⟨_, rfl⟩
  subst hW
  have K00 := Lib.hid (Kp.refl W0)
  have K0 := Lib.hid (Kp.refl W0)
  have HB := Lib.hid True.intro
  go_enter Tryd.func5, Tryd.ntmps5
  go_wp2_with fail
  refine (AW.out _ (K00.out.trans (by first | with_reducible exact K0.out | with_reducible exact K0.out.trans (Kp.alloc _ _) | with_reducible exact (K0.out.trans (Kp.alloc _ _)).trans (Kp.alloc _ _) | with_reducible exact ((K0.out.trans (Kp.alloc _ _)).trans (Kp.alloc _ _)).trans (Kp.alloc _ _) | with_reducible exact K0.out.trans (Kp.drew _) | with_reducible exact K0.out.trans (Kp.drewN _ _)))).mono ?_
  rintro e w1 ⟨rfl, kk⟩
  have K1 := Lib.hid ((show Kp W0 _ from (by first | with_reducible exact K0.out | with_reducible exact K0.out.trans (Kp.alloc _ _) | with_reducible exact (K0.out.trans (Kp.alloc _ _)).trans (Kp.alloc _ _) | with_reducible exact ((K0.out.trans (Kp.alloc _ _)).trans (Kp.alloc _ _)).trans (Kp.alloc _ _) | with_reducible exact K0.out.trans (Kp.drew _) | with_reducible exact K0.out.trans (Kp.drewN _ _))).trans kk)
  clear kk
  go_wp2_with fail
  refine (OO.out _).mono ?_
  rintro e w2 ⟨rfl, kk⟩
  have K2 := Lib.hid ((show Kp W0 _ from (by first | with_reducible exact K1.out | with_reducible exact K1.out.trans (Kp.alloc _ _) | with_reducible exact (K1.out.trans (Kp.alloc _ _)).trans (Kp.alloc _ _) | with_reducible exact ((K1.out.trans (Kp.alloc _ _)).trans (Kp.alloc _ _)).trans (Kp.alloc _ _) | with_reducible exact K1.out.trans (Kp.drew _) | with_reducible exact K1.out.trans (Kp.drewN _ _))).trans kk)
  clear kk
  obtain ⟨w3, hV⟩ : ∃ x, x = w2.alloc (.cells #[.int .i64 2, .int .i64 0, .string ⟨#[]⟩, .string ⟨#[]⟩, .string ⟨#[]⟩, .bool false, .bool false, .slice adl l.length cal] 26) := ⟨_, rfl⟩
  have ka : Kp w2 w3 := by rw [hV]; exact Kp.alloc _ _
  have hgq : w3.heap[w2.heap.size]? = some (.cells #[.int .i64 2, .int .i64 0, .string ⟨#[]⟩, .string ⟨#[]⟩, .string ⟨#[]⟩, .bool false, .bool false, .slice adl l.length cal] 26 (0, 0)) := by rw [hV]; exact heap_at _ _ _ rfl
  have q0 : w3.cell? ⟨w2.heap.size, 0, none⟩ = some (.int .i64 2) := by simp [World.cell?, hgq]
  have q1 : w3.cell? ⟨w2.heap.size, 1, none⟩ = some (.int .i64 0) := by simp [World.cell?, hgq]
  have q2 : w3.cell? ⟨w2.heap.size, 2, none⟩ = some (.string ⟨#[]⟩) := by simp [World.cell?, hgq]
  have q3 : w3.cell? ⟨w2.heap.size, 3, none⟩ = some (.string ⟨#[]⟩) := by simp [World.cell?, hgq]
  have q4 : w3.cell? ⟨w2.heap.size, 4, none⟩ = some (.string ⟨#[]⟩) := by simp [World.cell?, hgq]
  have q5 : w3.cell? ⟨w2.heap.size, 5, none⟩ = some (.bool false) := by simp [World.cell?, hgq]
  have q6 : w3.cell? ⟨w2.heap.size, 6, none⟩ = some (.bool false) := by simp [World.cell?, hgq]
  have q7 : w3.cell? ⟨w2.heap.size, 7, none⟩ = some (.slice adl l.length cal) := by simp [World.cell?, hgq]
  have HB2 := Lib.hid (fun w1 (k : Kp w3 w1) => show w1.cell? ⟨w2.heap.size, 0, none⟩ = some (.int .i64 2) ∧ w1.cell? ⟨w2.heap.size, 1, none⟩ = some (.int .i64 0) ∧ w1.cell? ⟨w2.heap.size, 2, none⟩ = some (.string ⟨#[]⟩) ∧ w1.cell? ⟨w2.heap.size, 3, none⟩ = some (.string ⟨#[]⟩) ∧ w1.cell? ⟨w2.heap.size, 4, none⟩ = some (.string ⟨#[]⟩) ∧ w1.cell? ⟨w2.heap.size, 5, none⟩ = some (.bool false) ∧ w1.cell? ⟨w2.heap.size, 6, none⟩ = some (.bool false) ∧ w1.cell? ⟨w2.heap.size, 7, none⟩ = some (.slice adl l.length cal) from ⟨cell_up k q0, cell_up k q1, cell_up k q2, cell_up k q3, cell_up k q4, cell_up k q5, cell_up k q6, cell_up k q7⟩)
  have K01 := Lib.hid (K00.out.trans (K2.out.trans ka))
  clear HB K00 hgq  q0 q1 q2 q3 q4 q5 q6 q7
  have HB := HB2
  have K00 := K01
  clear HB2 K01
  have K3 := Lib.hid (Kp.refl w3)
  have Hw3 := Lib.hid hV
  clear hV ka
  go_wp2_with fail
  rw [← Hw3.out]
  obtain ⟨c0, c1, c2, c3, c4, c5, c6, c7⟩ := HB.out w3 (Kp.refl _)
  go_wp2_with fail
  refine (FW.out _ (K00.out.trans (by first | with_reducible exact K3.out | with_reducible exact K3.out.trans (Kp.alloc _ _) | with_reducible exact (K3.out.trans (Kp.alloc _ _)).trans (Kp.alloc _ _) | with_reducible exact ((K3.out.trans (Kp.alloc _ _)).trans (Kp.alloc _ _)).trans (Kp.alloc _ _) | with_reducible exact K3.out.trans (Kp.drew _) | with_reducible exact K3.out.trans (Kp.drewN _ _)))).mono ?_
  rintro e w4 ⟨rfl, kk⟩
  have K4 := Lib.hid ((show Kp w3 _ from (by first | with_reducible exact K3.out | with_reducible exact K3.out.trans (Kp.alloc _ _) | with_reducible exact (K3.out.trans (Kp.alloc _ _)).trans (Kp.alloc _ _) | with_reducible exact ((K3.out.trans (Kp.alloc _ _)).trans (Kp.alloc _ _)).trans (Kp.alloc _ _) | with_reducible exact K3.out.trans (Kp.drew _) | with_reducible exact K3.out.trans (Kp.drewN _ _))).trans kk)
  clear kk
  clear c0 c1 c2 c3 c4 c5 c6 c7
  obtain ⟨c0, c1, c2, c3, c4, c5, c6, c7⟩ := HB.out w4 K4.out
  go_wp2_with fail
  refine (SN.out _ (K00.out.trans (by first | with_reducible exact K4.out | with_reducible exact K4.out.trans (Kp.alloc _ _) | with_reducible exact (K4.out.trans (Kp.alloc _ _)).trans (Kp.alloc _ _) | with_reducible exact ((K4.out.trans (Kp.alloc _ _)).trans (Kp.alloc _ _)).trans (Kp.alloc _ _) | with_reducible exact K4.out.trans (Kp.drew _) | with_reducible exact K4.out.trans (Kp.drewN _ _)))).mono ?_
  rintro e w5 ⟨rfl, kk⟩
  have K5 := Lib.hid ((show Kp w3 _ from (by first | with_reducible exact K4.out | with_reducible exact K4.out.trans (Kp.alloc _ _) | with_reducible exact (K4.out.trans (Kp.alloc _ _)).trans (Kp.alloc _ _) | with_reducible exact ((K4.out.trans (Kp.alloc _ _)).trans (Kp.alloc _ _)).trans (Kp.alloc _ _) | with_reducible exact K4.out.trans (Kp.drew _) | with_reducible exact K4.out.trans (Kp.drewN _ _))).trans kk)
  clear kk
  clear c0 c1 c2 c3 c4 c5 c6 c7
  obtain ⟨c0, c1, c2, c3, c4, c5, c6, c7⟩ := HB.out w5 K5.out
  go_wp2
  go_ret
  exact ⟨rfl, K00.out.trans K5.out⟩
abbrev orA0 : Oper := { dst := some 67, op := Go.Op.move (Go.Operand.tmp 3), type := 4, pos := "law.go:73", after := #[], guard := none }
abbrev orA1 : Oper := { dst := some 68, op := Go.Op.move (Go.Operand.tmp 67), type := 4, pos := "law.go:73", after := #[{ on := 0, ground := Go.Ground.data }], guard := none }
abbrev orA2 : Oper := { dst := some 69, op := Go.Op.move (Go.Operand.tmp 5), type := 24, pos := "law.go:73", after := #[{ on := 1, ground := Go.Ground.guard }], guard := some (1, true) }
abbrev orA3 : Oper := { dst := some 70, op := Go.Op.call { callee := Go.Callee.value (Go.Operand.func 19), args := #[Go.Operand.tmp 69], argTypes := #[24] }, type := 26, pos := "law.go:73", after := #[{ on := 2, ground := Go.Ground.data }, { on := 1, ground := Go.Ground.chain }, { on := 1, ground := Go.Ground.guard }], guard := some (1, true) }
abbrev orA4 : Oper := { dst := some 71, op := Go.Op.call { callee := Go.Callee.value (Go.Operand.func 11), args := #[Go.Operand.tmp 70], argTypes := #[26] }, type := 26, pos := "law.go:73", after := #[{ on := 3, ground := Go.Ground.data }, { on := 3, ground := Go.Ground.chain }, { on := 1, ground := Go.Ground.guard }], guard := some (1, true) }
abbrev orA5 : Oper := { dst := some 72, op := Go.Op.load 26 (Go.Operand.tmp 9), type := 26, pos := "law.go:73", after := #[{ on := 1, ground := Go.Ground.guard }], guard := some (1, true) }
abbrev orA6 : Oper := { dst := some 73, op := Go.Op.call { callee := Go.Callee.value (Go.Operand.func 10), args := #[Go.Operand.tmp 71, Go.Operand.tmp 72], argTypes := #[26, 26] }, type := 4, pos := "law.go:73", after := #[{ on := 4, ground := Go.Ground.data }, { on := 5, ground := Go.Ground.data }, { on := 4, ground := Go.Ground.chain }, { on := 1, ground := Go.Ground.guard }], guard := some (1, true) }
abbrev orA7 : Oper := { dst := some 74, op := Go.Op.pick (Go.Operand.tmp 68) (Go.Operand.tmp 73) (Go.Operand.const (Go.Value.bool false)), type := 4, pos := "law.go:73", after := #[{ on := 1, ground := Go.Ground.data }, { on := 6, ground := Go.Ground.data }], guard := none }
abbrev orA8 : Oper := { dst := some 75, op := Go.Op.move (Go.Operand.tmp 74), type := 4, pos := "law.go:73", after := #[{ on := 7, ground := Go.Ground.data }, { on := 6, ground := Go.Ground.chain }], guard := none }
abbrev orA9 : Oper := { dst := some 76, op := Go.Op.load 26 (Go.Operand.tmp 10), type := 26, pos := "law.go:73", after := #[{ on := 8, ground := Go.Ground.guard }], guard := some (8, true) }
abbrev orA10 : Oper := { dst := some 77, op := Go.Op.call { callee := Go.Callee.value (Go.Operand.func 15), args := #[Go.Operand.tmp 76], argTypes := #[26] }, type := 4, pos := "law.go:73", after := #[{ on := 9, ground := Go.Ground.data }, { on := 8, ground := Go.Ground.chain }, { on := 8, ground := Go.Ground.guard }], guard := some (8, true) }
abbrev orA11 : Oper := { dst := some 78, op := Go.Op.unOp Go.UnOp.not 4 (Go.Operand.tmp 77), type := 4, pos := "law.go:73", after := #[{ on := 10, ground := Go.Ground.data }, { on := 8, ground := Go.Ground.guard }], guard := some (8, true) }
abbrev orA12 : Oper := { dst := some 79, op := Go.Op.move (Go.Operand.tmp 78), type := 4, pos := "law.go:73", after := #[{ on := 11, ground := Go.Ground.data }, { on := 10, ground := Go.Ground.chain }, { on := 8, ground := Go.Ground.guard }], guard := some (8, true) }
abbrev orA13 : Oper := { dst := some 80, op := Go.Op.load 26 (Go.Operand.tmp 10), type := 26, pos := "law.go:73", after := #[{ on := 12, ground := Go.Ground.guard }], guard := some (12, false) }
abbrev orA14 : Oper := { dst := some 81, op := Go.Op.call { callee := Go.Callee.value (Go.Operand.func 11), args := #[Go.Operand.tmp 80], argTypes := #[26] }, type := 26, pos := "law.go:73", after := #[{ on := 13, ground := Go.Ground.data }, { on := 12, ground := Go.Ground.chain }, { on := 12, ground := Go.Ground.guard }], guard := some (12, false) }
abbrev orA15 : Oper := { dst := some 82, op := Go.Op.load 26 (Go.Operand.tmp 9), type := 26, pos := "law.go:73", after := #[{ on := 12, ground := Go.Ground.guard }], guard := some (12, false) }
abbrev orA16 : Oper := { dst := some 83, op := Go.Op.call { callee := Go.Callee.value (Go.Operand.func 10), args := #[Go.Operand.tmp 81, Go.Operand.tmp 82], argTypes := #[26, 26] }, type := 4, pos := "law.go:73", after := #[{ on := 14, ground := Go.Ground.data }, { on := 15, ground := Go.Ground.data }, { on := 14, ground := Go.Ground.chain }, { on := 12, ground := Go.Ground.guard }], guard := some (12, false) }
abbrev orA17 : Oper := { dst := some 84, op := Go.Op.pick (Go.Operand.tmp 79) (Go.Operand.const (Go.Value.bool true)) (Go.Operand.tmp 83), type := 4, pos := "law.go:73", after := #[{ on := 12, ground := Go.Ground.data }, { on := 16, ground := Go.Ground.data }, { on := 8, ground := Go.Ground.guard }], guard := some (8, true) }
abbrev orA18 : Oper := { dst := some 85, op := Go.Op.pick (Go.Operand.tmp 75) (Go.Operand.tmp 84) (Go.Operand.const (Go.Value.bool false)), type := 4, pos := "law.go:73", after := #[{ on := 8, ground := Go.Ground.data }, { on := 17, ground := Go.Ground.data }], guard := none }
abbrev orA19 : Oper := { dst := some 86, op := Go.Op.move (Go.Operand.tmp 85), type := 4, pos := "law.go:73", after := #[{ on := 18, ground := Go.Ground.data }, { on := 16, ground := Go.Ground.chain }], guard := none }
abbrev orA20 : Oper := { dst := some 87, op := Go.Op.load 26 (Go.Operand.tmp 11), type := 26, pos := "law.go:73", after := #[{ on := 19, ground := Go.Ground.guard }], guard := some (19, true) }
abbrev orA21 : Oper := { dst := some 88, op := Go.Op.call { callee := Go.Callee.value (Go.Operand.func 15), args := #[Go.Operand.tmp 87], argTypes := #[26] }, type := 4, pos := "law.go:73", after := #[{ on := 20, ground := Go.Ground.data }, { on := 19, ground := Go.Ground.chain }, { on := 19, ground := Go.Ground.guard }], guard := some (19, true) }
abbrev orA22 : Oper := { dst := some 89, op := Go.Op.unOp Go.UnOp.not 4 (Go.Operand.tmp 88), type := 4, pos := "law.go:73", after := #[{ on := 21, ground := Go.Ground.data }, { on := 19, ground := Go.Ground.guard }], guard := some (19, true) }
abbrev orA23 : Oper := { dst := some 90, op := Go.Op.move (Go.Operand.tmp 89), type := 4, pos := "law.go:73", after := #[{ on := 22, ground := Go.Ground.data }, { on := 21, ground := Go.Ground.chain }, { on := 19, ground := Go.Ground.guard }], guard := some (19, true) }
abbrev orA24 : Oper := { dst := some 91, op := Go.Op.load 26 (Go.Operand.tmp 11), type := 26, pos := "law.go:73", after := #[{ on := 23, ground := Go.Ground.guard }], guard := some (23, false) }
abbrev orA25 : Oper := { dst := some 92, op := Go.Op.call { callee := Go.Callee.value (Go.Operand.func 11), args := #[Go.Operand.tmp 91], argTypes := #[26] }, type := 26, pos := "law.go:73", after := #[{ on := 24, ground := Go.Ground.data }, { on := 23, ground := Go.Ground.chain }, { on := 23, ground := Go.Ground.guard }], guard := some (23, false) }
abbrev orA26 : Oper := { dst := some 93, op := Go.Op.load 26 (Go.Operand.tmp 9), type := 26, pos := "law.go:73", after := #[{ on := 23, ground := Go.Ground.guard }], guard := some (23, false) }
abbrev orA27 : Oper := { dst := some 94, op := Go.Op.call { callee := Go.Callee.value (Go.Operand.func 10), args := #[Go.Operand.tmp 92, Go.Operand.tmp 93], argTypes := #[26, 26] }, type := 4, pos := "law.go:73", after := #[{ on := 25, ground := Go.Ground.data }, { on := 26, ground := Go.Ground.data }, { on := 25, ground := Go.Ground.chain }, { on := 23, ground := Go.Ground.guard }], guard := some (23, false) }
abbrev orA28 : Oper := { dst := some 95, op := Go.Op.pick (Go.Operand.tmp 90) (Go.Operand.const (Go.Value.bool true)) (Go.Operand.tmp 94), type := 4, pos := "law.go:73", after := #[{ on := 23, ground := Go.Ground.data }, { on := 27, ground := Go.Ground.data }, { on := 19, ground := Go.Ground.guard }], guard := some (19, true) }
abbrev orA29 : Oper := { dst := some 96, op := Go.Op.pick (Go.Operand.tmp 86) (Go.Operand.tmp 95) (Go.Operand.const (Go.Value.bool false)), type := 4, pos := "law.go:73", after := #[{ on := 19, ground := Go.Ground.data }, { on := 28, ground := Go.Ground.data }], guard := none }
abbrev orA30 : Oper := { dst := some 2, op := Go.Op.assign (Go.Operand.tmp 96), type := 4, pos := "law.go:73", after := #[{ on := 29, ground := Go.Ground.data }, { on := 27, ground := Go.Ground.chain }, { on := 0, ground := Go.Ground.phase }, { on := 1, ground := Go.Ground.phase }, { on := 2, ground := Go.Ground.phase }, { on := 3, ground := Go.Ground.phase }, { on := 4, ground := Go.Ground.phase }, { on := 5, ground := Go.Ground.phase }, { on := 6, ground := Go.Ground.phase }, { on := 7, ground := Go.Ground.phase }, { on := 8, ground := Go.Ground.phase }, { on := 9, ground := Go.Ground.phase }, { on := 10, ground := Go.Ground.phase }, { on := 11, ground := Go.Ground.phase }, { on := 12, ground := Go.Ground.phase }, { on := 13, ground := Go.Ground.phase }, { on := 14, ground := Go.Ground.phase }, { on := 15, ground := Go.Ground.phase }, { on := 16, ground := Go.Ground.phase }, { on := 17, ground := Go.Ground.phase }, { on := 18, ground := Go.Ground.phase }, { on := 19, ground := Go.Ground.phase }, { on := 20, ground := Go.Ground.phase }, { on := 21, ground := Go.Ground.phase }, { on := 22, ground := Go.Ground.phase }, { on := 23, ground := Go.Ground.phase }, { on := 24, ground := Go.Ground.phase }, { on := 25, ground := Go.Ground.phase }, { on := 26, ground := Go.Ground.phase }, { on := 27, ground := Go.Ground.phase }, { on := 28, ground := Go.Ground.phase }, { on := 29, ground := Go.Ground.phase }], guard := none }
set_option maxHeartbeats 16000000 in
set_option maxRecDepth 100000 in
theorem corder_tt (vl : Value) (l : List ND) (w : World) (hl : NodesAt w vl l) (T : TabSH w) (h20 : l.length ≤ 20) (hf : fewG (orN l) = true) (hs : saneN saneP (orN l) = true) (ht : saneN saneP (orN (l ++ [nth l 0])) = true) (ho : saneN saneP (orN (l.reverse.map fun x => orN [x])) = true) :
    Calls Tryd.prog 5 #[vl] w fun e w' => e = .returned (.bool true) ∧ Kp w w' := by
  have AW := Lib.hid (fun w1 (kk : Kp w w1) => awake12 w1 (T.kp kk))
  have OO := Lib.hid (fun w1 => oneOf_any vl l w1 hl.slice)
  have FW := Lib.hid (fun w1 (kk : Kp w w1) => rfewG_any (orN l) vl w1 (hl.kp kk))
  have SN := Lib.hid (fun w1 (kk : Kp w w1) => tSaneG_any (orN l) vl w1 (hl.kp kk) (T.kp kk))
  have lm := hl.len
  unfold maxLen at lm
  have g1 : decide ((l.length : Int) > 20) = false := decide_eq_false (by omega)
  rw [hf] at FW
  rw [hs] at SN
  have l1 := (orN_len hs).1
  have CN := Lib.hid (fun w1 (kk : Kp w w1) => ccan_any (orN l) vl w1 (hl.kp kk) (T.kp kk))
  rw [canF_yes hs] at CN
  have CB := Lib.hid (fun v w1 (h : NodesAt w1 v l.reverse) (kk : Kp w w1) => show Calls Tryd.prog 11 #[ndV (orN l.reverse) v] w1 _ from ccan_any (orN l.reverse) v w1 h (T.kp kk))
  rw [orN_rev hs, canF_yes hs] at CB
  have ST := Lib.hid (fun v w1 (h : NodesAt w1 v (l ++ [nth l 0])) (kk : Kp w w1) => show Calls Tryd.prog 15 #[ndV (orN (l ++ [nth l 0])) v] w1 _ from tSaneG_any (orN (l ++ [nth l 0])) v w1 h (T.kp kk))
  rw [ht] at ST
  have SO := Lib.hid (fun v w1 (h : NodesAt w1 v (l.reverse.map fun x => orN [x])) (kk : Kp w w1) => show Calls Tryd.prog 15 #[ndV (orN (l.reverse.map fun x => orN [x])) v] w1 _ from tSaneG_any (orN (l.reverse.map fun x => orN [x])) v w1 h (T.kp kk))
  rw [ho] at SO
  have CT := Lib.hid (fun v w1 (h : NodesAt w1 v (l ++ [nth l 0])) (kk : Kp w w1) => show Calls Tryd.prog 11 #[ndV (orN (l ++ [nth l 0])) v] w1 _ from ccan_any (orN (l ++ [nth l 0])) v w1 h (T.kp kk))
  rw [orN_twice hs ht, canF_yes hs] at CT
  have CU := Lib.hid (fun v w1 (h : NodesAt w1 v (l.reverse.map fun x => orN [x])) (kk : Kp w w1) => show Calls Tryd.prog 11 #[ndV (orN (l.reverse.map fun x => orN [x])) v] w1 _ from ccan_any (orN (l.reverse.map fun x => orN [x])) v w1 h (T.kp kk))
  rw [orN_ones hs ho, canF_yes hs] at CU
  have c64 : cntN (canN (orN l)) ≤ 64 := by rw [← canF_yes hs]; exact canF_cnt _
  have SM := Lib.hid (fun v u w1 (hv : NodesAt w1 v (canN (orN l)).l) (hu : NodesAt w1 u (canN (orN l)).l) => tSame_any (canN (orN l)) (canN (orN l)) v u w1 hv hu (by omega))
  rw [same_refl] at SM
  have OX := Lib.hid (fun x ad c w1 => oneOf_any (.slice ad 1 c) [x] w1 ⟨_, _, rfl⟩)
  have OB := Lib.hid (fun ad c w1 => oneOf_any (.slice ad l.length c) l.reverse w1 ⟨_, _, by rw [List.length_reverse]⟩)
  have OT := Lib.hid (fun ad c w1 => oneOf_any (.slice ad (l.length + 1) c) (l ++ [nth l 0]) w1 ⟨_, _, by rw [List.length_append]; rfl⟩)
  have OU := Lib.hid (fun ad c w1 => oneOf_any (.slice ad l.length c) (l.reverse.map fun x => orN [x]) w1 ⟨_, _, by rw [List.length_map, List.length_reverse]⟩)
  have RT := Lib.hid (fun j q (h : q + j + 1 = l.length) => rev_take (l := l) h)
  have TL := Lib.hid (show l.reverse.take l.length = l.reverse from by rw [List.take_of_length_le (by rw [List.length_reverse]; exact Nat.le_refl _)])
  have HLW := Lib.hid hl
  clear T hf c64
  generalize canN (orN l) = c0 at *
  obtain ⟨k0, pk0, y0, m0, s0, a0, t0, r0, rfl⟩ := nd_dest c0
  clear hs ht ho
  obtain ⟨adl, cal, rfl⟩ := hl.slice
  unfold orN pz ndV at *
  simp only [ND.k, ND.p, ND.a, ND.t, ND.l] at *
  obtain ⟨W0, hW⟩ : ∃ W0, W0 = w := ⟨_, rfl⟩
  subst hW
  have K00 := Lib.hid (Kp.refl W0)
  have K0 := Lib.hid (Kp.refl W0)
  have HB := Lib.hid True.intro
  go_enter Tryd.func5, Tryd.ntmps5
  go_wp2_with fail
  refine (AW.out _ (K00.out.trans (by first | with_reducible exact K0.out | with_reducible exact K0.out.trans (Kp.alloc _ _)))).mono ?_
  rintro e w1 ⟨rfl, kk⟩
  have K1 := Lib.hid ((show Kp W0 _ from (by first | with_reducible exact K0.out | with_reducible exact K0.out.trans (Kp.alloc _ _))).trans kk)
  clear kk
  go_wp2_with fail
  refine (OO.out _).mono ?_
  rintro e w2 ⟨rfl, kk⟩
  have K2 := Lib.hid ((show Kp W0 _ from (by first | with_reducible exact K1.out | with_reducible exact K1.out.trans (Kp.alloc _ _))).trans kk)
  clear kk
  obtain ⟨w3, hV⟩ : ∃ x, x = w2.alloc (.cells #[.int .i64 2, .int .i64 0, .string ⟨#[]⟩, .string ⟨#[]⟩, .string ⟨#[]⟩, .bool false, .bool false, .slice adl l.length cal] 26) := ⟨_, rfl⟩
  have ka : Kp w2 w3 := by rw [hV]; exact Kp.alloc _ _
  have hgq : w3.heap[w2.heap.size]? = some (.cells #[.int .i64 2, .int .i64 0, .string ⟨#[]⟩, .string ⟨#[]⟩, .string ⟨#[]⟩, .bool false, .bool false, .slice adl l.length cal] 26 (0, 0)) := by rw [hV]; exact heap_at _ _ _ rfl
  have q0 : w3.cell? ⟨w2.heap.size, 0, none⟩ = some (.int .i64 2) := by simp [World.cell?, hgq]
  have q1 : w3.cell? ⟨w2.heap.size, 1, none⟩ = some (.int .i64 0) := by simp [World.cell?, hgq]
  have q2 : w3.cell? ⟨w2.heap.size, 2, none⟩ = some (.string ⟨#[]⟩) := by simp [World.cell?, hgq]
  have q3 : w3.cell? ⟨w2.heap.size, 3, none⟩ = some (.string ⟨#[]⟩) := by simp [World.cell?, hgq]
  have q4 : w3.cell? ⟨w2.heap.size, 4, none⟩ = some (.string ⟨#[]⟩) := by simp [World.cell?, hgq]
  have q5 : w3.cell? ⟨w2.heap.size, 5, none⟩ = some (.bool false) := by simp [World.cell?, hgq]
  have q6 : w3.cell? ⟨w2.heap.size, 6, none⟩ = some (.bool false) := by simp [World.cell?, hgq]
  have q7 : w3.cell? ⟨w2.heap.size, 7, none⟩ = some (.slice adl l.length cal) := by simp [World.cell?, hgq]
  have HB2 := Lib.hid (fun w1 (k : Kp w3 w1) => show w1.cell? ⟨w2.heap.size, 0, none⟩ = some (.int .i64 2) ∧ w1.cell? ⟨w2.heap.size, 1, none⟩ = some (.int .i64 0) ∧ w1.cell? ⟨w2.heap.size, 2, none⟩ = some (.string ⟨#[]⟩) ∧ w1.cell? ⟨w2.heap.size, 3, none⟩ = some (.string ⟨#[]⟩) ∧ w1.cell? ⟨w2.heap.size, 4, none⟩ = some (.string ⟨#[]⟩) ∧ w1.cell? ⟨w2.heap.size, 5, none⟩ = some (.bool false) ∧ w1.cell? ⟨w2.heap.size, 6, none⟩ = some (.bool false) ∧ w1.cell? ⟨w2.heap.size, 7, none⟩ = some (.slice adl l.length cal) from ⟨cell_up k q0, cell_up k q1, cell_up k q2, cell_up k q3, cell_up k q4, cell_up k q5, cell_up k q6, cell_up k q7⟩)
  have K01 := Lib.hid (K00.out.trans (K2.out.trans ka))
  clear HB K00 hgq  q0 q1 q2 q3 q4 q5 q6 q7
  have HB := HB2
  have K00 := K01
  clear HB2 K01
  have K3 := Lib.hid (Kp.refl w3)
  have Hw3 := Lib.hid hV
  clear hV ka
  go_wp2_with fail
  rw [← Hw3.out]
  obtain ⟨c0, c1, c2, c3, c4, c5, c6, c7⟩ := HB.out w3 (Kp.refl _)
  go_wp2_with fail
  refine (FW.out _ (K00.out.trans (by first | with_reducible exact K3.out | with_reducible exact K3.out.trans (Kp.alloc _ _)))).mono ?_
  rintro e w4 ⟨rfl, kk⟩
  have K4 := Lib.hid ((show Kp w3 _ from (by first | with_reducible exact K3.out | with_reducible exact K3.out.trans (Kp.alloc _ _))).trans kk)
  clear kk
  clear c0 c1 c2 c3 c4 c5 c6 c7
  obtain ⟨c0, c1, c2, c3, c4, c5, c6, c7⟩ := HB.out w4 K4.out
  go_wp2_with fail
  refine (SN.out _ (K00.out.trans (by first | with_reducible exact K4.out | with_reducible exact K4.out.trans (Kp.alloc _ _)))).mono ?_
  rintro e w5 ⟨rfl, kk⟩
  have K5 := Lib.hid ((show Kp w3 _ from (by first | with_reducible exact K4.out | with_reducible exact K4.out.trans (Kp.alloc _ _))).trans kk)
  clear kk
  clear c0 c1 c2 c3 c4 c5 c6 c7
  obtain ⟨c0, c1, c2, c3, c4, c5, c6, c7⟩ := HB.out w5 K5.out
  obtain ⟨i0, hi, hz0, hz1, hz2⟩ := info_parts infoNode
  clear c0 c1 c2 c3 c4 c5 c6 c7
  have wl : IntKind.i64.wrap ((l.length : Int) - 1) = (l.length : Int) - 1 := by rw [IntKind.wrap_i64]; omega
  go_wp2
  go_loopw [5, 7, 8] (fun vb vo i ws => ∃ (x : Int) (j : Nat) (mb mo : List NV), x + (j : Int) + 1 = (l.length : Int) ∧ -1 ≤ x ∧ i = .int .i64 x ∧ Hid (mb.map Prod.fst = l.reverse.take j) ∧ Hid (mo.map Prod.fst = (l.reverse.take j).map fun x => orN [x]) ∧ Hid (TwoRows w5 ws vb vo mb mo)) (fun _ _ i _ => (intOf i + 1).toNat)
  case atStart => exact ⟨(l.length : Int) - 1, 0, [], [], by omega, by omega, by first | rfl | go_num, Lib.hid (by rw [List.take_zero]; rfl), Lib.hid (by rw [List.take_zero]; rfl), Lib.hid (TwoRows.none w5)⟩
  case round =>
    obtain ⟨x, j, mb, mo, hx, hx1, rfl, MB, MO, TR⟩ := hrel
    obtain ⟨bad, bcp, rfl⟩ := own_slice8 TR.out.back
    obtain ⟨oad, ocp, rfl⟩ := own_slice8 TR.out.ones
    have NB := Lib.hid (show mb.length = j by have a := congrArg List.length MB.out; rw [List.length_map, List.length_take, List.length_reverse] at a; omega)
    have NO := Lib.hid (show mo.length = j by have a := congrArg List.length MO.out; rw [List.length_map, List.length_map, List.length_take, List.length_reverse] at a; omega)
    by_cases hlt : 0 ≤ x
    · obtain ⟨q, rfl⟩ : ∃ q : Nat, x = q := ⟨x.toNat, by omega⟩
      have hq : q < l.length := by omega
      have hj : j < l.length := by omega
      have rt := RT.out j q (by omega)
      obtain ⟨bk, off, vi, eva, hrow, hsub⟩ := (HLW.out.kp (K00.out.trans K5.out)).get hq
      subst eva
      obtain ⟨x, hx2⟩ : ∃ x, nth l q = x := ⟨_, rfl⟩
      rw [hx2] at hrow hsub rt
      have RTH := Lib.hid rt
      clear rt hx2
      obtain ⟨k1, pk1, y1, m1, s1, a1, t1, l1', rfl⟩ := nd_dest x
      obtain ⟨ad1, cp1, rfl⟩ := hsub.slice
      have HS := Lib.hid (show NodesAt w5 (.slice ad1 l1'.length cp1) l1' from hsub)
      unfold RowN at hrow
      simp only [ND.k, ND.p, ND.a, ND.t, ND.l] at hrow hsub
      obtain ⟨n1, hn1⟩ : ∃ n, l1'.length = n := ⟨_, rfl⟩
      rw [hn1] at hrow HS
      clear hsub hn1
      have HROW := Lib.hid (fun w' (kk : Kp w5 w') => show w'.cell? ⟨bk, off + q * 8, none⟩ = some (.int .i64 k1) ∧ w'.cell? ⟨bk, off + q * 8 + 1, none⟩ = some (.int .i64 pk1) ∧ w'.cell? ⟨bk, off + q * 8 + 2, none⟩ = some (.string y1) ∧ w'.cell? ⟨bk, off + q * 8 + 3, none⟩ = some (.string m1) ∧ w'.cell? ⟨bk, off + q * 8 + 4, none⟩ = some (.string s1) ∧ w'.cell? ⟨bk, off + q * 8 + 5, none⟩ = some (.bool a1) ∧ w'.cell? ⟨bk, off + q * 8 + 6, none⟩ = some (.bool t1) ∧ w'.cell? ⟨bk, off + q * 8 + 7, none⟩ = some (.slice ad1 n1 cp1) from ⟨cell_up kk hrow.1, cell_up kk hrow.2.1, cell_up kk hrow.2.2.1, cell_up kk hrow.2.2.2.1, cell_up kk hrow.2.2.2.2.1, cell_up kk hrow.2.2.2.2.2.1, cell_up kk hrow.2.2.2.2.2.2.1, cell_up kk hrow.2.2.2.2.2.2.2⟩)
      obtain ⟨e0, e1, e2, e3, e4, e5, e6, e7⟩ := HROW.out wr TR.out.kp
      have T1 := Lib.hid (TR.out.go (Kp.alloc wr (.cells #[.int .i64 k1, .int .i64 pk1, .string y1, .string m1, .string s1, .bool a1, .bool t1, .slice ad1 n1 cp1] 26)))
      have SR1 := Lib.hid (one_srcN (w := wr) rfl (.mk k1 ⟨pk1, y1, m1, s1⟩ a1 t1 l1' : ND) (.slice ad1 n1 cp1) 26)
      simp only [ND.k, ND.p, ND.a, ND.t] at SR1
      have L1 := Lib.hid (cellsN_length [((.mk k1 ⟨pk1, y1, m1, s1⟩ a1 t1 l1' : ND), Value.slice ad1 n1 cp1)])
      have ONE1 := Lib.hid (cellsN_one (w := w5) (show ReadsN w5 [((.mk k1 ⟨pk1, y1, m1, s1⟩ a1 t1 l1' : ND), Value.slice ad1 n1 cp1)] from fun p hp => by rw [List.mem_singleton.1 hp]; exact HS.out))
      have z3 : (q : Int) < (l.length : Int) := by omega
      have z4 : (0 : Int) ≤ (q : Int) := by omega
      have wq : IntKind.i64.wrap ((q : Int) - 1) = (q : Int) - 1 := by rw [IntKind.wrap_i64]; omega
      have hbk := World.block_lt_of_cell? _ _ e0
      simp only at hbk
      clear hrow
      go_wp2_with (at_builtin; refine Hid.out ?_)
      refine Lib.hid ?_
      refine wpList_app rfl (.tmp 36) (.tmp 41) 24 rfl w5.heap.size 26 i0 (.agg #[.int .i64 0, .int .i64 0, .string ⟨#[]⟩, .string ⟨#[]⟩, .string ⟨#[]⟩, .bool false, .bool false, .slice none 0 0]) 8 96 Tryd.underlying24 hi hz0 hz1 hz2 rfl (by decide) _ _ _ rfl T1.out.back _ _ _ rfl SR1.out L1.out ONE1.out (by have a := NB.out; unfold maxLen; omega) (by have a := NB.out; omega) (Below.size T1.out.kp) ?_
      intro v1 w1 own1 grow1 at1
      have T2 := Lib.hid (T1.out.addBack HS.out own1 grow1 at1)
      obtain ⟨bd1, bc1, rfl⟩ := own_slice8 own1
      clear own1 grow1 at1 e0 e1 e2 e3 e4 e5 e6 e7 hbk
      obtain ⟨e0, e1, e2, e3, e4, e5, e6, e7⟩ := HROW.out w1 T2.out.kp
      have hbk := World.block_lt_of_cell? _ _ e0
      simp only at hbk
      go_wp2_with fail
      refine (OX.out (.mk k1 ⟨pk1, y1, m1, s1⟩ a1 t1 l1' : ND) _ _ _).mono ?_
      rintro e w2 ⟨rfl, kk⟩
      have k12 : Kp w1 w2 := (Kp.alloc _ _).trans kk
      have OI := Lib.hid (show OneIn w5 w2 (.mk k1 ⟨pk1, y1, m1, s1⟩ a1 t1 l1' : ND) (.slice (some ⟨w1.heap.size, 0, none⟩) 1 1) w1.heap.size from ⟨Below.size T2.out.kp, rfl, .slice ad1 n1 cp1, heap_block kk (heap_at _ _ _ rfl), HS.out⟩)
      have N1 := Lib.hid (show (Value.slice bd1 (mb.length + 1) bc1).ownBlock ≠ some w1.heap.size from fun e => by have := (T2.out.back.lt _ e).2; omega)
      have N2 := Lib.hid (show (Value.slice oad mo.length ocp).ownBlock ≠ some w1.heap.size from fun e => by have := (T2.out.ones.lt _ e).2; omega)
      have T3 := Lib.hid (T2.out.go (k12.trans (Kp.alloc w2 (.cells #[.int .i64 2, .int .i64 0, .string ⟨#[]⟩, .string ⟨#[]⟩, .string ⟨#[]⟩, .bool false, .bool false, .slice (some ⟨w1.heap.size, 0, none⟩) 1 1] 26))))
      have OI3 := Lib.hid (OI.out.kp (Kp.alloc w2 (.cells #[.int .i64 2, .int .i64 0, .string ⟨#[]⟩, .string ⟨#[]⟩, .string ⟨#[]⟩, .bool false, .bool false, .slice (some ⟨w1.heap.size, 0, none⟩) 1 1] 26)))
      have SR3 := Lib.hid (one_srcN (w := w2) rfl (orN [(.mk k1 ⟨pk1, y1, m1, s1⟩ a1 t1 l1' : ND)]) (.slice (some ⟨w1.heap.size, 0, none⟩) 1 1) 26)
      (try simp only [orN, pz, ND.k, ND.p, ND.a, ND.t] at SR3)
      have L3 := Lib.hid (cellsN_length [(orN [(.mk k1 ⟨pk1, y1, m1, s1⟩ a1 t1 l1' : ND)], Value.slice (some ⟨w1.heap.size, 0, none⟩) 1 1)])
      have ONE3 := Lib.hid (cellsN_one (w := w2) (show ReadsN w2 [(orN [(.mk k1 ⟨pk1, y1, m1, s1⟩ a1 t1 l1' : ND)], Value.slice (some ⟨w1.heap.size, 0, none⟩) 1 1)] from fun p hp => by rw [List.mem_singleton.1 hp]; exact OI.out.nodes (T2.out.kp.trans k12)))
      clear kk k12 e0 e1 e2 e3 e4 e5 e6 e7 hbk
      go_wp2_with (at_builtin; refine Hid.out ?_)
      refine Lib.hid ?_
      refine wpList_app rfl (.tmp 43) (.tmp 50) 24 rfl w5.heap.size 26 i0 (.agg #[.int .i64 0, .int .i64 0, .string ⟨#[]⟩, .string ⟨#[]⟩, .string ⟨#[]⟩, .bool false, .bool false, .slice none 0 0]) 8 96 Tryd.underlying24 hi hz0 hz1 hz2 rfl (by decide) _ _ _ rfl T3.out.ones _ _ _ rfl SR3.out L3.out ONE3.out (by have a := NO.out; unfold maxLen; omega) (by have a := NO.out; omega) (Below.size T3.out.kp) ?_
      intro v4 w4 own4 grow4 at4
      have T4 := Lib.hid (T3.out.addOne OI3.out N1.out N2.out own4 grow4 at4)
      obtain ⟨od4, oc4, rfl⟩ := own_slice8 own4
      clear own4 grow4 at4
      go_wp2
      go_roundw
      case rel => exact ⟨(q : Int) - 1, j + 1, _, _, by omega, by omega, by first | rfl | go_num, Lib.hid (by rw [List.map_append, MB.out, RTH.out]; rfl), Lib.hid (by rw [List.map_append, MO.out, RTH.out, List.map_append]; rfl), T4⟩
      case measure => simp [intOf] <;> omega
    · obtain rfl : x = -1 := by omega
      obtain rfl : j = l.length := by omega
      have nd := TR.out.nodes
      rw [MB.out, MO.out, TL.out] at nd
      have NBK := Lib.hid nd.1
      have NON := Lib.hid nd.2
      have KR := Lib.hid (K5.out.trans TR.out.kp)
      rw [NB.out, NO.out]
      rw [NB.out] at NBK
      rw [NO.out] at NON
      clear nd
      have HLR := Lib.hid (HLW.out.kp (K00.out.trans KR.out))
      obtain ⟨msl, hml, hrl, hsl⟩ := HLR.out.src
      have ML := Lib.hid hml
      have RL := Lib.hid hrl
      have NLL := Lib.hid (show msl.length = l.length by rw [← hml, List.length_map])
      have SRL := Lib.hid (hsl wr (Kp.refl _))
      have LL := Lib.hid (show (cellsN msl).length = l.length * 8 by rw [cellsN_length, ← hml, List.length_map])
      have ONEL := Lib.hid (cellsN_one hrl)
      have ON0 := Lib.hid (World.ownsRow_nil wr wr.heap.size 26 8)
      obtain ⟨b0, o0, v0, ev0, hrow, hsub⟩ := HLR.out.get (i := 0) l1
      subst ev0
      have z9 : (0 : Int) < (l.length : Int) := by omega
      have z8 : 0 < l.length := l1
      clear hml hrl hsl
      generalize nth l 0 = x at *
      obtain ⟨k1, pk1, y1, m1, s1, a1, t1, l1', rfl⟩ := nd_dest x
      obtain ⟨ad1, cp1, rfl⟩ := hsub.slice
      have HS0 := Lib.hid (show NodesAt wr (.slice ad1 l1'.length cp1) l1' from hsub)
      unfold RowN at hrow
      simp only [ND.k, ND.p, ND.a, ND.t, ND.l, Nat.zero_mul, Nat.add_zero] at hrow
      obtain ⟨n1, hn1⟩ : ∃ n, l1'.length = n := ⟨_, rfl⟩
      rw [hn1] at hrow HS0
      have HROW := Lib.hid (fun w' (kk : Kp wr w') => show w'.cell? ⟨b0, o0, none⟩ = some (.int .i64 k1) ∧ w'.cell? ⟨b0, o0 + 1, none⟩ = some (.int .i64 pk1) ∧ w'.cell? ⟨b0, o0 + 2, none⟩ = some (.string y1) ∧ w'.cell? ⟨b0, o0 + 3, none⟩ = some (.string m1) ∧ w'.cell? ⟨b0, o0 + 4, none⟩ = some (.string s1) ∧ w'.cell? ⟨b0, o0 + 5, none⟩ = some (.bool a1) ∧ w'.cell? ⟨b0, o0 + 6, none⟩ = some (.bool t1) ∧ w'.cell? ⟨b0, o0 + 7, none⟩ = some (.slice ad1 n1 cp1) from ⟨cell_up kk hrow.1, cell_up kk hrow.2.1, cell_up kk hrow.2.2.1, cell_up kk hrow.2.2.2.1, cell_up kk hrow.2.2.2.2.1, cell_up kk hrow.2.2.2.2.2.1, cell_up kk hrow.2.2.2.2.2.2.1, cell_up kk hrow.2.2.2.2.2.2.2⟩)
      clear hrow hsub hn1
      go_wp2_with (at_builtin; refine Hid.out ?_)
      refine Lib.hid ?_
      refine wpList_app rfl (.tmp 52) (.tmp 53) 24 rfl wr.heap.size 26 i0 (.agg #[.int .i64 0, .int .i64 0, .string ⟨#[]⟩, .string ⟨#[]⟩, .string ⟨#[]⟩, .bool false, .bool false, .slice none 0 0]) 8 96 Tryd.underlying24 hi hz0 hz1 hz2 rfl (by decide) _ _ _ rfl ON0.out _ _ _ rfl SRL.out LL.out ONEL.out (by  unfold maxLen; omega) (by  omega) (Nat.le_refl _) ?_
      intro v6 w6 own6 grow6 at6
      have KA := Lib.hid ((Kp.refl wr).grown grow6 (fun j hj => by cases hj))
      obtain ⟨td6, tc6, rfl⟩ := own_slice8 own6
      simp only [Nat.zero_add, List.nil_append] at own6
      rw [Nat.zero_add]
      have O6 := Lib.hid own6
      clear own6 grow6 at6
      obtain ⟨e0, e1, e2, e3, e4, e5, e6, e7⟩ := HROW.out w6 KA.out
      have hbk := World.block_lt_of_cell? _ _ e0
      simp only at hbk
      have SR7 := Lib.hid (one_srcN (w := w6) rfl (.mk k1 ⟨pk1, y1, m1, s1⟩ a1 t1 l1' : ND) (.slice ad1 n1 cp1) 26)
      simp only [ND.k, ND.p, ND.a, ND.t] at SR7
      have L7 := Lib.hid (cellsN_length [((.mk k1 ⟨pk1, y1, m1, s1⟩ a1 t1 l1' : ND), Value.slice ad1 n1 cp1)])
      have R7 := Lib.hid (show ReadsN wr [((.mk k1 ⟨pk1, y1, m1, s1⟩ a1 t1 l1' : ND), Value.slice ad1 n1 cp1)] from fun p hp => by rw [List.mem_singleton.1 hp]; exact HS0.out)
      have ONE7 := Lib.hid (cellsN_one R7.out)
      have K7A := Lib.hid (KA.out.trans (Kp.alloc w6 (.cells #[.int .i64 k1, .int .i64 pk1, .string y1, .string m1, .string s1, .bool a1, .bool t1, .slice ad1 n1 cp1] 26)))
      have O7 := Lib.hid (own_kp O6.out (Kp.alloc w6 (.cells #[.int .i64 k1, .int .i64 pk1, .string y1, .string m1, .string s1, .bool a1, .bool t1, .slice ad1 n1 cp1] 26)))
      go_wp2_with (at_builtin; refine Hid.out ?_)
      refine Lib.hid ?_
      refine wpList_app rfl (.tmp 55) (.tmp 59) 24 rfl wr.heap.size 26 i0 (.agg #[.int .i64 0, .int .i64 0, .string ⟨#[]⟩, .string ⟨#[]⟩, .string ⟨#[]⟩, .bool false, .bool false, .slice none 0 0]) 8 96 Tryd.underlying24 hi hz0 hz1 hz2 rfl (by decide) _ _ _ rfl O7.out _ _ _ rfl SR7.out L7.out ONE7.out (by  unfold maxLen; omega) (by  omega) (Below.size K7A.out) ?_
      intro v8 w8 own8 grow8 at8
      have KB := Lib.hid (K7A.out.grown grow8 (fun j hj => (O7.out.lt j hj).1))
      have tw := nodesAt_own (m := msl ++ [((.mk k1 ⟨pk1, y1, m1, s1⟩ a1 t1 l1' : ND), Value.slice ad1 n1 cp1)]) (by rw [List.length_append, cellsN_append, NLL.out]; exact own8) ((RL.out.append R7.out).kp KB.out)
      rw [List.map_append, ML.out] at tw
      obtain ⟨td8, tc8, rfl⟩ := own_slice8 own8
      have NTW := Lib.hid (show NodesAt w8 (.slice td8 (l.length + 1) tc8) (l ++ [(.mk k1 ⟨pk1, y1, m1, s1⟩ a1 t1 l1' : ND)]) from tw)
      have NB8 := Lib.hid (NBK.out.kp KB.out)
      have NO8 := Lib.hid (NON.out.kp KB.out)
      have K8 := Lib.hid (KR.out.trans KB.out)
      clear tw own8 grow8 at8 e0 e1 e2 e3 e4 e5 e6 e7 hbk
      obtain ⟨c0, c1, c2, c3, c4, c5, c6, c7⟩ := HB.out w8 K8.out
      go_wp2_with fail
      refine (CN.out _ (K00.out.trans K8.out)).mono ?_
      rintro e w9 ⟨v9, rfl, hn9, kk⟩
      have K9 := Lib.hid (K8.out.trans kk)
      have NT9 := Lib.hid (NTW.out.kp kk)
      have NB9 := Lib.hid (NB8.out.kp kk)
      have NO9 := Lib.hid (NO8.out.kp kk)
      have NV9 := Lib.hid hn9
      obtain ⟨ad9, cp9, rfl⟩ := hn9.slice
      clear kk hn9 c0 c1 c2 c3 c4 c5 c6 c7
      obtain ⟨c0, c1, c2, c3, c4, c5, c6, c7⟩ := HB.out w9 K9.out
      obtain ⟨w10, hV⟩ : ∃ x, x = w9.alloc (.cells #[.int .i64 k0, .int .i64 pk0, .string y0, .string m0, .string s0, .bool a0, .bool t0, .slice ad9 r0.length cp9] 26) := ⟨_, rfl⟩
      have ka : Kp w9 w10 := by rw [hV]; exact Kp.alloc _ _
      have hgq : w10.heap[w9.heap.size]? = some (.cells #[.int .i64 k0, .int .i64 pk0, .string y0, .string m0, .string s0, .bool a0, .bool t0, .slice ad9 r0.length cp9] 26 (0, 0)) := by rw [hV]; exact heap_at _ _ _ rfl
      have q0 : w10.cell? ⟨w9.heap.size, 0, none⟩ = some (.int .i64 k0) := by simp [World.cell?, hgq]
      have q1 : w10.cell? ⟨w9.heap.size, 1, none⟩ = some (.int .i64 pk0) := by simp [World.cell?, hgq]
      have q2 : w10.cell? ⟨w9.heap.size, 2, none⟩ = some (.string y0) := by simp [World.cell?, hgq]
      have q3 : w10.cell? ⟨w9.heap.size, 3, none⟩ = some (.string m0) := by simp [World.cell?, hgq]
      have q4 : w10.cell? ⟨w9.heap.size, 4, none⟩ = some (.string s0) := by simp [World.cell?, hgq]
      have q5 : w10.cell? ⟨w9.heap.size, 5, none⟩ = some (.bool a0) := by simp [World.cell?, hgq]
      have q6 : w10.cell? ⟨w9.heap.size, 6, none⟩ = some (.bool t0) := by simp [World.cell?, hgq]
      have q7 : w10.cell? ⟨w9.heap.size, 7, none⟩ = some (.slice ad9 r0.length cp9) := by simp [World.cell?, hgq]
      have HB2 := Lib.hid (fun w1 (k : Kp w10 w1) => show w1.cell? ⟨w2.heap.size, 0, none⟩ = some (.int .i64 2) ∧ w1.cell? ⟨w2.heap.size, 1, none⟩ = some (.int .i64 0) ∧ w1.cell? ⟨w2.heap.size, 2, none⟩ = some (.string ⟨#[]⟩) ∧ w1.cell? ⟨w2.heap.size, 3, none⟩ = some (.string ⟨#[]⟩) ∧ w1.cell? ⟨w2.heap.size, 4, none⟩ = some (.string ⟨#[]⟩) ∧ w1.cell? ⟨w2.heap.size, 5, none⟩ = some (.bool false) ∧ w1.cell? ⟨w2.heap.size, 6, none⟩ = some (.bool false) ∧ w1.cell? ⟨w2.heap.size, 7, none⟩ = some (.slice (some ⟨b0, o0, none⟩) l.length cal) ∧ w1.cell? ⟨w9.heap.size, 0, none⟩ = some (.int .i64 k0) ∧ w1.cell? ⟨w9.heap.size, 1, none⟩ = some (.int .i64 pk0) ∧ w1.cell? ⟨w9.heap.size, 2, none⟩ = some (.string y0) ∧ w1.cell? ⟨w9.heap.size, 3, none⟩ = some (.string m0) ∧ w1.cell? ⟨w9.heap.size, 4, none⟩ = some (.string s0) ∧ w1.cell? ⟨w9.heap.size, 5, none⟩ = some (.bool a0) ∧ w1.cell? ⟨w9.heap.size, 6, none⟩ = some (.bool t0) ∧ w1.cell? ⟨w9.heap.size, 7, none⟩ = some (.slice ad9 r0.length cp9) from ⟨(HB.out w1 (K9.out.trans (ka.trans k))).1, (HB.out w1 (K9.out.trans (ka.trans k))).2.1, (HB.out w1 (K9.out.trans (ka.trans k))).2.2.1, (HB.out w1 (K9.out.trans (ka.trans k))).2.2.2.1, (HB.out w1 (K9.out.trans (ka.trans k))).2.2.2.2.1, (HB.out w1 (K9.out.trans (ka.trans k))).2.2.2.2.2.1, (HB.out w1 (K9.out.trans (ka.trans k))).2.2.2.2.2.2.1, (HB.out w1 (K9.out.trans (ka.trans k))).2.2.2.2.2.2.2, cell_up k q0, cell_up k q1, cell_up k q2, cell_up k q3, cell_up k q4, cell_up k q5, cell_up k q6, cell_up k q7⟩)
      have K01 := Lib.hid (K00.out.trans (K9.out.trans ka))
      have NTa := Lib.hid (NT9.out.kp ka)
      have NBa := Lib.hid (NB9.out.kp ka)
      have NOa := Lib.hid (NO9.out.kp ka)
      have NVa := Lib.hid (NV9.out.kp ka)
      clear HB K00 hgq c0 c1 c2 c3 c4 c5 c6 c7 q0 q1 q2 q3 q4 q5 q6 q7
      have HB := HB2
      have K00 := K01
      clear HB2 K01
      have K10 := Lib.hid (Kp.refl w10)
      have Hw10 := Lib.hid hV
      clear hV ka
      go_wp2_with fail
      rw [← Hw10.out]
      obtain ⟨c0, c1, c2, c3, c4, c5, c6, c7, c8, c9, c10, c11, c12, c13, c14, c15⟩ := HB.out w10 (Kp.refl _)
      go_wp2_with fail
      refine (OT.out _ _ _).mono ?_
      rintro e w11 ⟨rfl, kk⟩
      have K11 := Lib.hid ((show Kp w10 _ from (by first | with_reducible exact K10.out | with_reducible exact K10.out.trans (Kp.alloc _ _))).trans kk)
      clear kk
      clear c0 c1 c2 c3 c4 c5 c6 c7 c8 c9 c10 c11 c12 c13 c14 c15
      obtain ⟨c0, c1, c2, c3, c4, c5, c6, c7, c8, c9, c10, c11, c12, c13, c14, c15⟩ := HB.out w11 K11.out
      obtain ⟨w12, hV⟩ : ∃ x, x = w11.alloc (.cells #[.int .i64 2, .int .i64 0, .string ⟨#[]⟩, .string ⟨#[]⟩, .string ⟨#[]⟩, .bool false, .bool false, .slice td8 (l.length + 1) tc8] 26) := ⟨_, rfl⟩
      have ka : Kp w11 w12 := by rw [hV]; exact Kp.alloc _ _
      have hgq : w12.heap[w11.heap.size]? = some (.cells #[.int .i64 2, .int .i64 0, .string ⟨#[]⟩, .string ⟨#[]⟩, .string ⟨#[]⟩, .bool false, .bool false, .slice td8 (l.length + 1) tc8] 26 (0, 0)) := by rw [hV]; exact heap_at _ _ _ rfl
      have q0 : w12.cell? ⟨w11.heap.size, 0, none⟩ = some (.int .i64 2) := by simp [World.cell?, hgq]
      have q1 : w12.cell? ⟨w11.heap.size, 1, none⟩ = some (.int .i64 0) := by simp [World.cell?, hgq]
      have q2 : w12.cell? ⟨w11.heap.size, 2, none⟩ = some (.string ⟨#[]⟩) := by simp [World.cell?, hgq]
      have q3 : w12.cell? ⟨w11.heap.size, 3, none⟩ = some (.string ⟨#[]⟩) := by simp [World.cell?, hgq]
      have q4 : w12.cell? ⟨w11.heap.size, 4, none⟩ = some (.string ⟨#[]⟩) := by simp [World.cell?, hgq]
      have q5 : w12.cell? ⟨w11.heap.size, 5, none⟩ = some (.bool false) := by simp [World.cell?, hgq]
      have q6 : w12.cell? ⟨w11.heap.size, 6, none⟩ = some (.bool false) := by simp [World.cell?, hgq]
      have q7 : w12.cell? ⟨w11.heap.size, 7, none⟩ = some (.slice td8 (l.length + 1) tc8) := by simp [World.cell?, hgq]
      have HB2 := Lib.hid (fun w1 (k : Kp w12 w1) => show w1.cell? ⟨w2.heap.size, 0, none⟩ = some (.int .i64 2) ∧ w1.cell? ⟨w2.heap.size, 1, none⟩ = some (.int .i64 0) ∧ w1.cell? ⟨w2.heap.size, 2, none⟩ = some (.string ⟨#[]⟩) ∧ w1.cell? ⟨w2.heap.size, 3, none⟩ = some (.string ⟨#[]⟩) ∧ w1.cell? ⟨w2.heap.size, 4, none⟩ = some (.string ⟨#[]⟩) ∧ w1.cell? ⟨w2.heap.size, 5, none⟩ = some (.bool false) ∧ w1.cell? ⟨w2.heap.size, 6, none⟩ = some (.bool false) ∧ w1.cell? ⟨w2.heap.size, 7, none⟩ = some (.slice (some ⟨b0, o0, none⟩) l.length cal) ∧ w1.cell? ⟨w9.heap.size, 0, none⟩ = some (.int .i64 k0) ∧ w1.cell? ⟨w9.heap.size, 1, none⟩ = some (.int .i64 pk0) ∧ w1.cell? ⟨w9.heap.size, 2, none⟩ = some (.string y0) ∧ w1.cell? ⟨w9.heap.size, 3, none⟩ = some (.string m0) ∧ w1.cell? ⟨w9.heap.size, 4, none⟩ = some (.string s0) ∧ w1.cell? ⟨w9.heap.size, 5, none⟩ = some (.bool a0) ∧ w1.cell? ⟨w9.heap.size, 6, none⟩ = some (.bool t0) ∧ w1.cell? ⟨w9.heap.size, 7, none⟩ = some (.slice ad9 r0.length cp9) ∧ w1.cell? ⟨w11.heap.size, 0, none⟩ = some (.int .i64 2) ∧ w1.cell? ⟨w11.heap.size, 1, none⟩ = some (.int .i64 0) ∧ w1.cell? ⟨w11.heap.size, 2, none⟩ = some (.string ⟨#[]⟩) ∧ w1.cell? ⟨w11.heap.size, 3, none⟩ = some (.string ⟨#[]⟩) ∧ w1.cell? ⟨w11.heap.size, 4, none⟩ = some (.string ⟨#[]⟩) ∧ w1.cell? ⟨w11.heap.size, 5, none⟩ = some (.bool false) ∧ w1.cell? ⟨w11.heap.size, 6, none⟩ = some (.bool false) ∧ w1.cell? ⟨w11.heap.size, 7, none⟩ = some (.slice td8 (l.length + 1) tc8) from ⟨(HB.out w1 (K11.out.trans (ka.trans k))).1, (HB.out w1 (K11.out.trans (ka.trans k))).2.1, (HB.out w1 (K11.out.trans (ka.trans k))).2.2.1, (HB.out w1 (K11.out.trans (ka.trans k))).2.2.2.1, (HB.out w1 (K11.out.trans (ka.trans k))).2.2.2.2.1, (HB.out w1 (K11.out.trans (ka.trans k))).2.2.2.2.2.1, (HB.out w1 (K11.out.trans (ka.trans k))).2.2.2.2.2.2.1, (HB.out w1 (K11.out.trans (ka.trans k))).2.2.2.2.2.2.2.1, (HB.out w1 (K11.out.trans (ka.trans k))).2.2.2.2.2.2.2.2.1, (HB.out w1 (K11.out.trans (ka.trans k))).2.2.2.2.2.2.2.2.2.1, (HB.out w1 (K11.out.trans (ka.trans k))).2.2.2.2.2.2.2.2.2.2.1, (HB.out w1 (K11.out.trans (ka.trans k))).2.2.2.2.2.2.2.2.2.2.2.1, (HB.out w1 (K11.out.trans (ka.trans k))).2.2.2.2.2.2.2.2.2.2.2.2.1, (HB.out w1 (K11.out.trans (ka.trans k))).2.2.2.2.2.2.2.2.2.2.2.2.2.1, (HB.out w1 (K11.out.trans (ka.trans k))).2.2.2.2.2.2.2.2.2.2.2.2.2.2.1, (HB.out w1 (K11.out.trans (ka.trans k))).2.2.2.2.2.2.2.2.2.2.2.2.2.2.2, cell_up k q0, cell_up k q1, cell_up k q2, cell_up k q3, cell_up k q4, cell_up k q5, cell_up k q6, cell_up k q7⟩)
      have K01 := Lib.hid (K00.out.trans (K11.out.trans ka))
      have NTb := Lib.hid (NTa.out.kp (K11.out.trans ka))
      have NBb := Lib.hid (NBa.out.kp (K11.out.trans ka))
      have NOb := Lib.hid (NOa.out.kp (K11.out.trans ka))
      have NVb := Lib.hid (NVa.out.kp (K11.out.trans ka))
      clear HB K00 hgq c0 c1 c2 c3 c4 c5 c6 c7 c8 c9 c10 c11 c12 c13 c14 c15 q0 q1 q2 q3 q4 q5 q6 q7
      have HB := HB2
      have K00 := K01
      clear HB2 K01
      have K12 := Lib.hid (Kp.refl w12)
      have Hw12 := Lib.hid hV
      clear hV ka
      go_wp2_with fail
      rw [← Hw12.out]
      obtain ⟨c0, c1, c2, c3, c4, c5, c6, c7, c8, c9, c10, c11, c12, c13, c14, c15, c16, c17, c18, c19, c20, c21, c22, c23⟩ := HB.out w12 (Kp.refl _)
      go_wp2_with fail
      refine (OU.out _ _ _).mono ?_
      rintro e w13 ⟨rfl, kk⟩
      have K13 := Lib.hid ((show Kp w12 _ from (by first | with_reducible exact K12.out | with_reducible exact K12.out.trans (Kp.alloc _ _))).trans kk)
      clear kk
      clear c0 c1 c2 c3 c4 c5 c6 c7 c8 c9 c10 c11 c12 c13 c14 c15 c16 c17 c18 c19 c20 c21 c22 c23
      obtain ⟨c0, c1, c2, c3, c4, c5, c6, c7, c8, c9, c10, c11, c12, c13, c14, c15, c16, c17, c18, c19, c20, c21, c22, c23⟩ := HB.out w13 K13.out
      obtain ⟨w14, hV⟩ : ∃ x, x = w13.alloc (.cells #[.int .i64 2, .int .i64 0, .string ⟨#[]⟩, .string ⟨#[]⟩, .string ⟨#[]⟩, .bool false, .bool false, .slice oad l.length ocp] 26) := ⟨_, rfl⟩
      have ka : Kp w13 w14 := by rw [hV]; exact Kp.alloc _ _
      have hgq : w14.heap[w13.heap.size]? = some (.cells #[.int .i64 2, .int .i64 0, .string ⟨#[]⟩, .string ⟨#[]⟩, .string ⟨#[]⟩, .bool false, .bool false, .slice oad l.length ocp] 26 (0, 0)) := by rw [hV]; exact heap_at _ _ _ rfl
      have q0 : w14.cell? ⟨w13.heap.size, 0, none⟩ = some (.int .i64 2) := by simp [World.cell?, hgq]
      have q1 : w14.cell? ⟨w13.heap.size, 1, none⟩ = some (.int .i64 0) := by simp [World.cell?, hgq]
      have q2 : w14.cell? ⟨w13.heap.size, 2, none⟩ = some (.string ⟨#[]⟩) := by simp [World.cell?, hgq]
      have q3 : w14.cell? ⟨w13.heap.size, 3, none⟩ = some (.string ⟨#[]⟩) := by simp [World.cell?, hgq]
      have q4 : w14.cell? ⟨w13.heap.size, 4, none⟩ = some (.string ⟨#[]⟩) := by simp [World.cell?, hgq]
      have q5 : w14.cell? ⟨w13.heap.size, 5, none⟩ = some (.bool false) := by simp [World.cell?, hgq]
      have q6 : w14.cell? ⟨w13.heap.size, 6, none⟩ = some (.bool false) := by simp [World.cell?, hgq]
      have q7 : w14.cell? ⟨w13.heap.size, 7, none⟩ = some (.slice oad l.length ocp) := by simp [World.cell?, hgq]
      have HB2 := Lib.hid (fun w1 (k : Kp w14 w1) => show w1.cell? ⟨w2.heap.size, 0, none⟩ = some (.int .i64 2) ∧ w1.cell? ⟨w2.heap.size, 1, none⟩ = some (.int .i64 0) ∧ w1.cell? ⟨w2.heap.size, 2, none⟩ = some (.string ⟨#[]⟩) ∧ w1.cell? ⟨w2.heap.size, 3, none⟩ = some (.string ⟨#[]⟩) ∧ w1.cell? ⟨w2.heap.size, 4, none⟩ = some (.string ⟨#[]⟩) ∧ w1.cell? ⟨w2.heap.size, 5, none⟩ = some (.bool false) ∧ w1.cell? ⟨w2.heap.size, 6, none⟩ = some (.bool false) ∧ w1.cell? ⟨w2.heap.size, 7, none⟩ = some (.slice (some ⟨b0, o0, none⟩) l.length cal) ∧ w1.cell? ⟨w9.heap.size, 0, none⟩ = some (.int .i64 k0) ∧ w1.cell? ⟨w9.heap.size, 1, none⟩ = some (.int .i64 pk0) ∧ w1.cell? ⟨w9.heap.size, 2, none⟩ = some (.string y0) ∧ w1.cell? ⟨w9.heap.size, 3, none⟩ = some (.string m0) ∧ w1.cell? ⟨w9.heap.size, 4, none⟩ = some (.string s0) ∧ w1.cell? ⟨w9.heap.size, 5, none⟩ = some (.bool a0) ∧ w1.cell? ⟨w9.heap.size, 6, none⟩ = some (.bool t0) ∧ w1.cell? ⟨w9.heap.size, 7, none⟩ = some (.slice ad9 r0.length cp9) ∧ w1.cell? ⟨w11.heap.size, 0, none⟩ = some (.int .i64 2) ∧ w1.cell? ⟨w11.heap.size, 1, none⟩ = some (.int .i64 0) ∧ w1.cell? ⟨w11.heap.size, 2, none⟩ = some (.string ⟨#[]⟩) ∧ w1.cell? ⟨w11.heap.size, 3, none⟩ = some (.string ⟨#[]⟩) ∧ w1.cell? ⟨w11.heap.size, 4, none⟩ = some (.string ⟨#[]⟩) ∧ w1.cell? ⟨w11.heap.size, 5, none⟩ = some (.bool false) ∧ w1.cell? ⟨w11.heap.size, 6, none⟩ = some (.bool false) ∧ w1.cell? ⟨w11.heap.size, 7, none⟩ = some (.slice td8 (l.length + 1) tc8) ∧ w1.cell? ⟨w13.heap.size, 0, none⟩ = some (.int .i64 2) ∧ w1.cell? ⟨w13.heap.size, 1, none⟩ = some (.int .i64 0) ∧ w1.cell? ⟨w13.heap.size, 2, none⟩ = some (.string ⟨#[]⟩) ∧ w1.cell? ⟨w13.heap.size, 3, none⟩ = some (.string ⟨#[]⟩) ∧ w1.cell? ⟨w13.heap.size, 4, none⟩ = some (.string ⟨#[]⟩) ∧ w1.cell? ⟨w13.heap.size, 5, none⟩ = some (.bool false) ∧ w1.cell? ⟨w13.heap.size, 6, none⟩ = some (.bool false) ∧ w1.cell? ⟨w13.heap.size, 7, none⟩ = some (.slice oad l.length ocp) from ⟨(HB.out w1 (K13.out.trans (ka.trans k))).1, (HB.out w1 (K13.out.trans (ka.trans k))).2.1, (HB.out w1 (K13.out.trans (ka.trans k))).2.2.1, (HB.out w1 (K13.out.trans (ka.trans k))).2.2.2.1, (HB.out w1 (K13.out.trans (ka.trans k))).2.2.2.2.1, (HB.out w1 (K13.out.trans (ka.trans k))).2.2.2.2.2.1, (HB.out w1 (K13.out.trans (ka.trans k))).2.2.2.2.2.2.1, (HB.out w1 (K13.out.trans (ka.trans k))).2.2.2.2.2.2.2.1, (HB.out w1 (K13.out.trans (ka.trans k))).2.2.2.2.2.2.2.2.1, (HB.out w1 (K13.out.trans (ka.trans k))).2.2.2.2.2.2.2.2.2.1, (HB.out w1 (K13.out.trans (ka.trans k))).2.2.2.2.2.2.2.2.2.2.1, (HB.out w1 (K13.out.trans (ka.trans k))).2.2.2.2.2.2.2.2.2.2.2.1, (HB.out w1 (K13.out.trans (ka.trans k))).2.2.2.2.2.2.2.2.2.2.2.2.1, (HB.out w1 (K13.out.trans (ka.trans k))).2.2.2.2.2.2.2.2.2.2.2.2.2.1, (HB.out w1 (K13.out.trans (ka.trans k))).2.2.2.2.2.2.2.2.2.2.2.2.2.2.1, (HB.out w1 (K13.out.trans (ka.trans k))).2.2.2.2.2.2.2.2.2.2.2.2.2.2.2.1, (HB.out w1 (K13.out.trans (ka.trans k))).2.2.2.2.2.2.2.2.2.2.2.2.2.2.2.2.1, (HB.out w1 (K13.out.trans (ka.trans k))).2.2.2.2.2.2.2.2.2.2.2.2.2.2.2.2.2.1, (HB.out w1 (K13.out.trans (ka.trans k))).2.2.2.2.2.2.2.2.2.2.2.2.2.2.2.2.2.2.1, (HB.out w1 (K13.out.trans (ka.trans k))).2.2.2.2.2.2.2.2.2.2.2.2.2.2.2.2.2.2.2.1, (HB.out w1 (K13.out.trans (ka.trans k))).2.2.2.2.2.2.2.2.2.2.2.2.2.2.2.2.2.2.2.2.1, (HB.out w1 (K13.out.trans (ka.trans k))).2.2.2.2.2.2.2.2.2.2.2.2.2.2.2.2.2.2.2.2.2.1, (HB.out w1 (K13.out.trans (ka.trans k))).2.2.2.2.2.2.2.2.2.2.2.2.2.2.2.2.2.2.2.2.2.2.1, (HB.out w1 (K13.out.trans (ka.trans k))).2.2.2.2.2.2.2.2.2.2.2.2.2.2.2.2.2.2.2.2.2.2.2, cell_up k q0, cell_up k q1, cell_up k q2, cell_up k q3, cell_up k q4, cell_up k q5, cell_up k q6, cell_up k q7⟩)
      have K01 := Lib.hid (K00.out.trans (K13.out.trans ka))
      have NTc := Lib.hid (NTb.out.kp (K13.out.trans ka))
      have NBc := Lib.hid (NBb.out.kp (K13.out.trans ka))
      have NOc := Lib.hid (NOb.out.kp (K13.out.trans ka))
      have NVc := Lib.hid (NVb.out.kp (K13.out.trans ka))
      clear HB K00 hgq c0 c1 c2 c3 c4 c5 c6 c7 c8 c9 c10 c11 c12 c13 c14 c15 c16 c17 c18 c19 c20 c21 c22 c23 q0 q1 q2 q3 q4 q5 q6 q7
      have HB := HB2
      have K00 := K01
      clear HB2 K01
      have K14 := Lib.hid (Kp.refl w14)
      have Hw14 := Lib.hid hV
      clear hV ka
      go_wp2_with fail
      rw [← Hw14.out]
      obtain ⟨c0, c1, c2, c3, c4, c5, c6, c7, c8, c9, c10, c11, c12, c13, c14, c15, c16, c17, c18, c19, c20, c21, c22, c23, c24, c25, c26, c27, c28, c29, c30, c31⟩ := HB.out w14 (Kp.refl _)
      have KS := Lib.hid (fun w' (kq : Kp w14 w') => show w'.cell? ⟨w2.heap.size, 0, none⟩ = some (.int .i64 2) ∧ w'.cell? ⟨w2.heap.size, 1, none⟩ = some (.int .i64 0) ∧ w'.cell? ⟨w2.heap.size, 2, none⟩ = some (.string ⟨#[]⟩) ∧ w'.cell? ⟨w2.heap.size, 3, none⟩ = some (.string ⟨#[]⟩) ∧ w'.cell? ⟨w2.heap.size, 4, none⟩ = some (.string ⟨#[]⟩) ∧ w'.cell? ⟨w2.heap.size, 5, none⟩ = some (.bool false) ∧ w'.cell? ⟨w2.heap.size, 6, none⟩ = some (.bool false) ∧ w'.cell? ⟨w2.heap.size, 7, none⟩ = some (.slice (some ⟨b0, o0, none⟩) l.length cal) ∧ w'.cell? ⟨w9.heap.size, 0, none⟩ = some (.int .i64 k0) ∧ w'.cell? ⟨w9.heap.size, 1, none⟩ = some (.int .i64 pk0) ∧ w'.cell? ⟨w9.heap.size, 2, none⟩ = some (.string y0) ∧ w'.cell? ⟨w9.heap.size, 3, none⟩ = some (.string m0) ∧ w'.cell? ⟨w9.heap.size, 4, none⟩ = some (.string s0) ∧ w'.cell? ⟨w9.heap.size, 5, none⟩ = some (.bool a0) ∧ w'.cell? ⟨w9.heap.size, 6, none⟩ = some (.bool t0) ∧ w'.cell? ⟨w9.heap.size, 7, none⟩ = some (.slice ad9 r0.length cp9) ∧ w'.cell? ⟨w11.heap.size, 0, none⟩ = some (.int .i64 2) ∧ w'.cell? ⟨w11.heap.size, 1, none⟩ = some (.int .i64 0) ∧ w'.cell? ⟨w11.heap.size, 2, none⟩ = some (.string ⟨#[]⟩) ∧ w'.cell? ⟨w11.heap.size, 3, none⟩ = some (.string ⟨#[]⟩) ∧ w'.cell? ⟨w11.heap.size, 4, none⟩ = some (.string ⟨#[]⟩) ∧ w'.cell? ⟨w11.heap.size, 5, none⟩ = some (.bool false) ∧ w'.cell? ⟨w11.heap.size, 6, none⟩ = some (.bool false) ∧ w'.cell? ⟨w11.heap.size, 7, none⟩ = some (.slice td8 (l.length + 1) tc8) ∧ w'.cell? ⟨w13.heap.size, 0, none⟩ = some (.int .i64 2) ∧ w'.cell? ⟨w13.heap.size, 1, none⟩ = some (.int .i64 0) ∧ w'.cell? ⟨w13.heap.size, 2, none⟩ = some (.string ⟨#[]⟩) ∧ w'.cell? ⟨w13.heap.size, 3, none⟩ = some (.string ⟨#[]⟩) ∧ w'.cell? ⟨w13.heap.size, 4, none⟩ = some (.string ⟨#[]⟩) ∧ w'.cell? ⟨w13.heap.size, 5, none⟩ = some (.bool false) ∧ w'.cell? ⟨w13.heap.size, 6, none⟩ = some (.bool false) ∧ w'.cell? ⟨w13.heap.size, 7, none⟩ = some (.slice oad l.length ocp) ∧ Kp w14 w' from ⟨(HB.out w' (K14.out.trans kq)).1, (HB.out w' (K14.out.trans kq)).2.1, (HB.out w' (K14.out.trans kq)).2.2.1, (HB.out w' (K14.out.trans kq)).2.2.2.1, (HB.out w' (K14.out.trans kq)).2.2.2.2.1, (HB.out w' (K14.out.trans kq)).2.2.2.2.2.1, (HB.out w' (K14.out.trans kq)).2.2.2.2.2.2.1, (HB.out w' (K14.out.trans kq)).2.2.2.2.2.2.2.1, (HB.out w' (K14.out.trans kq)).2.2.2.2.2.2.2.2.1, (HB.out w' (K14.out.trans kq)).2.2.2.2.2.2.2.2.2.1, (HB.out w' (K14.out.trans kq)).2.2.2.2.2.2.2.2.2.2.1, (HB.out w' (K14.out.trans kq)).2.2.2.2.2.2.2.2.2.2.2.1, (HB.out w' (K14.out.trans kq)).2.2.2.2.2.2.2.2.2.2.2.2.1, (HB.out w' (K14.out.trans kq)).2.2.2.2.2.2.2.2.2.2.2.2.2.1, (HB.out w' (K14.out.trans kq)).2.2.2.2.2.2.2.2.2.2.2.2.2.2.1, (HB.out w' (K14.out.trans kq)).2.2.2.2.2.2.2.2.2.2.2.2.2.2.2.1, (HB.out w' (K14.out.trans kq)).2.2.2.2.2.2.2.2.2.2.2.2.2.2.2.2.1, (HB.out w' (K14.out.trans kq)).2.2.2.2.2.2.2.2.2.2.2.2.2.2.2.2.2.1, (HB.out w' (K14.out.trans kq)).2.2.2.2.2.2.2.2.2.2.2.2.2.2.2.2.2.2.1, (HB.out w' (K14.out.trans kq)).2.2.2.2.2.2.2.2.2.2.2.2.2.2.2.2.2.2.2.1, (HB.out w' (K14.out.trans kq)).2.2.2.2.2.2.2.2.2.2.2.2.2.2.2.2.2.2.2.2.1, (HB.out w' (K14.out.trans kq)).2.2.2.2.2.2.2.2.2.2.2.2.2.2.2.2.2.2.2.2.2.1, (HB.out w' (K14.out.trans kq)).2.2.2.2.2.2.2.2.2.2.2.2.2.2.2.2.2.2.2.2.2.2.1, (HB.out w' (K14.out.trans kq)).2.2.2.2.2.2.2.2.2.2.2.2.2.2.2.2.2.2.2.2.2.2.2.1, (HB.out w' (K14.out.trans kq)).2.2.2.2.2.2.2.2.2.2.2.2.2.2.2.2.2.2.2.2.2.2.2.2.1, (HB.out w' (K14.out.trans kq)).2.2.2.2.2.2.2.2.2.2.2.2.2.2.2.2.2.2.2.2.2.2.2.2.2.1, (HB.out w' (K14.out.trans kq)).2.2.2.2.2.2.2.2.2.2.2.2.2.2.2.2.2.2.2.2.2.2.2.2.2.2.1, (HB.out w' (K14.out.trans kq)).2.2.2.2.2.2.2.2.2.2.2.2.2.2.2.2.2.2.2.2.2.2.2.2.2.2.2.1, (HB.out w' (K14.out.trans kq)).2.2.2.2.2.2.2.2.2.2.2.2.2.2.2.2.2.2.2.2.2.2.2.2.2.2.2.2.1, (HB.out w' (K14.out.trans kq)).2.2.2.2.2.2.2.2.2.2.2.2.2.2.2.2.2.2.2.2.2.2.2.2.2.2.2.2.2.1, (HB.out w' (K14.out.trans kq)).2.2.2.2.2.2.2.2.2.2.2.2.2.2.2.2.2.2.2.2.2.2.2.2.2.2.2.2.2.2.1, (HB.out w' (K14.out.trans kq)).2.2.2.2.2.2.2.2.2.2.2.2.2.2.2.2.2.2.2.2.2.2.2.2.2.2.2.2.2.2.2, kq⟩)
      go_wp2_with fail
      refine wp_region_held_drew (S := fun w' => w'.cell? ⟨w2.heap.size, 0, none⟩ = some (.int .i64 2) ∧ w'.cell? ⟨w2.heap.size, 1, none⟩ = some (.int .i64 0) ∧ w'.cell? ⟨w2.heap.size, 2, none⟩ = some (.string ⟨#[]⟩) ∧ w'.cell? ⟨w2.heap.size, 3, none⟩ = some (.string ⟨#[]⟩) ∧ w'.cell? ⟨w2.heap.size, 4, none⟩ = some (.string ⟨#[]⟩) ∧ w'.cell? ⟨w2.heap.size, 5, none⟩ = some (.bool false) ∧ w'.cell? ⟨w2.heap.size, 6, none⟩ = some (.bool false) ∧ w'.cell? ⟨w2.heap.size, 7, none⟩ = some (.slice (some ⟨b0, o0, none⟩) l.length cal) ∧ w'.cell? ⟨w9.heap.size, 0, none⟩ = some (.int .i64 k0) ∧ w'.cell? ⟨w9.heap.size, 1, none⟩ = some (.int .i64 pk0) ∧ w'.cell? ⟨w9.heap.size, 2, none⟩ = some (.string y0) ∧ w'.cell? ⟨w9.heap.size, 3, none⟩ = some (.string m0) ∧ w'.cell? ⟨w9.heap.size, 4, none⟩ = some (.string s0) ∧ w'.cell? ⟨w9.heap.size, 5, none⟩ = some (.bool a0) ∧ w'.cell? ⟨w9.heap.size, 6, none⟩ = some (.bool t0) ∧ w'.cell? ⟨w9.heap.size, 7, none⟩ = some (.slice ad9 r0.length cp9) ∧ w'.cell? ⟨w11.heap.size, 0, none⟩ = some (.int .i64 2) ∧ w'.cell? ⟨w11.heap.size, 1, none⟩ = some (.int .i64 0) ∧ w'.cell? ⟨w11.heap.size, 2, none⟩ = some (.string ⟨#[]⟩) ∧ w'.cell? ⟨w11.heap.size, 3, none⟩ = some (.string ⟨#[]⟩) ∧ w'.cell? ⟨w11.heap.size, 4, none⟩ = some (.string ⟨#[]⟩) ∧ w'.cell? ⟨w11.heap.size, 5, none⟩ = some (.bool false) ∧ w'.cell? ⟨w11.heap.size, 6, none⟩ = some (.bool false) ∧ w'.cell? ⟨w11.heap.size, 7, none⟩ = some (.slice td8 (l.length + 1) tc8) ∧ w'.cell? ⟨w13.heap.size, 0, none⟩ = some (.int .i64 2) ∧ w'.cell? ⟨w13.heap.size, 1, none⟩ = some (.int .i64 0) ∧ w'.cell? ⟨w13.heap.size, 2, none⟩ = some (.string ⟨#[]⟩) ∧ w'.cell? ⟨w13.heap.size, 3, none⟩ = some (.string ⟨#[]⟩) ∧ w'.cell? ⟨w13.heap.size, 4, none⟩ = some (.string ⟨#[]⟩) ∧ w'.cell? ⟨w13.heap.size, 5, none⟩ = some (.bool false) ∧ w'.cell? ⟨w13.heap.size, 6, none⟩ = some (.bool false) ∧ w'.cell? ⟨w13.heap.size, 7, none⟩ = some (.slice oad l.length ocp) ∧ Kp w14 w') (by kernel_rfl) ?_ (fun hHeld0 => ?_)
      · (try dsimp only); exact KS.out _ (by first | assumption | exact Kp.drew _)
      refine tkV (v := ?_) 0 orA0 ?_ ?_
      rotate_left
      · intro w hSw; (try dsimp only at hSw); go_simp; (try with_reducible rfl)
      (try simp only [Act.put, orA0, xA, xB, xC])
      refine tkV (v := ?_) 1 orA1 ?_ ?_
      rotate_left
      · intro w hSw; (try dsimp only at hSw); go_simp; (try with_reducible rfl)
      (try simp only [Act.put, orA1, xA, xB, xC])
      refine tkV (v := ?_) 2 orA2 ?_ ?_
      rotate_left
      · intro w hSw; (try dsimp only at hSw); go_simp; (try with_reducible rfl)
      (try simp only [Act.put, orA2, xA, xB, xC])
      refine tkV (v := ?_) 5 orA5 ?_ ?_
      rotate_left
      · intro w hSw; (try dsimp only at hSw); go_simp; (try with_reducible rfl)
      (try simp only [Act.put, orA5, xA, xB, xC])
      refine tkE 3 orA3 rfl (by kernel_rfl) (fun K hK => ?_)
      go_simp
      (refine (OB.out _ _ _).mono ?_; rintro e wp ⟨rfl, k1⟩; have k2 := Kp.trans (show Kp w14 _ from (by first | assumption | exact Kp.drew _)) k1; clear k1)
      (try go_wp2_with fail)
      refine hK.out _ _ ?_ (fun hHeld1 => ?_)
      · (try dsimp only); exact KS.out _ (by first | assumption | exact Kp.drew _)
      clear hK K hHeld0
      (try simp only [Act.put, orA3, xA, xB, xC])
      refine tkE 4 orA4 rfl (by kernel_rfl) (fun K hK => ?_)
      go_simp
      (refine (CB.out _ _ (NBc.out.kp (K14.out.trans (by first | assumption | exact Kp.drew _))) (K00.out.trans (K14.out.trans (by first | assumption | exact Kp.drew _)))).mono ?_; rintro e wq ⟨vq, rfl, hq, k1⟩; have NQ := Lib.hid hq; obtain ⟨adq, cpq, rfl⟩ := hq.slice; clear hq; have k2 := Kp.trans (show Kp w14 _ from (by first | assumption | exact Kp.drew _)) k1; clear k1)
      (try go_wp2_with fail)
      refine hK.out _ _ ?_ (fun hHeld2 => ?_)
      · (try dsimp only); exact KS.out _ (by first | assumption | exact Kp.drew _)
      clear hK K hHeld1
      (try simp only [Act.put, orA4, xA, xB, xC])
      refine tkE 6 orA6 rfl (by kernel_rfl) (fun K hK => ?_)
      go_simp
      (refine (SM.out _ _ _ (NQ.out.kp (by first | with_reducible exact Kp.refl _ | with_reducible exact Kp.alloc _ _ | with_reducible exact (Kp.alloc _ _).trans (Kp.alloc _ _) | with_reducible exact ((Kp.alloc _ _).trans (Kp.alloc _ _)).trans (Kp.alloc _ _) | with_reducible exact Kp.drew _ | with_reducible exact Kp.drewN _ _)) (NVc.out.kp (K14.out.trans (by first | assumption | exact Kp.drew _)))).mono ?_; rintro e ws ⟨rfl, k1⟩; have k2 := Kp.trans (show Kp w14 _ from (by first | assumption | exact Kp.drew _)) k1; clear k1)
      (try go_wp2_with fail)
      refine hK.out _ _ ?_ (fun hHeld3 => ?_)
      · (try dsimp only); exact KS.out _ (by first | assumption | exact Kp.drew _)
      clear hK K hHeld2
      (try simp only [Act.put, orA6, xA, xB, xC])
      refine tkV (v := ?_) 7 orA7 ?_ ?_
      rotate_left
      · intro w hSw; (try dsimp only at hSw); go_simp; (try with_reducible rfl)
      (try simp only [Act.put, orA7, xA, xB, xC])
      refine tkV (v := ?_) 8 orA8 ?_ ?_
      rotate_left
      · intro w hSw; (try dsimp only at hSw); go_simp; (try with_reducible rfl)
      (try simp only [Act.put, orA8, xA, xB, xC])
      refine tkV (v := ?_) 9 orA9 ?_ ?_
      rotate_left
      · intro w hSw; (try dsimp only at hSw); go_simp; (try with_reducible rfl)
      (try simp only [Act.put, orA9, xA, xB, xC])
      refine tkE 10 orA10 rfl (by kernel_rfl) (fun K hK => ?_)
      go_simp
      (refine (ST.out _ _ (NTc.out.kp (K14.out.trans (by first | assumption | exact Kp.drew _))) (K00.out.trans (K14.out.trans (by first | assumption | exact Kp.drew _)))).mono ?_; rintro e wt ⟨rfl, k1⟩; have k2 := Kp.trans (show Kp w14 _ from (by first | assumption | exact Kp.drew _)) k1; clear k1)
      (try go_wp2_with fail)
      refine hK.out _ _ ?_ (fun hHeld4 => ?_)
      · (try dsimp only); exact KS.out _ (by first | assumption | exact Kp.drew _)
      clear hK K hHeld3
      (try simp only [Act.put, orA10, xA, xB, xC])
      refine tkV (v := ?_) 11 orA11 ?_ ?_
      rotate_left
      · intro w hSw; (try dsimp only at hSw); go_simp; (try with_reducible rfl)
      (try simp only [Act.put, orA11, xA, xB, xC])
      refine tkV (v := ?_) 12 orA12 ?_ ?_
      rotate_left
      · intro w hSw; (try dsimp only at hSw); go_simp; (try with_reducible rfl)
      (try simp only [Act.put, orA12, xA, xB, xC])
      refine tkV (v := ?_) 13 orA13 ?_ ?_
      rotate_left
      · intro w hSw; (try dsimp only at hSw); go_simp; (try with_reducible rfl)
      (try simp only [Act.put, orA13, xA, xB, xC])
      refine tkV (v := ?_) 15 orA15 ?_ ?_
      rotate_left
      · intro w hSw; (try dsimp only at hSw); go_simp; (try with_reducible rfl)
      (try simp only [Act.put, orA15, xA, xB, xC])
      refine tkE 14 orA14 rfl (by kernel_rfl) (fun K hK => ?_)
      go_simp
      (refine (CT.out _ _ (NTc.out.kp (K14.out.trans (by first | assumption | exact Kp.drew _))) (K00.out.trans (K14.out.trans (by first | assumption | exact Kp.drew _)))).mono ?_; rintro e wu ⟨vu, rfl, hu, k1⟩; have NU := Lib.hid hu; obtain ⟨adu, cpu, rfl⟩ := hu.slice; clear hu; have k2 := Kp.trans (show Kp w14 _ from (by first | assumption | exact Kp.drew _)) k1; clear k1)
      (try go_wp2_with fail)
      refine hK.out _ _ ?_ (fun hHeld5 => ?_)
      · (try dsimp only); exact KS.out _ (by first | assumption | exact Kp.drew _)
      clear hK K hHeld4
      (try simp only [Act.put, orA14, xA, xB, xC])
      refine tkE 16 orA16 rfl (by kernel_rfl) (fun K hK => ?_)
      go_simp
      (refine (SM.out _ _ _ (NU.out.kp (by first | with_reducible exact Kp.refl _ | with_reducible exact Kp.alloc _ _ | with_reducible exact (Kp.alloc _ _).trans (Kp.alloc _ _) | with_reducible exact ((Kp.alloc _ _).trans (Kp.alloc _ _)).trans (Kp.alloc _ _) | with_reducible exact Kp.drew _ | with_reducible exact Kp.drewN _ _)) (NVc.out.kp (K14.out.trans (by first | assumption | exact Kp.drew _)))).mono ?_; rintro e wv ⟨rfl, k1⟩; have k2 := Kp.trans (show Kp w14 _ from (by first | assumption | exact Kp.drew _)) k1; clear k1)
      (try go_wp2_with fail)
      refine hK.out _ _ ?_ (fun hHeld6 => ?_)
      · (try dsimp only); exact KS.out _ (by first | assumption | exact Kp.drew _)
      clear hK K hHeld5
      (try simp only [Act.put, orA16, xA, xB, xC])
      refine tkV (v := ?_) 17 orA17 ?_ ?_
      rotate_left
      · intro w hSw; (try dsimp only at hSw); go_simp; (try with_reducible rfl)
      (try simp only [Act.put, orA17, xA, xB, xC])
      refine tkV (v := ?_) 18 orA18 ?_ ?_
      rotate_left
      · intro w hSw; (try dsimp only at hSw); go_simp; (try with_reducible rfl)
      (try simp only [Act.put, orA18, xA, xB, xC])
      refine tkV (v := ?_) 19 orA19 ?_ ?_
      rotate_left
      · intro w hSw; (try dsimp only at hSw); go_simp; (try with_reducible rfl)
      (try simp only [Act.put, orA19, xA, xB, xC])
      refine tkV (v := ?_) 20 orA20 ?_ ?_
      rotate_left
      · intro w hSw; (try dsimp only at hSw); go_simp; (try with_reducible rfl)
      (try simp only [Act.put, orA20, xA, xB, xC])
      refine tkE 21 orA21 rfl (by kernel_rfl) (fun K hK => ?_)
      go_simp
      (refine (SO.out _ _ (NOc.out.kp (K14.out.trans (by first | assumption | exact Kp.drew _))) (K00.out.trans (K14.out.trans (by first | assumption | exact Kp.drew _)))).mono ?_; rintro e wx ⟨rfl, k1⟩; have k2 := Kp.trans (show Kp w14 _ from (by first | assumption | exact Kp.drew _)) k1; clear k1)
      (try go_wp2_with fail)
      refine hK.out _ _ ?_ (fun hHeld7 => ?_)
      · (try dsimp only); exact KS.out _ (by first | assumption | exact Kp.drew _)
      clear hK K hHeld6
      (try simp only [Act.put, orA21, xA, xB, xC])
      refine tkV (v := ?_) 22 orA22 ?_ ?_
      rotate_left
      · intro w hSw; (try dsimp only at hSw); go_simp; (try with_reducible rfl)
      (try simp only [Act.put, orA22, xA, xB, xC])
      refine tkV (v := ?_) 23 orA23 ?_ ?_
      rotate_left
      · intro w hSw; (try dsimp only at hSw); go_simp; (try with_reducible rfl)
      (try simp only [Act.put, orA23, xA, xB, xC])
      refine tkV (v := ?_) 24 orA24 ?_ ?_
      rotate_left
      · intro w hSw; (try dsimp only at hSw); go_simp; (try with_reducible rfl)
      (try simp only [Act.put, orA24, xA, xB, xC])
      refine tkV (v := ?_) 26 orA26 ?_ ?_
      rotate_left
      · intro w hSw; (try dsimp only at hSw); go_simp; (try with_reducible rfl)
      (try simp only [Act.put, orA26, xA, xB, xC])
      refine tkE 25 orA25 rfl (by kernel_rfl) (fun K hK => ?_)
      go_simp
      (refine (CU.out _ _ (NOc.out.kp (K14.out.trans (by first | assumption | exact Kp.drew _))) (K00.out.trans (K14.out.trans (by first | assumption | exact Kp.drew _)))).mono ?_; rintro e wy ⟨vy, rfl, hy, k1⟩; have NY := Lib.hid hy; obtain ⟨ady, cpy, rfl⟩ := hy.slice; clear hy; have k2 := Kp.trans (show Kp w14 _ from (by first | assumption | exact Kp.drew _)) k1; clear k1)
      (try go_wp2_with fail)
      refine hK.out _ _ ?_ (fun hHeld8 => ?_)
      · (try dsimp only); exact KS.out _ (by first | assumption | exact Kp.drew _)
      clear hK K hHeld7
      (try simp only [Act.put, orA25, xA, xB, xC])
      refine tkE 27 orA27 rfl (by kernel_rfl) (fun K hK => ?_)
      go_simp
      (refine (SM.out _ _ _ (NY.out.kp (by first | with_reducible exact Kp.refl _ | with_reducible exact Kp.alloc _ _ | with_reducible exact (Kp.alloc _ _).trans (Kp.alloc _ _) | with_reducible exact ((Kp.alloc _ _).trans (Kp.alloc _ _)).trans (Kp.alloc _ _) | with_reducible exact Kp.drew _ | with_reducible exact Kp.drewN _ _)) (NVc.out.kp (K14.out.trans (by first | assumption | exact Kp.drew _)))).mono ?_; rintro e wz ⟨rfl, k1⟩; have k2 := Kp.trans (show Kp w14 _ from (by first | assumption | exact Kp.drew _)) k1; clear k1)
      (try go_wp2_with fail)
      refine hK.out _ _ ?_ (fun hHeld9 => ?_)
      · (try dsimp only); exact KS.out _ (by first | assumption | exact Kp.drew _)
      clear hK K hHeld8
      (try simp only [Act.put, orA27, xA, xB, xC])
      refine tkV (v := ?_) 28 orA28 ?_ ?_
      rotate_left
      · intro w hSw; (try dsimp only at hSw); go_simp; (try with_reducible rfl)
      (try simp only [Act.put, orA28, xA, xB, xC])
      refine tkV (v := ?_) 29 orA29 ?_ ?_
      rotate_left
      · intro w hSw; (try dsimp only at hSw); go_simp; (try with_reducible rfl)
      (try simp only [Act.put, orA29, xA, xB, xC])
      refine tkV (v := ?_) 30 orA30 ?_ ?_
      rotate_left
      · intro w hSw; (try dsimp only at hSw); go_simp; (try with_reducible rfl)
      (try simp only [Act.put, orA30, xA, xB, xC])
      refine wpAnyH_done (by kernel_rfl) ?_ _
      go_wp2
      go_ret
      exact ⟨rfl, K00.out.trans (K14.out.trans k2)⟩
set_option maxHeartbeats 16000000 in
set_option maxRecDepth 100000 in
theorem corder_tf (vl : Value) (l : List ND) (w : World) (hl : NodesAt w vl l) (T : TabSH w) (h20 : l.length ≤ 20) (hf : fewG (orN l) = true) (hs : saneN saneP (orN l) = true) (ht : saneN saneP (orN (l ++ [nth l 0])) = true) (ho : saneN saneP (orN (l.reverse.map fun x => orN [x])) = false) :
    Calls Tryd.prog 5 #[vl] w fun e w' => e = .returned (.bool true) ∧ Kp w w' := by
  have AW := Lib.hid (fun w1 (kk : Kp w w1) => awake12 w1 (T.kp kk))
  have OO := Lib.hid (fun w1 => oneOf_any vl l w1 hl.slice)
  have FW := Lib.hid (fun w1 (kk : Kp w w1) => rfewG_any (orN l) vl w1 (hl.kp kk))
  have SN := Lib.hid (fun w1 (kk : Kp w w1) => tSaneG_any (orN l) vl w1 (hl.kp kk) (T.kp kk))
  have lm := hl.len
  unfold maxLen at lm
  have g1 : decide ((l.length : Int) > 20) = false := decide_eq_false (by omega)
  rw [hf] at FW
  rw [hs] at SN
  have l1 := (orN_len hs).1
  have CN := Lib.hid (fun w1 (kk : Kp w w1) => ccan_any (orN l) vl w1 (hl.kp kk) (T.kp kk))
  rw [canF_yes hs] at CN
  have CB := Lib.hid (fun v w1 (h : NodesAt w1 v l.reverse) (kk : Kp w w1) => show Calls Tryd.prog 11 #[ndV (orN l.reverse) v] w1 _ from ccan_any (orN l.reverse) v w1 h (T.kp kk))
  rw [orN_rev hs, canF_yes hs] at CB
  have ST := Lib.hid (fun v w1 (h : NodesAt w1 v (l ++ [nth l 0])) (kk : Kp w w1) => show Calls Tryd.prog 15 #[ndV (orN (l ++ [nth l 0])) v] w1 _ from tSaneG_any (orN (l ++ [nth l 0])) v w1 h (T.kp kk))
  rw [ht] at ST
  have SO := Lib.hid (fun v w1 (h : NodesAt w1 v (l.reverse.map fun x => orN [x])) (kk : Kp w w1) => show Calls Tryd.prog 15 #[ndV (orN (l.reverse.map fun x => orN [x])) v] w1 _ from tSaneG_any (orN (l.reverse.map fun x => orN [x])) v w1 h (T.kp kk))
  rw [ho] at SO
  have CT := Lib.hid (fun v w1 (h : NodesAt w1 v (l ++ [nth l 0])) (kk : Kp w w1) => show Calls Tryd.prog 11 #[ndV (orN (l ++ [nth l 0])) v] w1 _ from ccan_any (orN (l ++ [nth l 0])) v w1 h (T.kp kk))
  rw [orN_twice hs ht, canF_yes hs] at CT
  have c64 : cntN (canN (orN l)) ≤ 64 := by rw [← canF_yes hs]; exact canF_cnt _
  have SM := Lib.hid (fun v u w1 (hv : NodesAt w1 v (canN (orN l)).l) (hu : NodesAt w1 u (canN (orN l)).l) => tSame_any (canN (orN l)) (canN (orN l)) v u w1 hv hu (by omega))
  rw [same_refl] at SM
  have OX := Lib.hid (fun x ad c w1 => oneOf_any (.slice ad 1 c) [x] w1 ⟨_, _, rfl⟩)
  have OB := Lib.hid (fun ad c w1 => oneOf_any (.slice ad l.length c) l.reverse w1 ⟨_, _, by rw [List.length_reverse]⟩)
  have OT := Lib.hid (fun ad c w1 => oneOf_any (.slice ad (l.length + 1) c) (l ++ [nth l 0]) w1 ⟨_, _, by rw [List.length_append]; rfl⟩)
  have OU := Lib.hid (fun ad c w1 => oneOf_any (.slice ad l.length c) (l.reverse.map fun x => orN [x]) w1 ⟨_, _, by rw [List.length_map, List.length_reverse]⟩)
  have RT := Lib.hid (fun j q (h : q + j + 1 = l.length) => rev_take (l := l) h)
  have TL := Lib.hid (show l.reverse.take l.length = l.reverse from by rw [List.take_of_length_le (by rw [List.length_reverse]; exact Nat.le_refl _)])
  have HLW := Lib.hid hl
  clear T hf c64
  generalize canN (orN l) = c0 at *
  obtain ⟨k0, pk0, y0, m0, s0, a0, t0, r0, rfl⟩ := nd_dest c0
  clear hs ht ho
  obtain ⟨adl, cal, rfl⟩ := hl.slice
  unfold orN pz ndV at *
  simp only [ND.k, ND.p, ND.a, ND.t, ND.l] at *
  obtain ⟨W0, hW⟩ : ∃ W0, W0 = w := ⟨_, rfl⟩
  subst hW
  have K00 := Lib.hid (Kp.refl W0)
  have K0 := Lib.hid (Kp.refl W0)
  have HB := Lib.hid True.intro
  go_enter Tryd.func5, Tryd.ntmps5
  go_wp2_with fail
  refine (AW.out _ (K00.out.trans (by first | with_reducible exact K0.out | with_reducible exact K0.out.trans (Kp.alloc _ _)))).mono ?_
  rintro e w1 ⟨rfl, kk⟩
  have K1 := Lib.hid ((show Kp W0 _ from (by first | with_reducible exact K0.out | with_reducible exact K0.out.trans (Kp.alloc _ _))).trans kk)
  clear kk
  go_wp2_with fail
  refine (OO.out _).mono ?_
  rintro e w2 ⟨rfl, kk⟩
  have K2 := Lib.hid ((show Kp W0 _ from (by first | with_reducible exact K1.out | with_reducible exact K1.out.trans (Kp.alloc _ _))).trans kk)
  clear kk
  obtain ⟨w3, hV⟩ : ∃ x, x = w2.alloc (.cells #[.int .i64 2, .int .i64 0, .string ⟨#[]⟩, .string ⟨#[]⟩, .string ⟨#[]⟩, .bool false, .bool false, .slice adl l.length cal] 26) := ⟨_, rfl⟩
  have ka : Kp w2 w3 := by rw [hV]; exact Kp.alloc _ _
  have hgq : w3.heap[w2.heap.size]? = some (.cells #[.int .i64 2, .int .i64 0, .string ⟨#[]⟩, .string ⟨#[]⟩, .string ⟨#[]⟩, .bool false, .bool false, .slice adl l.length cal] 26 (0, 0)) := by rw [hV]; exact heap_at _ _ _ rfl
  have q0 : w3.cell? ⟨w2.heap.size, 0, none⟩ = some (.int .i64 2) := by simp [World.cell?, hgq]
  have q1 : w3.cell? ⟨w2.heap.size, 1, none⟩ = some (.int .i64 0) := by simp [World.cell?, hgq]
  have q2 : w3.cell? ⟨w2.heap.size, 2, none⟩ = some (.string ⟨#[]⟩) := by simp [World.cell?, hgq]
  have q3 : w3.cell? ⟨w2.heap.size, 3, none⟩ = some (.string ⟨#[]⟩) := by simp [World.cell?, hgq]
  have q4 : w3.cell? ⟨w2.heap.size, 4, none⟩ = some (.string ⟨#[]⟩) := by simp [World.cell?, hgq]
  have q5 : w3.cell? ⟨w2.heap.size, 5, none⟩ = some (.bool false) := by simp [World.cell?, hgq]
  have q6 : w3.cell? ⟨w2.heap.size, 6, none⟩ = some (.bool false) := by simp [World.cell?, hgq]
  have q7 : w3.cell? ⟨w2.heap.size, 7, none⟩ = some (.slice adl l.length cal) := by simp [World.cell?, hgq]
  have HB2 := Lib.hid (fun w1 (k : Kp w3 w1) => show w1.cell? ⟨w2.heap.size, 0, none⟩ = some (.int .i64 2) ∧ w1.cell? ⟨w2.heap.size, 1, none⟩ = some (.int .i64 0) ∧ w1.cell? ⟨w2.heap.size, 2, none⟩ = some (.string ⟨#[]⟩) ∧ w1.cell? ⟨w2.heap.size, 3, none⟩ = some (.string ⟨#[]⟩) ∧ w1.cell? ⟨w2.heap.size, 4, none⟩ = some (.string ⟨#[]⟩) ∧ w1.cell? ⟨w2.heap.size, 5, none⟩ = some (.bool false) ∧ w1.cell? ⟨w2.heap.size, 6, none⟩ = some (.bool false) ∧ w1.cell? ⟨w2.heap.size, 7, none⟩ = some (.slice adl l.length cal) from ⟨cell_up k q0, cell_up k q1, cell_up k q2, cell_up k q3, cell_up k q4, cell_up k q5, cell_up k q6, cell_up k q7⟩)
  have K01 := Lib.hid (K00.out.trans (K2.out.trans ka))
  clear HB K00 hgq  q0 q1 q2 q3 q4 q5 q6 q7
  have HB := HB2
  have K00 := K01
  clear HB2 K01
  have K3 := Lib.hid (Kp.refl w3)
  have Hw3 := Lib.hid hV
  clear hV ka
  go_wp2_with fail
  rw [← Hw3.out]
  obtain ⟨c0, c1, c2, c3, c4, c5, c6, c7⟩ := HB.out w3 (Kp.refl _)
  go_wp2_with fail
  refine (FW.out _ (K00.out.trans (by first | with_reducible exact K3.out | with_reducible exact K3.out.trans (Kp.alloc _ _)))).mono ?_
  rintro e w4 ⟨rfl, kk⟩
  have K4 := Lib.hid ((show Kp w3 _ from (by first | with_reducible exact K3.out | with_reducible exact K3.out.trans (Kp.alloc _ _))).trans kk)
  clear kk
  clear c0 c1 c2 c3 c4 c5 c6 c7
  obtain ⟨c0, c1, c2, c3, c4, c5, c6, c7⟩ := HB.out w4 K4.out
  go_wp2_with fail
  refine (SN.out _ (K00.out.trans (by first | with_reducible exact K4.out | with_reducible exact K4.out.trans (Kp.alloc _ _)))).mono ?_
  rintro e w5 ⟨rfl, kk⟩
  have K5 := Lib.hid ((show Kp w3 _ from (by first | with_reducible exact K4.out | with_reducible exact K4.out.trans (Kp.alloc _ _))).trans kk)
  clear kk
  clear c0 c1 c2 c3 c4 c5 c6 c7
  obtain ⟨c0, c1, c2, c3, c4, c5, c6, c7⟩ := HB.out w5 K5.out
  obtain ⟨i0, hi, hz0, hz1, hz2⟩ := info_parts infoNode
  clear c0 c1 c2 c3 c4 c5 c6 c7
  have wl : IntKind.i64.wrap ((l.length : Int) - 1) = (l.length : Int) - 1 := by rw [IntKind.wrap_i64]; omega
  go_wp2
  go_loopw [5, 7, 8] (fun vb vo i ws => ∃ (x : Int) (j : Nat) (mb mo : List NV), x + (j : Int) + 1 = (l.length : Int) ∧ -1 ≤ x ∧ i = .int .i64 x ∧ Hid (mb.map Prod.fst = l.reverse.take j) ∧ Hid (mo.map Prod.fst = (l.reverse.take j).map fun x => orN [x]) ∧ Hid (TwoRows w5 ws vb vo mb mo)) (fun _ _ i _ => (intOf i + 1).toNat)
  case atStart => exact ⟨(l.length : Int) - 1, 0, [], [], by omega, by omega, by first | rfl | go_num, Lib.hid (by rw [List.take_zero]; rfl), Lib.hid (by rw [List.take_zero]; rfl), Lib.hid (TwoRows.none w5)⟩
  case round =>
    obtain ⟨x, j, mb, mo, hx, hx1, rfl, MB, MO, TR⟩ := hrel
    obtain ⟨bad, bcp, rfl⟩ := own_slice8 TR.out.back
    obtain ⟨oad, ocp, rfl⟩ := own_slice8 TR.out.ones
    have NB := Lib.hid (show mb.length = j by have a := congrArg List.length MB.out; rw [List.length_map, List.length_take, List.length_reverse] at a; omega)
    have NO := Lib.hid (show mo.length = j by have a := congrArg List.length MO.out; rw [List.length_map, List.length_map, List.length_take, List.length_reverse] at a; omega)
    by_cases hlt : 0 ≤ x
    · obtain ⟨q, rfl⟩ : ∃ q : Nat, x = q := ⟨x.toNat, by omega⟩
      have hq : q < l.length := by omega
      have hj : j < l.length := by omega
      have rt := RT.out j q (by omega)
      obtain ⟨bk, off, vi, eva, hrow, hsub⟩ := (HLW.out.kp (K00.out.trans K5.out)).get hq
      subst eva
      obtain ⟨x, hx2⟩ : ∃ x, nth l q = x := ⟨_, rfl⟩
      rw [hx2] at hrow hsub rt
      have RTH := Lib.hid rt
      clear rt hx2
      obtain ⟨k1, pk1, y1, m1, s1, a1, t1, l1', rfl⟩ := nd_dest x
      obtain ⟨ad1, cp1, rfl⟩ := hsub.slice
      have HS := Lib.hid (show NodesAt w5 (.slice ad1 l1'.length cp1) l1' from hsub)
      unfold RowN at hrow
      simp only [ND.k, ND.p, ND.a, ND.t, ND.l] at hrow hsub
      obtain ⟨n1, hn1⟩ : ∃ n, l1'.length = n := ⟨_, rfl⟩
      rw [hn1] at hrow HS
      clear hsub hn1
      have HROW := Lib.hid (fun w' (kk : Kp w5 w') => show w'.cell? ⟨bk, off + q * 8, none⟩ = some (.int .i64 k1) ∧ w'.cell? ⟨bk, off + q * 8 + 1, none⟩ = some (.int .i64 pk1) ∧ w'.cell? ⟨bk, off + q * 8 + 2, none⟩ = some (.string y1) ∧ w'.cell? ⟨bk, off + q * 8 + 3, none⟩ = some (.string m1) ∧ w'.cell? ⟨bk, off + q * 8 + 4, none⟩ = some (.string s1) ∧ w'.cell? ⟨bk, off + q * 8 + 5, none⟩ = some (.bool a1) ∧ w'.cell? ⟨bk, off + q * 8 + 6, none⟩ = some (.bool t1) ∧ w'.cell? ⟨bk, off + q * 8 + 7, none⟩ = some (.slice ad1 n1 cp1) from ⟨cell_up kk hrow.1, cell_up kk hrow.2.1, cell_up kk hrow.2.2.1, cell_up kk hrow.2.2.2.1, cell_up kk hrow.2.2.2.2.1, cell_up kk hrow.2.2.2.2.2.1, cell_up kk hrow.2.2.2.2.2.2.1, cell_up kk hrow.2.2.2.2.2.2.2⟩)
      obtain ⟨e0, e1, e2, e3, e4, e5, e6, e7⟩ := HROW.out wr TR.out.kp
      have T1 := Lib.hid (TR.out.go (Kp.alloc wr (.cells #[.int .i64 k1, .int .i64 pk1, .string y1, .string m1, .string s1, .bool a1, .bool t1, .slice ad1 n1 cp1] 26)))
      have SR1 := Lib.hid (one_srcN (w := wr) rfl (.mk k1 ⟨pk1, y1, m1, s1⟩ a1 t1 l1' : ND) (.slice ad1 n1 cp1) 26)
      simp only [ND.k, ND.p, ND.a, ND.t] at SR1
      have L1 := Lib.hid (cellsN_length [((.mk k1 ⟨pk1, y1, m1, s1⟩ a1 t1 l1' : ND), Value.slice ad1 n1 cp1)])
      have ONE1 := Lib.hid (cellsN_one (w := w5) (show ReadsN w5 [((.mk k1 ⟨pk1, y1, m1, s1⟩ a1 t1 l1' : ND), Value.slice ad1 n1 cp1)] from fun p hp => by rw [List.mem_singleton.1 hp]; exact HS.out))
      have z3 : (q : Int) < (l.length : Int) := by omega
      have z4 : (0 : Int) ≤ (q : Int) := by omega
      have wq : IntKind.i64.wrap ((q : Int) - 1) = (q : Int) - 1 := by rw [IntKind.wrap_i64]; omega
      have hbk := World.block_lt_of_cell? _ _ e0
      simp only at hbk
      clear hrow
      go_wp2_with (at_builtin; refine Hid.out ?_)
      refine Lib.hid ?_
      refine wpList_app rfl (.tmp 36) (.tmp 41) 24 rfl w5.heap.size 26 i0 (.agg #[.int .i64 0, .int .i64 0, .string ⟨#[]⟩, .string ⟨#[]⟩, .string ⟨#[]⟩, .bool false, .bool false, .slice none 0 0]) 8 96 Tryd.underlying24 hi hz0 hz1 hz2 rfl (by decide) _ _ _ rfl T1.out.back _ _ _ rfl SR1.out L1.out ONE1.out (by have a := NB.out; unfold maxLen; omega) (by have a := NB.out; omega) (Below.size T1.out.kp) ?_
      intro v1 w1 own1 grow1 at1
      have T2 := Lib.hid (T1.out.addBack HS.out own1 grow1 at1)
      obtain ⟨bd1, bc1, rfl⟩ := own_slice8 own1
      clear own1 grow1 at1 e0 e1 e2 e3 e4 e5 e6 e7 hbk
      obtain ⟨e0, e1, e2, e3, e4, e5, e6, e7⟩ := HROW.out w1 T2.out.kp
      have hbk := World.block_lt_of_cell? _ _ e0
      simp only at hbk
      go_wp2_with fail
      refine (OX.out (.mk k1 ⟨pk1, y1, m1, s1⟩ a1 t1 l1' : ND) _ _ _).mono ?_
      rintro e w2 ⟨rfl, kk⟩
      have k12 : Kp w1 w2 := (Kp.alloc _ _).trans kk
      have OI := Lib.hid (show OneIn w5 w2 (.mk k1 ⟨pk1, y1, m1, s1⟩ a1 t1 l1' : ND) (.slice (some ⟨w1.heap.size, 0, none⟩) 1 1) w1.heap.size from ⟨Below.size T2.out.kp, rfl, .slice ad1 n1 cp1, heap_block kk (heap_at _ _ _ rfl), HS.out⟩)
      have N1 := Lib.hid (show (Value.slice bd1 (mb.length + 1) bc1).ownBlock ≠ some w1.heap.size from fun e => by have := (T2.out.back.lt _ e).2; omega)
      have N2 := Lib.hid (show (Value.slice oad mo.length ocp).ownBlock ≠ some w1.heap.size from fun e => by have := (T2.out.ones.lt _ e).2; omega)
      have T3 := Lib.hid (T2.out.go (k12.trans (Kp.alloc w2 (.cells #[.int .i64 2, .int .i64 0, .string ⟨#[]⟩, .string ⟨#[]⟩, .string ⟨#[]⟩, .bool false, .bool false, .slice (some ⟨w1.heap.size, 0, none⟩) 1 1] 26))))
      have OI3 := Lib.hid (OI.out.kp (Kp.alloc w2 (.cells #[.int .i64 2, .int .i64 0, .string ⟨#[]⟩, .string ⟨#[]⟩, .string ⟨#[]⟩, .bool false, .bool false, .slice (some ⟨w1.heap.size, 0, none⟩) 1 1] 26)))
      have SR3 := Lib.hid (one_srcN (w := w2) rfl (orN [(.mk k1 ⟨pk1, y1, m1, s1⟩ a1 t1 l1' : ND)]) (.slice (some ⟨w1.heap.size, 0, none⟩) 1 1) 26)
      (try simp only [orN, pz, ND.k, ND.p, ND.a, ND.t] at SR3)
      have L3 := Lib.hid (cellsN_length [(orN [(.mk k1 ⟨pk1, y1, m1, s1⟩ a1 t1 l1' : ND)], Value.slice (some ⟨w1.heap.size, 0, none⟩) 1 1)])
      have ONE3 := Lib.hid (cellsN_one (w := w2) (show ReadsN w2 [(orN [(.mk k1 ⟨pk1, y1, m1, s1⟩ a1 t1 l1' : ND)], Value.slice (some ⟨w1.heap.size, 0, none⟩) 1 1)] from fun p hp => by rw [List.mem_singleton.1 hp]; exact OI.out.nodes (T2.out.kp.trans k12)))
      clear kk k12 e0 e1 e2 e3 e4 e5 e6 e7 hbk
      go_wp2_with (at_builtin; refine Hid.out ?_)
      refine Lib.hid ?_
      refine wpList_app rfl (.tmp 43) (.tmp 50) 24 rfl w5.heap.size 26 i0 (.agg #[.int .i64 0, .int .i64 0, .string ⟨#[]⟩, .string ⟨#[]⟩, .string ⟨#[]⟩, .bool false, .bool false, .slice none 0 0]) 8 96 Tryd.underlying24 hi hz0 hz1 hz2 rfl (by decide) _ _ _ rfl T3.out.ones _ _ _ rfl SR3.out L3.out ONE3.out (by have a := NO.out; unfold maxLen; omega) (by have a := NO.out; omega) (Below.size T3.out.kp) ?_
      intro v4 w4 own4 grow4 at4
      have T4 := Lib.hid (T3.out.addOne OI3.out N1.out N2.out own4 grow4 at4)
      obtain ⟨od4, oc4, rfl⟩ := own_slice8 own4
      clear own4 grow4 at4
      go_wp2
      go_roundw
      case rel => exact ⟨(q : Int) - 1, j + 1, _, _, by omega, by omega, by first | rfl | go_num, Lib.hid (by rw [List.map_append, MB.out, RTH.out]; rfl), Lib.hid (by rw [List.map_append, MO.out, RTH.out, List.map_append]; rfl), T4⟩
      case measure => simp [intOf] <;> omega
    · obtain rfl : x = -1 := by omega
      obtain rfl : j = l.length := by omega
      have nd := TR.out.nodes
      rw [MB.out, MO.out, TL.out] at nd
      have NBK := Lib.hid nd.1
      have NON := Lib.hid nd.2
      have KR := Lib.hid (K5.out.trans TR.out.kp)
      rw [NB.out, NO.out]
      rw [NB.out] at NBK
      rw [NO.out] at NON
      clear nd
      have HLR := Lib.hid (HLW.out.kp (K00.out.trans KR.out))
      obtain ⟨msl, hml, hrl, hsl⟩ := HLR.out.src
      have ML := Lib.hid hml
      have RL := Lib.hid hrl
      have NLL := Lib.hid (show msl.length = l.length by rw [← hml, List.length_map])
      have SRL := Lib.hid (hsl wr (Kp.refl _))
      have LL := Lib.hid (show (cellsN msl).length = l.length * 8 by rw [cellsN_length, ← hml, List.length_map])
      have ONEL := Lib.hid (cellsN_one hrl)
      have ON0 := Lib.hid (World.ownsRow_nil wr wr.heap.size 26 8)
      obtain ⟨b0, o0, v0, ev0, hrow, hsub⟩ := HLR.out.get (i := 0) l1
      subst ev0
      have z9 : (0 : Int) < (l.length : Int) := by omega
      have z8 : 0 < l.length := l1
      clear hml hrl hsl
      generalize nth l 0 = x at *
      obtain ⟨k1, pk1, y1, m1, s1, a1, t1, l1', rfl⟩ := nd_dest x
      obtain ⟨ad1, cp1, rfl⟩ := hsub.slice
      have HS0 := Lib.hid (show NodesAt wr (.slice ad1 l1'.length cp1) l1' from hsub)
      unfold RowN at hrow
      simp only [ND.k, ND.p, ND.a, ND.t, ND.l, Nat.zero_mul, Nat.add_zero] at hrow
      obtain ⟨n1, hn1⟩ : ∃ n, l1'.length = n := ⟨_, rfl⟩
      rw [hn1] at hrow HS0
      have HROW := Lib.hid (fun w' (kk : Kp wr w') => show w'.cell? ⟨b0, o0, none⟩ = some (.int .i64 k1) ∧ w'.cell? ⟨b0, o0 + 1, none⟩ = some (.int .i64 pk1) ∧ w'.cell? ⟨b0, o0 + 2, none⟩ = some (.string y1) ∧ w'.cell? ⟨b0, o0 + 3, none⟩ = some (.string m1) ∧ w'.cell? ⟨b0, o0 + 4, none⟩ = some (.string s1) ∧ w'.cell? ⟨b0, o0 + 5, none⟩ = some (.bool a1) ∧ w'.cell? ⟨b0, o0 + 6, none⟩ = some (.bool t1) ∧ w'.cell? ⟨b0, o0 + 7, none⟩ = some (.slice ad1 n1 cp1) from ⟨cell_up kk hrow.1, cell_up kk hrow.2.1, cell_up kk hrow.2.2.1, cell_up kk hrow.2.2.2.1, cell_up kk hrow.2.2.2.2.1, cell_up kk hrow.2.2.2.2.2.1, cell_up kk hrow.2.2.2.2.2.2.1, cell_up kk hrow.2.2.2.2.2.2.2⟩)
      clear hrow hsub hn1
      go_wp2_with (at_builtin; refine Hid.out ?_)
      refine Lib.hid ?_
      refine wpList_app rfl (.tmp 52) (.tmp 53) 24 rfl wr.heap.size 26 i0 (.agg #[.int .i64 0, .int .i64 0, .string ⟨#[]⟩, .string ⟨#[]⟩, .string ⟨#[]⟩, .bool false, .bool false, .slice none 0 0]) 8 96 Tryd.underlying24 hi hz0 hz1 hz2 rfl (by decide) _ _ _ rfl ON0.out _ _ _ rfl SRL.out LL.out ONEL.out (by  unfold maxLen; omega) (by  omega) (Nat.le_refl _) ?_
      intro v6 w6 own6 grow6 at6
      have KA := Lib.hid ((Kp.refl wr).grown grow6 (fun j hj => by cases hj))
      obtain ⟨td6, tc6, rfl⟩ := own_slice8 own6
      simp only [Nat.zero_add, List.nil_append] at own6
      rw [Nat.zero_add]
      have O6 := Lib.hid own6
      clear own6 grow6 at6
      obtain ⟨e0, e1, e2, e3, e4, e5, e6, e7⟩ := HROW.out w6 KA.out
      have hbk := World.block_lt_of_cell? _ _ e0
      simp only at hbk
      have SR7 := Lib.hid (one_srcN (w := w6) rfl (.mk k1 ⟨pk1, y1, m1, s1⟩ a1 t1 l1' : ND) (.slice ad1 n1 cp1) 26)
      simp only [ND.k, ND.p, ND.a, ND.t] at SR7
      have L7 := Lib.hid (cellsN_length [((.mk k1 ⟨pk1, y1, m1, s1⟩ a1 t1 l1' : ND), Value.slice ad1 n1 cp1)])
      have R7 := Lib.hid (show ReadsN wr [((.mk k1 ⟨pk1, y1, m1, s1⟩ a1 t1 l1' : ND), Value.slice ad1 n1 cp1)] from fun p hp => by rw [List.mem_singleton.1 hp]; exact HS0.out)
      have ONE7 := Lib.hid (cellsN_one R7.out)
      have K7A := Lib.hid (KA.out.trans (Kp.alloc w6 (.cells #[.int .i64 k1, .int .i64 pk1, .string y1, .string m1, .string s1, .bool a1, .bool t1, .slice ad1 n1 cp1] 26)))
      have O7 := Lib.hid (own_kp O6.out (Kp.alloc w6 (.cells #[.int .i64 k1, .int .i64 pk1, .string y1, .string m1, .string s1, .bool a1, .bool t1, .slice ad1 n1 cp1] 26)))
      go_wp2_with (at_builtin; refine Hid.out ?_)
      refine Lib.hid ?_
      refine wpList_app rfl (.tmp 55) (.tmp 59) 24 rfl wr.heap.size 26 i0 (.agg #[.int .i64 0, .int .i64 0, .string ⟨#[]⟩, .string ⟨#[]⟩, .string ⟨#[]⟩, .bool false, .bool false, .slice none 0 0]) 8 96 Tryd.underlying24 hi hz0 hz1 hz2 rfl (by decide) _ _ _ rfl O7.out _ _ _ rfl SR7.out L7.out ONE7.out (by  unfold maxLen; omega) (by  omega) (Below.size K7A.out) ?_
      intro v8 w8 own8 grow8 at8
      have KB := Lib.hid (K7A.out.grown grow8 (fun j hj => (O7.out.lt j hj).1))
      have tw := nodesAt_own (m := msl ++ [((.mk k1 ⟨pk1, y1, m1, s1⟩ a1 t1 l1' : ND), Value.slice ad1 n1 cp1)]) (by rw [List.length_append, cellsN_append, NLL.out]; exact own8) ((RL.out.append R7.out).kp KB.out)
      rw [List.map_append, ML.out] at tw
      obtain ⟨td8, tc8, rfl⟩ := own_slice8 own8
      have NTW := Lib.hid (show NodesAt w8 (.slice td8 (l.length + 1) tc8) (l ++ [(.mk k1 ⟨pk1, y1, m1, s1⟩ a1 t1 l1' : ND)]) from tw)
      have NB8 := Lib.hid (NBK.out.kp KB.out)
      have NO8 := Lib.hid (NON.out.kp KB.out)
      have K8 := Lib.hid (KR.out.trans KB.out)
      clear tw own8 grow8 at8 e0 e1 e2 e3 e4 e5 e6 e7 hbk
      obtain ⟨c0, c1, c2, c3, c4, c5, c6, c7⟩ := HB.out w8 K8.out
      go_wp2_with fail
      refine (CN.out _ (K00.out.trans K8.out)).mono ?_
      rintro e w9 ⟨v9, rfl, hn9, kk⟩
      have K9 := Lib.hid (K8.out.trans kk)
      have NT9 := Lib.hid (NTW.out.kp kk)
      have NB9 := Lib.hid (NB8.out.kp kk)
      have NO9 := Lib.hid (NO8.out.kp kk)
      have NV9 := Lib.hid hn9
      obtain ⟨ad9, cp9, rfl⟩ := hn9.slice
      clear kk hn9 c0 c1 c2 c3 c4 c5 c6 c7
      obtain ⟨c0, c1, c2, c3, c4, c5, c6, c7⟩ := HB.out w9 K9.out
      obtain ⟨w10, hV⟩ : ∃ x, x = w9.alloc (.cells #[.int .i64 k0, .int .i64 pk0, .string y0, .string m0, .string s0, .bool a0, .bool t0, .slice ad9 r0.length cp9] 26) := ⟨_, rfl⟩
      have ka : Kp w9 w10 := by rw [hV]; exact Kp.alloc _ _
      have hgq : w10.heap[w9.heap.size]? = some (.cells #[.int .i64 k0, .int .i64 pk0, .string y0, .string m0, .string s0, .bool a0, .bool t0, .slice ad9 r0.length cp9] 26 (0, 0)) := by rw [hV]; exact heap_at _ _ _ rfl
      have q0 : w10.cell? ⟨w9.heap.size, 0, none⟩ = some (.int .i64 k0) := by simp [World.cell?, hgq]
      have q1 : w10.cell? ⟨w9.heap.size, 1, none⟩ = some (.int .i64 pk0) := by simp [World.cell?, hgq]
      have q2 : w10.cell? ⟨w9.heap.size, 2, none⟩ = some (.string y0) := by simp [World.cell?, hgq]
      have q3 : w10.cell? ⟨w9.heap.size, 3, none⟩ = some (.string m0) := by simp [World.cell?, hgq]
      have q4 : w10.cell? ⟨w9.heap.size, 4, none⟩ = some (.string s0) := by simp [World.cell?, hgq]
      have q5 : w10.cell? ⟨w9.heap.size, 5, none⟩ = some (.bool a0) := by simp [World.cell?, hgq]
      have q6 : w10.cell? ⟨w9.heap.size, 6, none⟩ = some (.bool t0) := by simp [World.cell?, hgq]
      have q7 : w10.cell? ⟨w9.heap.size, 7, none⟩ = some (.slice ad9 r0.length cp9) := by simp [World.cell?, hgq]
      have HB2 := Lib.hid (fun w1 (k : Kp w10 w1) => show w1.cell? ⟨w2.heap.size, 0, none⟩ = some (.int .i64 2) ∧ w1.cell? ⟨w2.heap.size, 1, none⟩ = some (.int .i64 0) ∧ w1.cell? ⟨w2.heap.size, 2, none⟩ = some (.string ⟨#[]⟩) ∧ w1.cell? ⟨w2.heap.size, 3, none⟩ = some (.string ⟨#[]⟩) ∧ w1.cell? ⟨w2.heap.size, 4, none⟩ = some (.string ⟨#[]⟩) ∧ w1.cell? ⟨w2.heap.size, 5, none⟩ = some (.bool false) ∧ w1.cell? ⟨w2.heap.size, 6, none⟩ = some (.bool false) ∧ w1.cell? ⟨w2.heap.size, 7, none⟩ = some (.slice (some ⟨b0, o0, none⟩) l.length cal) ∧ w1.cell? ⟨w9.heap.size, 0, none⟩ = some (.int .i64 k0) ∧ w1.cell? ⟨w9.heap.size, 1, none⟩ = some (.int .i64 pk0) ∧ w1.cell? ⟨w9.heap.size, 2, none⟩ = some (.string y0) ∧ w1.cell? ⟨w9.heap.size, 3, none⟩ = some (.string m0) ∧ w1.cell? ⟨w9.heap.size, 4, none⟩ = some (.string s0) ∧ w1.cell? ⟨w9.heap.size, 5, none⟩ = some (.bool a0) ∧ w1.cell? ⟨w9.heap.size, 6, none⟩ = some (.bool t0) ∧ w1.cell? ⟨w9.heap.size, 7, none⟩ = some (.slice ad9 r0.length cp9) from ⟨(HB.out w1 (K9.out.trans (ka.trans k))).1, (HB.out w1 (K9.out.trans (ka.trans k))).2.1, (HB.out w1 (K9.out.trans (ka.trans k))).2.2.1, (HB.out w1 (K9.out.trans (ka.trans k))).2.2.2.1, (HB.out w1 (K9.out.trans (ka.trans k))).2.2.2.2.1, (HB.out w1 (K9.out.trans (ka.trans k))).2.2.2.2.2.1, (HB.out w1 (K9.out.trans (ka.trans k))).2.2.2.2.2.2.1, (HB.out w1 (K9.out.trans (ka.trans k))).2.2.2.2.2.2.2, cell_up k q0, cell_up k q1, cell_up k q2, cell_up k q3, cell_up k q4, cell_up k q5, cell_up k q6, cell_up k q7⟩)
      have K01 := Lib.hid (K00.out.trans (K9.out.trans ka))
      have NTa := Lib.hid (NT9.out.kp ka)
      have NBa := Lib.hid (NB9.out.kp ka)
      have NOa := Lib.hid (NO9.out.kp ka)
      have NVa := Lib.hid (NV9.out.kp ka)
      clear HB K00 hgq c0 c1 c2 c3 c4 c5 c6 c7 q0 q1 q2 q3 q4 q5 q6 q7
      have HB := HB2
      have K00 := K01
      clear HB2 K01
      have K10 := Lib.hid (Kp.refl w10)
      have Hw10 := Lib.hid hV
      clear hV ka
      go_wp2_with fail
      rw [← Hw10.out]
      obtain ⟨c0, c1, c2, c3, c4, c5, c6, c7, c8, c9, c10, c11, c12, c13, c14, c15⟩ := HB.out w10 (Kp.refl _)
      go_wp2_with fail
      refine (OT.out _ _ _).mono ?_
      rintro e w11 ⟨rfl, kk⟩
      have K11 := Lib.hid ((show Kp w10 _ from (by first | with_reducible exact K10.out | with_reducible exact K10.out.trans (Kp.alloc _ _))).trans kk)
      clear kk
      clear c0 c1 c2 c3 c4 c5 c6 c7 c8 c9 c10 c11 c12 c13 c14 c15
      obtain ⟨c0, c1, c2, c3, c4, c5, c6, c7, c8, c9, c10, c11, c12, c13, c14, c15⟩ := HB.out w11 K11.out
      obtain ⟨w12, hV⟩ : ∃ x, x = w11.alloc (.cells #[.int .i64 2, .int .i64 0, .string ⟨#[]⟩, .string ⟨#[]⟩, .string ⟨#[]⟩, .bool false, .bool false, .slice td8 (l.length + 1) tc8] 26) := ⟨_, rfl⟩
      have ka : Kp w11 w12 := by rw [hV]; exact Kp.alloc _ _
      have hgq : w12.heap[w11.heap.size]? = some (.cells #[.int .i64 2, .int .i64 0, .string ⟨#[]⟩, .string ⟨#[]⟩, .string ⟨#[]⟩, .bool false, .bool false, .slice td8 (l.length + 1) tc8] 26 (0, 0)) := by rw [hV]; exact heap_at _ _ _ rfl
      have q0 : w12.cell? ⟨w11.heap.size, 0, none⟩ = some (.int .i64 2) := by simp [World.cell?, hgq]
      have q1 : w12.cell? ⟨w11.heap.size, 1, none⟩ = some (.int .i64 0) := by simp [World.cell?, hgq]
      have q2 : w12.cell? ⟨w11.heap.size, 2, none⟩ = some (.string ⟨#[]⟩) := by simp [World.cell?, hgq]
      have q3 : w12.cell? ⟨w11.heap.size, 3, none⟩ = some (.string ⟨#[]⟩) := by simp [World.cell?, hgq]
      have q4 : w12.cell? ⟨w11.heap.size, 4, none⟩ = some (.string ⟨#[]⟩) := by simp [World.cell?, hgq]
      have q5 : w12.cell? ⟨w11.heap.size, 5, none⟩ = some (.bool false) := by simp [World.cell?, hgq]
      have q6 : w12.cell? ⟨w11.heap.size, 6, none⟩ = some (.bool false) := by simp [World.cell?, hgq]
      have q7 : w12.cell? ⟨w11.heap.size, 7, none⟩ = some (.slice td8 (l.length + 1) tc8) := by simp [World.cell?, hgq]
      have HB2 := Lib.hid (fun w1 (k : Kp w12 w1) => show w1.cell? ⟨w2.heap.size, 0, none⟩ = some (.int .i64 2) ∧ w1.cell? ⟨w2.heap.size, 1, none⟩ = some (.int .i64 0) ∧ w1.cell? ⟨w2.heap.size, 2, none⟩ = some (.string ⟨#[]⟩) ∧ w1.cell? ⟨w2.heap.size, 3, none⟩ = some (.string ⟨#[]⟩) ∧ w1.cell? ⟨w2.heap.size, 4, none⟩ = some (.string ⟨#[]⟩) ∧ w1.cell? ⟨w2.heap.size, 5, none⟩ = some (.bool false) ∧ w1.cell? ⟨w2.heap.size, 6, none⟩ = some (.bool false) ∧ w1.cell? ⟨w2.heap.size, 7, none⟩ = some (.slice (some ⟨b0, o0, none⟩) l.length cal) ∧ w1.cell? ⟨w9.heap.size, 0, none⟩ = some (.int .i64 k0) ∧ w1.cell? ⟨w9.heap.size, 1, none⟩ = some (.int .i64 pk0) ∧ w1.cell? ⟨w9.heap.size, 2, none⟩ = some (.string y0) ∧ w1.cell? ⟨w9.heap.size, 3, none⟩ = some (.string m0) ∧ w1.cell? ⟨w9.heap.size, 4, none⟩ = some (.string s0) ∧ w1.cell? ⟨w9.heap.size, 5, none⟩ = some (.bool a0) ∧ w1.cell? ⟨w9.heap.size, 6, none⟩ = some (.bool t0) ∧ w1.cell? ⟨w9.heap.size, 7, none⟩ = some (.slice ad9 r0.length cp9) ∧ w1.cell? ⟨w11.heap.size, 0, none⟩ = some (.int .i64 2) ∧ w1.cell? ⟨w11.heap.size, 1, none⟩ = some (.int .i64 0) ∧ w1.cell? ⟨w11.heap.size, 2, none⟩ = some (.string ⟨#[]⟩) ∧ w1.cell? ⟨w11.heap.size, 3, none⟩ = some (.string ⟨#[]⟩) ∧ w1.cell? ⟨w11.heap.size, 4, none⟩ = some (.string ⟨#[]⟩) ∧ w1.cell? ⟨w11.heap.size, 5, none⟩ = some (.bool false) ∧ w1.cell? ⟨w11.heap.size, 6, none⟩ = some (.bool false) ∧ w1.cell? ⟨w11.heap.size, 7, none⟩ = some (.slice td8 (l.length + 1) tc8) from ⟨(HB.out w1 (K11.out.trans (ka.trans k))).1, (HB.out w1 (K11.out.trans (ka.trans k))).2.1, (HB.out w1 (K11.out.trans (ka.trans k))).2.2.1, (HB.out w1 (K11.out.trans (ka.trans k))).2.2.2.1, (HB.out w1 (K11.out.trans (ka.trans k))).2.2.2.2.1, (HB.out w1 (K11.out.trans (ka.trans k))).2.2.2.2.2.1, (HB.out w1 (K11.out.trans (ka.trans k))).2.2.2.2.2.2.1, (HB.out w1 (K11.out.trans (ka.trans k))).2.2.2.2.2.2.2.1, (HB.out w1 (K11.out.trans (ka.trans k))).2.2.2.2.2.2.2.2.1, (HB.out w1 (K11.out.trans (ka.trans k))).2.2.2.2.2.2.2.2.2.1, (HB.out w1 (K11.out.trans (ka.trans k))).2.2.2.2.2.2.2.2.2.2.1, (HB.out w1 (K11.out.trans (ka.trans k))).2.2.2.2.2.2.2.2.2.2.2.1, (HB.out w1 (K11.out.trans (ka.trans k))).2.2.2.2.2.2.2.2.2.2.2.2.1, (HB.out w1 (K11.out.trans (ka.trans k))).2.2.2.2.2.2.2.2.2.2.2.2.2.1, (HB.out w1 (K11.out.trans (ka.trans k))).2.2.2.2.2.2.2.2.2.2.2.2.2.2.1, (HB.out w1 (K11.out.trans (ka.trans k))).2.2.2.2.2.2.2.2.2.2.2.2.2.2.2, cell_up k q0, cell_up k q1, cell_up k q2, cell_up k q3, cell_up k q4, cell_up k q5, cell_up k q6, cell_up k q7⟩)
      have K01 := Lib.hid (K00.out.trans (K11.out.trans ka))
      have NTb := Lib.hid (NTa.out.kp (K11.out.trans ka))
      have NBb := Lib.hid (NBa.out.kp (K11.out.trans ka))
      have NOb := Lib.hid (NOa.out.kp (K11.out.trans ka))
      have NVb := Lib.hid (NVa.out.kp (K11.out.trans ka))
      clear HB K00 hgq c0 c1 c2 c3 c4 c5 c6 c7 c8 c9 c10 c11 c12 c13 c14 c15 q0 q1 q2 q3 q4 q5 q6 q7
      have HB := HB2
      have K00 := K01
      clear HB2 K01
      have K12 := Lib.hid (Kp.refl w12)
      have Hw12 := Lib.hid hV
      clear hV ka
      go_wp2_with fail
      rw [← Hw12.out]
      obtain ⟨c0, c1, c2, c3, c4, c5, c6, c7, c8, c9, c10, c11, c12, c13, c14, c15, c16, c17, c18, c19, c20, c21, c22, c23⟩ := HB.out w12 (Kp.refl _)
      go_wp2_with fail
      refine (OU.out _ _ _).mono ?_
      rintro e w13 ⟨rfl, kk⟩
      have K13 := Lib.hid ((show Kp w12 _ from (by first | with_reducible exact K12.out | with_reducible exact K12.out.trans (Kp.alloc _ _))).trans kk)
      clear kk
      clear c0 c1 c2 c3 c4 c5 c6 c7 c8 c9 c10 c11 c12 c13 c14 c15 c16 c17 c18 c19 c20 c21 c22 c23
      obtain ⟨c0, c1, c2, c3, c4, c5, c6, c7, c8, c9, c10, c11, c12, c13, c14, c15, c16, c17, c18, c19, c20, c21, c22, c23⟩ := HB.out w13 K13.out
      obtain ⟨w14, hV⟩ : ∃ x, x = w13.alloc (.cells #[.int .i64 2, .int .i64 0, .string ⟨#[]⟩, .string ⟨#[]⟩, .string ⟨#[]⟩, .bool false, .bool false, .slice oad l.length ocp] 26) := ⟨_, rfl⟩
      have ka : Kp w13 w14 := by rw [hV]; exact Kp.alloc _ _
      have hgq : w14.heap[w13.heap.size]? = some (.cells #[.int .i64 2, .int .i64 0, .string ⟨#[]⟩, .string ⟨#[]⟩, .string ⟨#[]⟩, .bool false, .bool false, .slice oad l.length ocp] 26 (0, 0)) := by rw [hV]; exact heap_at _ _ _ rfl
      have q0 : w14.cell? ⟨w13.heap.size, 0, none⟩ = some (.int .i64 2) := by simp [World.cell?, hgq]
      have q1 : w14.cell? ⟨w13.heap.size, 1, none⟩ = some (.int .i64 0) := by simp [World.cell?, hgq]
      have q2 : w14.cell? ⟨w13.heap.size, 2, none⟩ = some (.string ⟨#[]⟩) := by simp [World.cell?, hgq]
      have q3 : w14.cell? ⟨w13.heap.size, 3, none⟩ = some (.string ⟨#[]⟩) := by simp [World.cell?, hgq]
      have q4 : w14.cell? ⟨w13.heap.size, 4, none⟩ = some (.string ⟨#[]⟩) := by simp [World.cell?, hgq]
      have q5 : w14.cell? ⟨w13.heap.size, 5, none⟩ = some (.bool false) := by simp [World.cell?, hgq]
      have q6 : w14.cell? ⟨w13.heap.size, 6, none⟩ = some (.bool false) := by simp [World.cell?, hgq]
      have q7 : w14.cell? ⟨w13.heap.size, 7, none⟩ = some (.slice oad l.length ocp) := by simp [World.cell?, hgq]
      have HB2 := Lib.hid (fun w1 (k : Kp w14 w1) => show w1.cell? ⟨w2.heap.size, 0, none⟩ = some (.int .i64 2) ∧ w1.cell? ⟨w2.heap.size, 1, none⟩ = some (.int .i64 0) ∧ w1.cell? ⟨w2.heap.size, 2, none⟩ = some (.string ⟨#[]⟩) ∧ w1.cell? ⟨w2.heap.size, 3, none⟩ = some (.string ⟨#[]⟩) ∧ w1.cell? ⟨w2.heap.size, 4, none⟩ = some (.string ⟨#[]⟩) ∧ w1.cell? ⟨w2.heap.size, 5, none⟩ = some (.bool false) ∧ w1.cell? ⟨w2.heap.size, 6, none⟩ = some (.bool false) ∧ w1.cell? ⟨w2.heap.size, 7, none⟩ = some (.slice (some ⟨b0, o0, none⟩) l.length cal) ∧ w1.cell? ⟨w9.heap.size, 0, none⟩ = some (.int .i64 k0) ∧ w1.cell? ⟨w9.heap.size, 1, none⟩ = some (.int .i64 pk0) ∧ w1.cell? ⟨w9.heap.size, 2, none⟩ = some (.string y0) ∧ w1.cell? ⟨w9.heap.size, 3, none⟩ = some (.string m0) ∧ w1.cell? ⟨w9.heap.size, 4, none⟩ = some (.string s0) ∧ w1.cell? ⟨w9.heap.size, 5, none⟩ = some (.bool a0) ∧ w1.cell? ⟨w9.heap.size, 6, none⟩ = some (.bool t0) ∧ w1.cell? ⟨w9.heap.size, 7, none⟩ = some (.slice ad9 r0.length cp9) ∧ w1.cell? ⟨w11.heap.size, 0, none⟩ = some (.int .i64 2) ∧ w1.cell? ⟨w11.heap.size, 1, none⟩ = some (.int .i64 0) ∧ w1.cell? ⟨w11.heap.size, 2, none⟩ = some (.string ⟨#[]⟩) ∧ w1.cell? ⟨w11.heap.size, 3, none⟩ = some (.string ⟨#[]⟩) ∧ w1.cell? ⟨w11.heap.size, 4, none⟩ = some (.string ⟨#[]⟩) ∧ w1.cell? ⟨w11.heap.size, 5, none⟩ = some (.bool false) ∧ w1.cell? ⟨w11.heap.size, 6, none⟩ = some (.bool false) ∧ w1.cell? ⟨w11.heap.size, 7, none⟩ = some (.slice td8 (l.length + 1) tc8) ∧ w1.cell? ⟨w13.heap.size, 0, none⟩ = some (.int .i64 2) ∧ w1.cell? ⟨w13.heap.size, 1, none⟩ = some (.int .i64 0) ∧ w1.cell? ⟨w13.heap.size, 2, none⟩ = some (.string ⟨#[]⟩) ∧ w1.cell? ⟨w13.heap.size, 3, none⟩ = some (.string ⟨#[]⟩) ∧ w1.cell? ⟨w13.heap.size, 4, none⟩ = some (.string ⟨#[]⟩) ∧ w1.cell? ⟨w13.heap.size, 5, none⟩ = some (.bool false) ∧ w1.cell? ⟨w13.heap.size, 6, none⟩ = some (.bool false) ∧ w1.cell? ⟨w13.heap.size, 7, none⟩ = some (.slice oad l.length ocp) from ⟨(HB.out w1 (K13.out.trans (ka.trans k))).1, (HB.out w1 (K13.out.trans (ka.trans k))).2.1, (HB.out w1 (K13.out.trans (ka.trans k))).2.2.1, (HB.out w1 (K13.out.trans (ka.trans k))).2.2.2.1, (HB.out w1 (K13.out.trans (ka.trans k))).2.2.2.2.1, (HB.out w1 (K13.out.trans (ka.trans k))).2.2.2.2.2.1, (HB.out w1 (K13.out.trans (ka.trans k))).2.2.2.2.2.2.1, (HB.out w1 (K13.out.trans (ka.trans k))).2.2.2.2.2.2.2.1, (HB.out w1 (K13.out.trans (ka.trans k))).2.2.2.2.2.2.2.2.1, (HB.out w1 (K13.out.trans (ka.trans k))).2.2.2.2.2.2.2.2.2.1, (HB.out w1 (K13.out.trans (ka.trans k))).2.2.2.2.2.2.2.2.2.2.1, (HB.out w1 (K13.out.trans (ka.trans k))).2.2.2.2.2.2.2.2.2.2.2.1, (HB.out w1 (K13.out.trans (ka.trans k))).2.2.2.2.2.2.2.2.2.2.2.2.1, (HB.out w1 (K13.out.trans (ka.trans k))).2.2.2.2.2.2.2.2.2.2.2.2.2.1, (HB.out w1 (K13.out.trans (ka.trans k))).2.2.2.2.2.2.2.2.2.2.2.2.2.2.1, (HB.out w1 (K13.out.trans (ka.trans k))).2.2.2.2.2.2.2.2.2.2.2.2.2.2.2.1, (HB.out w1 (K13.out.trans (ka.trans k))).2.2.2.2.2.2.2.2.2.2.2.2.2.2.2.2.1, (HB.out w1 (K13.out.trans (ka.trans k))).2.2.2.2.2.2.2.2.2.2.2.2.2.2.2.2.2.1, (HB.out w1 (K13.out.trans (ka.trans k))).2.2.2.2.2.2.2.2.2.2.2.2.2.2.2.2.2.2.1, (HB.out w1 (K13.out.trans (ka.trans k))).2.2.2.2.2.2.2.2.2.2.2.2.2.2.2.2.2.2.2.1, (HB.out w1 (K13.out.trans (ka.trans k))).2.2.2.2.2.2.2.2.2.2.2.2.2.2.2.2.2.2.2.2.1, (HB.out w1 (K13.out.trans (ka.trans k))).2.2.2.2.2.2.2.2.2.2.2.2.2.2.2.2.2.2.2.2.2.1, (HB.out w1 (K13.out.trans (ka.trans k))).2.2.2.2.2.2.2.2.2.2.2.2.2.2.2.2.2.2.2.2.2.2.1, (HB.out w1 (K13.out.trans (ka.trans k))).2.2.2.2.2.2.2.2.2.2.2.2.2.2.2.2.2.2.2.2.2.2.2, cell_up k q0, cell_up k q1, cell_up k q2, cell_up k q3, cell_up k q4, cell_up k q5, cell_up k q6, cell_up k q7⟩)
      have K01 := Lib.hid (K00.out.trans (K13.out.trans ka))
      have NTc := Lib.hid (NTb.out.kp (K13.out.trans ka))
      have NBc := Lib.hid (NBb.out.kp (K13.out.trans ka))
      have NOc := Lib.hid (NOb.out.kp (K13.out.trans ka))
      have NVc := Lib.hid (NVb.out.kp (K13.out.trans ka))
      clear HB K00 hgq c0 c1 c2 c3 c4 c5 c6 c7 c8 c9 c10 c11 c12 c13 c14 c15 c16 c17 c18 c19 c20 c21 c22 c23 q0 q1 q2 q3 q4 q5 q6 q7
      have HB := HB2
      have K00 := K01
      clear HB2 K01
      have K14 := Lib.hid (Kp.refl w14)
      have Hw14 := Lib.hid hV
      clear hV ka
      go_wp2_with fail
      rw [← Hw14.out]
      obtain ⟨c0, c1, c2, c3, c4, c5, c6, c7, c8, c9, c10, c11, c12, c13, c14, c15, c16, c17, c18, c19, c20, c21, c22, c23, c24, c25, c26, c27, c28, c29, c30, c31⟩ := HB.out w14 (Kp.refl _)
      have KS := Lib.hid (fun w' (kq : Kp w14 w') => show w'.cell? ⟨w2.heap.size, 0, none⟩ = some (.int .i64 2) ∧ w'.cell? ⟨w2.heap.size, 1, none⟩ = some (.int .i64 0) ∧ w'.cell? ⟨w2.heap.size, 2, none⟩ = some (.string ⟨#[]⟩) ∧ w'.cell? ⟨w2.heap.size, 3, none⟩ = some (.string ⟨#[]⟩) ∧ w'.cell? ⟨w2.heap.size, 4, none⟩ = some (.string ⟨#[]⟩) ∧ w'.cell? ⟨w2.heap.size, 5, none⟩ = some (.bool false) ∧ w'.cell? ⟨w2.heap.size, 6, none⟩ = some (.bool false) ∧ w'.cell? ⟨w2.heap.size, 7, none⟩ = some (.slice (some ⟨b0, o0, none⟩) l.length cal) ∧ w'.cell? ⟨w9.heap.size, 0, none⟩ = some (.int .i64 k0) ∧ w'.cell? ⟨w9.heap.size, 1, none⟩ = some (.int .i64 pk0) ∧ w'.cell? ⟨w9.heap.size, 2, none⟩ = some (.string y0) ∧ w'.cell? ⟨w9.heap.size, 3, none⟩ = some (.string m0) ∧ w'.cell? ⟨w9.heap.size, 4, none⟩ = some (.string s0) ∧ w'.cell? ⟨w9.heap.size, 5, none⟩ = some (.bool a0) ∧ w'.cell? ⟨w9.heap.size, 6, none⟩ = some (.bool t0) ∧ w'.cell? ⟨w9.heap.size, 7, none⟩ = some (.slice ad9 r0.length cp9) ∧ w'.cell? ⟨w11.heap.size, 0, none⟩ = some (.int .i64 2) ∧ w'.cell? ⟨w11.heap.size, 1, none⟩ = some (.int .i64 0) ∧ w'.cell? ⟨w11.heap.size, 2, none⟩ = some (.string ⟨#[]⟩) ∧ w'.cell? ⟨w11.heap.size, 3, none⟩ = some (.string ⟨#[]⟩) ∧ w'.cell? ⟨w11.heap.size, 4, none⟩ = some (.string ⟨#[]⟩) ∧ w'.cell? ⟨w11.heap.size, 5, none⟩ = some (.bool false) ∧ w'.cell? ⟨w11.heap.size, 6, none⟩ = some (.bool false) ∧ w'.cell? ⟨w11.heap.size, 7, none⟩ = some (.slice td8 (l.length + 1) tc8) ∧ w'.cell? ⟨w13.heap.size, 0, none⟩ = some (.int .i64 2) ∧ w'.cell? ⟨w13.heap.size, 1, none⟩ = some (.int .i64 0) ∧ w'.cell? ⟨w13.heap.size, 2, none⟩ = some (.string ⟨#[]⟩) ∧ w'.cell? ⟨w13.heap.size, 3, none⟩ = some (.string ⟨#[]⟩) ∧ w'.cell? ⟨w13.heap.size, 4, none⟩ = some (.string ⟨#[]⟩) ∧ w'.cell? ⟨w13.heap.size, 5, none⟩ = some (.bool false) ∧ w'.cell? ⟨w13.heap.size, 6, none⟩ = some (.bool false) ∧ w'.cell? ⟨w13.heap.size, 7, none⟩ = some (.slice oad l.length ocp) ∧ Kp w14 w' from ⟨(HB.out w' (K14.out.trans kq)).1, (HB.out w' (K14.out.trans kq)).2.1, (HB.out w' (K14.out.trans kq)).2.2.1, (HB.out w' (K14.out.trans kq)).2.2.2.1, (HB.out w' (K14.out.trans kq)).2.2.2.2.1, (HB.out w' (K14.out.trans kq)).2.2.2.2.2.1, (HB.out w' (K14.out.trans kq)).2.2.2.2.2.2.1, (HB.out w' (K14.out.trans kq)).2.2.2.2.2.2.2.1, (HB.out w' (K14.out.trans kq)).2.2.2.2.2.2.2.2.1, (HB.out w' (K14.out.trans kq)).2.2.2.2.2.2.2.2.2.1, (HB.out w' (K14.out.trans kq)).2.2.2.2.2.2.2.2.2.2.1, (HB.out w' (K14.out.trans kq)).2.2.2.2.2.2.2.2.2.2.2.1, (HB.out w' (K14.out.trans kq)).2.2.2.2.2.2.2.2.2.2.2.2.1, (HB.out w' (K14.out.trans kq)).2.2.2.2.2.2.2.2.2.2.2.2.2.1, (HB.out w' (K14.out.trans kq)).2.2.2.2.2.2.2.2.2.2.2.2.2.2.1, (HB.out w' (K14.out.trans kq)).2.2.2.2.2.2.2.2.2.2.2.2.2.2.2.1, (HB.out w' (K14.out.trans kq)).2.2.2.2.2.2.2.2.2.2.2.2.2.2.2.2.1, (HB.out w' (K14.out.trans kq)).2.2.2.2.2.2.2.2.2.2.2.2.2.2.2.2.2.1, (HB.out w' (K14.out.trans kq)).2.2.2.2.2.2.2.2.2.2.2.2.2.2.2.2.2.2.1, (HB.out w' (K14.out.trans kq)).2.2.2.2.2.2.2.2.2.2.2.2.2.2.2.2.2.2.2.1, (HB.out w' (K14.out.trans kq)).2.2.2.2.2.2.2.2.2.2.2.2.2.2.2.2.2.2.2.2.1, (HB.out w' (K14.out.trans kq)).2.2.2.2.2.2.2.2.2.2.2.2.2.2.2.2.2.2.2.2.2.1, (HB.out w' (K14.out.trans kq)).2.2.2.2.2.2.2.2.2.2.2.2.2.2.2.2.2.2.2.2.2.2.1, (HB.out w' (K14.out.trans kq)).2.2.2.2.2.2.2.2.2.2.2.2.2.2.2.2.2.2.2.2.2.2.2.1, (HB.out w' (K14.out.trans kq)).2.2.2.2.2.2.2.2.2.2.2.2.2.2.2.2.2.2.2.2.2.2.2.2.1, (HB.out w' (K14.out.trans kq)).2.2.2.2.2.2.2.2.2.2.2.2.2.2.2.2.2.2.2.2.2.2.2.2.2.1, (HB.out w' (K14.out.trans kq)).2.2.2.2.2.2.2.2.2.2.2.2.2.2.2.2.2.2.2.2.2.2.2.2.2.2.1, (HB.out w' (K14.out.trans kq)).2.2.2.2.2.2.2.2.2.2.2.2.2.2.2.2.2.2.2.2.2.2.2.2.2.2.2.1, (HB.out w' (K14.out.trans kq)).2.2.2.2.2.2.2.2.2.2.2.2.2.2.2.2.2.2.2.2.2.2.2.2.2.2.2.2.1, (HB.out w' (K14.out.trans kq)).2.2.2.2.2.2.2.2.2.2.2.2.2.2.2.2.2.2.2.2.2.2.2.2.2.2.2.2.2.1, (HB.out w' (K14.out.trans kq)).2.2.2.2.2.2.2.2.2.2.2.2.2.2.2.2.2.2.2.2.2.2.2.2.2.2.2.2.2.2.1, (HB.out w' (K14.out.trans kq)).2.2.2.2.2.2.2.2.2.2.2.2.2.2.2.2.2.2.2.2.2.2.2.2.2.2.2.2.2.2.2, kq⟩)
      go_wp2_with fail
      refine wp_region_held_drew (S := fun w' => w'.cell? ⟨w2.heap.size, 0, none⟩ = some (.int .i64 2) ∧ w'.cell? ⟨w2.heap.size, 1, none⟩ = some (.int .i64 0) ∧ w'.cell? ⟨w2.heap.size, 2, none⟩ = some (.string ⟨#[]⟩) ∧ w'.cell? ⟨w2.heap.size, 3, none⟩ = some (.string ⟨#[]⟩) ∧ w'.cell? ⟨w2.heap.size, 4, none⟩ = some (.string ⟨#[]⟩) ∧ w'.cell? ⟨w2.heap.size, 5, none⟩ = some (.bool false) ∧ w'.cell? ⟨w2.heap.size, 6, none⟩ = some (.bool false) ∧ w'.cell? ⟨w2.heap.size, 7, none⟩ = some (.slice (some ⟨b0, o0, none⟩) l.length cal) ∧ w'.cell? ⟨w9.heap.size, 0, none⟩ = some (.int .i64 k0) ∧ w'.cell? ⟨w9.heap.size, 1, none⟩ = some (.int .i64 pk0) ∧ w'.cell? ⟨w9.heap.size, 2, none⟩ = some (.string y0) ∧ w'.cell? ⟨w9.heap.size, 3, none⟩ = some (.string m0) ∧ w'.cell? ⟨w9.heap.size, 4, none⟩ = some (.string s0) ∧ w'.cell? ⟨w9.heap.size, 5, none⟩ = some (.bool a0) ∧ w'.cell? ⟨w9.heap.size, 6, none⟩ = some (.bool t0) ∧ w'.cell? ⟨w9.heap.size, 7, none⟩ = some (.slice ad9 r0.length cp9) ∧ w'.cell? ⟨w11.heap.size, 0, none⟩ = some (.int .i64 2) ∧ w'.cell? ⟨w11.heap.size, 1, none⟩ = some (.int .i64 0) ∧ w'.cell? ⟨w11.heap.size, 2, none⟩ = some (.string ⟨#[]⟩) ∧ w'.cell? ⟨w11.heap.size, 3, none⟩ = some (.string ⟨#[]⟩) ∧ w'.cell? ⟨w11.heap.size, 4, none⟩ = some (.string ⟨#[]⟩) ∧ w'.cell? ⟨w11.heap.size, 5, none⟩ = some (.bool false) ∧ w'.cell? ⟨w11.heap.size, 6, none⟩ = some (.bool false) ∧ w'.cell? ⟨w11.heap.size, 7, none⟩ = some (.slice td8 (l.length + 1) tc8) ∧ w'.cell? ⟨w13.heap.size, 0, none⟩ = some (.int .i64 2) ∧ w'.cell? ⟨w13.heap.size, 1, none⟩ = some (.int .i64 0) ∧ w'.cell? ⟨w13.heap.size, 2, none⟩ = some (.string ⟨#[]⟩) ∧ w'.cell? ⟨w13.heap.size, 3, none⟩ = some (.string ⟨#[]⟩) ∧ w'.cell? ⟨w13.heap.size, 4, none⟩ = some (.string ⟨#[]⟩) ∧ w'.cell? ⟨w13.heap.size, 5, none⟩ = some (.bool false) ∧ w'.cell? ⟨w13.heap.size, 6, none⟩ = some (.bool false) ∧ w'.cell? ⟨w13.heap.size, 7, none⟩ = some (.slice oad l.length ocp) ∧ Kp w14 w') (by kernel_rfl) ?_ (fun hHeld0 => ?_)
      · (try dsimp only); exact KS.out _ (by first | assumption | exact Kp.drew _)
      refine tkV (v := ?_) 0 orA0 ?_ ?_
      rotate_left
      · intro w hSw; (try dsimp only at hSw); go_simp; (try with_reducible rfl)
      (try simp only [Act.put, orA0, xA, xB, xC])
      refine tkV (v := ?_) 1 orA1 ?_ ?_
      rotate_left
      · intro w hSw; (try dsimp only at hSw); go_simp; (try with_reducible rfl)
      (try simp only [Act.put, orA1, xA, xB, xC])
      refine tkV (v := ?_) 2 orA2 ?_ ?_
      rotate_left
      · intro w hSw; (try dsimp only at hSw); go_simp; (try with_reducible rfl)
      (try simp only [Act.put, orA2, xA, xB, xC])
      refine tkV (v := ?_) 5 orA5 ?_ ?_
      rotate_left
      · intro w hSw; (try dsimp only at hSw); go_simp; (try with_reducible rfl)
      (try simp only [Act.put, orA5, xA, xB, xC])
      refine tkE 3 orA3 rfl (by kernel_rfl) (fun K hK => ?_)
      go_simp
      (refine (OB.out _ _ _).mono ?_; rintro e wp ⟨rfl, k1⟩; have k2 := Kp.trans (show Kp w14 _ from (by first | assumption | exact Kp.drew _)) k1; clear k1)
      (try go_wp2_with fail)
      refine hK.out _ _ ?_ (fun hHeld1 => ?_)
      · (try dsimp only); exact KS.out _ (by first | assumption | exact Kp.drew _)
      clear hK K hHeld0
      (try simp only [Act.put, orA3, xA, xB, xC])
      refine tkE 4 orA4 rfl (by kernel_rfl) (fun K hK => ?_)
      go_simp
      (refine (CB.out _ _ (NBc.out.kp (K14.out.trans (by first | assumption | exact Kp.drew _))) (K00.out.trans (K14.out.trans (by first | assumption | exact Kp.drew _)))).mono ?_; rintro e wq ⟨vq, rfl, hq, k1⟩; have NQ := Lib.hid hq; obtain ⟨adq, cpq, rfl⟩ := hq.slice; clear hq; have k2 := Kp.trans (show Kp w14 _ from (by first | assumption | exact Kp.drew _)) k1; clear k1)
      (try go_wp2_with fail)
      refine hK.out _ _ ?_ (fun hHeld2 => ?_)
      · (try dsimp only); exact KS.out _ (by first | assumption | exact Kp.drew _)
      clear hK K hHeld1
      (try simp only [Act.put, orA4, xA, xB, xC])
      refine tkE 6 orA6 rfl (by kernel_rfl) (fun K hK => ?_)
      go_simp
      (refine (SM.out _ _ _ (NQ.out.kp (by first | with_reducible exact Kp.refl _ | with_reducible exact Kp.alloc _ _ | with_reducible exact (Kp.alloc _ _).trans (Kp.alloc _ _) | with_reducible exact ((Kp.alloc _ _).trans (Kp.alloc _ _)).trans (Kp.alloc _ _) | with_reducible exact Kp.drew _ | with_reducible exact Kp.drewN _ _)) (NVc.out.kp (K14.out.trans (by first | assumption | exact Kp.drew _)))).mono ?_; rintro e ws ⟨rfl, k1⟩; have k2 := Kp.trans (show Kp w14 _ from (by first | assumption | exact Kp.drew _)) k1; clear k1)
      (try go_wp2_with fail)
      refine hK.out _ _ ?_ (fun hHeld3 => ?_)
      · (try dsimp only); exact KS.out _ (by first | assumption | exact Kp.drew _)
      clear hK K hHeld2
      (try simp only [Act.put, orA6, xA, xB, xC])
      refine tkV (v := ?_) 7 orA7 ?_ ?_
      rotate_left
      · intro w hSw; (try dsimp only at hSw); go_simp; (try with_reducible rfl)
      (try simp only [Act.put, orA7, xA, xB, xC])
      refine tkV (v := ?_) 8 orA8 ?_ ?_
      rotate_left
      · intro w hSw; (try dsimp only at hSw); go_simp; (try with_reducible rfl)
      (try simp only [Act.put, orA8, xA, xB, xC])
      refine tkV (v := ?_) 9 orA9 ?_ ?_
      rotate_left
      · intro w hSw; (try dsimp only at hSw); go_simp; (try with_reducible rfl)
      (try simp only [Act.put, orA9, xA, xB, xC])
      refine tkE 10 orA10 rfl (by kernel_rfl) (fun K hK => ?_)
      go_simp
      (refine (ST.out _ _ (NTc.out.kp (K14.out.trans (by first | assumption | exact Kp.drew _))) (K00.out.trans (K14.out.trans (by first | assumption | exact Kp.drew _)))).mono ?_; rintro e wt ⟨rfl, k1⟩; have k2 := Kp.trans (show Kp w14 _ from (by first | assumption | exact Kp.drew _)) k1; clear k1)
      (try go_wp2_with fail)
      refine hK.out _ _ ?_ (fun hHeld4 => ?_)
      · (try dsimp only); exact KS.out _ (by first | assumption | exact Kp.drew _)
      clear hK K hHeld3
      (try simp only [Act.put, orA10, xA, xB, xC])
      refine tkV (v := ?_) 11 orA11 ?_ ?_
      rotate_left
      · intro w hSw; (try dsimp only at hSw); go_simp; (try with_reducible rfl)
      (try simp only [Act.put, orA11, xA, xB, xC])
      refine tkV (v := ?_) 12 orA12 ?_ ?_
      rotate_left
      · intro w hSw; (try dsimp only at hSw); go_simp; (try with_reducible rfl)
      (try simp only [Act.put, orA12, xA, xB, xC])
      refine tkV (v := ?_) 13 orA13 ?_ ?_
      rotate_left
      · intro w hSw; (try dsimp only at hSw); go_simp; (try with_reducible rfl)
      (try simp only [Act.put, orA13, xA, xB, xC])
      refine tkV (v := ?_) 15 orA15 ?_ ?_
      rotate_left
      · intro w hSw; (try dsimp only at hSw); go_simp; (try with_reducible rfl)
      (try simp only [Act.put, orA15, xA, xB, xC])
      refine tkE 14 orA14 rfl (by kernel_rfl) (fun K hK => ?_)
      go_simp
      (refine (CT.out _ _ (NTc.out.kp (K14.out.trans (by first | assumption | exact Kp.drew _))) (K00.out.trans (K14.out.trans (by first | assumption | exact Kp.drew _)))).mono ?_; rintro e wu ⟨vu, rfl, hu, k1⟩; have NU := Lib.hid hu; obtain ⟨adu, cpu, rfl⟩ := hu.slice; clear hu; have k2 := Kp.trans (show Kp w14 _ from (by first | assumption | exact Kp.drew _)) k1; clear k1)
      (try go_wp2_with fail)
      refine hK.out _ _ ?_ (fun hHeld5 => ?_)
      · (try dsimp only); exact KS.out _ (by first | assumption | exact Kp.drew _)
      clear hK K hHeld4
      (try simp only [Act.put, orA14, xA, xB, xC])
      refine tkE 16 orA16 rfl (by kernel_rfl) (fun K hK => ?_)
      go_simp
      (refine (SM.out _ _ _ (NU.out.kp (by first | with_reducible exact Kp.refl _ | with_reducible exact Kp.alloc _ _ | with_reducible exact (Kp.alloc _ _).trans (Kp.alloc _ _) | with_reducible exact ((Kp.alloc _ _).trans (Kp.alloc _ _)).trans (Kp.alloc _ _) | with_reducible exact Kp.drew _ | with_reducible exact Kp.drewN _ _)) (NVc.out.kp (K14.out.trans (by first | assumption | exact Kp.drew _)))).mono ?_; rintro e wv ⟨rfl, k1⟩; have k2 := Kp.trans (show Kp w14 _ from (by first | assumption | exact Kp.drew _)) k1; clear k1)
      (try go_wp2_with fail)
      refine hK.out _ _ ?_ (fun hHeld6 => ?_)
      · (try dsimp only); exact KS.out _ (by first | assumption | exact Kp.drew _)
      clear hK K hHeld5
      (try simp only [Act.put, orA16, xA, xB, xC])
      refine tkV (v := ?_) 17 orA17 ?_ ?_
      rotate_left
      · intro w hSw; (try dsimp only at hSw); go_simp; (try with_reducible rfl)
      (try simp only [Act.put, orA17, xA, xB, xC])
      refine tkV (v := ?_) 18 orA18 ?_ ?_
      rotate_left
      · intro w hSw; (try dsimp only at hSw); go_simp; (try with_reducible rfl)
      (try simp only [Act.put, orA18, xA, xB, xC])
      refine tkV (v := ?_) 19 orA19 ?_ ?_
      rotate_left
      · intro w hSw; (try dsimp only at hSw); go_simp; (try with_reducible rfl)
      (try simp only [Act.put, orA19, xA, xB, xC])
      refine tkV (v := ?_) 20 orA20 ?_ ?_
      rotate_left
      · intro w hSw; (try dsimp only at hSw); go_simp; (try with_reducible rfl)
      (try simp only [Act.put, orA20, xA, xB, xC])
      refine tkE 21 orA21 rfl (by kernel_rfl) (fun K hK => ?_)
      go_simp
      (refine (SO.out _ _ (NOc.out.kp (K14.out.trans (by first | assumption | exact Kp.drew _))) (K00.out.trans (K14.out.trans (by first | assumption | exact Kp.drew _)))).mono ?_; rintro e wx ⟨rfl, k1⟩; have k2 := Kp.trans (show Kp w14 _ from (by first | assumption | exact Kp.drew _)) k1; clear k1)
      (try go_wp2_with fail)
      refine hK.out _ _ ?_ (fun hHeld7 => ?_)
      · (try dsimp only); exact KS.out _ (by first | assumption | exact Kp.drew _)
      clear hK K hHeld6
      (try simp only [Act.put, orA21, xA, xB, xC])
      refine tkV (v := ?_) 22 orA22 ?_ ?_
      rotate_left
      · intro w hSw; (try dsimp only at hSw); go_simp; (try with_reducible rfl)
      (try simp only [Act.put, orA22, xA, xB, xC])
      refine tkV (v := ?_) 23 orA23 ?_ ?_
      rotate_left
      · intro w hSw; (try dsimp only at hSw); go_simp; (try with_reducible rfl)
      (try simp only [Act.put, orA23, xA, xB, xC])
      refine tkN 24 orA24 ?_
      (try simp only [Act.put, orA24, xA, xB, xC])
      refine tkN 25 orA25 ?_
      (try simp only [Act.put, orA25, xA, xB, xC])
      refine tkN 26 orA26 ?_
      (try simp only [Act.put, orA26, xA, xB, xC])
      refine tkN 27 orA27 ?_
      (try simp only [Act.put, orA27, xA, xB, xC])
      refine tkV (v := ?_) 28 orA28 ?_ ?_
      rotate_left
      · intro w hSw; (try dsimp only at hSw); go_simp; (try with_reducible rfl)
      (try simp only [Act.put, orA28, xA, xB, xC])
      refine tkV (v := ?_) 29 orA29 ?_ ?_
      rotate_left
      · intro w hSw; (try dsimp only at hSw); go_simp; (try with_reducible rfl)
      (try simp only [Act.put, orA29, xA, xB, xC])
      refine tkV (v := ?_) 30 orA30 ?_ ?_
      rotate_left
      · intro w hSw; (try dsimp only at hSw); go_simp; (try with_reducible rfl)
      (try simp only [Act.put, orA30, xA, xB, xC])
      refine wpAnyH_done (by kernel_rfl) ?_ _
      go_wp2
      go_ret
      exact ⟨rfl, K00.out.trans (K14.out.trans k2)⟩
set_option maxHeartbeats 16000000 in
set_option maxRecDepth 100000 in
theorem corder_ft (vl : Value) (l : List ND) (w : World) (hl : NodesAt w vl l) (T : TabSH w) (h20 : l.length ≤ 20) (hf : fewG (orN l) = true) (hs : saneN saneP (orN l) = true) (ht : saneN saneP (orN (l ++ [nth l 0])) = false) (ho : saneN saneP (orN (l.reverse.map fun x => orN [x])) = true) :
    Calls Tryd.prog 5 #[vl] w fun e w' => e = .returned (.bool true) ∧ Kp w w' := by
  have AW := Lib.hid (fun w1 (kk : Kp w w1) => awake12 w1 (T.kp kk))
  have OO := Lib.hid (fun w1 => oneOf_any vl l w1 hl.slice)
  have FW := Lib.hid (fun w1 (kk : Kp w w1) => rfewG_any (orN l) vl w1 (hl.kp kk))
  have SN := Lib.hid (fun w1 (kk : Kp w w1) => tSaneG_any (orN l) vl w1 (hl.kp kk) (T.kp kk))
  have lm := hl.len
  unfold maxLen at lm
  have g1 : decide ((l.length : Int) > 20) = false := decide_eq_false (by omega)
  rw [hf] at FW
  rw [hs] at SN
  have l1 := (orN_len hs).1
  have CN := Lib.hid (fun w1 (kk : Kp w w1) => ccan_any (orN l) vl w1 (hl.kp kk) (T.kp kk))
  rw [canF_yes hs] at CN
  have CB := Lib.hid (fun v w1 (h : NodesAt w1 v l.reverse) (kk : Kp w w1) => show Calls Tryd.prog 11 #[ndV (orN l.reverse) v] w1 _ from ccan_any (orN l.reverse) v w1 h (T.kp kk))
  rw [orN_rev hs, canF_yes hs] at CB
  have ST := Lib.hid (fun v w1 (h : NodesAt w1 v (l ++ [nth l 0])) (kk : Kp w w1) => show Calls Tryd.prog 15 #[ndV (orN (l ++ [nth l 0])) v] w1 _ from tSaneG_any (orN (l ++ [nth l 0])) v w1 h (T.kp kk))
  rw [ht] at ST
  have SO := Lib.hid (fun v w1 (h : NodesAt w1 v (l.reverse.map fun x => orN [x])) (kk : Kp w w1) => show Calls Tryd.prog 15 #[ndV (orN (l.reverse.map fun x => orN [x])) v] w1 _ from tSaneG_any (orN (l.reverse.map fun x => orN [x])) v w1 h (T.kp kk))
  rw [ho] at SO
  have CU := Lib.hid (fun v w1 (h : NodesAt w1 v (l.reverse.map fun x => orN [x])) (kk : Kp w w1) => show Calls Tryd.prog 11 #[ndV (orN (l.reverse.map fun x => orN [x])) v] w1 _ from ccan_any (orN (l.reverse.map fun x => orN [x])) v w1 h (T.kp kk))
  rw [orN_ones hs ho, canF_yes hs] at CU
  have c64 : cntN (canN (orN l)) ≤ 64 := by rw [← canF_yes hs]; exact canF_cnt _
  have SM := Lib.hid (fun v u w1 (hv : NodesAt w1 v (canN (orN l)).l) (hu : NodesAt w1 u (canN (orN l)).l) => tSame_any (canN (orN l)) (canN (orN l)) v u w1 hv hu (by omega))
  rw [same_refl] at SM
  have OX := Lib.hid (fun x ad c w1 => oneOf_any (.slice ad 1 c) [x] w1 ⟨_, _, rfl⟩)
  have OB := Lib.hid (fun ad c w1 => oneOf_any (.slice ad l.length c) l.reverse w1 ⟨_, _, by rw [List.length_reverse]⟩)
  have OT := Lib.hid (fun ad c w1 => oneOf_any (.slice ad (l.length + 1) c) (l ++ [nth l 0]) w1 ⟨_, _, by rw [List.length_append]; rfl⟩)
  have OU := Lib.hid (fun ad c w1 => oneOf_any (.slice ad l.length c) (l.reverse.map fun x => orN [x]) w1 ⟨_, _, by rw [List.length_map, List.length_reverse]⟩)
  have RT := Lib.hid (fun j q (h : q + j + 1 = l.length) => rev_take (l := l) h)
  have TL := Lib.hid (show l.reverse.take l.length = l.reverse from by rw [List.take_of_length_le (by rw [List.length_reverse]; exact Nat.le_refl _)])
  have HLW := Lib.hid hl
  clear T hf c64
  generalize canN (orN l) = c0 at *
  obtain ⟨k0, pk0, y0, m0, s0, a0, t0, r0, rfl⟩ := nd_dest c0
  clear hs ht ho
  obtain ⟨adl, cal, rfl⟩ := hl.slice
  unfold orN pz ndV at *
  simp only [ND.k, ND.p, ND.a, ND.t, ND.l] at *
  obtain ⟨W0, hW⟩ : ∃ W0, W0 = w := ⟨_, rfl⟩
  subst hW
  have K00 := Lib.hid (Kp.refl W0)
  have K0 := Lib.hid (Kp.refl W0)
  have HB := Lib.hid True.intro
  go_enter Tryd.func5, Tryd.ntmps5
  go_wp2_with fail
  refine (AW.out _ (K00.out.trans (by first | with_reducible exact K0.out | with_reducible exact K0.out.trans (Kp.alloc _ _)))).mono ?_
  rintro e w1 ⟨rfl, kk⟩
  have K1 := Lib.hid ((show Kp W0 _ from (by first | with_reducible exact K0.out | with_reducible exact K0.out.trans (Kp.alloc _ _))).trans kk)
  clear kk
  go_wp2_with fail
  refine (OO.out _).mono ?_
  rintro e w2 ⟨rfl, kk⟩
  have K2 := Lib.hid ((show Kp W0 _ from (by first | with_reducible exact K1.out | with_reducible exact K1.out.trans (Kp.alloc _ _))).trans kk)
  clear kk
  obtain ⟨w3, hV⟩ : ∃ x, x = w2.alloc (.cells #[.int .i64 2, .int .i64 0, .string ⟨#[]⟩, .string ⟨#[]⟩, .string ⟨#[]⟩, .bool false, .bool false, .slice adl l.length cal] 26) := ⟨_, rfl⟩
  have ka : Kp w2 w3 := by rw [hV]; exact Kp.alloc _ _
  have hgq : w3.heap[w2.heap.size]? = some (.cells #[.int .i64 2, .int .i64 0, .string ⟨#[]⟩, .string ⟨#[]⟩, .string ⟨#[]⟩, .bool false, .bool false, .slice adl l.length cal] 26 (0, 0)) := by rw [hV]; exact heap_at _ _ _ rfl
  have q0 : w3.cell? ⟨w2.heap.size, 0, none⟩ = some (.int .i64 2) := by simp [World.cell?, hgq]
  have q1 : w3.cell? ⟨w2.heap.size, 1, none⟩ = some (.int .i64 0) := by simp [World.cell?, hgq]
  have q2 : w3.cell? ⟨w2.heap.size, 2, none⟩ = some (.string ⟨#[]⟩) := by simp [World.cell?, hgq]
  have q3 : w3.cell? ⟨w2.heap.size, 3, none⟩ = some (.string ⟨#[]⟩) := by simp [World.cell?, hgq]
  have q4 : w3.cell? ⟨w2.heap.size, 4, none⟩ = some (.string ⟨#[]⟩) := by simp [World.cell?, hgq]
  have q5 : w3.cell? ⟨w2.heap.size, 5, none⟩ = some (.bool false) := by simp [World.cell?, hgq]
  have q6 : w3.cell? ⟨w2.heap.size, 6, none⟩ = some (.bool false) := by simp [World.cell?, hgq]
  have q7 : w3.cell? ⟨w2.heap.size, 7, none⟩ = some (.slice adl l.length cal) := by simp [World.cell?, hgq]
  have HB2 := Lib.hid (fun w1 (k : Kp w3 w1) => show w1.cell? ⟨w2.heap.size, 0, none⟩ = some (.int .i64 2) ∧ w1.cell? ⟨w2.heap.size, 1, none⟩ = some (.int .i64 0) ∧ w1.cell? ⟨w2.heap.size, 2, none⟩ = some (.string ⟨#[]⟩) ∧ w1.cell? ⟨w2.heap.size, 3, none⟩ = some (.string ⟨#[]⟩) ∧ w1.cell? ⟨w2.heap.size, 4, none⟩ = some (.string ⟨#[]⟩) ∧ w1.cell? ⟨w2.heap.size, 5, none⟩ = some (.bool false) ∧ w1.cell? ⟨w2.heap.size, 6, none⟩ = some (.bool false) ∧ w1.cell? ⟨w2.heap.size, 7, none⟩ = some (.slice adl l.length cal) from ⟨cell_up k q0, cell_up k q1, cell_up k q2, cell_up k q3, cell_up k q4, cell_up k q5, cell_up k q6, cell_up k q7⟩)
  have K01 := Lib.hid (K00.out.trans (K2.out.trans ka))
  clear HB K00 hgq  q0 q1 q2 q3 q4 q5 q6 q7
  have HB := HB2
  have K00 := K01
  clear HB2 K01
  have K3 := Lib.hid (Kp.refl w3)
  have Hw3 := Lib.hid hV
  clear hV ka
  go_wp2_with fail
  rw [← Hw3.out]
  obtain ⟨c0, c1, c2, c3, c4, c5, c6, c7⟩ := HB.out w3 (Kp.refl _)
  go_wp2_with fail
  refine (FW.out _ (K00.out.trans (by first | with_reducible exact K3.out | with_reducible exact K3.out.trans (Kp.alloc _ _)))).mono ?_
  rintro e w4 ⟨rfl, kk⟩
  have K4 := Lib.hid ((show Kp w3 _ from (by first | with_reducible exact K3.out | with_reducible exact K3.out.trans (Kp.alloc _ _))).trans kk)
  clear kk
  clear c0 c1 c2 c3 c4 c5 c6 c7
  obtain ⟨c0, c1, c2, c3, c4, c5, c6, c7⟩ := HB.out w4 K4.out
  go_wp2_with fail
  refine (SN.out _ (K00.out.trans (by first | with_reducible exact K4.out | with_reducible exact K4.out.trans (Kp.alloc _ _)))).mono ?_
  rintro e w5 ⟨rfl, kk⟩
  have K5 := Lib.hid ((show Kp w3 _ from (by first | with_reducible exact K4.out | with_reducible exact K4.out.trans (Kp.alloc _ _))).trans kk)
  clear kk
  clear c0 c1 c2 c3 c4 c5 c6 c7
  obtain ⟨c0, c1, c2, c3, c4, c5, c6, c7⟩ := HB.out w5 K5.out
  obtain ⟨i0, hi, hz0, hz1, hz2⟩ := info_parts infoNode
  clear c0 c1 c2 c3 c4 c5 c6 c7
  have wl : IntKind.i64.wrap ((l.length : Int) - 1) = (l.length : Int) - 1 := by rw [IntKind.wrap_i64]; omega
  go_wp2
  go_loopw [5, 7, 8] (fun vb vo i ws => ∃ (x : Int) (j : Nat) (mb mo : List NV), x + (j : Int) + 1 = (l.length : Int) ∧ -1 ≤ x ∧ i = .int .i64 x ∧ Hid (mb.map Prod.fst = l.reverse.take j) ∧ Hid (mo.map Prod.fst = (l.reverse.take j).map fun x => orN [x]) ∧ Hid (TwoRows w5 ws vb vo mb mo)) (fun _ _ i _ => (intOf i + 1).toNat)
  case atStart => exact ⟨(l.length : Int) - 1, 0, [], [], by omega, by omega, by first | rfl | go_num, Lib.hid (by rw [List.take_zero]; rfl), Lib.hid (by rw [List.take_zero]; rfl), Lib.hid (TwoRows.none w5)⟩
  case round =>
    obtain ⟨x, j, mb, mo, hx, hx1, rfl, MB, MO, TR⟩ := hrel
    obtain ⟨bad, bcp, rfl⟩ := own_slice8 TR.out.back
    obtain ⟨oad, ocp, rfl⟩ := own_slice8 TR.out.ones
    have NB := Lib.hid (show mb.length = j by have a := congrArg List.length MB.out; rw [List.length_map, List.length_take, List.length_reverse] at a; omega)
    have NO := Lib.hid (show mo.length = j by have a := congrArg List.length MO.out; rw [List.length_map, List.length_map, List.length_take, List.length_reverse] at a; omega)
    by_cases hlt : 0 ≤ x
    · obtain ⟨q, rfl⟩ : ∃ q : Nat, x = q := ⟨x.toNat, by omega⟩
      have hq : q < l.length := by omega
      have hj : j < l.length := by omega
      have rt := RT.out j q (by omega)
      obtain ⟨bk, off, vi, eva, hrow, hsub⟩ := (HLW.out.kp (K00.out.trans K5.out)).get hq
      subst eva
      obtain ⟨x, hx2⟩ : ∃ x, nth l q = x := ⟨_, rfl⟩
      rw [hx2] at hrow hsub rt
      have RTH := Lib.hid rt
      clear rt hx2
      obtain ⟨k1, pk1, y1, m1, s1, a1, t1, l1', rfl⟩ := nd_dest x
      obtain ⟨ad1, cp1, rfl⟩ := hsub.slice
      have HS := Lib.hid (show NodesAt w5 (.slice ad1 l1'.length cp1) l1' from hsub)
      unfold RowN at hrow
      simp only [ND.k, ND.p, ND.a, ND.t, ND.l] at hrow hsub
      obtain ⟨n1, hn1⟩ : ∃ n, l1'.length = n := ⟨_, rfl⟩
      rw [hn1] at hrow HS
      clear hsub hn1
      have HROW := Lib.hid (fun w' (kk : Kp w5 w') => show w'.cell? ⟨bk, off + q * 8, none⟩ = some (.int .i64 k1) ∧ w'.cell? ⟨bk, off + q * 8 + 1, none⟩ = some (.int .i64 pk1) ∧ w'.cell? ⟨bk, off + q * 8 + 2, none⟩ = some (.string y1) ∧ w'.cell? ⟨bk, off + q * 8 + 3, none⟩ = some (.string m1) ∧ w'.cell? ⟨bk, off + q * 8 + 4, none⟩ = some (.string s1) ∧ w'.cell? ⟨bk, off + q * 8 + 5, none⟩ = some (.bool a1) ∧ w'.cell? ⟨bk, off + q * 8 + 6, none⟩ = some (.bool t1) ∧ w'.cell? ⟨bk, off + q * 8 + 7, none⟩ = some (.slice ad1 n1 cp1) from ⟨cell_up kk hrow.1, cell_up kk hrow.2.1, cell_up kk hrow.2.2.1, cell_up kk hrow.2.2.2.1, cell_up kk hrow.2.2.2.2.1, cell_up kk hrow.2.2.2.2.2.1, cell_up kk hrow.2.2.2.2.2.2.1, cell_up kk hrow.2.2.2.2.2.2.2⟩)
      obtain ⟨e0, e1, e2, e3, e4, e5, e6, e7⟩ := HROW.out wr TR.out.kp
      have T1 := Lib.hid (TR.out.go (Kp.alloc wr (.cells #[.int .i64 k1, .int .i64 pk1, .string y1, .string m1, .string s1, .bool a1, .bool t1, .slice ad1 n1 cp1] 26)))
      have SR1 := Lib.hid (one_srcN (w := wr) rfl (.mk k1 ⟨pk1, y1, m1, s1⟩ a1 t1 l1' : ND) (.slice ad1 n1 cp1) 26)
      simp only [ND.k, ND.p, ND.a, ND.t] at SR1
      have L1 := Lib.hid (cellsN_length [((.mk k1 ⟨pk1, y1, m1, s1⟩ a1 t1 l1' : ND), Value.slice ad1 n1 cp1)])
      have ONE1 := Lib.hid (cellsN_one (w := w5) (show ReadsN w5 [((.mk k1 ⟨pk1, y1, m1, s1⟩ a1 t1 l1' : ND), Value.slice ad1 n1 cp1)] from fun p hp => by rw [List.mem_singleton.1 hp]; exact HS.out))
      have z3 : (q : Int) < (l.length : Int) := by omega
      have z4 : (0 : Int) ≤ (q : Int) := by omega
      have wq : IntKind.i64.wrap ((q : Int) - 1) = (q : Int) - 1 := by rw [IntKind.wrap_i64]; omega
      have hbk := World.block_lt_of_cell? _ _ e0
      simp only at hbk
      clear hrow
      go_wp2_with (at_builtin; refine Hid.out ?_)
      refine Lib.hid ?_
      refine wpList_app rfl (.tmp 36) (.tmp 41) 24 rfl w5.heap.size 26 i0 (.agg #[.int .i64 0, .int .i64 0, .string ⟨#[]⟩, .string ⟨#[]⟩, .string ⟨#[]⟩, .bool false, .bool false, .slice none 0 0]) 8 96 Tryd.underlying24 hi hz0 hz1 hz2 rfl (by decide) _ _ _ rfl T1.out.back _ _ _ rfl SR1.out L1.out ONE1.out (by have a := NB.out; unfold maxLen; omega) (by have a := NB.out; omega) (Below.size T1.out.kp) ?_
      intro v1 w1 own1 grow1 at1
      have T2 := Lib.hid (T1.out.addBack HS.out own1 grow1 at1)
      obtain ⟨bd1, bc1, rfl⟩ := own_slice8 own1
      clear own1 grow1 at1 e0 e1 e2 e3 e4 e5 e6 e7 hbk
      obtain ⟨e0, e1, e2, e3, e4, e5, e6, e7⟩ := HROW.out w1 T2.out.kp
      have hbk := World.block_lt_of_cell? _ _ e0
      simp only at hbk
      go_wp2_with fail
      refine (OX.out (.mk k1 ⟨pk1, y1, m1, s1⟩ a1 t1 l1' : ND) _ _ _).mono ?_
      rintro e w2 ⟨rfl, kk⟩
      have k12 : Kp w1 w2 := (Kp.alloc _ _).trans kk
      have OI := Lib.hid (show OneIn w5 w2 (.mk k1 ⟨pk1, y1, m1, s1⟩ a1 t1 l1' : ND) (.slice (some ⟨w1.heap.size, 0, none⟩) 1 1) w1.heap.size from ⟨Below.size T2.out.kp, rfl, .slice ad1 n1 cp1, heap_block kk (heap_at _ _ _ rfl), HS.out⟩)
      have N1 := Lib.hid (show (Value.slice bd1 (mb.length + 1) bc1).ownBlock ≠ some w1.heap.size from fun e => by have := (T2.out.back.lt _ e).2; omega)
      have N2 := Lib.hid (show (Value.slice oad mo.length ocp).ownBlock ≠ some w1.heap.size from fun e => by have := (T2.out.ones.lt _ e).2; omega)
      have T3 := Lib.hid (T2.out.go (k12.trans (Kp.alloc w2 (.cells #[.int .i64 2, .int .i64 0, .string ⟨#[]⟩, .string ⟨#[]⟩, .string ⟨#[]⟩, .bool false, .bool false, .slice (some ⟨w1.heap.size, 0, none⟩) 1 1] 26))))
      have OI3 := Lib.hid (OI.out.kp (Kp.alloc w2 (.cells #[.int .i64 2, .int .i64 0, .string ⟨#[]⟩, .string ⟨#[]⟩, .string ⟨#[]⟩, .bool false, .bool false, .slice (some ⟨w1.heap.size, 0, none⟩) 1 1] 26)))
      have SR3 := Lib.hid (one_srcN (w := w2) rfl (orN [(.mk k1 ⟨pk1, y1, m1, s1⟩ a1 t1 l1' : ND)]) (.slice (some ⟨w1.heap.size, 0, none⟩) 1 1) 26)
      (try simp only [orN, pz, ND.k, ND.p, ND.a, ND.t] at SR3)
      have L3 := Lib.hid (cellsN_length [(orN [(.mk k1 ⟨pk1, y1, m1, s1⟩ a1 t1 l1' : ND)], Value.slice (some ⟨w1.heap.size, 0, none⟩) 1 1)])
      have ONE3 := Lib.hid (cellsN_one (w := w2) (show ReadsN w2 [(orN [(.mk k1 ⟨pk1, y1, m1, s1⟩ a1 t1 l1' : ND)], Value.slice (some ⟨w1.heap.size, 0, none⟩) 1 1)] from fun p hp => by rw [List.mem_singleton.1 hp]; exact OI.out.nodes (T2.out.kp.trans k12)))
      clear kk k12 e0 e1 e2 e3 e4 e5 e6 e7 hbk
      go_wp2_with (at_builtin; refine Hid.out ?_)
      refine Lib.hid ?_
      refine wpList_app rfl (.tmp 43) (.tmp 50) 24 rfl w5.heap.size 26 i0 (.agg #[.int .i64 0, .int .i64 0, .string ⟨#[]⟩, .string ⟨#[]⟩, .string ⟨#[]⟩, .bool false, .bool false, .slice none 0 0]) 8 96 Tryd.underlying24 hi hz0 hz1 hz2 rfl (by decide) _ _ _ rfl T3.out.ones _ _ _ rfl SR3.out L3.out ONE3.out (by have a := NO.out; unfold maxLen; omega) (by have a := NO.out; omega) (Below.size T3.out.kp) ?_
      intro v4 w4 own4 grow4 at4
      have T4 := Lib.hid (T3.out.addOne OI3.out N1.out N2.out own4 grow4 at4)
      obtain ⟨od4, oc4, rfl⟩ := own_slice8 own4
      clear own4 grow4 at4
      go_wp2
      go_roundw
      case rel => exact ⟨(q : Int) - 1, j + 1, _, _, by omega, by omega, by first | rfl | go_num, Lib.hid (by rw [List.map_append, MB.out, RTH.out]; rfl), Lib.hid (by rw [List.map_append, MO.out, RTH.out, List.map_append]; rfl), T4⟩
      case measure => simp [intOf] <;> omega
    · obtain rfl : x = -1 := by omega
      obtain rfl : j = l.length := by omega
      have nd := TR.out.nodes
      rw [MB.out, MO.out, TL.out] at nd
      have NBK := Lib.hid nd.1
      have NON := Lib.hid nd.2
      have KR := Lib.hid (K5.out.trans TR.out.kp)
      rw [NB.out, NO.out]
      rw [NB.out] at NBK
      rw [NO.out] at NON
      clear nd
      have HLR := Lib.hid (HLW.out.kp (K00.out.trans KR.out))
      obtain ⟨msl, hml, hrl, hsl⟩ := HLR.out.src
      have ML := Lib.hid hml
      have RL := Lib.hid hrl
      have NLL := Lib.hid (show msl.length = l.length by rw [← hml, List.length_map])
      have SRL := Lib.hid (hsl wr (Kp.refl _))
      have LL := Lib.hid (show (cellsN msl).length = l.length * 8 by rw [cellsN_length, ← hml, List.length_map])
      have ONEL := Lib.hid (cellsN_one hrl)
      have ON0 := Lib.hid (World.ownsRow_nil wr wr.heap.size 26 8)
      obtain ⟨b0, o0, v0, ev0, hrow, hsub⟩ := HLR.out.get (i := 0) l1
      subst ev0
      have z9 : (0 : Int) < (l.length : Int) := by omega
      have z8 : 0 < l.length := l1
      clear hml hrl hsl
      generalize nth l 0 = x at *
      obtain ⟨k1, pk1, y1, m1, s1, a1, t1, l1', rfl⟩ := nd_dest x
      obtain ⟨ad1, cp1, rfl⟩ := hsub.slice
      have HS0 := Lib.hid (show NodesAt wr (.slice ad1 l1'.length cp1) l1' from hsub)
      unfold RowN at hrow
      simp only [ND.k, ND.p, ND.a, ND.t, ND.l, Nat.zero_mul, Nat.add_zero] at hrow
      obtain ⟨n1, hn1⟩ : ∃ n, l1'.length = n := ⟨_, rfl⟩
      rw [hn1] at hrow HS0
      have HROW := Lib.hid (fun w' (kk : Kp wr w') => show w'.cell? ⟨b0, o0, none⟩ = some (.int .i64 k1) ∧ w'.cell? ⟨b0, o0 + 1, none⟩ = some (.int .i64 pk1) ∧ w'.cell? ⟨b0, o0 + 2, none⟩ = some (.string y1) ∧ w'.cell? ⟨b0, o0 + 3, none⟩ = some (.string m1) ∧ w'.cell? ⟨b0, o0 + 4, none⟩ = some (.string s1) ∧ w'.cell? ⟨b0, o0 + 5, none⟩ = some (.bool a1) ∧ w'.cell? ⟨b0, o0 + 6, none⟩ = some (.bool t1) ∧ w'.cell? ⟨b0, o0 + 7, none⟩ = some (.slice ad1 n1 cp1) from ⟨cell_up kk hrow.1, cell_up kk hrow.2.1, cell_up kk hrow.2.2.1, cell_up kk hrow.2.2.2.1, cell_up kk hrow.2.2.2.2.1, cell_up kk hrow.2.2.2.2.2.1, cell_up kk hrow.2.2.2.2.2.2.1, cell_up kk hrow.2.2.2.2.2.2.2⟩)
      clear hrow hsub hn1
      go_wp2_with (at_builtin; refine Hid.out ?_)
      refine Lib.hid ?_
      refine wpList_app rfl (.tmp 52) (.tmp 53) 24 rfl wr.heap.size 26 i0 (.agg #[.int .i64 0, .int .i64 0, .string ⟨#[]⟩, .string ⟨#[]⟩, .string ⟨#[]⟩, .bool false, .bool false, .slice none 0 0]) 8 96 Tryd.underlying24 hi hz0 hz1 hz2 rfl (by decide) _ _ _ rfl ON0.out _ _ _ rfl SRL.out LL.out ONEL.out (by  unfold maxLen; omega) (by  omega) (Nat.le_refl _) ?_
      intro v6 w6 own6 grow6 at6
      have KA := Lib.hid ((Kp.refl wr).grown grow6 (fun j hj => by cases hj))
      obtain ⟨td6, tc6, rfl⟩ := own_slice8 own6
      simp only [Nat.zero_add, List.nil_append] at own6
      rw [Nat.zero_add]
      have O6 := Lib.hid own6
      clear own6 grow6 at6
      obtain ⟨e0, e1, e2, e3, e4, e5, e6, e7⟩ := HROW.out w6 KA.out
      have hbk := World.block_lt_of_cell? _ _ e0
      simp only at hbk
      have SR7 := Lib.hid (one_srcN (w := w6) rfl (.mk k1 ⟨pk1, y1, m1, s1⟩ a1 t1 l1' : ND) (.slice ad1 n1 cp1) 26)
      simp only [ND.k, ND.p, ND.a, ND.t] at SR7
      have L7 := Lib.hid (cellsN_length [((.mk k1 ⟨pk1, y1, m1, s1⟩ a1 t1 l1' : ND), Value.slice ad1 n1 cp1)])
      have R7 := Lib.hid (show ReadsN wr [((.mk k1 ⟨pk1, y1, m1, s1⟩ a1 t1 l1' : ND), Value.slice ad1 n1 cp1)] from fun p hp => by rw [List.mem_singleton.1 hp]; exact HS0.out)
      have ONE7 := Lib.hid (cellsN_one R7.out)
      have K7A := Lib.hid (KA.out.trans (Kp.alloc w6 (.cells #[.int .i64 k1, .int .i64 pk1, .string y1, .string m1, .string s1, .bool a1, .bool t1, .slice ad1 n1 cp1] 26)))
      have O7 := Lib.hid (own_kp O6.out (Kp.alloc w6 (.cells #[.int .i64 k1, .int .i64 pk1, .string y1, .string m1, .string s1, .bool a1, .bool t1, .slice ad1 n1 cp1] 26)))
      go_wp2_with (at_builtin; refine Hid.out ?_)
      refine Lib.hid ?_
      refine wpList_app rfl (.tmp 55) (.tmp 59) 24 rfl wr.heap.size 26 i0 (.agg #[.int .i64 0, .int .i64 0, .string ⟨#[]⟩, .string ⟨#[]⟩, .string ⟨#[]⟩, .bool false, .bool false, .slice none 0 0]) 8 96 Tryd.underlying24 hi hz0 hz1 hz2 rfl (by decide) _ _ _ rfl O7.out _ _ _ rfl SR7.out L7.out ONE7.out (by  unfold maxLen; omega) (by  omega) (Below.size K7A.out) ?_
      intro v8 w8 own8 grow8 at8
      have KB := Lib.hid (K7A.out.grown grow8 (fun j hj => (O7.out.lt j hj).1))
      have tw := nodesAt_own (m := msl ++ [((.mk k1 ⟨pk1, y1, m1, s1⟩ a1 t1 l1' : ND), Value.slice ad1 n1 cp1)]) (by rw [List.length_append, cellsN_append, NLL.out]; exact own8) ((RL.out.append R7.out).kp KB.out)
      rw [List.map_append, ML.out] at tw
      obtain ⟨td8, tc8, rfl⟩ := own_slice8 own8
      have NTW := Lib.hid (show NodesAt w8 (.slice td8 (l.length + 1) tc8) (l ++ [(.mk k1 ⟨pk1, y1, m1, s1⟩ a1 t1 l1' : ND)]) from tw)
      have NB8 := Lib.hid (NBK.out.kp KB.out)
      have NO8 := Lib.hid (NON.out.kp KB.out)
      have K8 := Lib.hid (KR.out.trans KB.out)
      clear tw own8 grow8 at8 e0 e1 e2 e3 e4 e5 e6 e7 hbk
      obtain ⟨c0, c1, c2, c3, c4, c5, c6, c7⟩ := HB.out w8 K8.out
      go_wp2_with fail
      refine (CN.out _ (K00.out.trans K8.out)).mono ?_
      rintro e w9 ⟨v9, rfl, hn9, kk⟩
      have K9 := Lib.hid (K8.out.trans kk)
      have NT9 := Lib.hid (NTW.out.kp kk)
      have NB9 := Lib.hid (NB8.out.kp kk)
      have NO9 := Lib.hid (NO8.out.kp kk)
      have NV9 := Lib.hid hn9
      obtain ⟨ad9, cp9, rfl⟩ := hn9.slice
      clear kk hn9 c0 c1 c2 c3 c4 c5 c6 c7
      obtain ⟨c0, c1, c2, c3, c4, c5, c6, c7⟩ := HB.out w9 K9.out
      obtain ⟨w10, hV⟩ : ∃ x, x = w9.alloc (.cells #[.int .i64 k0, .int .i64 pk0, .string y0, .string m0, .string s0, .bool a0, .bool t0, .slice ad9 r0.length cp9] 26) := ⟨_, rfl⟩
      have ka : Kp w9 w10 := by rw [hV]; exact Kp.alloc _ _
      have hgq : w10.heap[w9.heap.size]? = some (.cells #[.int .i64 k0, .int .i64 pk0, .string y0, .string m0, .string s0, .bool a0, .bool t0, .slice ad9 r0.length cp9] 26 (0, 0)) := by rw [hV]; exact heap_at _ _ _ rfl
      have q0 : w10.cell? ⟨w9.heap.size, 0, none⟩ = some (.int .i64 k0) := by simp [World.cell?, hgq]
      have q1 : w10.cell? ⟨w9.heap.size, 1, none⟩ = some (.int .i64 pk0) := by simp [World.cell?, hgq]
      have q2 : w10.cell? ⟨w9.heap.size, 2, none⟩ = some (.string y0) := by simp [World.cell?, hgq]
      have q3 : w10.cell? ⟨w9.heap.size, 3, none⟩ = some (.string m0) := by simp [World.cell?, hgq]
      have q4 : w10.cell? ⟨w9.heap.size, 4, none⟩ = some (.string s0) := by simp [World.cell?, hgq]
      have q5 : w10.cell? ⟨w9.heap.size, 5, none⟩ = some (.bool a0) := by simp [World.cell?, hgq]
      have q6 : w10.cell? ⟨w9.heap.size, 6, none⟩ = some (.bool t0) := by simp [World.cell?, hgq]
      have q7 : w10.cell? ⟨w9.heap.size, 7, none⟩ = some (.slice ad9 r0.length cp9) := by simp [World.cell?, hgq]
      have HB2 := Lib.hid (fun w1 (k : Kp w10 w1) => show w1.cell? ⟨w2.heap.size, 0, none⟩ = some (.int .i64 2) ∧ w1.cell? ⟨w2.heap.size, 1, none⟩ = some (.int .i64 0) ∧ w1.cell? ⟨w2.heap.size, 2, none⟩ = some (.string ⟨#[]⟩) ∧ w1.cell? ⟨w2.heap.size, 3, none⟩ = some (.string ⟨#[]⟩) ∧ w1.cell? ⟨w2.heap.size, 4, none⟩ = some (.string ⟨#[]⟩) ∧ w1.cell? ⟨w2.heap.size, 5, none⟩ = some (.bool false) ∧ w1.cell? ⟨w2.heap.size, 6, none⟩ = some (.bool false) ∧ w1.cell? ⟨w2.heap.size, 7, none⟩ = some (.slice (some ⟨b0, o0, none⟩) l.length cal) ∧ w1.cell? ⟨w9.heap.size, 0, none⟩ = some (.int .i64 k0) ∧ w1.cell? ⟨w9.heap.size, 1, none⟩ = some (.int .i64 pk0) ∧ w1.cell? ⟨w9.heap.size, 2, none⟩ = some (.string y0) ∧ w1.cell? ⟨w9.heap.size, 3, none⟩ = some (.string m0) ∧ w1.cell? ⟨w9.heap.size, 4, none⟩ = some (.string s0) ∧ w1.cell? ⟨w9.heap.size, 5, none⟩ = some (.bool a0) ∧ w1.cell? ⟨w9.heap.size, 6, none⟩ = some (.bool t0) ∧ w1.cell? ⟨w9.heap.size, 7, none⟩ = some (.slice ad9 r0.length cp9) from ⟨(HB.out w1 (K9.out.trans (ka.trans k))).1, (HB.out w1 (K9.out.trans (ka.trans k))).2.1, (HB.out w1 (K9.out.trans (ka.trans k))).2.2.1, (HB.out w1 (K9.out.trans (ka.trans k))).2.2.2.1, (HB.out w1 (K9.out.trans (ka.trans k))).2.2.2.2.1, (HB.out w1 (K9.out.trans (ka.trans k))).2.2.2.2.2.1, (HB.out w1 (K9.out.trans (ka.trans k))).2.2.2.2.2.2.1, (HB.out w1 (K9.out.trans (ka.trans k))).2.2.2.2.2.2.2, cell_up k q0, cell_up k q1, cell_up k q2, cell_up k q3, cell_up k q4, cell_up k q5, cell_up k q6, cell_up k q7⟩)
      have K01 := Lib.hid (K00.out.trans (K9.out.trans ka))
      have NTa := Lib.hid (NT9.out.kp ka)
      have NBa := Lib.hid (NB9.out.kp ka)
      have NOa := Lib.hid (NO9.out.kp ka)
      have NVa := Lib.hid (NV9.out.kp ka)
      clear HB K00 hgq c0 c1 c2 c3 c4 c5 c6 c7 q0 q1 q2 q3 q4 q5 q6 q7
      have HB := HB2
      have K00 := K01
      clear HB2 K01
      have K10 := Lib.hid (Kp.refl w10)
      have Hw10 := Lib.hid hV
      clear hV ka
      go_wp2_with fail
      rw [← Hw10.out]
      obtain ⟨c0, c1, c2, c3, c4, c5, c6, c7, c8, c9, c10, c11, c12, c13, c14, c15⟩ := HB.out w10 (Kp.refl _)
      go_wp2_with fail
      refine (OT.out _ _ _).mono ?_
      rintro e w11 ⟨rfl, kk⟩
      have K11 := Lib.hid ((show Kp w10 _ from (by first | with_reducible exact K10.out | with_reducible exact K10.out.trans (Kp.alloc _ _))).trans kk)
      clear kk
      clear c0 c1 c2 c3 c4 c5 c6 c7 c8 c9 c10 c11 c12 c13 c14 c15
      obtain ⟨c0, c1, c2, c3, c4, c5, c6, c7, c8, c9, c10, c11, c12, c13, c14, c15⟩ := HB.out w11 K11.out
      obtain ⟨w12, hV⟩ : ∃ x, x = w11.alloc (.cells #[.int .i64 2, .int .i64 0, .string ⟨#[]⟩, .string ⟨#[]⟩, .string ⟨#[]⟩, .bool false, .bool false, .slice td8 (l.length + 1) tc8] 26) := ⟨_, rfl⟩
      have ka : Kp w11 w12 := by rw [hV]; exact Kp.alloc _ _
      have hgq : w12.heap[w11.heap.size]? = some (.cells #[.int .i64 2, .int .i64 0, .string ⟨#[]⟩, .string ⟨#[]⟩, .string ⟨#[]⟩, .bool false, .bool false, .slice td8 (l.length + 1) tc8] 26 (0, 0)) := by rw [hV]; exact heap_at _ _ _ rfl
      have q0 : w12.cell? ⟨w11.heap.size, 0, none⟩ = some (.int .i64 2) := by simp [World.cell?, hgq]
      have q1 : w12.cell? ⟨w11.heap.size, 1, none⟩ = some (.int .i64 0) := by simp [World.cell?, hgq]
      have q2 : w12.cell? ⟨w11.heap.size, 2, none⟩ = some (.string ⟨#[]⟩) := by simp [World.cell?, hgq]
      have q3 : w12.cell? ⟨w11.heap.size, 3, none⟩ = some (.string ⟨#[]⟩) := by simp [World.cell?, hgq]
      have q4 : w12.cell? ⟨w11.heap.size, 4, none⟩ = some (.string ⟨#[]⟩) := by simp [World.cell?, hgq]
      have q5 : w12.cell? ⟨w11.heap.size, 5, none⟩ = some (.bool false) := by simp [World.cell?, hgq]
      have q6 : w12.cell? ⟨w11.heap.size, 6, none⟩ = some (.bool false) := by simp [World.cell?, hgq]
      have q7 : w12.cell? ⟨w11.heap.size, 7, none⟩ = some (.slice td8 (l.length + 1) tc8) := by simp [World.cell?, hgq]
      have HB2 := Lib.hid (fun w1 (k : Kp w12 w1) => show w1.cell? ⟨w2.heap.size, 0, none⟩ = some (.int .i64 2) ∧ w1.cell? ⟨w2.heap.size, 1, none⟩ = some (.int .i64 0) ∧ w1.cell? ⟨w2.heap.size, 2, none⟩ = some (.string ⟨#[]⟩) ∧ w1.cell? ⟨w2.heap.size, 3, none⟩ = some (.string ⟨#[]⟩) ∧ w1.cell? ⟨w2.heap.size, 4, none⟩ = some (.string ⟨#[]⟩) ∧ w1.cell? ⟨w2.heap.size, 5, none⟩ = some (.bool false) ∧ w1.cell? ⟨w2.heap.size, 6, none⟩ = some (.bool false) ∧ w1.cell? ⟨w2.heap.size, 7, none⟩ = some (.slice (some ⟨b0, o0, none⟩) l.length cal) ∧ w1.cell? ⟨w9.heap.size, 0, none⟩ = some (.int .i64 k0) ∧ w1.cell? ⟨w9.heap.size, 1, none⟩ = some (.int .i64 pk0) ∧ w1.cell? ⟨w9.heap.size, 2, none⟩ = some (.string y0) ∧ w1.cell? ⟨w9.heap.size, 3, none⟩ = some (.string m0) ∧ w1.cell? ⟨w9.heap.size, 4, none⟩ = some (.string s0) ∧ w1.cell? ⟨w9.heap.size, 5, none⟩ = some (.bool a0) ∧ w1.cell? ⟨w9.heap.size, 6, none⟩ = some (.bool t0) ∧ w1.cell? ⟨w9.heap.size, 7, none⟩ = some (.slice ad9 r0.length cp9) ∧ w1.cell? ⟨w11.heap.size, 0, none⟩ = some (.int .i64 2) ∧ w1.cell? ⟨w11.heap.size, 1, none⟩ = some (.int .i64 0) ∧ w1.cell? ⟨w11.heap.size, 2, none⟩ = some (.string ⟨#[]⟩) ∧ w1.cell? ⟨w11.heap.size, 3, none⟩ = some (.string ⟨#[]⟩) ∧ w1.cell? ⟨w11.heap.size, 4, none⟩ = some (.string ⟨#[]⟩) ∧ w1.cell? ⟨w11.heap.size, 5, none⟩ = some (.bool false) ∧ w1.cell? ⟨w11.heap.size, 6, none⟩ = some (.bool false) ∧ w1.cell? ⟨w11.heap.size, 7, none⟩ = some (.slice td8 (l.length + 1) tc8) from ⟨(HB.out w1 (K11.out.trans (ka.trans k))).1, (HB.out w1 (K11.out.trans (ka.trans k))).2.1, (HB.out w1 (K11.out.trans (ka.trans k))).2.2.1, (HB.out w1 (K11.out.trans (ka.trans k))).2.2.2.1, (HB.out w1 (K11.out.trans (ka.trans k))).2.2.2.2.1, (HB.out w1 (K11.out.trans (ka.trans k))).2.2.2.2.2.1, (HB.out w1 (K11.out.trans (ka.trans k))).2.2.2.2.2.2.1, (HB.out w1 (K11.out.trans (ka.trans k))).2.2.2.2.2.2.2.1, (HB.out w1 (K11.out.trans (ka.trans k))).2.2.2.2.2.2.2.2.1, (HB.out w1 (K11.out.trans (ka.trans k))).2.2.2.2.2.2.2.2.2.1, (HB.out w1 (K11.out.trans (ka.trans k))).2.2.2.2.2.2.2.2.2.2.1, (HB.out w1 (K11.out.trans (ka.trans k))).2.2.2.2.2.2.2.2.2.2.2.1, (HB.out w1 (K11.out.trans (ka.trans k))).2.2.2.2.2.2.2.2.2.2.2.2.1, (HB.out w1 (K11.out.trans (ka.trans k))).2.2.2.2.2.2.2.2.2.2.2.2.2.1, (HB.out w1 (K11.out.trans (ka.trans k))).2.2.2.2.2.2.2.2.2.2.2.2.2.2.1, (HB.out w1 (K11.out.trans (ka.trans k))).2.2.2.2.2.2.2.2.2.2.2.2.2.2.2, cell_up k q0, cell_up k q1, cell_up k q2, cell_up k q3, cell_up k q4, cell_up k q5, cell_up k q6, cell_up k q7⟩)
      have K01 := Lib.hid (K00.out.trans (K11.out.trans ka))
      have NTb := Lib.hid (NTa.out.kp (K11.out.trans ka))
      have NBb := Lib.hid (NBa.out.kp (K11.out.trans ka))
      have NOb := Lib.hid (NOa.out.kp (K11.out.trans ka))
      have NVb := Lib.hid (NVa.out.kp (K11.out.trans ka))
      clear HB K00 hgq c0 c1 c2 c3 c4 c5 c6 c7 c8 c9 c10 c11 c12 c13 c14 c15 q0 q1 q2 q3 q4 q5 q6 q7
      have HB := HB2
      have K00 := K01
      clear HB2 K01
      have K12 := Lib.hid (Kp.refl w12)
      have Hw12 := Lib.hid hV
      clear hV ka
      go_wp2_with fail
      rw [← Hw12.out]
      obtain ⟨c0, c1, c2, c3, c4, c5, c6, c7, c8, c9, c10, c11, c12, c13, c14, c15, c16, c17, c18, c19, c20, c21, c22, c23⟩ := HB.out w12 (Kp.refl _)
      go_wp2_with fail
      refine (OU.out _ _ _).mono ?_
      rintro e w13 ⟨rfl, kk⟩
      have K13 := Lib.hid ((show Kp w12 _ from (by first | with_reducible exact K12.out | with_reducible exact K12.out.trans (Kp.alloc _ _))).trans kk)
      clear kk
      clear c0 c1 c2 c3 c4 c5 c6 c7 c8 c9 c10 c11 c12 c13 c14 c15 c16 c17 c18 c19 c20 c21 c22 c23
      obtain ⟨c0, c1, c2, c3, c4, c5, c6, c7, c8, c9, c10, c11, c12, c13, c14, c15, c16, c17, c18, c19, c20, c21, c22, c23⟩ := HB.out w13 K13.out
      obtain ⟨w14, hV⟩ : ∃ x, x = w13.alloc (.cells #[.int .i64 2, .int .i64 0, .string ⟨#[]⟩, .string ⟨#[]⟩, .string ⟨#[]⟩, .bool false, .bool false, .slice oad l.length ocp] 26) := ⟨_, rfl⟩
      have ka : Kp w13 w14 := by rw [hV]; exact Kp.alloc _ _
      have hgq : w14.heap[w13.heap.size]? = some (.cells #[.int .i64 2, .int .i64 0, .string ⟨#[]⟩, .string ⟨#[]⟩, .string ⟨#[]⟩, .bool false, .bool false, .slice oad l.length ocp] 26 (0, 0)) := by rw [hV]; exact heap_at _ _ _ rfl
      have q0 : w14.cell? ⟨w13.heap.size, 0, none⟩ = some (.int .i64 2) := by simp [World.cell?, hgq]
      have q1 : w14.cell? ⟨w13.heap.size, 1, none⟩ = some (.int .i64 0) := by simp [World.cell?, hgq]
      have q2 : w14.cell? ⟨w13.heap.size, 2, none⟩ = some (.string ⟨#[]⟩) := by simp [World.cell?, hgq]
      have q3 : w14.cell? ⟨w13.heap.size, 3, none⟩ = some (.string ⟨#[]⟩) := by simp [World.cell?, hgq]
      have q4 : w14.cell? ⟨w13.heap.size, 4, none⟩ = some (.string ⟨#[]⟩) := by simp [World.cell?, hgq]
      have q5 : w14.cell? ⟨w13.heap.size, 5, none⟩ = some (.bool false) := by simp [World.cell?, hgq]
      have q6 : w14.cell? ⟨w13.heap.size, 6, none⟩ = some (.bool false) := by simp [World.cell?, hgq]
      have q7 : w14.cell? ⟨w13.heap.size, 7, none⟩ = some (.slice oad l.length ocp) := by simp [World.cell?, hgq]
      have HB2 := Lib.hid (fun w1 (k : Kp w14 w1) => show w1.cell? ⟨w2.heap.size, 0, none⟩ = some (.int .i64 2) ∧ w1.cell? ⟨w2.heap.size, 1, none⟩ = some (.int .i64 0) ∧ w1.cell? ⟨w2.heap.size, 2, none⟩ = some (.string ⟨#[]⟩) ∧ w1.cell? ⟨w2.heap.size, 3, none⟩ = some (.string ⟨#[]⟩) ∧ w1.cell? ⟨w2.heap.size, 4, none⟩ = some (.string ⟨#[]⟩) ∧ w1.cell? ⟨w2.heap.size, 5, none⟩ = some (.bool false) ∧ w1.cell? ⟨w2.heap.size, 6, none⟩ = some (.bool false) ∧ w1.cell? ⟨w2.heap.size, 7, none⟩ = some (.slice (some ⟨b0, o0, none⟩) l.length cal) ∧ w1.cell? ⟨w9.heap.size, 0, none⟩ = some (.int .i64 k0) ∧ w1.cell? ⟨w9.heap.size, 1, none⟩ = some (.int .i64 pk0) ∧ w1.cell? ⟨w9.heap.size, 2, none⟩ = some (.string y0) ∧ w1.cell? ⟨w9.heap.size, 3, none⟩ = some (.string m0) ∧ w1.cell? ⟨w9.heap.size, 4, none⟩ = some (.string s0) ∧ w1.cell? ⟨w9.heap.size, 5, none⟩ = some (.bool a0) ∧ w1.cell? ⟨w9.heap.size, 6, none⟩ = some (.bool t0) ∧ w1.cell? ⟨w9.heap.size, 7, none⟩ = some (.slice ad9 r0.length cp9) ∧ w1.cell? ⟨w11.heap.size, 0, none⟩ = some (.int .i64 2) ∧ w1.cell? ⟨w11.heap.size, 1, none⟩ = some (.int .i64 0) ∧ w1.cell? ⟨w11.heap.size, 2, none⟩ = some (.string ⟨#[]⟩) ∧ w1.cell? ⟨w11.heap.size, 3, none⟩ = some (.string ⟨#[]⟩) ∧ w1.cell? ⟨w11.heap.size, 4, none⟩ = some (.string ⟨#[]⟩) ∧ w1.cell? ⟨w11.heap.size, 5, none⟩ = some (.bool false) ∧ w1.cell? ⟨w11.heap.size, 6, none⟩ = some (.bool false) ∧ w1.cell? ⟨w11.heap.size, 7, none⟩ = some (.slice td8 (l.length + 1) tc8) ∧ w1.cell? ⟨w13.heap.size, 0, none⟩ = some (.int .i64 2) ∧ w1.cell? ⟨w13.heap.size, 1, none⟩ = some (.int .i64 0) ∧ w1.cell? ⟨w13.heap.size, 2, none⟩ = some (.string ⟨#[]⟩) ∧ w1.cell? ⟨w13.heap.size, 3, none⟩ = some (.string ⟨#[]⟩) ∧ w1.cell? ⟨w13.heap.size, 4, none⟩ = some (.string ⟨#[]⟩) ∧ w1.cell? ⟨w13.heap.size, 5, none⟩ = some (.bool false) ∧ w1.cell? ⟨w13.heap.size, 6, none⟩ = some (.bool false) ∧ w1.cell? ⟨w13.heap.size, 7, none⟩ = some (.slice oad l.length ocp) from ⟨(HB.out w1 (K13.out.trans (ka.trans k))).1, (HB.out w1 (K13.out.trans (ka.trans k))).2.1, (HB.out w1 (K13.out.trans (ka.trans k))).2.2.1, (HB.out w1 (K13.out.trans (ka.trans k))).2.2.2.1, (HB.out w1 (K13.out.trans (ka.trans k))).2.2.2.2.1, (HB.out w1 (K13.out.trans (ka.trans k))).2.2.2.2.2.1, (HB.out w1 (K13.out.trans (ka.trans k))).2.2.2.2.2.2.1, (HB.out w1 (K13.out.trans (ka.trans k))).2.2.2.2.2.2.2.1, (HB.out w1 (K13.out.trans (ka.trans k))).2.2.2.2.2.2.2.2.1, (HB.out w1 (K13.out.trans (ka.trans k))).2.2.2.2.2.2.2.2.2.1, (HB.out w1 (K13.out.trans (ka.trans k))).2.2.2.2.2.2.2.2.2.2.1, (HB.out w1 (K13.out.trans (ka.trans k))).2.2.2.2.2.2.2.2.2.2.2.1, (HB.out w1 (K13.out.trans (ka.trans k))).2.2.2.2.2.2.2.2.2.2.2.2.1, (HB.out w1 (K13.out.trans (ka.trans k))).2.2.2.2.2.2.2.2.2.2.2.2.2.1, (HB.out w1 (K13.out.trans (ka.trans k))).2.2.2.2.2.2.2.2.2.2.2.2.2.2.1, (HB.out w1 (K13.out.trans (ka.trans k))).2.2.2.2.2.2.2.2.2.2.2.2.2.2.2.1, (HB.out w1 (K13.out.trans (ka.trans k))).2.2.2.2.2.2.2.2.2.2.2.2.2.2.2.2.1, (HB.out w1 (K13.out.trans (ka.trans k))).2.2.2.2.2.2.2.2.2.2.2.2.2.2.2.2.2.1, (HB.out w1 (K13.out.trans (ka.trans k))).2.2.2.2.2.2.2.2.2.2.2.2.2.2.2.2.2.2.1, (HB.out w1 (K13.out.trans (ka.trans k))).2.2.2.2.2.2.2.2.2.2.2.2.2.2.2.2.2.2.2.1, (HB.out w1 (K13.out.trans (ka.trans k))).2.2.2.2.2.2.2.2.2.2.2.2.2.2.2.2.2.2.2.2.1, (HB.out w1 (K13.out.trans (ka.trans k))).2.2.2.2.2.2.2.2.2.2.2.2.2.2.2.2.2.2.2.2.2.1, (HB.out w1 (K13.out.trans (ka.trans k))).2.2.2.2.2.2.2.2.2.2.2.2.2.2.2.2.2.2.2.2.2.2.1, (HB.out w1 (K13.out.trans (ka.trans k))).2.2.2.2.2.2.2.2.2.2.2.2.2.2.2.2.2.2.2.2.2.2.2, cell_up k q0, cell_up k q1, cell_up k q2, cell_up k q3, cell_up k q4, cell_up k q5, cell_up k q6, cell_up k q7⟩)
      have K01 := Lib.hid (K00.out.trans (K13.out.trans ka))
      have NTc := Lib.hid (NTb.out.kp (K13.out.trans ka))
      have NBc := Lib.hid (NBb.out.kp (K13.out.trans ka))
      have NOc := Lib.hid (NOb.out.kp (K13.out.trans ka))
      have NVc := Lib.hid (NVb.out.kp (K13.out.trans ka))
      clear HB K00 hgq c0 c1 c2 c3 c4 c5 c6 c7 c8 c9 c10 c11 c12 c13 c14 c15 c16 c17 c18 c19 c20 c21 c22 c23 q0 q1 q2 q3 q4 q5 q6 q7
      have HB := HB2
      have K00 := K01
      clear HB2 K01
      have K14 := Lib.hid (Kp.refl w14)
      have Hw14 := Lib.hid hV
      clear hV ka
      go_wp2_with fail
      rw [← Hw14.out]
      obtain ⟨c0, c1, c2, c3, c4, c5, c6, c7, c8, c9, c10, c11, c12, c13, c14, c15, c16, c17, c18, c19, c20, c21, c22, c23, c24, c25, c26, c27, c28, c29, c30, c31⟩ := HB.out w14 (Kp.refl _)
      have KS := Lib.hid (fun w' (kq : Kp w14 w') => show w'.cell? ⟨w2.heap.size, 0, none⟩ = some (.int .i64 2) ∧ w'.cell? ⟨w2.heap.size, 1, none⟩ = some (.int .i64 0) ∧ w'.cell? ⟨w2.heap.size, 2, none⟩ = some (.string ⟨#[]⟩) ∧ w'.cell? ⟨w2.heap.size, 3, none⟩ = some (.string ⟨#[]⟩) ∧ w'.cell? ⟨w2.heap.size, 4, none⟩ = some (.string ⟨#[]⟩) ∧ w'.cell? ⟨w2.heap.size, 5, none⟩ = some (.bool false) ∧ w'.cell? ⟨w2.heap.size, 6, none⟩ = some (.bool false) ∧ w'.cell? ⟨w2.heap.size, 7, none⟩ = some (.slice (some ⟨b0, o0, none⟩) l.length cal) ∧ w'.cell? ⟨w9.heap.size, 0, none⟩ = some (.int .i64 k0) ∧ w'.cell? ⟨w9.heap.size, 1, none⟩ = some (.int .i64 pk0) ∧ w'.cell? ⟨w9.heap.size, 2, none⟩ = some (.string y0) ∧ w'.cell? ⟨w9.heap.size, 3, none⟩ = some (.string m0) ∧ w'.cell? ⟨w9.heap.size, 4, none⟩ = some (.string s0) ∧ w'.cell? ⟨w9.heap.size, 5, none⟩ = some (.bool a0) ∧ w'.cell? ⟨w9.heap.size, 6, none⟩ = some (.bool t0) ∧ w'.cell? ⟨w9.heap.size, 7, none⟩ = some (.slice ad9 r0.length cp9) ∧ w'.cell? ⟨w11.heap.size, 0, none⟩ = some (.int .i64 2) ∧ w'.cell? ⟨w11.heap.size, 1, none⟩ = some (.int .i64 0) ∧ w'.cell? ⟨w11.heap.size, 2, none⟩ = some (.string ⟨#[]⟩) ∧ w'.cell? ⟨w11.heap.size, 3, none⟩ = some (.string ⟨#[]⟩) ∧ w'.cell? ⟨w11.heap.size, 4, none⟩ = some (.string ⟨#[]⟩) ∧ w'.cell? ⟨w11.heap.size, 5, none⟩ = some (.bool false) ∧ w'.cell? ⟨w11.heap.size, 6, none⟩ = some (.bool false) ∧ w'.cell? ⟨w11.heap.size, 7, none⟩ = some (.slice td8 (l.length + 1) tc8) ∧ w'.cell? ⟨w13.heap.size, 0, none⟩ = some (.int .i64 2) ∧ w'.cell? ⟨w13.heap.size, 1, none⟩ = some (.int .i64 0) ∧ w'.cell? ⟨w13.heap.size, 2, none⟩ = some (.string ⟨#[]⟩) ∧ w'.cell? ⟨w13.heap.size, 3, none⟩ = some (.string ⟨#[]⟩) ∧ w'.cell? ⟨w13.heap.size, 4, none⟩ = some (.string ⟨#[]⟩) ∧ w'.cell? ⟨w13.heap.size, 5, none⟩ = some (.bool false) ∧ w'.cell? ⟨w13.heap.size, 6, none⟩ = some (.bool false) ∧ w'.cell? ⟨w13.heap.size, 7, none⟩ = some (.slice oad l.length ocp) ∧ Kp w14 w' from ⟨(HB.out w' (K14.out.trans kq)).1, (HB.out w' (K14.out.trans kq)).2.1, (HB.out w' (K14.out.trans kq)).2.2.1, (HB.out w' (K14.out.trans kq)).2.2.2.1, (HB.out w' (K14.out.trans kq)).2.2.2.2.1, (HB.out w' (K14.out.trans kq)).2.2.2.2.2.1, (HB.out w' (K14.out.trans kq)).2.2.2.2.2.2.1, (HB.out w' (K14.out.trans kq)).2.2.2.2.2.2.2.1, (HB.out w' (K14.out.trans kq)).2.2.2.2.2.2.2.2.1, (HB.out w' (K14.out.trans kq)).2.2.2.2.2.2.2.2.2.1, (HB.out w' (K14.out.trans kq)).2.2.2.2.2.2.2.2.2.2.1, (HB.out w' (K14.out.trans kq)).2.2.2.2.2.2.2.2.2.2.2.1, (HB.out w' (K14.out.trans kq)).2.2.2.2.2.2.2.2.2.2.2.2.1, (HB.out w' (K14.out.trans kq)).2.2.2.2.2.2.2.2.2.2.2.2.2.1, (HB.out w' (K14.out.trans kq)).2.2.2.2.2.2.2.2.2.2.2.2.2.2.1, (HB.out w' (K14.out.trans kq)).2.2.2.2.2.2.2.2.2.2.2.2.2.2.2.1, (HB.out w' (K14.out.trans kq)).2.2.2.2.2.2.2.2.2.2.2.2.2.2.2.2.1, (HB.out w' (K14.out.trans kq)).2.2.2.2.2.2.2.2.2.2.2.2.2.2.2.2.2.1, (HB.out w' (K14.out.trans kq)).2.2.2.2.2.2.2.2.2.2.2.2.2.2.2.2.2.2.1, (HB.out w' (K14.out.trans kq)).2.2.2.2.2.2.2.2.2.2.2.2.2.2.2.2.2.2.2.1, (HB.out w' (K14.out.trans kq)).2.2.2.2.2.2.2.2.2.2.2.2.2.2.2.2.2.2.2.2.1, (HB.out w' (K14.out.trans kq)).2.2.2.2.2.2.2.2.2.2.2.2.2.2.2.2.2.2.2.2.2.1, (HB.out w' (K14.out.trans kq)).2.2.2.2.2.2.2.2.2.2.2.2.2.2.2.2.2.2.2.2.2.2.1, (HB.out w' (K14.out.trans kq)).2.2.2.2.2.2.2.2.2.2.2.2.2.2.2.2.2.2.2.2.2.2.2.1, (HB.out w' (K14.out.trans kq)).2.2.2.2.2.2.2.2.2.2.2.2.2.2.2.2.2.2.2.2.2.2.2.2.1, (HB.out w' (K14.out.trans kq)).2.2.2.2.2.2.2.2.2.2.2.2.2.2.2.2.2.2.2.2.2.2.2.2.2.1, (HB.out w' (K14.out.trans kq)).2.2.2.2.2.2.2.2.2.2.2.2.2.2.2.2.2.2.2.2.2.2.2.2.2.2.1, (HB.out w' (K14.out.trans kq)).2.2.2.2.2.2.2.2.2.2.2.2.2.2.2.2.2.2.2.2.2.2.2.2.2.2.2.1, (HB.out w' (K14.out.trans kq)).2.2.2.2.2.2.2.2.2.2.2.2.2.2.2.2.2.2.2.2.2.2.2.2.2.2.2.2.1, (HB.out w' (K14.out.trans kq)).2.2.2.2.2.2.2.2.2.2.2.2.2.2.2.2.2.2.2.2.2.2.2.2.2.2.2.2.2.1, (HB.out w' (K14.out.trans kq)).2.2.2.2.2.2.2.2.2.2.2.2.2.2.2.2.2.2.2.2.2.2.2.2.2.2.2.2.2.2.1, (HB.out w' (K14.out.trans kq)).2.2.2.2.2.2.2.2.2.2.2.2.2.2.2.2.2.2.2.2.2.2.2.2.2.2.2.2.2.2.2, kq⟩)
      go_wp2_with fail
      refine wp_region_held_drew (S := fun w' => w'.cell? ⟨w2.heap.size, 0, none⟩ = some (.int .i64 2) ∧ w'.cell? ⟨w2.heap.size, 1, none⟩ = some (.int .i64 0) ∧ w'.cell? ⟨w2.heap.size, 2, none⟩ = some (.string ⟨#[]⟩) ∧ w'.cell? ⟨w2.heap.size, 3, none⟩ = some (.string ⟨#[]⟩) ∧ w'.cell? ⟨w2.heap.size, 4, none⟩ = some (.string ⟨#[]⟩) ∧ w'.cell? ⟨w2.heap.size, 5, none⟩ = some (.bool false) ∧ w'.cell? ⟨w2.heap.size, 6, none⟩ = some (.bool false) ∧ w'.cell? ⟨w2.heap.size, 7, none⟩ = some (.slice (some ⟨b0, o0, none⟩) l.length cal) ∧ w'.cell? ⟨w9.heap.size, 0, none⟩ = some (.int .i64 k0) ∧ w'.cell? ⟨w9.heap.size, 1, none⟩ = some (.int .i64 pk0) ∧ w'.cell? ⟨w9.heap.size, 2, none⟩ = some (.string y0) ∧ w'.cell? ⟨w9.heap.size, 3, none⟩ = some (.string m0) ∧ w'.cell? ⟨w9.heap.size, 4, none⟩ = some (.string s0) ∧ w'.cell? ⟨w9.heap.size, 5, none⟩ = some (.bool a0) ∧ w'.cell? ⟨w9.heap.size, 6, none⟩ = some (.bool t0) ∧ w'.cell? ⟨w9.heap.size, 7, none⟩ = some (.slice ad9 r0.length cp9) ∧ w'.cell? ⟨w11.heap.size, 0, none⟩ = some (.int .i64 2) ∧ w'.cell? ⟨w11.heap.size, 1, none⟩ = some (.int .i64 0) ∧ w'.cell? ⟨w11.heap.size, 2, none⟩ = some (.string ⟨#[]⟩) ∧ w'.cell? ⟨w11.heap.size, 3, none⟩ = some (.string ⟨#[]⟩) ∧ w'.cell? ⟨w11.heap.size, 4, none⟩ = some (.string ⟨#[]⟩) ∧ w'.cell? ⟨w11.heap.size, 5, none⟩ = some (.bool false) ∧ w'.cell? ⟨w11.heap.size, 6, none⟩ = some (.bool false) ∧ w'.cell? ⟨w11.heap.size, 7, none⟩ = some (.slice td8 (l.length + 1) tc8) ∧ w'.cell? ⟨w13.heap.size, 0, none⟩ = some (.int .i64 2) ∧ w'.cell? ⟨w13.heap.size, 1, none⟩ = some (.int .i64 0) ∧ w'.cell? ⟨w13.heap.size, 2, none⟩ = some (.string ⟨#[]⟩) ∧ w'.cell? ⟨w13.heap.size, 3, none⟩ = some (.string ⟨#[]⟩) ∧ w'.cell? ⟨w13.heap.size, 4, none⟩ = some (.string ⟨#[]⟩) ∧ w'.cell? ⟨w13.heap.size, 5, none⟩ = some (.bool false) ∧ w'.cell? ⟨w13.heap.size, 6, none⟩ = some (.bool false) ∧ w'.cell? ⟨w13.heap.size, 7, none⟩ = some (.slice oad l.length ocp) ∧ Kp w14 w') (by kernel_rfl) ?_ (fun hHeld0 => ?_)
      · (try dsimp only); exact KS.out _ (by first | assumption | exact Kp.drew _)
      refine tkV (v := ?_) 0 orA0 ?_ ?_
      rotate_left
      · intro w hSw; (try dsimp only at hSw); go_simp; (try with_reducible rfl)
      (try simp only [Act.put, orA0, xA, xB, xC])
      refine tkV (v := ?_) 1 orA1 ?_ ?_
      rotate_left
      · intro w hSw; (try dsimp only at hSw); go_simp; (try with_reducible rfl)
      (try simp only [Act.put, orA1, xA, xB, xC])
      refine tkV (v := ?_) 2 orA2 ?_ ?_
      rotate_left
      · intro w hSw; (try dsimp only at hSw); go_simp; (try with_reducible rfl)
      (try simp only [Act.put, orA2, xA, xB, xC])
      refine tkV (v := ?_) 5 orA5 ?_ ?_
      rotate_left
      · intro w hSw; (try dsimp only at hSw); go_simp; (try with_reducible rfl)
      (try simp only [Act.put, orA5, xA, xB, xC])
      refine tkE 3 orA3 rfl (by kernel_rfl) (fun K hK => ?_)
      go_simp
      (refine (OB.out _ _ _).mono ?_; rintro e wp ⟨rfl, k1⟩; have k2 := Kp.trans (show Kp w14 _ from (by first | assumption | exact Kp.drew _)) k1; clear k1)
      (try go_wp2_with fail)
      refine hK.out _ _ ?_ (fun hHeld1 => ?_)
      · (try dsimp only); exact KS.out _ (by first | assumption | exact Kp.drew _)
      clear hK K hHeld0
      (try simp only [Act.put, orA3, xA, xB, xC])
      refine tkE 4 orA4 rfl (by kernel_rfl) (fun K hK => ?_)
      go_simp
      (refine (CB.out _ _ (NBc.out.kp (K14.out.trans (by first | assumption | exact Kp.drew _))) (K00.out.trans (K14.out.trans (by first | assumption | exact Kp.drew _)))).mono ?_; rintro e wq ⟨vq, rfl, hq, k1⟩; have NQ := Lib.hid hq; obtain ⟨adq, cpq, rfl⟩ := hq.slice; clear hq; have k2 := Kp.trans (show Kp w14 _ from (by first | assumption | exact Kp.drew _)) k1; clear k1)
      (try go_wp2_with fail)
      refine hK.out _ _ ?_ (fun hHeld2 => ?_)
      · (try dsimp only); exact KS.out _ (by first | assumption | exact Kp.drew _)
      clear hK K hHeld1
      (try simp only [Act.put, orA4, xA, xB, xC])
      refine tkE 6 orA6 rfl (by kernel_rfl) (fun K hK => ?_)
      go_simp
      (refine (SM.out _ _ _ (NQ.out.kp (by first | with_reducible exact Kp.refl _ | with_reducible exact Kp.alloc _ _ | with_reducible exact (Kp.alloc _ _).trans (Kp.alloc _ _) | with_reducible exact ((Kp.alloc _ _).trans (Kp.alloc _ _)).trans (Kp.alloc _ _) | with_reducible exact Kp.drew _ | with_reducible exact Kp.drewN _ _)) (NVc.out.kp (K14.out.trans (by first | assumption | exact Kp.drew _)))).mono ?_; rintro e ws ⟨rfl, k1⟩; have k2 := Kp.trans (show Kp w14 _ from (by first | assumption | exact Kp.drew _)) k1; clear k1)
      (try go_wp2_with fail)
      refine hK.out _ _ ?_ (fun hHeld3 => ?_)
      · (try dsimp only); exact KS.out _ (by first | assumption | exact Kp.drew _)
      clear hK K hHeld2
      (try simp only [Act.put, orA6, xA, xB, xC])
      refine tkV (v := ?_) 7 orA7 ?_ ?_
      rotate_left
      · intro w hSw; (try dsimp only at hSw); go_simp; (try with_reducible rfl)
      (try simp only [Act.put, orA7, xA, xB, xC])
      refine tkV (v := ?_) 8 orA8 ?_ ?_
      rotate_left
      · intro w hSw; (try dsimp only at hSw); go_simp; (try with_reducible rfl)
      (try simp only [Act.put, orA8, xA, xB, xC])
      refine tkV (v := ?_) 9 orA9 ?_ ?_
      rotate_left
      · intro w hSw; (try dsimp only at hSw); go_simp; (try with_reducible rfl)
      (try simp only [Act.put, orA9, xA, xB, xC])
      refine tkE 10 orA10 rfl (by kernel_rfl) (fun K hK => ?_)
      go_simp
      (refine (ST.out _ _ (NTc.out.kp (K14.out.trans (by first | assumption | exact Kp.drew _))) (K00.out.trans (K14.out.trans (by first | assumption | exact Kp.drew _)))).mono ?_; rintro e wt ⟨rfl, k1⟩; have k2 := Kp.trans (show Kp w14 _ from (by first | assumption | exact Kp.drew _)) k1; clear k1)
      (try go_wp2_with fail)
      refine hK.out _ _ ?_ (fun hHeld4 => ?_)
      · (try dsimp only); exact KS.out _ (by first | assumption | exact Kp.drew _)
      clear hK K hHeld3
      (try simp only [Act.put, orA10, xA, xB, xC])
      refine tkV (v := ?_) 11 orA11 ?_ ?_
      rotate_left
      · intro w hSw; (try dsimp only at hSw); go_simp; (try with_reducible rfl)
      (try simp only [Act.put, orA11, xA, xB, xC])
      refine tkV (v := ?_) 12 orA12 ?_ ?_
      rotate_left
      · intro w hSw; (try dsimp only at hSw); go_simp; (try with_reducible rfl)
      (try simp only [Act.put, orA12, xA, xB, xC])
      refine tkN 13 orA13 ?_
      (try simp only [Act.put, orA13, xA, xB, xC])
      refine tkN 14 orA14 ?_
      (try simp only [Act.put, orA14, xA, xB, xC])
      refine tkN 15 orA15 ?_
      (try simp only [Act.put, orA15, xA, xB, xC])
      refine tkN 16 orA16 ?_
      (try simp only [Act.put, orA16, xA, xB, xC])
      refine tkV (v := ?_) 17 orA17 ?_ ?_
      rotate_left
      · intro w hSw; (try dsimp only at hSw); go_simp; (try with_reducible rfl)
      (try simp only [Act.put, orA17, xA, xB, xC])
      refine tkV (v := ?_) 18 orA18 ?_ ?_
      rotate_left
      · intro w hSw; (try dsimp only at hSw); go_simp; (try with_reducible rfl)
      (try simp only [Act.put, orA18, xA, xB, xC])
      refine tkV (v := ?_) 19 orA19 ?_ ?_
      rotate_left
      · intro w hSw; (try dsimp only at hSw); go_simp; (try with_reducible rfl)
      (try simp only [Act.put, orA19, xA, xB, xC])
      refine tkV (v := ?_) 20 orA20 ?_ ?_
      rotate_left
      · intro w hSw; (try dsimp only at hSw); go_simp; (try with_reducible rfl)
      (try simp only [Act.put, orA20, xA, xB, xC])
      refine tkE 21 orA21 rfl (by kernel_rfl) (fun K hK => ?_)
      go_simp
      (refine (SO.out _ _ (NOc.out.kp (K14.out.trans (by first | assumption | exact Kp.drew _))) (K00.out.trans (K14.out.trans (by first | assumption | exact Kp.drew _)))).mono ?_; rintro e wx ⟨rfl, k1⟩; have k2 := Kp.trans (show Kp w14 _ from (by first | assumption | exact Kp.drew _)) k1; clear k1)
      (try go_wp2_with fail)
      refine hK.out _ _ ?_ (fun hHeld5 => ?_)
      · (try dsimp only); exact KS.out _ (by first | assumption | exact Kp.drew _)
      clear hK K hHeld4
      (try simp only [Act.put, orA21, xA, xB, xC])
      refine tkV (v := ?_) 22 orA22 ?_ ?_
      rotate_left
      · intro w hSw; (try dsimp only at hSw); go_simp; (try with_reducible rfl)
      (try simp only [Act.put, orA22, xA, xB, xC])
      refine tkV (v := ?_) 23 orA23 ?_ ?_
      rotate_left
      · intro w hSw; (try dsimp only at hSw); go_simp; (try with_reducible rfl)
      (try simp only [Act.put, orA23, xA, xB, xC])
      refine tkV (v := ?_) 24 orA24 ?_ ?_
      rotate_left
      · intro w hSw; (try dsimp only at hSw); go_simp; (try with_reducible rfl)
      (try simp only [Act.put, orA24, xA, xB, xC])
      refine tkV (v := ?_) 26 orA26 ?_ ?_
      rotate_left
      · intro w hSw; (try dsimp only at hSw); go_simp; (try with_reducible rfl)
      (try simp only [Act.put, orA26, xA, xB, xC])
      refine tkE 25 orA25 rfl (by kernel_rfl) (fun K hK => ?_)
      go_simp
      (refine (CU.out _ _ (NOc.out.kp (K14.out.trans (by first | assumption | exact Kp.drew _))) (K00.out.trans (K14.out.trans (by first | assumption | exact Kp.drew _)))).mono ?_; rintro e wy ⟨vy, rfl, hy, k1⟩; have NY := Lib.hid hy; obtain ⟨ady, cpy, rfl⟩ := hy.slice; clear hy; have k2 := Kp.trans (show Kp w14 _ from (by first | assumption | exact Kp.drew _)) k1; clear k1)
      (try go_wp2_with fail)
      refine hK.out _ _ ?_ (fun hHeld6 => ?_)
      · (try dsimp only); exact KS.out _ (by first | assumption | exact Kp.drew _)
      clear hK K hHeld5
      (try simp only [Act.put, orA25, xA, xB, xC])
      refine tkE 27 orA27 rfl (by kernel_rfl) (fun K hK => ?_)
      go_simp
      (refine (SM.out _ _ _ (NY.out.kp (by first | with_reducible exact Kp.refl _ | with_reducible exact Kp.alloc _ _ | with_reducible exact (Kp.alloc _ _).trans (Kp.alloc _ _) | with_reducible exact ((Kp.alloc _ _).trans (Kp.alloc _ _)).trans (Kp.alloc _ _) | with_reducible exact Kp.drew _ | with_reducible exact Kp.drewN _ _)) (NVc.out.kp (K14.out.trans (by first | assumption | exact Kp.drew _)))).mono ?_; rintro e wz ⟨rfl, k1⟩; have k2 := Kp.trans (show Kp w14 _ from (by first | assumption | exact Kp.drew _)) k1; clear k1)
      (try go_wp2_with fail)
      refine hK.out _ _ ?_ (fun hHeld7 => ?_)
      · (try dsimp only); exact KS.out _ (by first | assumption | exact Kp.drew _)
      clear hK K hHeld6
      (try simp only [Act.put, orA27, xA, xB, xC])
      refine tkV (v := ?_) 28 orA28 ?_ ?_
      rotate_left
      · intro w hSw; (try dsimp only at hSw); go_simp; (try with_reducible rfl)
      (try simp only [Act.put, orA28, xA, xB, xC])
      refine tkV (v := ?_) 29 orA29 ?_ ?_
      rotate_left
      · intro w hSw; (try dsimp only at hSw); go_simp; (try with_reducible rfl)
      (try simp only [Act.put, orA29, xA, xB, xC])
      refine tkV (v := ?_) 30 orA30 ?_ ?_
      rotate_left
      · intro w hSw; (try dsimp only at hSw); go_simp; (try with_reducible rfl)
      (try simp only [Act.put, orA30, xA, xB, xC])
      refine wpAnyH_done (by kernel_rfl) ?_ _
      go_wp2
      go_ret
      exact ⟨rfl, K00.out.trans (K14.out.trans k2)⟩
set_option maxHeartbeats 16000000 in
set_option maxRecDepth 100000 in
theorem corder_ff (vl : Value) (l : List ND) (w : World) (hl : NodesAt w vl l) (T : TabSH w) (h20 : l.length ≤ 20) (hf : fewG (orN l) = true) (hs : saneN saneP (orN l) = true) (ht : saneN saneP (orN (l ++ [nth l 0])) = false) (ho : saneN saneP (orN (l.reverse.map fun x => orN [x])) = false) :
    Calls Tryd.prog 5 #[vl] w fun e w' => e = .returned (.bool true) ∧ Kp w w' := by
  have AW := Lib.hid (fun w1 (kk : Kp w w1) => awake12 w1 (T.kp kk))
  have OO := Lib.hid (fun w1 => oneOf_any vl l w1 hl.slice)
  have FW := Lib.hid (fun w1 (kk : Kp w w1) => rfewG_any (orN l) vl w1 (hl.kp kk))
  have SN := Lib.hid (fun w1 (kk : Kp w w1) => tSaneG_any (orN l) vl w1 (hl.kp kk) (T.kp kk))
  have lm := hl.len
  unfold maxLen at lm
  have g1 : decide ((l.length : Int) > 20) = false := decide_eq_false (by omega)
  rw [hf] at FW
  rw [hs] at SN
  have l1 := (orN_len hs).1
  have CN := Lib.hid (fun w1 (kk : Kp w w1) => ccan_any (orN l) vl w1 (hl.kp kk) (T.kp kk))
  rw [canF_yes hs] at CN
  have CB := Lib.hid (fun v w1 (h : NodesAt w1 v l.reverse) (kk : Kp w w1) => show Calls Tryd.prog 11 #[ndV (orN l.reverse) v] w1 _ from ccan_any (orN l.reverse) v w1 h (T.kp kk))
  rw [orN_rev hs, canF_yes hs] at CB
  have ST := Lib.hid (fun v w1 (h : NodesAt w1 v (l ++ [nth l 0])) (kk : Kp w w1) => show Calls Tryd.prog 15 #[ndV (orN (l ++ [nth l 0])) v] w1 _ from tSaneG_any (orN (l ++ [nth l 0])) v w1 h (T.kp kk))
  rw [ht] at ST
  have SO := Lib.hid (fun v w1 (h : NodesAt w1 v (l.reverse.map fun x => orN [x])) (kk : Kp w w1) => show Calls Tryd.prog 15 #[ndV (orN (l.reverse.map fun x => orN [x])) v] w1 _ from tSaneG_any (orN (l.reverse.map fun x => orN [x])) v w1 h (T.kp kk))
  rw [ho] at SO
  have c64 : cntN (canN (orN l)) ≤ 64 := by rw [← canF_yes hs]; exact canF_cnt _
  have SM := Lib.hid (fun v u w1 (hv : NodesAt w1 v (canN (orN l)).l) (hu : NodesAt w1 u (canN (orN l)).l) => tSame_any (canN (orN l)) (canN (orN l)) v u w1 hv hu (by omega))
  rw [same_refl] at SM
  have OX := Lib.hid (fun x ad c w1 => oneOf_any (.slice ad 1 c) [x] w1 ⟨_, _, rfl⟩)
  have OB := Lib.hid (fun ad c w1 => oneOf_any (.slice ad l.length c) l.reverse w1 ⟨_, _, by rw [List.length_reverse]⟩)
  have OT := Lib.hid (fun ad c w1 => oneOf_any (.slice ad (l.length + 1) c) (l ++ [nth l 0]) w1 ⟨_, _, by rw [List.length_append]; rfl⟩)
  have OU := Lib.hid (fun ad c w1 => oneOf_any (.slice ad l.length c) (l.reverse.map fun x => orN [x]) w1 ⟨_, _, by rw [List.length_map, List.length_reverse]⟩)
  have RT := Lib.hid (fun j q (h : q + j + 1 = l.length) => rev_take (l := l) h)
  have TL := Lib.hid (show l.reverse.take l.length = l.reverse from by rw [List.take_of_length_le (by rw [List.length_reverse]; exact Nat.le_refl _)])
  have HLW := Lib.hid hl
  clear T hf c64
  generalize canN (orN l) = c0 at *
  obtain ⟨k0, pk0, y0, m0, s0, a0, t0, r0, rfl⟩ := nd_dest c0
  clear hs ht ho
  obtain ⟨adl, cal, rfl⟩ := hl.slice
  unfold orN pz ndV at *
  simp only [ND.k, ND.p, ND.a, ND.t, ND.l] at *
  obtain ⟨W0, hW⟩ : ∃ W0, W0 = w := ⟨_, rfl⟩
  subst hW
  have K00 := Lib.hid (Kp.refl W0)
  have K0 := Lib.hid (Kp.refl W0)
  have HB := Lib.hid True.intro
  go_enter Tryd.func5, Tryd.ntmps5
  go_wp2_with fail
  refine (AW.out _ (K00.out.trans (by first | with_reducible exact K0.out | with_reducible exact K0.out.trans (Kp.alloc _ _)))).mono ?_
  rintro e w1 ⟨rfl, kk⟩
  have K1 := Lib.hid ((show Kp W0 _ from (by first | with_reducible exact K0.out | with_reducible exact K0.out.trans (Kp.alloc _ _))).trans kk)
  clear kk
  go_wp2_with fail
  refine (OO.out _).mono ?_
  rintro e w2 ⟨rfl, kk⟩
  have K2 := Lib.hid ((show Kp W0 _ from (by first | with_reducible exact K1.out | with_reducible exact K1.out.trans (Kp.alloc _ _))).trans kk)
  clear kk
  obtain ⟨w3, hV⟩ : ∃ x, x = w2.alloc (.cells #[.int .i64 2, .int .i64 0, .string ⟨#[]⟩, .string ⟨#[]⟩, .string ⟨#[]⟩, .bool false, .bool false, .slice adl l.length cal] 26) := ⟨_, rfl⟩
  have ka : Kp w2 w3 := by rw [hV]; exact Kp.alloc _ _
  have hgq : w3.heap[w2.heap.size]? = some (.cells #[.int .i64 2, .int .i64 0, .string ⟨#[]⟩, .string ⟨#[]⟩, .string ⟨#[]⟩, .bool false, .bool false, .slice adl l.length cal] 26 (0, 0)) := by rw [hV]; exact heap_at _ _ _ rfl
  have q0 : w3.cell? ⟨w2.heap.size, 0, none⟩ = some (.int .i64 2) := by simp [World.cell?, hgq]
  have q1 : w3.cell? ⟨w2.heap.size, 1, none⟩ = some (.int .i64 0) := by simp [World.cell?, hgq]
  have q2 : w3.cell? ⟨w2.heap.size, 2, none⟩ = some (.string ⟨#[]⟩) := by simp [World.cell?, hgq]
  have q3 : w3.cell? ⟨w2.heap.size, 3, none⟩ = some (.string ⟨#[]⟩) := by simp [World.cell?, hgq]
  have q4 : w3.cell? ⟨w2.heap.size, 4, none⟩ = some (.string ⟨#[]⟩) := by simp [World.cell?, hgq]
  have q5 : w3.cell? ⟨w2.heap.size, 5, none⟩ = some (.bool false) := by simp [World.cell?, hgq]
  have q6 : w3.cell? ⟨w2.heap.size, 6, none⟩ = some (.bool false) := by simp [World.cell?, hgq]
  have q7 : w3.cell? ⟨w2.heap.size, 7, none⟩ = some (.slice adl l.length cal) := by simp [World.cell?, hgq]
  have HB2 := Lib.hid (fun w1 (k : Kp w3 w1) => show w1.cell? ⟨w2.heap.size, 0, none⟩ = some (.int .i64 2) ∧ w1.cell? ⟨w2.heap.size, 1, none⟩ = some (.int .i64 0) ∧ w1.cell? ⟨w2.heap.size, 2, none⟩ = some (.string ⟨#[]⟩) ∧ w1.cell? ⟨w2.heap.size, 3, none⟩ = some (.string ⟨#[]⟩) ∧ w1.cell? ⟨w2.heap.size, 4, none⟩ = some (.string ⟨#[]⟩) ∧ w1.cell? ⟨w2.heap.size, 5, none⟩ = some (.bool false) ∧ w1.cell? ⟨w2.heap.size, 6, none⟩ = some (.bool false) ∧ w1.cell? ⟨w2.heap.size, 7, none⟩ = some (.slice adl l.length cal) from ⟨cell_up k q0, cell_up k q1, cell_up k q2, cell_up k q3, cell_up k q4, cell_up k q5, cell_up k q6, cell_up k q7⟩)
  have K01 := Lib.hid (K00.out.trans (K2.out.trans ka))
  clear HB K00 hgq  q0 q1 q2 q3 q4 q5 q6 q7
  have HB := HB2
  have K00 := K01
  clear HB2 K01
  have K3 := Lib.hid (Kp.refl w3)
  have Hw3 := Lib.hid hV
  clear hV ka
  go_wp2_with fail
  rw [← Hw3.out]
  obtain ⟨c0, c1, c2, c3, c4, c5, c6, c7⟩ := HB.out w3 (Kp.refl _)
  go_wp2_with fail
  refine (FW.out _ (K00.out.trans (by first | with_reducible exact K3.out | with_reducible exact K3.out.trans (Kp.alloc _ _)))).mono ?_
  rintro e w4 ⟨rfl, kk⟩
  have K4 := Lib.hid ((show Kp w3 _ from (by first | with_reducible exact K3.out | with_reducible exact K3.out.trans (Kp.alloc _ _))).trans kk)
  clear kk
  clear c0 c1 c2 c3 c4 c5 c6 c7
  obtain ⟨c0, c1, c2, c3, c4, c5, c6, c7⟩ := HB.out w4 K4.out
  go_wp2_with fail
  refine (SN.out _ (K00.out.trans (by first | with_reducible exact K4.out | with_reducible exact K4.out.trans (Kp.alloc _ _)))).mono ?_
  rintro e w5 ⟨rfl, kk⟩
  have K5 := Lib.hid ((show Kp w3 _ from (by first | with_reducible exact K4.out | with_reducible exact K4.out.trans (Kp.alloc _ _))).trans kk)
  clear kk
  clear c0 c1 c2 c3 c4 c5 c6 c7
  obtain ⟨c0, c1, c2, c3, c4, c5, c6, c7⟩ := HB.out w5 K5.out
  obtain ⟨i0, hi, hz0, hz1, hz2⟩ := info_parts infoNode
  clear c0 c1 c2 c3 c4 c5 c6 c7
  have wl : IntKind.i64.wrap ((l.length : Int) - 1) = (l.length : Int) - 1 := by rw [IntKind.wrap_i64]; omega
  go_wp2
  go_loopw [5, 7, 8] (fun vb vo i ws => ∃ (x : Int) (j : Nat) (mb mo : List NV), x + (j : Int) + 1 = (l.length : Int) ∧ -1 ≤ x ∧ i = .int .i64 x ∧ Hid (mb.map Prod.fst = l.reverse.take j) ∧ Hid (mo.map Prod.fst = (l.reverse.take j).map fun x => orN [x]) ∧ Hid (TwoRows w5 ws vb vo mb mo)) (fun _ _ i _ => (intOf i + 1).toNat)
  case atStart => exact ⟨(l.length : Int) - 1, 0, [], [], by omega, by omega, by first | rfl | go_num, Lib.hid (by rw [List.take_zero]; rfl), Lib.hid (by rw [List.take_zero]; rfl), Lib.hid (TwoRows.none w5)⟩
  case round =>
    obtain ⟨x, j, mb, mo, hx, hx1, rfl, MB, MO, TR⟩ := hrel
    obtain ⟨bad, bcp, rfl⟩ := own_slice8 TR.out.back
    obtain ⟨oad, ocp, rfl⟩ := own_slice8 TR.out.ones
    have NB := Lib.hid (show mb.length = j by have a := congrArg List.length MB.out; rw [List.length_map, List.length_take, List.length_reverse] at a; omega)
    have NO := Lib.hid (show mo.length = j by have a := congrArg List.length MO.out; rw [List.length_map, List.length_map, List.length_take, List.length_reverse] at a; omega)
    by_cases hlt : 0 ≤ x
    · obtain ⟨q, rfl⟩ : ∃ q : Nat, x = q := ⟨x.toNat, by omega⟩
      have hq : q < l.length := by omega
      have hj : j < l.length := by omega
      have rt := RT.out j q (by omega)
      obtain ⟨bk, off, vi, eva, hrow, hsub⟩ := (HLW.out.kp (K00.out.trans K5.out)).get hq
      subst eva
      obtain ⟨x, hx2⟩ : ∃ x, nth l q = x := ⟨_, rfl⟩
      rw [hx2] at hrow hsub rt
      have RTH := Lib.hid rt
      clear rt hx2
      obtain ⟨k1, pk1, y1, m1, s1, a1, t1, l1', rfl⟩ := nd_dest x
      obtain ⟨ad1, cp1, rfl⟩ := hsub.slice
      have HS := Lib.hid (show NodesAt w5 (.slice ad1 l1'.length cp1) l1' from hsub)
      unfold RowN at hrow
      simp only [ND.k, ND.p, ND.a, ND.t, ND.l] at hrow hsub
      obtain ⟨n1, hn1⟩ : ∃ n, l1'.length = n := ⟨_, rfl⟩
      rw [hn1] at hrow HS
      clear hsub hn1
      have HROW := Lib.hid (fun w' (kk : Kp w5 w') => show w'.cell? ⟨bk, off + q * 8, none⟩ = some (.int .i64 k1) ∧ w'.cell? ⟨bk, off + q * 8 + 1, none⟩ = some (.int .i64 pk1) ∧ w'.cell? ⟨bk, off + q * 8 + 2, none⟩ = some (.string y1) ∧ w'.cell? ⟨bk, off + q * 8 + 3, none⟩ = some (.string m1) ∧ w'.cell? ⟨bk, off + q * 8 + 4, none⟩ = some (.string s1) ∧ w'.cell? ⟨bk, off + q * 8 + 5, none⟩ = some (.bool a1) ∧ w'.cell? ⟨bk, off + q * 8 + 6, none⟩ = some (.bool t1) ∧ w'.cell? ⟨bk, off + q * 8 + 7, none⟩ = some (.slice ad1 n1 cp1) from ⟨cell_up kk hrow.1, cell_up kk hrow.2.1, cell_up kk hrow.2.2.1, cell_up kk hrow.2.2.2.1, cell_up kk hrow.2.2.2.2.1, cell_up kk hrow.2.2.2.2.2.1, cell_up kk hrow.2.2.2.2.2.2.1, cell_up kk hrow.2.2.2.2.2.2.2⟩)
      obtain ⟨e0, e1, e2, e3, e4, e5, e6, e7⟩ := HROW.out wr TR.out.kp
      have T1 := Lib.hid (TR.out.go (Kp.alloc wr (.cells #[.int .i64 k1, .int .i64 pk1, .string y1, .string m1, .string s1, .bool a1, .bool t1, .slice ad1 n1 cp1] 26)))
      have SR1 := Lib.hid (one_srcN (w := wr) rfl (.mk k1 ⟨pk1, y1, m1, s1⟩ a1 t1 l1' : ND) (.slice ad1 n1 cp1) 26)
      simp only [ND.k, ND.p, ND.a, ND.t] at SR1
      have L1 := Lib.hid (cellsN_length [((.mk k1 ⟨pk1, y1, m1, s1⟩ a1 t1 l1' : ND), Value.slice ad1 n1 cp1)])
      have ONE1 := Lib.hid (cellsN_one (w := w5) (show ReadsN w5 [((.mk k1 ⟨pk1, y1, m1, s1⟩ a1 t1 l1' : ND), Value.slice ad1 n1 cp1)] from fun p hp => by rw [List.mem_singleton.1 hp]; exact HS.out))
      have z3 : (q : Int) < (l.length : Int) := by omega
      have z4 : (0 : Int) ≤ (q : Int) := by omega
      have wq : IntKind.i64.wrap ((q : Int) - 1) = (q : Int) - 1 := by rw [IntKind.wrap_i64]; omega
      have hbk := World.block_lt_of_cell? _ _ e0
      simp only at hbk
      clear hrow
      go_wp2_with (at_builtin; refine Hid.out ?_)
      refine Lib.hid ?_
      refine wpList_app rfl (.tmp 36) (.tmp 41) 24 rfl w5.heap.size 26 i0 (.agg #[.int .i64 0, .int .i64 0, .string ⟨#[]⟩, .string ⟨#[]⟩, .string ⟨#[]⟩, .bool false, .bool false, .slice none 0 0]) 8 96 Tryd.underlying24 hi hz0 hz1 hz2 rfl (by decide) _ _ _ rfl T1.out.back _ _ _ rfl SR1.out L1.out ONE1.out (by have a := NB.out; unfold maxLen; omega) (by have a := NB.out; omega) (Below.size T1.out.kp) ?_
      intro v1 w1 own1 grow1 at1
      have T2 := Lib.hid (T1.out.addBack HS.out own1 grow1 at1)
      obtain ⟨bd1, bc1, rfl⟩ := own_slice8 own1
      clear own1 grow1 at1 e0 e1 e2 e3 e4 e5 e6 e7 hbk
      obtain ⟨e0, e1, e2, e3, e4, e5, e6, e7⟩ := HROW.out w1 T2.out.kp
      have hbk := World.block_lt_of_cell? _ _ e0
      simp only at hbk
      go_wp2_with fail
      refine (OX.out (.mk k1 ⟨pk1, y1, m1, s1⟩ a1 t1 l1' : ND) _ _ _).mono ?_
      rintro e w2 ⟨rfl, kk⟩
      have k12 : Kp w1 w2 := (Kp.alloc _ _).trans kk
      have OI := Lib.hid (show OneIn w5 w2 (.mk k1 ⟨pk1, y1, m1, s1⟩ a1 t1 l1' : ND) (.slice (some ⟨w1.heap.size, 0, none⟩) 1 1) w1.heap.size from ⟨Below.size T2.out.kp, rfl, .slice ad1 n1 cp1, heap_block kk (heap_at _ _ _ rfl), HS.out⟩)
      have N1 := Lib.hid (show (Value.slice bd1 (mb.length + 1) bc1).ownBlock ≠ some w1.heap.size from fun e => by have := (T2.out.back.lt _ e).2; omega)
      have N2 := Lib.hid (show (Value.slice oad mo.length ocp).ownBlock ≠ some w1.heap.size from fun e => by have := (T2.out.ones.lt _ e).2; omega)
      have T3 := Lib.hid (T2.out.go (k12.trans (Kp.alloc w2 (.cells #[.int .i64 2, .int .i64 0, .string ⟨#[]⟩, .string ⟨#[]⟩, .string ⟨#[]⟩, .bool false, .bool false, .slice (some ⟨w1.heap.size, 0, none⟩) 1 1] 26))))
      have OI3 := Lib.hid (OI.out.kp (Kp.alloc w2 (.cells #[.int .i64 2, .int .i64 0, .string ⟨#[]⟩, .string ⟨#[]⟩, .string ⟨#[]⟩, .bool false, .bool false, .slice (some ⟨w1.heap.size, 0, none⟩) 1 1] 26)))
      have SR3 := Lib.hid (one_srcN (w := w2) rfl (orN [(.mk k1 ⟨pk1, y1, m1, s1⟩ a1 t1 l1' : ND)]) (.slice (some ⟨w1.heap.size, 0, none⟩) 1 1) 26)
      (try simp only [orN, pz, ND.k, ND.p, ND.a, ND.t] at SR3)
      have L3 := Lib.hid (cellsN_length [(orN [(.mk k1 ⟨pk1, y1, m1, s1⟩ a1 t1 l1' : ND)], Value.slice (some ⟨w1.heap.size, 0, none⟩) 1 1)])
      have ONE3 := Lib.hid (cellsN_one (w := w2) (show ReadsN w2 [(orN [(.mk k1 ⟨pk1, y1, m1, s1⟩ a1 t1 l1' : ND)], Value.slice (some ⟨w1.heap.size, 0, none⟩) 1 1)] from fun p hp => by rw [List.mem_singleton.1 hp]; exact OI.out.nodes (T2.out.kp.trans k12)))
      clear kk k12 e0 e1 e2 e3 e4 e5 e6 e7 hbk
      go_wp2_with (at_builtin; refine Hid.out ?_)
      refine Lib.hid ?_
      refine wpList_app rfl (.tmp 43) (.tmp 50) 24 rfl w5.heap.size 26 i0 (.agg #[.int .i64 0, .int .i64 0, .string ⟨#[]⟩, .string ⟨#[]⟩, .string ⟨#[]⟩, .bool false, .bool false, .slice none 0 0]) 8 96 Tryd.underlying24 hi hz0 hz1 hz2 rfl (by decide) _ _ _ rfl T3.out.ones _ _ _ rfl SR3.out L3.out ONE3.out (by have a := NO.out; unfold maxLen; omega) (by have a := NO.out; omega) (Below.size T3.out.kp) ?_
      intro v4 w4 own4 grow4 at4
      have T4 := Lib.hid (T3.out.addOne OI3.out N1.out N2.out own4 grow4 at4)
      obtain ⟨od4, oc4, rfl⟩ := own_slice8 own4
      clear own4 grow4 at4
      go_wp2
      go_roundw
      case rel => exact ⟨(q : Int) - 1, j + 1, _, _, by omega, by omega, by first | rfl | go_num, Lib.hid (by rw [List.map_append, MB.out, RTH.out]; rfl), Lib.hid (by rw [List.map_append, MO.out, RTH.out, List.map_append]; rfl), T4⟩
      case measure => simp [intOf] <;> omega
    · obtain rfl : x = -1 := by omega
      obtain rfl : j = l.length := by omega
      have nd := TR.out.nodes
      rw [MB.out, MO.out, TL.out] at nd
      have NBK := Lib.hid nd.1
      have NON := Lib.hid nd.2
      have KR := Lib.hid (K5.out.trans TR.out.kp)
      rw [NB.out, NO.out]
      rw [NB.out] at NBK
      rw [NO.out] at NON
      clear nd
      have HLR := Lib.hid (HLW.out.kp (K00.out.trans KR.out))
      obtain ⟨msl, hml, hrl, hsl⟩ := HLR.out.src
      have ML := Lib.hid hml
      have RL := Lib.hid hrl
      have NLL := Lib.hid (show msl.length = l.length by rw [← hml, List.length_map])
      have SRL := Lib.hid (hsl wr (Kp.refl _))
      have LL := Lib.hid (show (cellsN msl).length = l.length * 8 by rw [cellsN_length, ← hml, List.length_map])
      have ONEL := Lib.hid (cellsN_one hrl)
      have ON0 := Lib.hid (World.ownsRow_nil wr wr.heap.size 26 8)
      obtain ⟨b0, o0, v0, ev0, hrow, hsub⟩ := HLR.out.get (i := 0) l1
      subst ev0
      have z9 : (0 : Int) < (l.length : Int) := by omega
      have z8 : 0 < l.length := l1
      clear hml hrl hsl
      generalize nth l 0 = x at *
      obtain ⟨k1, pk1, y1, m1, s1, a1, t1, l1', rfl⟩ := nd_dest x
      obtain ⟨ad1, cp1, rfl⟩ := hsub.slice
      have HS0 := Lib.hid (show NodesAt wr (.slice ad1 l1'.length cp1) l1' from hsub)
      unfold RowN at hrow
      simp only [ND.k, ND.p, ND.a, ND.t, ND.l, Nat.zero_mul, Nat.add_zero] at hrow
      obtain ⟨n1, hn1⟩ : ∃ n, l1'.length = n := ⟨_, rfl⟩
      rw [hn1] at hrow HS0
      have HROW := Lib.hid (fun w' (kk : Kp wr w') => show w'.cell? ⟨b0, o0, none⟩ = some (.int .i64 k1) ∧ w'.cell? ⟨b0, o0 + 1, none⟩ = some (.int .i64 pk1) ∧ w'.cell? ⟨b0, o0 + 2, none⟩ = some (.string y1) ∧ w'.cell? ⟨b0, o0 + 3, none⟩ = some (.string m1) ∧ w'.cell? ⟨b0, o0 + 4, none⟩ = some (.string s1) ∧ w'.cell? ⟨b0, o0 + 5, none⟩ = some (.bool a1) ∧ w'.cell? ⟨b0, o0 + 6, none⟩ = some (.bool t1) ∧ w'.cell? ⟨b0, o0 + 7, none⟩ = some (.slice ad1 n1 cp1) from ⟨cell_up kk hrow.1, cell_up kk hrow.2.1, cell_up kk hrow.2.2.1, cell_up kk hrow.2.2.2.1, cell_up kk hrow.2.2.2.2.1, cell_up kk hrow.2.2.2.2.2.1, cell_up kk hrow.2.2.2.2.2.2.1, cell_up kk hrow.2.2.2.2.2.2.2⟩)
      clear hrow hsub hn1
      go_wp2_with (at_builtin; refine Hid.out ?_)
      refine Lib.hid ?_
      refine wpList_app rfl (.tmp 52) (.tmp 53) 24 rfl wr.heap.size 26 i0 (.agg #[.int .i64 0, .int .i64 0, .string ⟨#[]⟩, .string ⟨#[]⟩, .string ⟨#[]⟩, .bool false, .bool false, .slice none 0 0]) 8 96 Tryd.underlying24 hi hz0 hz1 hz2 rfl (by decide) _ _ _ rfl ON0.out _ _ _ rfl SRL.out LL.out ONEL.out (by  unfold maxLen; omega) (by  omega) (Nat.le_refl _) ?_
      intro v6 w6 own6 grow6 at6
      have KA := Lib.hid ((Kp.refl wr).grown grow6 (fun j hj => by cases hj))
      obtain ⟨td6, tc6, rfl⟩ := own_slice8 own6
      simp only [Nat.zero_add, List.nil_append] at own6
      rw [Nat.zero_add]
      have O6 := Lib.hid own6
      clear own6 grow6 at6
      obtain ⟨e0, e1, e2, e3, e4, e5, e6, e7⟩ := HROW.out w6 KA.out
      have hbk := World.block_lt_of_cell? _ _ e0
      simp only at hbk
      have SR7 := Lib.hid (one_srcN (w := w6) rfl (.mk k1 ⟨pk1, y1, m1, s1⟩ a1 t1 l1' : ND) (.slice ad1 n1 cp1) 26)
      simp only [ND.k, ND.p, ND.a, ND.t] at SR7
      have L7 := Lib.hid (cellsN_length [((.mk k1 ⟨pk1, y1, m1, s1⟩ a1 t1 l1' : ND), Value.slice ad1 n1 cp1)])
      have R7 := Lib.hid (show ReadsN wr [((.mk k1 ⟨pk1, y1, m1, s1⟩ a1 t1 l1' : ND), Value.slice ad1 n1 cp1)] from fun p hp => by rw [List.mem_singleton.1 hp]; exact HS0.out)
      have ONE7 := Lib.hid (cellsN_one R7.out)
      have K7A := Lib.hid (KA.out.trans (Kp.alloc w6 (.cells #[.int .i64 k1, .int .i64 pk1, .string y1, .string m1, .string s1, .bool a1, .bool t1, .slice ad1 n1 cp1] 26)))
      have O7 := Lib.hid (own_kp O6.out (Kp.alloc w6 (.cells #[.int .i64 k1, .int .i64 pk1, .string y1, .string m1, .string s1, .bool a1, .bool t1, .slice ad1 n1 cp1] 26)))
      go_wp2_with (at_builtin; refine Hid.out ?_)
      refine Lib.hid ?_
      refine wpList_app rfl (.tmp 55) (.tmp 59) 24 rfl wr.heap.size 26 i0 (.agg #[.int .i64 0, .int .i64 0, .string ⟨#[]⟩, .string ⟨#[]⟩, .string ⟨#[]⟩, .bool false, .bool false, .slice none 0 0]) 8 96 Tryd.underlying24 hi hz0 hz1 hz2 rfl (by decide) _ _ _ rfl O7.out _ _ _ rfl SR7.out L7.out ONE7.out (by  unfold maxLen; omega) (by  omega) (Below.size K7A.out) ?_
      intro v8 w8 own8 grow8 at8
      have KB := Lib.hid (K7A.out.grown grow8 (fun j hj => (O7.out.lt j hj).1))
      have tw := nodesAt_own (m := msl ++ [((.mk k1 ⟨pk1, y1, m1, s1⟩ a1 t1 l1' : ND), Value.slice ad1 n1 cp1)]) (by rw [List.length_append, cellsN_append, NLL.out]; exact own8) ((RL.out.append R7.out).kp KB.out)
      rw [List.map_append, ML.out] at tw
      obtain ⟨td8, tc8, rfl⟩ := own_slice8 own8
      have NTW := Lib.hid (show NodesAt w8 (.slice td8 (l.length + 1) tc8) (l ++ [(.mk k1 ⟨pk1, y1, m1, s1⟩ a1 t1 l1' : ND)]) from tw)
      have NB8 := Lib.hid (NBK.out.kp KB.out)
      have NO8 := Lib.hid (NON.out.kp KB.out)
      have K8 := Lib.hid (KR.out.trans KB.out)
      clear tw own8 grow8 at8 e0 e1 e2 e3 e4 e5 e6 e7 hbk
      obtain ⟨c0, c1, c2, c3, c4, c5, c6, c7⟩ := HB.out w8 K8.out
      go_wp2_with fail
      refine (CN.out _ (K00.out.trans K8.out)).mono ?_
      rintro e w9 ⟨v9, rfl, hn9, kk⟩
      have K9 := Lib.hid (K8.out.trans kk)
      have NT9 := Lib.hid (NTW.out.kp kk)
      have NB9 := Lib.hid (NB8.out.kp kk)
      have NO9 := Lib.hid (NO8.out.kp kk)
      have NV9 := Lib.hid hn9
      obtain ⟨ad9, cp9, rfl⟩ := hn9.slice
      clear kk hn9 c0 c1 c2 c3 c4 c5 c6 c7
      obtain ⟨c0, c1, c2, c3, c4, c5, c6, c7⟩ := HB.out w9 K9.out
      obtain ⟨w10, hV⟩ : ∃ x, x = w9.alloc (.cells #[.int .i64 k0, .int .i64 pk0, .string y0, .string m0, .string s0, .bool a0, .bool t0, .slice ad9 r0.length cp9] 26) := ⟨_, rfl⟩
      have ka : Kp w9 w10 := by rw [hV]; exact Kp.alloc _ _
      have hgq : w10.heap[w9.heap.size]? = some (.cells #[.int .i64 k0, .int .i64 pk0, .string y0, .string m0, .string s0, .bool a0, .bool t0, .slice ad9 r0.length cp9] 26 (0, 0)) := by rw [hV]; exact heap_at _ _ _ rfl
      have q0 : w10.cell? ⟨w9.heap.size, 0, none⟩ = some (.int .i64 k0) := by simp [World.cell?, hgq]
      have q1 : w10.cell? ⟨w9.heap.size, 1, none⟩ = some (.int .i64 pk0) := by simp [World.cell?, hgq]
      have q2 : w10.cell? ⟨w9.heap.size, 2, none⟩ = some (.string y0) := by simp [World.cell?, hgq]
      have q3 : w10.cell? ⟨w9.heap.size, 3, none⟩ = some (.string m0) := by simp [World.cell?, hgq]
      have q4 : w10.cell? ⟨w9.heap.size, 4, none⟩ = some (.string s0) := by simp [World.cell?, hgq]
      have q5 : w10.cell? ⟨w9.heap.size, 5, none⟩ = some (.bool a0) := by simp [World.cell?, hgq]
      have q6 : w10.cell? ⟨w9.heap.size, 6, none⟩ = some (.bool t0) := by simp [World.cell?, hgq]
      have q7 : w10.cell? ⟨w9.heap.size, 7, none⟩ = some (.slice ad9 r0.length cp9) := by simp [World.cell?, hgq]
      have HB2 := Lib.hid (fun w1 (k : Kp w10 w1) => show w1.cell? ⟨w2.heap.size, 0, none⟩ = some (.int .i64 2) ∧ w1.cell? ⟨w2.heap.size, 1, none⟩ = some (.int .i64 0) ∧ w1.cell? ⟨w2.heap.size, 2, none⟩ = some (.string ⟨#[]⟩) ∧ w1.cell? ⟨w2.heap.size, 3, none⟩ = some (.string ⟨#[]⟩) ∧ w1.cell? ⟨w2.heap.size, 4, none⟩ = some (.string ⟨#[]⟩) ∧ w1.cell? ⟨w2.heap.size, 5, none⟩ = some (.bool false) ∧ w1.cell? ⟨w2.heap.size, 6, none⟩ = some (.bool false) ∧ w1.cell? ⟨w2.heap.size, 7, none⟩ = some (.slice (some ⟨b0, o0, none⟩) l.length cal) ∧ w1.cell? ⟨w9.heap.size, 0, none⟩ = some (.int .i64 k0) ∧ w1.cell? ⟨w9.heap.size, 1, none⟩ = some (.int .i64 pk0) ∧ w1.cell? ⟨w9.heap.size, 2, none⟩ = some (.string y0) ∧ w1.cell? ⟨w9.heap.size, 3, none⟩ = some (.string m0) ∧ w1.cell? ⟨w9.heap.size, 4, none⟩ = some (.string s0) ∧ w1.cell? ⟨w9.heap.size, 5, none⟩ = some (.bool a0) ∧ w1.cell? ⟨w9.heap.size, 6, none⟩ = some (.bool t0) ∧ w1.cell? ⟨w9.heap.size, 7, none⟩ = some (.slice ad9 r0.length cp9) from ⟨(HB.out w1 (K9.out.trans (ka.trans k))).1, (HB.out w1 (K9.out.trans (ka.trans k))).2.1, (HB.out w1 (K9.out.trans (ka.trans k))).2.2.1, (HB.out w1 (K9.out.trans (ka.trans k))).2.2.2.1, (HB.out w1 (K9.out.trans (ka.trans k))).2.2.2.2.1, (HB.out w1 (K9.out.trans (ka.trans k))).2.2.2.2.2.1, (HB.out w1 (K9.out.trans (ka.trans k))).2.2.2.2.2.2.1, (HB.out w1 (K9.out.trans (ka.trans k))).2.2.2.2.2.2.2, cell_up k q0, cell_up k q1, cell_up k q2, cell_up k q3, cell_up k q4, cell_up k q5, cell_up k q6, cell_up k q7⟩)
      have K01 := Lib.hid (K00.out.trans (K9.out.trans ka))
      have NTa := Lib.hid (NT9.out.kp ka)
      have NBa := Lib.hid (NB9.out.kp ka)
      have NOa := Lib.hid (NO9.out.kp ka)
      have NVa := Lib.hid (NV9.out.kp ka)
      clear HB K00 hgq c0 c1 c2 c3 c4 c5 c6 c7 q0 q1 q2 q3 q4 q5 q6 q7
      have HB := HB2
      have K00 := K01
      clear HB2 K01
      have K10 := Lib.hid (Kp.refl w10)
      have Hw10 := Lib.hid hV
      clear hV ka
      go_wp2_with fail
      rw [← Hw10.out]
      obtain ⟨c0, c1, c2, c3, c4, c5, c6, c7, c8, c9, c10, c11, c12, c13, c14, c15⟩ := HB.out w10 (Kp.refl _)
      go_wp2_with fail
      refine (OT.out _ _ _).mono ?_
      rintro e w11 ⟨rfl, kk⟩
      have K11 := Lib.hid ((show Kp w10 _ from (by first | with_reducible exact K10.out | with_reducible exact K10.out.trans (Kp.alloc _ _))).trans kk)
      clear kk
      clear c0 c1 c2 c3 c4 c5 c6 c7 c8 c9 c10 c11 c12 c13 c14 c15
      obtain ⟨c0, c1, c2, c3, c4, c5, c6, c7, c8, c9, c10, c11, c12, c13, c14, c15⟩ := HB.out w11 K11.out
      obtain ⟨w12, hV⟩ : ∃ x, x = w11.alloc (.cells #[.int .i64 2, .int .i64 0, .string ⟨#[]⟩, .string ⟨#[]⟩, .string ⟨#[]⟩, .bool false, .bool false, .slice td8 (l.length + 1) tc8] 26) := ⟨_, rfl⟩
      have ka : Kp w11 w12 := by rw [hV]; exact Kp.alloc _ _
      have hgq : w12.heap[w11.heap.size]? = some (.cells #[.int .i64 2, .int .i64 0, .string ⟨#[]⟩, .string ⟨#[]⟩, .string ⟨#[]⟩, .bool false, .bool false, .slice td8 (l.length + 1) tc8] 26 (0, 0)) := by rw [hV]; exact heap_at _ _ _ rfl
      have q0 : w12.cell? ⟨w11.heap.size, 0, none⟩ = some (.int .i64 2) := by simp [World.cell?, hgq]
      have q1 : w12.cell? ⟨w11.heap.size, 1, none⟩ = some (.int .i64 0) := by simp [World.cell?, hgq]
      have q2 : w12.cell? ⟨w11.heap.size, 2, none⟩ = some (.string ⟨#[]⟩) := by simp [World.cell?, hgq]
      have q3 : w12.cell? ⟨w11.heap.size, 3, none⟩ = some (.string ⟨#[]⟩) := by simp [World.cell?, hgq]
      have q4 : w12.cell? ⟨w11.heap.size, 4, none⟩ = some (.string ⟨#[]⟩) := by simp [World.cell?, hgq]
      have q5 : w12.cell? ⟨w11.heap.size, 5, none⟩ = some (.bool false) := by simp [World.cell?, hgq]
      have q6 : w12.cell? ⟨w11.heap.size, 6, none⟩ = some (.bool false) := by simp [World.cell?, hgq]
      have q7 : w12.cell? ⟨w11.heap.size, 7, none⟩ = some (.slice td8 (l.length + 1) tc8) := by simp [World.cell?, hgq]
      have HB2 := Lib.hid (fun w1 (k : Kp w12 w1) => show w1.cell? ⟨w2.heap.size, 0, none⟩ = some (.int .i64 2) ∧ w1.cell? ⟨w2.heap.size, 1, none⟩ = some (.int .i64 0) ∧ w1.cell? ⟨w2.heap.size, 2, none⟩ = some (.string ⟨#[]⟩) ∧ w1.cell? ⟨w2.heap.size, 3, none⟩ = some (.string ⟨#[]⟩) ∧ w1.cell? ⟨w2.heap.size, 4, none⟩ = some (.string ⟨#[]⟩) ∧ w1.cell? ⟨w2.heap.size, 5, none⟩ = some (.bool false) ∧ w1.cell? ⟨w2.heap.size, 6, none⟩ = some (.bool false) ∧ w1.cell? ⟨w2.heap.size, 7, none⟩ = some (.slice (some ⟨b0, o0, none⟩) l.length cal) ∧ w1.cell? ⟨w9.heap.size, 0, none⟩ = some (.int .i64 k0) ∧ w1.cell? ⟨w9.heap.size, 1, none⟩ = some (.int .i64 pk0) ∧ w1.cell? ⟨w9.heap.size, 2, none⟩ = some (.string y0) ∧ w1.cell? ⟨w9.heap.size, 3, none⟩ = some (.string m0) ∧ w1.cell? ⟨w9.heap.size, 4, none⟩ = some (.string s0) ∧ w1.cell? ⟨w9.heap.size, 5, none⟩ = some (.bool a0) ∧ w1.cell? ⟨w9.heap.size, 6, none⟩ = some (.bool t0) ∧ w1.cell? ⟨w9.heap.size, 7, none⟩ = some (.slice ad9 r0.length cp9) ∧ w1.cell? ⟨w11.heap.size, 0, none⟩ = some (.int .i64 2) ∧ w1.cell? ⟨w11.heap.size, 1, none⟩ = some (.int .i64 0) ∧ w1.cell? ⟨w11.heap.size, 2, none⟩ = some (.string ⟨#[]⟩) ∧ w1.cell? ⟨w11.heap.size, 3, none⟩ = some (.string ⟨#[]⟩) ∧ w1.cell? ⟨w11.heap.size, 4, none⟩ = some (.string ⟨#[]⟩) ∧ w1.cell? ⟨w11.heap.size, 5, none⟩ = some (.bool false) ∧ w1.cell? ⟨w11.heap.size, 6, none⟩ = some (.bool false) ∧ w1.cell? ⟨w11.heap.size, 7, none⟩ = some (.slice td8 (l.length + 1) tc8) from ⟨(HB.out w1 (K11.out.trans (ka.trans k))).1, (HB.out w1 (K11.out.trans (ka.trans k))).2.1, (HB.out w1 (K11.out.trans (ka.trans k))).2.2.1, (HB.out w1 (K11.out.trans (ka.trans k))).2.2.2.1, (HB.out w1 (K11.out.trans (ka.trans k))).2.2.2.2.1, (HB.out w1 (K11.out.trans (ka.trans k))).2.2.2.2.2.1, (HB.out w1 (K11.out.trans (ka.trans k))).2.2.2.2.2.2.1, (HB.out w1 (K11.out.trans (ka.trans k))).2.2.2.2.2.2.2.1, (HB.out w1 (K11.out.trans (ka.trans k))).2.2.2.2.2.2.2.2.1, (HB.out w1 (K11.out.trans (ka.trans k))).2.2.2.2.2.2.2.2.2.1, (HB.out w1 (K11.out.trans (ka.trans k))).2.2.2.2.2.2.2.2.2.2.1, (HB.out w1 (K11.out.trans (ka.trans k))).2.2.2.2.2.2.2.2.2.2.2.1, (HB.out w1 (K11.out.trans (ka.trans k))).2.2.2.2.2.2.2.2.2.2.2.2.1, (HB.out w1 (K11.out.trans (ka.trans k))).2.2.2.2.2.2.2.2.2.2.2.2.2.1, (HB.out w1 (K11.out.trans (ka.trans k))).2.2.2.2.2.2.2.2.2.2.2.2.2.2.1, (HB.out w1 (K11.out.trans (ka.trans k))).2.2.2.2.2.2.2.2.2.2.2.2.2.2.2, cell_up k q0, cell_up k q1, cell_up k q2, cell_up k q3, cell_up k q4, cell_up k q5, cell_up k q6, cell_up k q7⟩)
      have K01 := Lib.hid (K00.out.trans (K11.out.trans ka))
      have NTb := Lib.hid (NTa.out.kp (K11.out.trans ka))
      have NBb := Lib.hid (NBa.out.kp (K11.out.trans ka))
      have NOb := Lib.hid (NOa.out.kp (K11.out.trans ka))
      have NVb := Lib.hid (NVa.out.kp (K11.out.trans ka))
      clear HB K00 hgq c0 c1 c2 c3 c4 c5 c6 c7 c8 c9 c10 c11 c12 c13 c14 c15 q0 q1 q2 q3 q4 q5 q6 q7
      have HB := HB2
      have K00 := K01
      clear HB2 K01
      have K12 := Lib.hid (Kp.refl w12)
      have Hw12 := Lib.hid hV
      clear hV ka
      go_wp2_with fail
      rw [← Hw12.out]
      obtain ⟨c0, c1, c2, c3, c4, c5, c6, c7, c8, c9, c10, c11, c12, c13, c14, c15, c16, c17, c18, c19, c20, c21, c22, c23⟩ := HB.out w12 (Kp.refl _)
      go_wp2_with fail
      refine (OU.out _ _ _).mono ?_
      rintro e w13 ⟨rfl, kk⟩
      have K13 := Lib.hid ((show Kp w12 _ from (by first | with_reducible exact K12.out | with_reducible exact K12.out.trans (Kp.alloc _ _))).trans kk)
      clear kk
      clear c0 c1 c2 c3 c4 c5 c6 c7 c8 c9 c10 c11 c12 c13 c14 c15 c16 c17 c18 c19 c20 c21 c22 c23
      obtain ⟨c0, c1, c2, c3, c4, c5, c6, c7, c8, c9, c10, c11, c12, c13, c14, c15, c16, c17, c18, c19, c20, c21, c22, c23⟩ := HB.out w13 K13.out
      obtain ⟨w14, hV⟩ : ∃ x, x = w13.alloc (.cells #[.int .i64 2, .int .i64 0, .string ⟨#[]⟩, .string ⟨#[]⟩, .string ⟨#[]⟩, .bool false, .bool false, .slice oad l.length ocp] 26) := ⟨_, rfl⟩
      have ka : Kp w13 w14 := by rw [hV]; exact Kp.alloc _ _
      have hgq : w14.heap[w13.heap.size]? = some (.cells #[.int .i64 2, .int .i64 0, .string ⟨#[]⟩, .string ⟨#[]⟩, .string ⟨#[]⟩, .bool false, .bool false, .slice oad l.length ocp] 26 (0, 0)) := by rw [hV]; exact heap_at _ _ _ rfl
      have q0 : w14.cell? ⟨w13.heap.size, 0, none⟩ = some (.int .i64 2) := by simp [World.cell?, hgq]
      have q1 : w14.cell? ⟨w13.heap.size, 1, none⟩ = some (.int .i64 0) := by simp [World.cell?, hgq]
      have q2 : w14.cell? ⟨w13.heap.size, 2, none⟩ = some (.string ⟨#[]⟩) := by simp [World.cell?, hgq]
      have q3 : w14.cell? ⟨w13.heap.size, 3, none⟩ = some (.string ⟨#[]⟩) := by simp [World.cell?, hgq]
      have q4 : w14.cell? ⟨w13.heap.size, 4, none⟩ = some (.string ⟨#[]⟩) := by simp [World.cell?, hgq]
      have q5 : w14.cell? ⟨w13.heap.size, 5, none⟩ = some (.bool false) := by simp [World.cell?, hgq]
      have q6 : w14.cell? ⟨w13.heap.size, 6, none⟩ = some (.bool false) := by simp [World.cell?, hgq]
      have q7 : w14.cell? ⟨w13.heap.size, 7, none⟩ = some (.slice oad l.length ocp) := by simp [World.cell?, hgq]
      have HB2 := Lib.hid (fun w1 (k : Kp w14 w1) => show w1.cell? ⟨w2.heap.size, 0, none⟩ = some (.int .i64 2) ∧ w1.cell? ⟨w2.heap.size, 1, none⟩ = some (.int .i64 0) ∧ w1.cell? ⟨w2.heap.size, 2, none⟩ = some (.string ⟨#[]⟩) ∧ w1.cell? ⟨w2.heap.size, 3, none⟩ = some (.string ⟨#[]⟩) ∧ w1.cell? ⟨w2.heap.size, 4, none⟩ = some (.string ⟨#[]⟩) ∧ w1.cell? ⟨w2.heap.size, 5, none⟩ = some (.bool false) ∧ w1.cell? ⟨w2.heap.size, 6, none⟩ = some (.bool false) ∧ w1.cell? ⟨w2.heap.size, 7, none⟩ = some (.slice (some ⟨b0, o0, none⟩) l.length cal) ∧ w1.cell? ⟨w9.heap.size, 0, none⟩ = some (.int .i64 k0) ∧ w1.cell? ⟨w9.heap.size, 1, none⟩ = some (.int .i64 pk0) ∧ w1.cell? ⟨w9.heap.size, 2, none⟩ = some (.string y0) ∧ w1.cell? ⟨w9.heap.size, 3, none⟩ = some (.string m0) ∧ w1.cell? ⟨w9.heap.size, 4, none⟩ = some (.string s0) ∧ w1.cell? ⟨w9.heap.size, 5, none⟩ = some (.bool a0) ∧ w1.cell? ⟨w9.heap.size, 6, none⟩ = some (.bool t0) ∧ w1.cell? ⟨w9.heap.size, 7, none⟩ = some (.slice ad9 r0.length cp9) ∧ w1.cell? ⟨w11.heap.size, 0, none⟩ = some (.int .i64 2) ∧ w1.cell? ⟨w11.heap.size, 1, none⟩ = some (.int .i64 0) ∧ w1.cell? ⟨w11.heap.size, 2, none⟩ = some (.string ⟨#[]⟩) ∧ w1.cell? ⟨w11.heap.size, 3, none⟩ = some (.string ⟨#[]⟩) ∧ w1.cell? ⟨w11.heap.size, 4, none⟩ = some (.string ⟨#[]⟩) ∧ w1.cell? ⟨w11.heap.size, 5, none⟩ = some (.bool false) ∧ w1.cell? ⟨w11.heap.size, 6, none⟩ = some (.bool false) ∧ w1.cell? ⟨w11.heap.size, 7, none⟩ = some (.slice td8 (l.length + 1) tc8) ∧ w1.cell? ⟨w13.heap.size, 0, none⟩ = some (.int .i64 2) ∧ w1.cell? ⟨w13.heap.size, 1, none⟩ = some (.int .i64 0) ∧ w1.cell? ⟨w13.heap.size, 2, none⟩ = some (.string ⟨#[]⟩) ∧ w1.cell? ⟨w13.heap.size, 3, none⟩ = some (.string ⟨#[]⟩) ∧ w1.cell? ⟨w13.heap.size, 4, none⟩ = some (.string ⟨#[]⟩) ∧ w1.cell? ⟨w13.heap.size, 5, none⟩ = some (.bool false) ∧ w1.cell? ⟨w13.heap.size, 6, none⟩ = some (.bool false) ∧ w1.cell? ⟨w13.heap.size, 7, none⟩ = some (.slice oad l.length ocp) from ⟨(HB.out w1 (K13.out.trans (ka.trans k))).1, (HB.out w1 (K13.out.trans (ka.trans k))).2.1, (HB.out w1 (K13.out.trans (ka.trans k))).2.2.1, (HB.out w1 (K13.out.trans (ka.trans k))).2.2.2.1, (HB.out w1 (K13.out.trans (ka.trans k))).2.2.2.2.1, (HB.out w1 (K13.out.trans (ka.trans k))).2.2.2.2.2.1, (HB.out w1 (K13.out.trans (ka.trans k))).2.2.2.2.2.2.1, (HB.out w1 (K13.out.trans (ka.trans k))).2.2.2.2.2.2.2.1, (HB.out w1 (K13.out.trans (ka.trans k))).2.2.2.2.2.2.2.2.1, (HB.out w1 (K13.out.trans (ka.trans k))).2.2.2.2.2.2.2.2.2.1, (HB.out w1 (K13.out.trans (ka.trans k))).2.2.2.2.2.2.2.2.2.2.1, (HB.out w1 (K13.out.trans (ka.trans k))).2.2.2.2.2.2.2.2.2.2.2.1, (HB.out w1 (K13.out.trans (ka.trans k))).2.2.2.2.2.2.2.2.2.2.2.2.1, (HB.out w1 (K13.out.trans (ka.trans k))).2.2.2.2.2.2.2.2.2.2.2.2.2.1, (HB.out w1 (K13.out.trans (ka.trans k))).2.2.2.2.2.2.2.2.2.2.2.2.2.2.1, (HB.out w1 (K13.out.trans (ka.trans k))).2.2.2.2.2.2.2.2.2.2.2.2.2.2.2.1, (HB.out w1 (K13.out.trans (ka.trans k))).2.2.2.2.2.2.2.2.2.2.2.2.2.2.2.2.1, (HB.out w1 (K13.out.trans (ka.trans k))).2.2.2.2.2.2.2.2.2.2.2.2.2.2.2.2.2.1, (HB.out w1 (K13.out.trans (ka.trans k))).2.2.2.2.2.2.2.2.2.2.2.2.2.2.2.2.2.2.1, (HB.out w1 (K13.out.trans (ka.trans k))).2.2.2.2.2.2.2.2.2.2.2.2.2.2.2.2.2.2.2.1, (HB.out w1 (K13.out.trans (ka.trans k))).2.2.2.2.2.2.2.2.2.2.2.2.2.2.2.2.2.2.2.2.1, (HB.out w1 (K13.out.trans (ka.trans k))).2.2.2.2.2.2.2.2.2.2.2.2.2.2.2.2.2.2.2.2.2.1, (HB.out w1 (K13.out.trans (ka.trans k))).2.2.2.2.2.2.2.2.2.2.2.2.2.2.2.2.2.2.2.2.2.2.1, (HB.out w1 (K13.out.trans (ka.trans k))).2.2.2.2.2.2.2.2.2.2.2.2.2.2.2.2.2.2.2.2.2.2.2, cell_up k q0, cell_up k q1, cell_up k q2, cell_up k q3, cell_up k q4, cell_up k q5, cell_up k q6, cell_up k q7⟩)
      have K01 := Lib.hid (K00.out.trans (K13.out.trans ka))
      have NTc := Lib.hid (NTb.out.kp (K13.out.trans ka))
      have NBc := Lib.hid (NBb.out.kp (K13.out.trans ka))
      have NOc := Lib.hid (NOb.out.kp (K13.out.trans ka))
      have NVc := Lib.hid (NVb.out.kp (K13.out.trans ka))
      clear HB K00 hgq c0 c1 c2 c3 c4 c5 c6 c7 c8 c9 c10 c11 c12 c13 c14 c15 c16 c17 c18 c19 c20 c21 c22 c23 q0 q1 q2 q3 q4 q5 q6 q7
      have HB := HB2
      have K00 := K01
      clear HB2 K01
      have K14 := Lib.hid (Kp.refl w14)
      have Hw14 := Lib.hid hV
      clear hV ka
      go_wp2_with fail
      rw [← Hw14.out]
      obtain ⟨c0, c1, c2, c3, c4, c5, c6, c7, c8, c9, c10, c11, c12, c13, c14, c15, c16, c17, c18, c19, c20, c21, c22, c23, c24, c25, c26, c27, c28, c29, c30, c31⟩ := HB.out w14 (Kp.refl _)
      have KS := Lib.hid (fun w' (kq : Kp w14 w') => show w'.cell? ⟨w2.heap.size, 0, none⟩ = some (.int .i64 2) ∧ w'.cell? ⟨w2.heap.size, 1, none⟩ = some (.int .i64 0) ∧ w'.cell? ⟨w2.heap.size, 2, none⟩ = some (.string ⟨#[]⟩) ∧ w'.cell? ⟨w2.heap.size, 3, none⟩ = some (.string ⟨#[]⟩) ∧ w'.cell? ⟨w2.heap.size, 4, none⟩ = some (.string ⟨#[]⟩) ∧ w'.cell? ⟨w2.heap.size, 5, none⟩ = some (.bool false) ∧ w'.cell? ⟨w2.heap.size, 6, none⟩ = some (.bool false) ∧ w'.cell? ⟨w2.heap.size, 7, none⟩ = some (.slice (some ⟨b0, o0, none⟩) l.length cal) ∧ w'.cell? ⟨w9.heap.size, 0, none⟩ = some (.int .i64 k0) ∧ w'.cell? ⟨w9.heap.size, 1, none⟩ = some (.int .i64 pk0) ∧ w'.cell? ⟨w9.heap.size, 2, none⟩ = some (.string y0) ∧ w'.cell? ⟨w9.heap.size, 3, none⟩ = some (.string m0) ∧ w'.cell? ⟨w9.heap.size, 4, none⟩ = some (.string s0) ∧ w'.cell? ⟨w9.heap.size, 5, none⟩ = some (.bool a0) ∧ w'.cell? ⟨w9.heap.size, 6, none⟩ = some (.bool t0) ∧ w'.cell? ⟨w9.heap.size, 7, none⟩ = some (.slice ad9 r0.length cp9) ∧ w'.cell? ⟨w11.heap.size, 0, none⟩ = some (.int .i64 2) ∧ w'.cell? ⟨w11.heap.size, 1, none⟩ = some (.int .i64 0) ∧ w'.cell? ⟨w11.heap.size, 2, none⟩ = some (.string ⟨#[]⟩) ∧ w'.cell? ⟨w11.heap.size, 3, none⟩ = some (.string ⟨#[]⟩) ∧ w'.cell? ⟨w11.heap.size, 4, none⟩ = some (.string ⟨#[]⟩) ∧ w'.cell? ⟨w11.heap.size, 5, none⟩ = some (.bool false) ∧ w'.cell? ⟨w11.heap.size, 6, none⟩ = some (.bool false) ∧ w'.cell? ⟨w11.heap.size, 7, none⟩ = some (.slice td8 (l.length + 1) tc8) ∧ w'.cell? ⟨w13.heap.size, 0, none⟩ = some (.int .i64 2) ∧ w'.cell? ⟨w13.heap.size, 1, none⟩ = some (.int .i64 0) ∧ w'.cell? ⟨w13.heap.size, 2, none⟩ = some (.string ⟨#[]⟩) ∧ w'.cell? ⟨w13.heap.size, 3, none⟩ = some (.string ⟨#[]⟩) ∧ w'.cell? ⟨w13.heap.size, 4, none⟩ = some (.string ⟨#[]⟩) ∧ w'.cell? ⟨w13.heap.size, 5, none⟩ = some (.bool false) ∧ w'.cell? ⟨w13.heap.size, 6, none⟩ = some (.bool false) ∧ w'.cell? ⟨w13.heap.size, 7, none⟩ = some (.slice oad l.length ocp) ∧ Kp w14 w' from ⟨(HB.out w' (K14.out.trans kq)).1, (HB.out w' (K14.out.trans kq)).2.1, (HB.out w' (K14.out.trans kq)).2.2.1, (HB.out w' (K14.out.trans kq)).2.2.2.1, (HB.out w' (K14.out.trans kq)).2.2.2.2.1, (HB.out w' (K14.out.trans kq)).2.2.2.2.2.1, (HB.out w' (K14.out.trans kq)).2.2.2.2.2.2.1, (HB.out w' (K14.out.trans kq)).2.2.2.2.2.2.2.1, (HB.out w' (K14.out.trans kq)).2.2.2.2.2.2.2.2.1, (HB.out w' (K14.out.trans kq)).2.2.2.2.2.2.2.2.2.1, (HB.out w' (K14.out.trans kq)).2.2.2.2.2.2.2.2.2.2.1, (HB.out w' (K14.out.trans kq)).2.2.2.2.2.2.2.2.2.2.2.1, (HB.out w' (K14.out.trans kq)).2.2.2.2.2.2.2.2.2.2.2.2.1, (HB.out w' (K14.out.trans kq)).2.2.2.2.2.2.2.2.2.2.2.2.2.1, (HB.out w' (K14.out.trans kq)).2.2.2.2.2.2.2.2.2.2.2.2.2.2.1, (HB.out w' (K14.out.trans kq)).2.2.2.2.2.2.2.2.2.2.2.2.2.2.2.1, (HB.out w' (K14.out.trans kq)).2.2.2.2.2.2.2.2.2.2.2.2.2.2.2.2.1, (HB.out w' (K14.out.trans kq)).2.2.2.2.2.2.2.2.2.2.2.2.2.2.2.2.2.1, (HB.out w' (K14.out.trans kq)).2.2.2.2.2.2.2.2.2.2.2.2.2.2.2.2.2.2.1, (HB.out w' (K14.out.trans kq)).2.2.2.2.2.2.2.2.2.2.2.2.2.2.2.2.2.2.2.1, (HB.out w' (K14.out.trans kq)).2.2.2.2.2.2.2.2.2.2.2.2.2.2.2.2.2.2.2.2.1, (HB.out w' (K14.out.trans kq)).2.2.2.2.2.2.2.2.2.2.2.2.2.2.2.2.2.2.2.2.2.1, (HB.out w' (K14.out.trans kq)).2.2.2.2.2.2.2.2.2.2.2.2.2.2.2.2.2.2.2.2.2.2.1, (HB.out w' (K14.out.trans kq)).2.2.2.2.2.2.2.2.2.2.2.2.2.2.2.2.2.2.2.2.2.2.2.1, (HB.out w' (K14.out.trans kq)).2.2.2.2.2.2.2.2.2.2.2.2.2.2.2.2.2.2.2.2.2.2.2.2.1, (HB.out w' (K14.out.trans kq)).2.2.2.2.2.2.2.2.2.2.2.2.2.2.2.2.2.2.2.2.2.2.2.2.2.1, (HB.out w' (K14.out.trans kq)).2.2.2.2.2.2.2.2.2.2.2.2.2.2.2.2.2.2.2.2.2.2.2.2.2.2.1, (HB.out w' (K14.out.trans kq)).2.2.2.2.2.2.2.2.2.2.2.2.2.2.2.2.2.2.2.2.2.2.2.2.2.2.2.1, (HB.out w' (K14.out.trans kq)).2.2.2.2.2.2.2.2.2.2.2.2.2.2.2.2.2.2.2.2.2.2.2.2.2.2.2.2.1, (HB.out w' (K14.out.trans kq)).2.2.2.2.2.2.2.2.2.2.2.2.2.2.2.2.2.2.2.2.2.2.2.2.2.2.2.2.2.1, (HB.out w' (K14.out.trans kq)).2.2.2.2.2.2.2.2.2.2.2.2.2.2.2.2.2.2.2.2.2.2.2.2.2.2.2.2.2.2.1, (HB.out w' (K14.out.trans kq)).2.2.2.2.2.2.2.2.2.2.2.2.2.2.2.2.2.2.2.2.2.2.2.2.2.2.2.2.2.2.2, kq⟩)
      go_wp2_with fail
      refine wp_region_held_drew (S := fun w' => w'.cell? ⟨w2.heap.size, 0, none⟩ = some (.int .i64 2) ∧ w'.cell? ⟨w2.heap.size, 1, none⟩ = some (.int .i64 0) ∧ w'.cell? ⟨w2.heap.size, 2, none⟩ = some (.string ⟨#[]⟩) ∧ w'.cell? ⟨w2.heap.size, 3, none⟩ = some (.string ⟨#[]⟩) ∧ w'.cell? ⟨w2.heap.size, 4, none⟩ = some (.string ⟨#[]⟩) ∧ w'.cell? ⟨w2.heap.size, 5, none⟩ = some (.bool false) ∧ w'.cell? ⟨w2.heap.size, 6, none⟩ = some (.bool false) ∧ w'.cell? ⟨w2.heap.size, 7, none⟩ = some (.slice (some ⟨b0, o0, none⟩) l.length cal) ∧ w'.cell? ⟨w9.heap.size, 0, none⟩ = some (.int .i64 k0) ∧ w'.cell? ⟨w9.heap.size, 1, none⟩ = some (.int .i64 pk0) ∧ w'.cell? ⟨w9.heap.size, 2, none⟩ = some (.string y0) ∧ w'.cell? ⟨w9.heap.size, 3, none⟩ = some (.string m0) ∧ w'.cell? ⟨w9.heap.size, 4, none⟩ = some (.string s0) ∧ w'.cell? ⟨w9.heap.size, 5, none⟩ = some (.bool a0) ∧ w'.cell? ⟨w9.heap.size, 6, none⟩ = some (.bool t0) ∧ w'.cell? ⟨w9.heap.size, 7, none⟩ = some (.slice ad9 r0.length cp9) ∧ w'.cell? ⟨w11.heap.size, 0, none⟩ = some (.int .i64 2) ∧ w'.cell? ⟨w11.heap.size, 1, none⟩ = some (.int .i64 0) ∧ w'.cell? ⟨w11.heap.size, 2, none⟩ = some (.string ⟨#[]⟩) ∧ w'.cell? ⟨w11.heap.size, 3, none⟩ = some (.string ⟨#[]⟩) ∧ w'.cell? ⟨w11.heap.size, 4, none⟩ = some (.string ⟨#[]⟩) ∧ w'.cell? ⟨w11.heap.size, 5, none⟩ = some (.bool false) ∧ w'.cell? ⟨w11.heap.size, 6, none⟩ = some (.bool false) ∧ w'.cell? ⟨w11.heap.size, 7, none⟩ = some (.slice td8 (l.length + 1) tc8) ∧ w'.cell? ⟨w13.heap.size, 0, none⟩ = some (.int .i64 2) ∧ w'.cell? ⟨w13.heap.size, 1, none⟩ = some (.int .i64 0) ∧ w'.cell? ⟨w13.heap.size, 2, none⟩ = some (.string ⟨#[]⟩) ∧ w'.cell? ⟨w13.heap.size, 3, none⟩ = some (.string ⟨#[]⟩) ∧ w'.cell? ⟨w13.heap.size, 4, none⟩ = some (.string ⟨#[]⟩) ∧ w'.cell? ⟨w13.heap.size, 5, none⟩ = some (.bool false) ∧ w'.cell? ⟨w13.heap.size, 6, none⟩ = some (.bool false) ∧ w'.cell? ⟨w13.heap.size, 7, none⟩ = some (.slice oad l.length ocp) ∧ Kp w14 w') (by kernel_rfl) ?_ (fun hHeld0 => ?_)
      · (try dsimp only); exact KS.out _ (by first | assumption | exact Kp.drew _)
      refine tkV (v := ?_) 0 orA0 ?_ ?_
      rotate_left
      · intro w hSw; (try dsimp only at hSw); go_simp; (try with_reducible rfl)
      (try simp only [Act.put, orA0, xA, xB, xC])
      refine tkV (v := ?_) 1 orA1 ?_ ?_
      rotate_left
      · intro w hSw; (try dsimp only at hSw); go_simp; (try with_reducible rfl)
      (try simp only [Act.put, orA1, xA, xB, xC])
      refine tkV (v := ?_) 2 orA2 ?_ ?_
      rotate_left
      · intro w hSw; (try dsimp only at hSw); go_simp; (try with_reducible rfl)
      (try simp only [Act.put, orA2, xA, xB, xC])
      refine tkV (v := ?_) 5 orA5 ?_ ?_
      rotate_left
      · intro w hSw; (try dsimp only at hSw); go_simp; (try with_reducible rfl)
      (try simp only [Act.put, orA5, xA, xB, xC])
      refine tkE 3 orA3 rfl (by kernel_rfl) (fun K hK => ?_)
      go_simp
      (refine (OB.out _ _ _).mono ?_; rintro e wp ⟨rfl, k1⟩; have k2 := Kp.trans (show Kp w14 _ from (by first | assumption | exact Kp.drew _)) k1; clear k1)
      (try go_wp2_with fail)
      refine hK.out _ _ ?_ (fun hHeld1 => ?_)
      · (try dsimp only); exact KS.out _ (by first | assumption | exact Kp.drew _)
      clear hK K hHeld0
      (try simp only [Act.put, orA3, xA, xB, xC])
      refine tkE 4 orA4 rfl (by kernel_rfl) (fun K hK => ?_)
      go_simp
      (refine (CB.out _ _ (NBc.out.kp (K14.out.trans (by first | assumption | exact Kp.drew _))) (K00.out.trans (K14.out.trans (by first | assumption | exact Kp.drew _)))).mono ?_; rintro e wq ⟨vq, rfl, hq, k1⟩; have NQ := Lib.hid hq; obtain ⟨adq, cpq, rfl⟩ := hq.slice; clear hq; have k2 := Kp.trans (show Kp w14 _ from (by first | assumption | exact Kp.drew _)) k1; clear k1)
      (try go_wp2_with fail)
      refine hK.out _ _ ?_ (fun hHeld2 => ?_)
      · (try dsimp only); exact KS.out _ (by first | assumption | exact Kp.drew _)
      clear hK K hHeld1
      (try simp only [Act.put, orA4, xA, xB, xC])
      refine tkE 6 orA6 rfl (by kernel_rfl) (fun K hK => ?_)
      go_simp
      (refine (SM.out _ _ _ (NQ.out.kp (by first | with_reducible exact Kp.refl _ | with_reducible exact Kp.alloc _ _ | with_reducible exact (Kp.alloc _ _).trans (Kp.alloc _ _) | with_reducible exact ((Kp.alloc _ _).trans (Kp.alloc _ _)).trans (Kp.alloc _ _) | with_reducible exact Kp.drew _ | with_reducible exact Kp.drewN _ _)) (NVc.out.kp (K14.out.trans (by first | assumption | exact Kp.drew _)))).mono ?_; rintro e ws ⟨rfl, k1⟩; have k2 := Kp.trans (show Kp w14 _ from (by first | assumption | exact Kp.drew _)) k1; clear k1)
      (try go_wp2_with fail)
      refine hK.out _ _ ?_ (fun hHeld3 => ?_)
      · (try dsimp only); exact KS.out _ (by first | assumption | exact Kp.drew _)
      clear hK K hHeld2
      (try simp only [Act.put, orA6, xA, xB, xC])
      refine tkV (v := ?_) 7 orA7 ?_ ?_
      rotate_left
      · intro w hSw; (try dsimp only at hSw); go_simp; (try with_reducible rfl)
      (try simp only [Act.put, orA7, xA, xB, xC])
      refine tkV (v := ?_) 8 orA8 ?_ ?_
      rotate_left
      · intro w hSw; (try dsimp only at hSw); go_simp; (try with_reducible rfl)
      (try simp only [Act.put, orA8, xA, xB, xC])
      refine tkV (v := ?_) 9 orA9 ?_ ?_
      rotate_left
      · intro w hSw; (try dsimp only at hSw); go_simp; (try with_reducible rfl)
      (try simp only [Act.put, orA9, xA, xB, xC])
      refine tkE 10 orA10 rfl (by kernel_rfl) (fun K hK => ?_)
      go_simp
      (refine (ST.out _ _ (NTc.out.kp (K14.out.trans (by first | assumption | exact Kp.drew _))) (K00.out.trans (K14.out.trans (by first | assumption | exact Kp.drew _)))).mono ?_; rintro e wt ⟨rfl, k1⟩; have k2 := Kp.trans (show Kp w14 _ from (by first | assumption | exact Kp.drew _)) k1; clear k1)
      (try go_wp2_with fail)
      refine hK.out _ _ ?_ (fun hHeld4 => ?_)
      · (try dsimp only); exact KS.out _ (by first | assumption | exact Kp.drew _)
      clear hK K hHeld3
      (try simp only [Act.put, orA10, xA, xB, xC])
      refine tkV (v := ?_) 11 orA11 ?_ ?_
      rotate_left
      · intro w hSw; (try dsimp only at hSw); go_simp; (try with_reducible rfl)
      (try simp only [Act.put, orA11, xA, xB, xC])
      refine tkV (v := ?_) 12 orA12 ?_ ?_
      rotate_left
      · intro w hSw; (try dsimp only at hSw); go_simp; (try with_reducible rfl)
      (try simp only [Act.put, orA12, xA, xB, xC])
      refine tkN 13 orA13 ?_
      (try simp only [Act.put, orA13, xA, xB, xC])
      refine tkN 14 orA14 ?_
      (try simp only [Act.put, orA14, xA, xB, xC])
      refine tkN 15 orA15 ?_
      (try simp only [Act.put, orA15, xA, xB, xC])
      refine tkN 16 orA16 ?_
      (try simp only [Act.put, orA16, xA, xB, xC])
      refine tkV (v := ?_) 17 orA17 ?_ ?_
      rotate_left
      · intro w hSw; (try dsimp only at hSw); go_simp; (try with_reducible rfl)
      (try simp only [Act.put, orA17, xA, xB, xC])
      refine tkV (v := ?_) 18 orA18 ?_ ?_
      rotate_left
      · intro w hSw; (try dsimp only at hSw); go_simp; (try with_reducible rfl)
      (try simp only [Act.put, orA18, xA, xB, xC])
      refine tkV (v := ?_) 19 orA19 ?_ ?_
      rotate_left
      · intro w hSw; (try dsimp only at hSw); go_simp; (try with_reducible rfl)
      (try simp only [Act.put, orA19, xA, xB, xC])
      refine tkV (v := ?_) 20 orA20 ?_ ?_
      rotate_left
      · intro w hSw; (try dsimp only at hSw); go_simp; (try with_reducible rfl)
      (try simp only [Act.put, orA20, xA, xB, xC])
      refine tkE 21 orA21 rfl (by kernel_rfl) (fun K hK => ?_)
      go_simp
      (refine (SO.out _ _ (NOc.out.kp (K14.out.trans (by first | assumption | exact Kp.drew _))) (K00.out.trans (K14.out.trans (by first | assumption | exact Kp.drew _)))).mono ?_; rintro e wx ⟨rfl, k1⟩; have k2 := Kp.trans (show Kp w14 _ from (by first | assumption | exact Kp.drew _)) k1; clear k1)
      (try go_wp2_with fail)
      refine hK.out _ _ ?_ (fun hHeld5 => ?_)
      · (try dsimp only); exact KS.out _ (by first | assumption | exact Kp.drew _)
      clear hK K hHeld4
      (try simp only [Act.put, orA21, xA, xB, xC])
      refine tkV (v := ?_) 22 orA22 ?_ ?_
      rotate_left
      · intro w hSw; (try dsimp only at hSw); go_simp; (try with_reducible rfl)
      (try simp only [Act.put, orA22, xA, xB, xC])
      refine tkV (v := ?_) 23 orA23 ?_ ?_
      rotate_left
      · intro w hSw; (try dsimp only at hSw); go_simp; (try with_reducible rfl)
      (try simp only [Act.put, orA23, xA, xB, xC])
      refine tkN 24 orA24 ?_
      (try simp only [Act.put, orA24, xA, xB, xC])
      refine tkN 25 orA25 ?_
      (try simp only [Act.put, orA25, xA, xB, xC])
      refine tkN 26 orA26 ?_
      (try simp only [Act.put, orA26, xA, xB, xC])
      refine tkN 27 orA27 ?_
      (try simp only [Act.put, orA27, xA, xB, xC])
      refine tkV (v := ?_) 28 orA28 ?_ ?_
      rotate_left
      · intro w hSw; (try dsimp only at hSw); go_simp; (try with_reducible rfl)
      (try simp only [Act.put, orA28, xA, xB, xC])
      refine tkV (v := ?_) 29 orA29 ?_ ?_
      rotate_left
      · intro w hSw; (try dsimp only at hSw); go_simp; (try with_reducible rfl)
      (try simp only [Act.put, orA29, xA, xB, xC])
      refine tkV (v := ?_) 30 orA30 ?_ ?_
      rotate_left
      · intro w hSw; (try dsimp only at hSw); go_simp; (try with_reducible rfl)
      (try simp only [Act.put, orA30, xA, xB, xC])
      refine wpAnyH_done (by kernel_rfl) ?_ _
      go_wp2
      go_ret
      exact ⟨rfl, K00.out.trans (K14.out.trans k2)⟩
theorem corder_walk (vl : Value) (l : List ND) (w : World) (hl : NodesAt w vl l) (T : TabSH w) :
    Calls Tryd.prog 5 #[vl] w fun e w' => e = .returned (.bool true) ∧ Kp w w' := by
  by_cases h20 : l.length ≤ 20
  · rcases Bool.eq_false_or_eq_true (fewG (orN l)) with hf | hf
    · rcases Bool.eq_false_or_eq_true (saneN saneP (orN l)) with hs | hs
      · rcases Bool.eq_false_or_eq_true (saneN saneP (orN (l ++ [nth l 0]))) with ht | ht <;> rcases Bool.eq_false_or_eq_true (saneN saneP (orN (l.reverse.map fun x => orN [x]))) with ho | ho
        · exact corder_tt vl l w hl T h20 hf hs ht ho
        · exact corder_tf vl l w hl T h20 hf hs ht ho
        · exact corder_ft vl l w hl T h20 hf hs ht ho
        · exact corder_ff vl l w hl T h20 hf hs ht ho
      · exact corder_no vl l w hl T h20 hf hs
    · exact corder_many vl l w hl T h20 hf
  · exact corder_long vl l w hl T (by omega)
end Go.Proofs.YtgmigeehfhkimaaDoor

namespace Go.Proofs.YtgmigeehfhkimaaDoor.lawCanonOrder
open Go.ChangeShapes Go.WideShapes Go.ChangeAt Go.RowKit
open Go.ChangeMaps (open_string shut_string)
set_option linter.unusedVariables false

theorem own : ownKnob Tryd.prog.godebug = none := by kernel_rfl
theorem laidOut : laidOutB Tryd.prog = true := by kernel_rfl

/-- A world for the witness: the settled one, each table holding what its initialiser lays. -/
noncomputable def laidWorld (os : Os) : World :=
  { World.holding Tryd.prog os ⟨#[], #[], []⟩ with heap := ((World.holding Tryd.prog os ⟨#[], #[], []⟩).heap.modify 0 fun
      | .cells _ t frozen => .cells #[.int .i64 4, .int .i64 2, .int .i64 2, .int .i64 12, .string ⟨#[]⟩, .int .i64 4, .int .i64 2, .int .i64 0, .int .i64 12, .string ⟨#[]⟩, .int .i64 4, .int .i64 1, .int .i64 0, .int .i64 4, .string ⟨#[]⟩, .int .i64 4, .int .i64 0, .int .i64 0, .int .i64 0, .string ⟨#[]⟩, .int .i64 3, .int .i64 0, .int .i64 0, .int .i64 0, .string ⟨#[100]⟩, .int .i64 2, .int .i64 0, .int .i64 0, .int .i64 0, .string ⟨#[99]⟩] t frozen
      | o => o) }
theorem laid_met (os : Os) : laidMet Tryd.prog Rows.canonOrderRow.laid ((laidWorld os).forCall (fun _ _ => 0) ⟨#[], #[.slice none 0 0], []⟩).memory :=
  laidMet_of_run' 8 (by kernel_rfl) (by kernel_rfl)
theorem reads (os : Os) {H : Type} (enc : TypeId × Value → H) : ∃ places, DataW.whole enc Tryd.prog ((laidWorld os).forCall (fun _ _ => 0) ⟨#[], #[.slice none 0 0], []⟩).memory Tryd.f5.params.toList Rows.canonOrderSpec.vars false (#[.slice none 0 0] : Array Value).toList 8 = some ([.nil], [], places) :=
  ⟨[], by kernel_rfl⟩

set_option maxRecDepth 100000 in
theorem contract (H : Type) (enc : TypeId × Value → H) (W : World) (base : Nat) (args : Array Value) (ds gs : List (DataW H)) (before : List MemPlace)
    (hval : ∀ (j : Nat) t v, Tryd.f5.params[j]? = some t → args[j]? = some v → Value.okWide Tryd.prog W .any base t v)
    (hW : DataW.Whole enc Tryd.prog Tryd.f5.params.toList Rows.canonOrderSpec.vars false W args.toList ds gs before) (hL : laidMetH Tryd.prog Rows.canonOrderRow.laid W) :
    Calls Tryd.prog 5 args W fun e W' => ∃ v, e = .returned v ∧ Rows.canonOrderSpec.post enc Tryd.prog Tryd.f5 false true false false W args v W' := by
  have hW' := hW
  have hltA : ∀ x ∈ before, x.block < W.heap.size := fun x hx => by simpa using hW'.lt x hx
  obtain ⟨p, q, hA0, hV, rfl, hfz, hnd⟩ := hW
  have hA : DataW.TrodAll enc Tryd.prog W 0 (fun _ => true) true Tryd.f5.params.toList args.toList ds p := hA0
  rw [Tryd.params5] at hA hval
  obtain ⟨v0, vs0, d0, ds0, p0, q0, hargs, rfl, rfl, h0, r0⟩ := trodAll_cons hA
  obtain ⟨rfl, rfl, rfl⟩ := trodAll_nil r0
  obtain rfl : args = #[v0] := by cases args; simp_all
  obtain ⟨rfl, rfl⟩ := trodVars_none hV
  have hk0 := h0
  obtain ⟨l0, hn0, gn0, wg0⟩ := open_nodes (hval 0 24 v0 rfl rfl) h0
  clear hA0
  simp only [List.append_nil] at hW'
  refine (corder_walk v0 l0 W hn0 (tabs_of1 hL)).mono fun e W' ⟨he, hg⟩ => ?_
  subst he
  have bel : Below W.heap.size W W' := hg
  exact ⟨_, rfl, _, _, _, [], _, [], hW', trodAll_mk1 (shut_bool Tryd.underlying4 _), (trodAll_cons_mk (Below.trod laidOut (by kernel_rfl) (of_decide_eq_true (by kernel_rfl)) hk0 bel (fun x hx => hltA x (by simp [hx]))) trodAll_mk0), rfl, bel.frame _, fun h => by cases h⟩

set_option maxRecDepth 100000 in
theorem lifted (os : Os) (started : os.Started) (H : Type) (enc : TypeId × Value → H) (F : Stop.Interp) :
    ReturnsInHanded {} Tryd.checked os 5 .any ((OpenSpec.ofChange Rows.canonOrderSpec).preRow enc Tryd.prog Tryd.f5 Rows.canonOrderRow.domain false Rows.canonOrderRow.laid) (((OpenSpec.ofChange Rows.canonOrderSpec).at F).post enc Tryd.prog Tryd.f5 false true false false) := by
  obtain ⟨places, hx⟩ := reads os enc
  refine returnsInHanded_of_row (C := Tryd.checked) (s := OpenSpec.ofChange Rows.canonOrderSpec) own started (by kernel_rfl) Tryd.func5
    (witness_row_at (enc := enc) (C := Tryd.checked) false (laidWorld os) #[.slice none 0 0] rfl (by kernel_rfl) (by kernel_rfl) (by kernel_rfl)
      (OpenSpec.preRow_of_cond 8 hx (by kernel_rfl) (fun k hk => by cases hk) (by kernel_rfl) (laid_met os))) ?_
  intro W base args ds gs before hval hW _ hcond _ hL _ _
  exact contract H enc W base args ds gs before hval hW hL

theorem said : Rows.CanonOrderSaid :=
  OpenClaim.holds_of_cond 5 Tryd.f5 rfl rfl rfl rfl rfl rfl rfl ⟨rfl, rfl, rfl, rfl, rfl⟩ rfl rfl rfl rfl rfl (by kernel_rfl) Tryd.func5 (by kernel_rfl)
    (of_decide_eq_true (by kernel_rfl)) (by unfold Func.isWrapper; first | (rw [if_pos (by decide +kernel)]; kernel_rfl) | (rw [if_neg (by decide +kernel)]; exact ⟨rfl, rfl⟩))
    (fun os started H enc _ F => by rw [OpenClaim.pre_eq_preRow]; exact lifted os started H enc F)

theorem plain (f : FuncId) (fn : Func) (hf : Tryd.pinned.checked.prog.funcNamed "lustrum/lustrumlaw12.CanonOrder" = some f) (hfn : Tryd.pinned.checked.prog.funcs[f]? = some fn) :
    true = Tryd.pinned.checked.prog.looks [] ∧ ∀ (j : Nat) t, fn.params[j]? = some t → Tryd.pinned.checked.prog.wantsStandIn t = false := by
  obtain rfl : f = 5 := Option.some.inj ((show Tryd.prog.funcNamed "lustrum/lustrumlaw12.CanonOrder" = some 5 by kernel_rfl).symm.trans hf) |>.symm
  obtain rfl : fn = Tryd.f5 := (Option.some.inj (Tryd.func5.symm.trans hfn)).symm
  refine ⟨by kernel_rfl, fun j t ht => ?_⟩
  rw [Tryd.params5] at ht
  have hm := Array.mem_of_getElem? ht
  have ho : t = 24 := by first | simpa using hm | (simp at hm; rcases hm with h <;> simp [h])
  subst ho
  exact (show Tryd.prog.wantsStandIn 24 = false by kernel_rfl)

/-- THE CARD. -/
theorem proved : Rows.CanonOrderCardSaid :=
  Claim7.holds_tied_plain_at .later [] _ _ _ _ said (fun _ h => by cases h) (by kernel_rfl) (fun _ h => by cases h) canonOrder_row_tie rfl ⟨rfl, rfl⟩ (by kernel_rfl) rfl plain (by kernel_rfl)
#print axioms proved
end Go.Proofs.YtgmigeehfhkimaaDoor.lawCanonOrder
